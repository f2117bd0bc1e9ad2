/- Contracts of the program's ArnChain, ArnStacked and ArnQueued. -/
import Derived.Test.YtcffoehldohooaaIter
import Derived.Deep.RegionHeld
namespace Go.Proofs.Ytcffoehldohooaa
open Go.RowKit
set_option linter.unusedVariables false

theorem cell_at' (W : World) (cs : Array Value) (t : TypeId) (i : Nat) {b : Nat} (hb : b = W.heap.size) {v : Value} (hv : cs[i]? = some v) : (W.alloc (.cells cs t)).cell? ⟨b, i, none⟩ = some v := by
  subst hb
  simpa using hv

theorem snodes_lt {w : World} {b off : Nat} {ns : List Nd} (hs : SNodes w (some ⟨b, off, none⟩) 10 ns) : b < w.heap.size := by
  obtain ⟨b', off', x, e, _, hN⟩ := hs.at (k := 0) (by omega)
  cases e
  exact World.block_lt_of_cell? w ⟨b, off + 0 * 6, none⟩ hN.c0

/-- The iterator's value, made and collected: the two boxes. -/
theorem collect_made (b off cap : Nat) (ns : List Nd) (t f l p : Int) (w : World) (hs : SNodes w (some ⟨b, off, none⟩) 10 ns) (hp : inB p 9 = true) :
    Calls Try.prog 46 #[.func (.func 64) #[] #[.pointer (some ⟨w.heap.size + 1, 0, none⟩), .pointer (some ⟨w.heap.size, 0, none⟩)]] ((w.alloc (.cells #[.slice (some ⟨b, off, none⟩) 10 cap, .int .i64 t, .int .i64 f, .int .i64 l] 33)).alloc (.cells #[.int .i64 p] 3))
      fun e w' => ∃ a c, e = .returned (.slice a (fromTo ns p 9).length c) ∧ w'.ownsRow w.heap.size 3 1 (.slice a (fromTo ns p 9).length c) (fromTo ns p 9).length ((fromTo ns p 9).map (Value.int .i64)) ∧ Below w.heap.size w w' := by
  have A1 := al1 w (.cells #[.slice (some ⟨b, off, none⟩) 10 cap, .int .i64 t, .int .i64 f, .int .i64 l] 33)
  have A2 := al1 (w.alloc (.cells #[.slice (some ⟨b, off, none⟩) 10 cap, .int .i64 t, .int .i64 f, .int .i64 l] 33)) (.cells #[.int .i64 p] 3)
  have A := below_trans' A1 A2
  have hlt := snodes_lt hs
  refine (collect_any (w.heap.size + 1) w.heap.size b off cap ns t f l p _ (by simp; omega) (by simp) hp (cell_at' _ _ _ 0 (by simp) rfl) ((boxA_new w _ _ _ _ _ _ 33 rfl).below A2) (hs.below A)).mono ?_
  rintro e w1 ⟨a, c, rfl, ho, hb⟩
  exact ⟨a, c, rfl, own_mono ho A.size, below_trans' A hb⟩

set_option maxHeartbeats 1000000 in
theorem implArnStacked_bad (a : Option Addr) (n cap : Nat) (ns : List Nd) (t f l : Int) (w : World) (hs : SNodes w a n ns) (hn : n ≤ 9223372036854775807) (hsh : shapeB ns t f l = false) :
    Calls Try.prog 36 #[.agg #[.slice a n cap, .int .i64 t, .int .i64 f, .int .i64 l]] w fun e w' => ListI [] e w w' := by
  go_enter Try.func36, Try.ntmps36
  go_wp2_with fail
  refine (shaped_any _ _ _ ns t f l _ (hs.below (al1 w (.cells #[.slice a n cap, .int .i64 t, .int .i64 f, .int .i64 l] 33))) hn).mono ?_
  rintro e w1 ⟨rfl, hb1⟩
  have hbel := below_trans' (al1 w (.cells #[.slice a n cap, .int .i64 t, .int .i64 f, .int .i64 l] 33)) hb1
  rw [hsh]
  clear hs hb1
  go_wp2
  go_ret
  exact ⟨none, 0, rfl, World.ownsRow_nil _ _ _ _, hbel⟩

set_option maxHeartbeats 2000000 in
theorem implArnStacked_ok (b off cap : Nat) (ns : List Nd) (t f l : Int) (w : World) (hs : SNodes w (some ⟨b, off, none⟩) 10 ns) (hsh : shapeB ns t f l = true) (hp : inB (begS ns t f l) 9 = true) :
    Calls Try.prog 36 #[.agg #[.slice (some ⟨b, off, none⟩) 10 cap, .int .i64 t, .int .i64 f, .int .i64 l]] w fun e w' => ListI (fromTo ns (begS ns t f l) 9) e w w' := by
  have A := al1 w (.cells #[.slice (some ⟨b, off, none⟩) 10 cap, .int .i64 t, .int .i64 f, .int .i64 l] 33)
  have bx := boxA_new w (some ⟨b, off, none⟩) 10 cap t f l 33 rfl
  go_enter Try.func36, Try.ntmps36
  go_wp2_with fail
  refine (shaped_any _ _ _ ns t f l _ (hs.below A) (by omega)).mono ?_
  rintro e w1 ⟨rfl, hb1⟩
  have hA1 := below_trans' A hb1
  have bx1 := bx.below hb1
  have p0 := bx1.c0
  have p1 := bx1.c1
  have p2 := bx1.c2
  have p3 := bx1.c3
  rw [hsh]
  have s1 := hs.below hA1
  clear hs hb1 bx A bx1 hsh
  go_wp2_with fail
  refine (placesFrom_any _ _ _ _ _ _ _ _).mono ?_
  rintro e w3 ⟨rfl, rfl⟩
  go_wp2_with fail
  refine (collect_made b off cap ns t f l _ _ s1 hp).mono ?_
  rintro e w4 ⟨a4, c4, rfl, ho4, hb4⟩
  have H3 : Hid (w4.ownsRow w1.heap.size 3 1 (.slice a4 (fromTo ns (begS ns t f l) 9).length c4) (fromTo ns (begS ns t f l) 9).length ((fromTo ns (begS ns t f l) 9).map (Value.int .i64)) ∧ Below w.heap.size w w4) := ⟨ho4, below_trans' hA1 hb4⟩
  clear ho4 hb4
  go_wp2
  go_ret
  exact ⟨a4, c4, rfl, own_mono H3.out.1 hA1.size, H3.out.2⟩

theorem implArnStacked_any (a : Option Addr) (n cap : Nat) (ns : List Nd) (t f l : Int) (w : World) (hs : SNodes w a n ns) (hn : n ≤ 1048576) :
    Calls Try.prog 36 #[.agg #[.slice a n cap, .int .i64 t, .int .i64 f, .int .i64 l]] w fun e w' => ListI (pathOf begS ns t f l) e w w' := by
  cases hsh : shapeB ns t f l
  · have e : pathOf begS ns t f l = [] := by simp [pathOf, hsh]
    rw [e]
    exact implArnStacked_bad a n cap ns t f l w hs (by omega) hsh
  · obtain ⟨hl, _, _, h4, h5, _⟩ := shapeB_parts hsh
    obtain ⟨rfl, b, off, rfl⟩ := snodes_some hs hl
    have e : pathOf begS ns t f l = fromTo ns (begS ns t f l) 9 := by simp [pathOf, hsh]
    rw [e]
    exact implArnStacked_ok b off cap ns t f l w hs hsh (h4)

set_option maxHeartbeats 1000000 in
theorem implArnQueued_bad (a : Option Addr) (n cap : Nat) (ns : List Nd) (t f l : Int) (w : World) (hs : SNodes w a n ns) (hn : n ≤ 9223372036854775807) (hsh : shapeB ns t f l = false) :
    Calls Try.prog 37 #[.agg #[.slice a n cap, .int .i64 t, .int .i64 f, .int .i64 l]] w fun e w' => ListI [] e w w' := by
  go_enter Try.func37, Try.ntmps37
  go_wp2_with fail
  refine (shaped_any _ _ _ ns t f l _ (hs.below (al1 w (.cells #[.slice a n cap, .int .i64 t, .int .i64 f, .int .i64 l] 33))) hn).mono ?_
  rintro e w1 ⟨rfl, hb1⟩
  have hbel := below_trans' (al1 w (.cells #[.slice a n cap, .int .i64 t, .int .i64 f, .int .i64 l] 33)) hb1
  rw [hsh]
  clear hs hb1
  go_wp2
  go_ret
  exact ⟨none, 0, rfl, World.ownsRow_nil _ _ _ _, hbel⟩

set_option maxHeartbeats 2000000 in
theorem implArnQueued_ok (b off cap : Nat) (ns : List Nd) (t f l : Int) (w : World) (hs : SNodes w (some ⟨b, off, none⟩) 10 ns) (hsh : shapeB ns t f l = true) (hp : inB (begQ ns t f l) 9 = true) :
    Calls Try.prog 37 #[.agg #[.slice (some ⟨b, off, none⟩) 10 cap, .int .i64 t, .int .i64 f, .int .i64 l]] w fun e w' => ListI (fromTo ns (begQ ns t f l) 9) e w w' := by
  have A := al1 w (.cells #[.slice (some ⟨b, off, none⟩) 10 cap, .int .i64 t, .int .i64 f, .int .i64 l] 33)
  have bx := boxA_new w (some ⟨b, off, none⟩) 10 cap t f l 33 rfl
  go_enter Try.func37, Try.ntmps37
  go_wp2_with fail
  refine (shaped_any _ _ _ ns t f l _ (hs.below A) (by omega)).mono ?_
  rintro e w1 ⟨rfl, hb1⟩
  have hA1 := below_trans' A hb1
  have bx1 := bx.below hb1
  have p0 := bx1.c0
  have p1 := bx1.c1
  have p2 := bx1.c2
  have p3 := bx1.c3
  rw [hsh]
  have s1 := hs.below hA1
  clear hs hb1 bx A bx1 hsh
  go_wp2_with fail
  refine (placesFrom_any _ _ _ _ _ _ _ _).mono ?_
  rintro e w3 ⟨rfl, rfl⟩
  go_wp2_with fail
  refine (collect_made b off cap ns t f l _ _ s1 hp).mono ?_
  rintro e w4 ⟨a4, c4, rfl, ho4, hb4⟩
  have H3 : Hid (w4.ownsRow w1.heap.size 3 1 (.slice a4 (fromTo ns (begQ ns t f l) 9).length c4) (fromTo ns (begQ ns t f l) 9).length ((fromTo ns (begQ ns t f l) 9).map (Value.int .i64)) ∧ Below w.heap.size w w4) := ⟨ho4, below_trans' hA1 hb4⟩
  clear ho4 hb4
  go_wp2
  go_ret
  exact ⟨a4, c4, rfl, own_mono H3.out.1 hA1.size, H3.out.2⟩

theorem implArnQueued_any (a : Option Addr) (n cap : Nat) (ns : List Nd) (t f l : Int) (w : World) (hs : SNodes w a n ns) (hn : n ≤ 1048576) :
    Calls Try.prog 37 #[.agg #[.slice a n cap, .int .i64 t, .int .i64 f, .int .i64 l]] w fun e w' => ListI (pathOf begQ ns t f l) e w w' := by
  cases hsh : shapeB ns t f l
  · have e : pathOf begQ ns t f l = [] := by simp [pathOf, hsh]
    rw [e]
    exact implArnQueued_bad a n cap ns t f l w hs (by omega) hsh
  · obtain ⟨hl, _, _, h4, h5, _⟩ := shapeB_parts hsh
    obtain ⟨rfl, b, off, rfl⟩ := snodes_some hs hl
    have e : pathOf begQ ns t f l = fromTo ns (begQ ns t f l) 9 := by simp [pathOf, hsh]
    rw [e]
    exact implArnQueued_ok b off cap ns t f l w hs hsh (inP_inB h5)

set_option maxHeartbeats 1000000 in
theorem implArnChain_bad (a : Option Addr) (n cap : Nat) (ns : List Nd) (t f l : Int) (w : World) (hs : SNodes w a n ns) (hn : n ≤ 9223372036854775807) (hsh : shapeB ns t f l = false) :
    Calls Try.prog 21 #[.agg #[.slice a n cap, .int .i64 t, .int .i64 f, .int .i64 l]] w fun e w' => ListI [] e w w' := by
  go_enter Try.func21, Try.ntmps21
  go_wp2_with fail
  refine (shaped_any _ _ _ ns t f l _ (hs.below (al1 w (.cells #[.slice a n cap, .int .i64 t, .int .i64 f, .int .i64 l] 33))) hn).mono ?_
  rintro e w1 ⟨rfl, hb1⟩
  have hbel := below_trans' (al1 w (.cells #[.slice a n cap, .int .i64 t, .int .i64 f, .int .i64 l] 33)) hb1
  rw [hsh]
  clear hs hb1
  go_wp2
  go_ret
  exact ⟨none, 0, rfl, World.ownsRow_nil _ _ _ _, hbel⟩

set_option maxHeartbeats 2000000 in
theorem implArnChain_ok (b off cap : Nat) (ns : List Nd) (t f l : Int) (w : World) (hs : SNodes w (some ⟨b, off, none⟩) 10 ns) (hsh : shapeB ns t f l = true) (hp : inB (begC ns t f l) 9 = true) :
    Calls Try.prog 21 #[.agg #[.slice (some ⟨b, off, none⟩) 10 cap, .int .i64 t, .int .i64 f, .int .i64 l]] w fun e w' => ListI (fromTo ns (begC ns t f l) 9) e w w' := by
  have A := al1 w (.cells #[.slice (some ⟨b, off, none⟩) 10 cap, .int .i64 t, .int .i64 f, .int .i64 l] 33)
  have bx := boxA_new w (some ⟨b, off, none⟩) 10 cap t f l 33 rfl
  go_enter Try.func21, Try.ntmps21
  go_wp2_with fail
  refine (shaped_any _ _ _ ns t f l _ (hs.below A) (by omega)).mono ?_
  rintro e w1 ⟨rfl, hb1⟩
  have hA1 := below_trans' A hb1
  have bx1 := bx.below hb1
  have p0 := bx1.c0
  have p1 := bx1.c1
  have p2 := bx1.c2
  have p3 := bx1.c3
  rw [hsh]
  have s1 := hs.below hA1
  obtain ⟨b', off', ⟨y0, y1, y2, y3, y4, y5⟩, eb, hy, hN⟩ := s1.at (k := 0) (by omega)
  cases eb
  rw [Nat.zero_mul, Nat.add_zero] at hN
  have n0 := hN.c0
  have n1 := hN.c1
  have n2 := hN.c2
  have n3 := hN.c3
  have n4 := hN.c4
  have n5 := hN.c5
  dsimp only at n0 n1 n2 n3 n4 n5
  have HB : Hid (begC ns t f l = wTo y2) := by show _ = _; simp [begC, List.getD, hy]
  have hp2 : Hid (inB (wTo y2) 9 = true) := by show _ = _; rw [← HB.out]; exact hp
  have HS : Hid (SNodes w1 (some ⟨b, off, none⟩) 10 ns) := s1
  have HN : Hid (NodeAt w1 b off ⟨y0, y1, y2, y3, y4, y5⟩) := hN
  have HBX : Hid (BoxA w1 w.heap.size (some ⟨b, off, none⟩) 10 cap t f l) := bx1
  clear hs hb1 bx A bx1 hN hy s1 hp hsh
  go_wp2
  go_region_held (fun w' => w'.cell? ⟨w.heap.size, 0, none⟩ = some (.slice (some ⟨b, off, none⟩) 10 cap) ∧ w'.cell? ⟨w.heap.size, 1, none⟩ = some (.int .i64 t) ∧ w'.cell? ⟨w.heap.size, 2, none⟩ = some (.int .i64 f) ∧ w'.cell? ⟨w.heap.size, 3, none⟩ = some (.int .i64 l) ∧ w'.cell? ⟨b, off, none⟩ = some (.int .i64 y0) ∧ w'.cell? ⟨b, off + 1, none⟩ = some (.int .i64 y1) ∧ w'.cell? ⟨b, off + 2, none⟩ = some (.int .i64 y2) ∧ w'.cell? ⟨b, off + 3, none⟩ = some (.int .i64 y3) ∧ w'.cell? ⟨b, off + 4, none⟩ = some (.bool y4) ∧ w'.cell? ⟨b, off + 5, none⟩ = some (.int .i64 y5)) (go_keep) (first | (go_at_call 48; refine (leads_any _ _ _ _ _ _ _).mono ?_; rintro e w2 ⟨rfl, hb2⟩; have B2 := below_trans' (Below.refl w1.heap.size w1).drew hb2; have K2 : Hid (SNodes w2 (some ⟨b, off, none⟩) 10 ns ∧ Below w.heap.size w w2 ∧ NodeAt w2 b off ⟨y0, y1, y2, y3, y4, y5⟩ ∧ BoxA w2 w.heap.size (some ⟨b, off, none⟩) 10 cap t f l) := ⟨HS.out.below B2, below_trans' hA1 B2, HN.out.below B2, HBX.out.below B2⟩; have a0 := K2.out.2.2.2.c0; have a1 := K2.out.2.2.2.c1; have a2 := K2.out.2.2.2.c2; have a3 := K2.out.2.2.2.c3; have k0 := K2.out.2.2.1.c0; have k1 := K2.out.2.2.1.c1; have k2 := K2.out.2.2.1.c2; have k3 := K2.out.2.2.1.c3; have k4 := K2.out.2.2.1.c4; have k5 := K2.out.2.2.1.c5; dsimp only at k0 k1 k2 k3 k4 k5; clear hb2 B2) | (go_at_call 47; refine (placesFrom_any _ _ _ _ _ _ _ _).mono ?_; rintro e w3 ⟨rfl, rfl⟩; have B3 := below_trans' (al1 w2 (.cells #[.slice (some ⟨b, off, none⟩) 10 cap, .int .i64 t, .int .i64 f, .int .i64 l] 33)) (al1 _ (.cells #[.int .i64 (wTo y2)] 3)); have K3 : Hid (NodeAt ((w2.alloc (.cells #[.slice (some ⟨b, off, none⟩) 10 cap, .int .i64 t, .int .i64 f, .int .i64 l] 33)).alloc (.cells #[.int .i64 (wTo y2)] 3)) b off ⟨y0, y1, y2, y3, y4, y5⟩ ∧ BoxA ((w2.alloc (.cells #[.slice (some ⟨b, off, none⟩) 10 cap, .int .i64 t, .int .i64 f, .int .i64 l] 33)).alloc (.cells #[.int .i64 (wTo y2)] 3)) w.heap.size (some ⟨b, off, none⟩) 10 cap t f l) := ⟨K2.out.2.2.1.below B3, K2.out.2.2.2.below B3⟩; have c0 := K3.out.2.c0; have c1 := K3.out.2.c1; have c2 := K3.out.2.c2; have c3 := K3.out.2.c3; have m0 := K3.out.1.c0; have m1 := K3.out.1.c1; have m2 := K3.out.1.c2; have m3 := K3.out.1.c3; have m4 := K3.out.1.c4; have m5 := K3.out.1.c5; dsimp only at m0 m1 m2 m3 m4 m5; clear B3) | (go_at_call 46; refine (collect_made b off cap ns t f l _ _ K2.out.1 hp2.out).mono ?_; rintro e w4 ⟨a4, c4, rfl, ho4, hb4⟩; have H4 : Hid (w4.ownsRow w2.heap.size 3 1 (.slice a4 (fromTo ns (wTo y2) 9).length c4) (fromTo ns (wTo y2) 9).length ((fromTo ns (wTo y2) 9).map (Value.int .i64)) ∧ Below w2.heap.size w2 w4) := ⟨ho4, hb4⟩; have g0 := (K2.out.2.2.2.below hb4).c0; have g1 := (K2.out.2.2.2.below hb4).c1; have g2 := (K2.out.2.2.2.below hb4).c2; have g3 := (K2.out.2.2.2.below hb4).c3; have e0 := (K2.out.2.2.1.below hb4).c0; have e1 := (K2.out.2.2.1.below hb4).c1; have e2 := (K2.out.2.2.1.below hb4).c2; have e3 := (K2.out.2.2.1.below hb4).c3; have e4 := (K2.out.2.2.1.below hb4).c4; have e5 := (K2.out.2.2.1.below hb4).c5; dsimp only at e0 e1 e2 e3 e4 e5; clear ho4 hb4))
  go_wp2
  go_ret
  refine ⟨a4, c4, ?_⟩
  rw [HB.out]
  exact ⟨rfl, own_mono H4.out.1 K2.out.2.1.size, below_trans' K2.out.2.1 H4.out.2⟩

theorem implArnChain_any (a : Option Addr) (n cap : Nat) (ns : List Nd) (t f l : Int) (w : World) (hs : SNodes w a n ns) (hn : n ≤ 1048576) :
    Calls Try.prog 21 #[.agg #[.slice a n cap, .int .i64 t, .int .i64 f, .int .i64 l]] w fun e w' => ListI (pathOf begC ns t f l) e w w' := by
  cases hsh : shapeB ns t f l
  · have e : pathOf begC ns t f l = [] := by simp [pathOf, hsh]
    rw [e]
    exact implArnChain_bad a n cap ns t f l w hs (by omega) hsh
  · obtain ⟨hl, _, _, h4, h5, _⟩ := shapeB_parts hsh
    obtain ⟨rfl, b, off, rfl⟩ := snodes_some hs hl
    have e : pathOf begC ns t f l = fromTo ns (begC ns t f l) 9 := by simp [pathOf, hsh]
    rw [e]
    exact implArnChain_ok b off cap ns t f l w hs hsh (begC_in ns t f l)

end Go.Proofs.Ytcffoehldohooaa
