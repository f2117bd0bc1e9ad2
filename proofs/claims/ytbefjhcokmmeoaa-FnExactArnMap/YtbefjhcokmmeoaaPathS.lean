/- Contracts of the specification's ArnChain, ArnStacked and ArnQueued. -/
import Derived.Test.YtbefjhcokmmeoaaPath
import Derived.Deep.RegionHeld
namespace Go.Proofs.Ytbefjhcokmmeoaa
open Go.RowKit
set_option linter.unusedVariables false

/-- Where the map, the stack and the queue begin. -/
def begC (ns : List Nd) (t f l : Int) : Int := wTo (ns.getD 0 Nd.zero).word
def begS (ns : List Nd) (t f l : Int) : Int := t
def begQ (ns : List Nd) (t f l : Int) : Int := f
/-- The places from a beginning on, of a right shape. -/
def pathOf (p : List Nd → Int → Int → Int → Int) (ns : List Nd) (t f l : Int) : List Int := if shapeB ns t f l then fromTo ns (p ns t f l) 9 else []

theorem inP_inB {x : Int} (h : inP x = true) : inB x 9 = true := by
  simp [inP] at h
  simp [inB]
  omega
theorem begC_in (ns : List Nd) (t f l : Int) : inB (begC ns t f l) 9 = true := by
  have := wTo_bounds (ns.getD 0 Nd.zero).word
  exact inB_yes this.1 this.2

theorem own_int_lit1 (w : World) : (w.alloc (.cells #[] 3)).ownsRow w.heap.size 3 1 (.slice (some ⟨w.heap.size, 0, none⟩) 0 0) 0 [] := by
  exact World.ownsRow_lit (base := w.heap.size) (e := 3) (size := 1) w #[] 0 (Nat.le_refl _) (by decide) rfl

set_option maxHeartbeats 1000000 in
theorem specArnChain_bad (a : Option Addr) (n cap : Nat) (ns : List Nd) (t f l : Int) (w : World) (hs : SNodes w a n ns) (hn : n ≤ 9223372036854775807) (hsh : shapeB ns t f l = false) :
    Calls Try.prog 25 #[.agg #[.slice a n cap, .int .i64 t, .int .i64 f, .int .i64 l]] w fun e w' => ListI [] e w w' := by
  go_enter Try.func25, Try.ntmps25
  go_wp2_with fail
  refine (l2Shape_any _ _ _ ns t f l _ (hs.below (al1 w (.cells #[.slice a n cap, .int .i64 t, .int .i64 f, .int .i64 l] 32))) hn).mono ?_
  rintro e w1 ⟨rfl, hb1⟩
  have hbel := below_trans' (al1 w (.cells #[.slice a n cap, .int .i64 t, .int .i64 f, .int .i64 l] 32)) hb1
  rw [hsh]
  clear hs hb1
  go_wp2
  go_ret
  exact ⟨_, 0, rfl, own_mono (own_int_lit1 _) hbel.size, below_trans' hbel (al1 _ _)⟩

set_option maxHeartbeats 2000000 in
theorem specArnChain_ok (b off cap : Nat) (ns : List Nd) (t f l : Int) (w : World) (hs : SNodes w (some ⟨b, off, none⟩) 10 ns) (hsh : shapeB ns t f l = true) (hp : inB (begC ns t f l) 9 = true) :
    Calls Try.prog 25 #[.agg #[.slice (some ⟨b, off, none⟩) 10 cap, .int .i64 t, .int .i64 f, .int .i64 l]] w fun e w' => ListI (fromTo ns (begC ns t f l) 9) e w w' := by
  have A := al1 w (.cells #[.slice (some ⟨b, off, none⟩) 10 cap, .int .i64 t, .int .i64 f, .int .i64 l] 32)
  have bx := boxA_new w (some ⟨b, off, none⟩) 10 cap t f l 32 rfl
  go_enter Try.func25, Try.ntmps25
  go_wp2_with fail
  refine (l2Shape_any _ _ _ ns t f l _ (hs.below A) (by omega)).mono ?_
  rintro e w1 ⟨rfl, hb1⟩
  have hA1 := below_trans' A hb1
  have bx1 := bx.below hb1
  have p0 := bx1.c0
  have p1 := bx1.c1
  have p2 := bx1.c2
  have p3 := bx1.c3
  rw [hsh]
  have s1 := hs.below hA1
  obtain ⟨b', off', ⟨y0, y1, y2, y3, y4, y5⟩, eb, hy, hN⟩ := s1.at (k := 0) (by omega)
  cases eb
  rw [Nat.zero_mul, Nat.add_zero] at hN
  have n2 := hN.c2
  dsimp only at n2
  have HB : Hid (begC ns t f l = wTo y2) := by show _ = _; simp [begC, List.getD, hy]
  have hp2 : Hid (inB (wTo y2) 9 = true) := by show _ = _; rw [← HB.out]; exact hp
  have HS : Hid (SNodes w1 (some ⟨b, off, none⟩) 10 ns) := s1
  clear hs hb1 bx A bx1 hN hy s1 hp hsh
  go_wp2
  go_region_held (fun w' => w'.cell? ⟨w.heap.size, 0, none⟩ = some (.slice (some ⟨b, off, none⟩) 10 cap) ∧ w'.cell? ⟨w.heap.size, 1, none⟩ = some (.int .i64 t) ∧ w'.cell? ⟨w.heap.size, 2, none⟩ = some (.int .i64 f) ∧ w'.cell? ⟨w.heap.size, 3, none⟩ = some (.int .i64 l) ∧ w'.cell? ⟨b, off + 2, none⟩ = some (.int .i64 y2)) (go_keep) (first | (go_at_call 53; refine (specWrdTo_any _ _).mono ?_; rintro e w' ⟨rfl, rfl⟩) | (go_at_call 52; refine (l2From_any b off cap ns t f l _ _ (HS.out.below (Below.refl _ _).drew) hp2.out).mono ?_; rintro e w3 ⟨a3, c3, rfl, ho3, hb3⟩; have H3 : Hid (w3.ownsRow w1.heap.size 3 1 (.slice a3 (fromTo ns (wTo y2) 9).length c3) (fromTo ns (wTo y2) 9).length ((fromTo ns (wTo y2) 9).map (Value.int .i64)) ∧ Below w.heap.size w w3) := ⟨ho3, below_trans' hA1 (below_trans' (Below.refl _ _).drew hb3)⟩; have r0 := hb3.cell (p := ⟨w.heap.size, 0, none⟩) (by exact World.block_lt_of_cell? w1 ⟨w.heap.size, 0, none⟩ p0); have r1 := hb3.cell (p := ⟨w.heap.size, 1, none⟩) (by exact World.block_lt_of_cell? w1 ⟨w.heap.size, 0, none⟩ p0); have r2 := hb3.cell (p := ⟨w.heap.size, 2, none⟩) (by exact World.block_lt_of_cell? w1 ⟨w.heap.size, 0, none⟩ p0); have r3 := hb3.cell (p := ⟨w.heap.size, 3, none⟩) (by exact World.block_lt_of_cell? w1 ⟨w.heap.size, 0, none⟩ p0); have r4 := hb3.cell (p := ⟨b, off + 2, none⟩) (by exact World.block_lt_of_cell? w1 ⟨b, off + 2, none⟩ n2); clear ho3 hb3))
  go_wp2
  go_ret
  refine ⟨a3, c3, ?_⟩
  rw [HB.out]
  exact ⟨rfl, own_mono H3.out.1 hA1.size, H3.out.2⟩

theorem specArnChain_any (a : Option Addr) (n cap : Nat) (ns : List Nd) (t f l : Int) (w : World) (hs : SNodes w a n ns) (hn : n ≤ 1048576) :
    Calls Try.prog 25 #[.agg #[.slice a n cap, .int .i64 t, .int .i64 f, .int .i64 l]] w fun e w' => ListI (pathOf begC ns t f l) e w w' := by
  cases hsh : shapeB ns t f l
  · have e : pathOf begC ns t f l = [] := by simp [pathOf, hsh]
    rw [e]
    exact specArnChain_bad a n cap ns t f l w hs (by omega) hsh
  · obtain ⟨hl, _, _, h4, h5, _⟩ := shapeB_parts hsh
    obtain ⟨rfl, b, off, rfl⟩ := snodes_some hs hl
    have e : pathOf begC ns t f l = fromTo ns (begC ns t f l) 9 := by simp [pathOf, hsh]
    rw [e]
    exact specArnChain_ok b off cap ns t f l w hs hsh (begC_in ns t f l)

set_option maxHeartbeats 1000000 in
theorem specArnStacked_bad (a : Option Addr) (n cap : Nat) (ns : List Nd) (t f l : Int) (w : World) (hs : SNodes w a n ns) (hn : n ≤ 9223372036854775807) (hsh : shapeB ns t f l = false) :
    Calls Try.prog 48 #[.agg #[.slice a n cap, .int .i64 t, .int .i64 f, .int .i64 l]] w fun e w' => ListI [] e w w' := by
  go_enter Try.func48, Try.ntmps48
  go_wp2_with fail
  refine (l2Shape_any _ _ _ ns t f l _ (hs.below (al1 w (.cells #[.slice a n cap, .int .i64 t, .int .i64 f, .int .i64 l] 32))) hn).mono ?_
  rintro e w1 ⟨rfl, hb1⟩
  have hbel := below_trans' (al1 w (.cells #[.slice a n cap, .int .i64 t, .int .i64 f, .int .i64 l] 32)) hb1
  rw [hsh]
  clear hs hb1
  go_wp2
  go_ret
  exact ⟨_, 0, rfl, own_mono (own_int_lit1 _) hbel.size, below_trans' hbel (al1 _ _)⟩

set_option maxHeartbeats 2000000 in
theorem specArnStacked_ok (b off cap : Nat) (ns : List Nd) (t f l : Int) (w : World) (hs : SNodes w (some ⟨b, off, none⟩) 10 ns) (hsh : shapeB ns t f l = true) (hp : inB (begS ns t f l) 9 = true) :
    Calls Try.prog 48 #[.agg #[.slice (some ⟨b, off, none⟩) 10 cap, .int .i64 t, .int .i64 f, .int .i64 l]] w fun e w' => ListI (fromTo ns (begS ns t f l) 9) e w w' := by
  have A := al1 w (.cells #[.slice (some ⟨b, off, none⟩) 10 cap, .int .i64 t, .int .i64 f, .int .i64 l] 32)
  have bx := boxA_new w (some ⟨b, off, none⟩) 10 cap t f l 32 rfl
  go_enter Try.func48, Try.ntmps48
  go_wp2_with fail
  refine (l2Shape_any _ _ _ ns t f l _ (hs.below A) (by omega)).mono ?_
  rintro e w1 ⟨rfl, hb1⟩
  have hA1 := below_trans' A hb1
  have bx1 := bx.below hb1
  have p0 := bx1.c0
  have p1 := bx1.c1
  have p2 := bx1.c2
  have p3 := bx1.c3
  rw [hsh]
  have s1 := hs.below hA1
  clear hs hb1 bx A bx1 hsh
  go_wp2_with fail
  refine (l2From_any b off cap ns t f l _ _ s1 hp).mono ?_
  rintro e w3 ⟨a3, c3, rfl, ho3, hb3⟩
  have H3 : Hid (w3.ownsRow w1.heap.size 3 1 (.slice a3 (fromTo ns (begS ns t f l) 9).length c3) (fromTo ns (begS ns t f l) 9).length ((fromTo ns (begS ns t f l) 9).map (Value.int .i64)) ∧ Below w.heap.size w w3) := ⟨ho3, below_trans' hA1 hb3⟩
  clear ho3 hb3
  go_wp2
  go_ret
  exact ⟨a3, c3, rfl, own_mono H3.out.1 hA1.size, H3.out.2⟩

theorem specArnStacked_any (a : Option Addr) (n cap : Nat) (ns : List Nd) (t f l : Int) (w : World) (hs : SNodes w a n ns) (hn : n ≤ 1048576) :
    Calls Try.prog 48 #[.agg #[.slice a n cap, .int .i64 t, .int .i64 f, .int .i64 l]] w fun e w' => ListI (pathOf begS ns t f l) e w w' := by
  cases hsh : shapeB ns t f l
  · have e : pathOf begS ns t f l = [] := by simp [pathOf, hsh]
    rw [e]
    exact specArnStacked_bad a n cap ns t f l w hs (by omega) hsh
  · obtain ⟨hl, _, _, h4, h5, _⟩ := shapeB_parts hsh
    obtain ⟨rfl, b, off, rfl⟩ := snodes_some hs hl
    have e : pathOf begS ns t f l = fromTo ns (begS ns t f l) 9 := by simp [pathOf, hsh]
    rw [e]
    exact specArnStacked_ok b off cap ns t f l w hs hsh (h4)

set_option maxHeartbeats 1000000 in
theorem specArnQueued_bad (a : Option Addr) (n cap : Nat) (ns : List Nd) (t f l : Int) (w : World) (hs : SNodes w a n ns) (hn : n ≤ 9223372036854775807) (hsh : shapeB ns t f l = false) :
    Calls Try.prog 38 #[.agg #[.slice a n cap, .int .i64 t, .int .i64 f, .int .i64 l]] w fun e w' => ListI [] e w w' := by
  go_enter Try.func38, Try.ntmps38
  go_wp2_with fail
  refine (l2Shape_any _ _ _ ns t f l _ (hs.below (al1 w (.cells #[.slice a n cap, .int .i64 t, .int .i64 f, .int .i64 l] 32))) hn).mono ?_
  rintro e w1 ⟨rfl, hb1⟩
  have hbel := below_trans' (al1 w (.cells #[.slice a n cap, .int .i64 t, .int .i64 f, .int .i64 l] 32)) hb1
  rw [hsh]
  clear hs hb1
  go_wp2
  go_ret
  exact ⟨_, 0, rfl, own_mono (own_int_lit1 _) hbel.size, below_trans' hbel (al1 _ _)⟩

set_option maxHeartbeats 2000000 in
theorem specArnQueued_ok (b off cap : Nat) (ns : List Nd) (t f l : Int) (w : World) (hs : SNodes w (some ⟨b, off, none⟩) 10 ns) (hsh : shapeB ns t f l = true) (hp : inB (begQ ns t f l) 9 = true) :
    Calls Try.prog 38 #[.agg #[.slice (some ⟨b, off, none⟩) 10 cap, .int .i64 t, .int .i64 f, .int .i64 l]] w fun e w' => ListI (fromTo ns (begQ ns t f l) 9) e w w' := by
  have A := al1 w (.cells #[.slice (some ⟨b, off, none⟩) 10 cap, .int .i64 t, .int .i64 f, .int .i64 l] 32)
  have bx := boxA_new w (some ⟨b, off, none⟩) 10 cap t f l 32 rfl
  go_enter Try.func38, Try.ntmps38
  go_wp2_with fail
  refine (l2Shape_any _ _ _ ns t f l _ (hs.below A) (by omega)).mono ?_
  rintro e w1 ⟨rfl, hb1⟩
  have hA1 := below_trans' A hb1
  have bx1 := bx.below hb1
  have p0 := bx1.c0
  have p1 := bx1.c1
  have p2 := bx1.c2
  have p3 := bx1.c3
  rw [hsh]
  have s1 := hs.below hA1
  clear hs hb1 bx A bx1 hsh
  go_wp2_with fail
  refine (l2From_any b off cap ns t f l _ _ s1 hp).mono ?_
  rintro e w3 ⟨a3, c3, rfl, ho3, hb3⟩
  have H3 : Hid (w3.ownsRow w1.heap.size 3 1 (.slice a3 (fromTo ns (begQ ns t f l) 9).length c3) (fromTo ns (begQ ns t f l) 9).length ((fromTo ns (begQ ns t f l) 9).map (Value.int .i64)) ∧ Below w.heap.size w w3) := ⟨ho3, below_trans' hA1 hb3⟩
  clear ho3 hb3
  go_wp2
  go_ret
  exact ⟨a3, c3, rfl, own_mono H3.out.1 hA1.size, H3.out.2⟩

theorem specArnQueued_any (a : Option Addr) (n cap : Nat) (ns : List Nd) (t f l : Int) (w : World) (hs : SNodes w a n ns) (hn : n ≤ 1048576) :
    Calls Try.prog 38 #[.agg #[.slice a n cap, .int .i64 t, .int .i64 f, .int .i64 l]] w fun e w' => ListI (pathOf begQ ns t f l) e w w' := by
  cases hsh : shapeB ns t f l
  · have e : pathOf begQ ns t f l = [] := by simp [pathOf, hsh]
    rw [e]
    exact specArnQueued_bad a n cap ns t f l w hs (by omega) hsh
  · obtain ⟨hl, _, _, h4, h5, _⟩ := shapeB_parts hsh
    obtain ⟨rfl, b, off, rfl⟩ := snodes_some hs hl
    have e : pathOf begQ ns t f l = fromTo ns (begQ ns t f l) 9 := by simp [pathOf, hsh]
    rw [e]
    exact specArnQueued_ok b off cap ns t f l w hs hsh (inP_inB h5)

end Go.Proofs.Ytbefjhcokmmeoaa
