/- Several texts in one: PathS, OkS, OkS2, OkS3, OkS4. -/
import Derived.Test.YtklpdpdjblakgaaGr1
import Derived.Deep.RegionHeld
import Derived.Deep.QuietTactic
import Derived.BigQuiet
/- PathS -/
namespace Go.Proofs.Ytklpdpdjblakgaa
open Go.RowKit
set_option linter.unusedVariables false

/-- Where the map, the stack and the queue begin. -/
def begC (ns : List Nd) (t f l : Int) : Int := wTo (ns.getD 0 Nd.zero).word
def begS (ns : List Nd) (t f l : Int) : Int := t
def begQ (ns : List Nd) (t f l : Int) : Int := f
/-- The places from a beginning on, of a right shape. -/
def pathOf (p : List Nd → Int → Int → Int → Int) (ns : List Nd) (t f l : Int) : List Int := if shapeB ns t f l then fromTo ns (p ns t f l) 9 else []

theorem inP_inB {x : Int} (h : inP x = true) : inB x 9 = true := by
  simp [inP] at h
  simp [inB]
  omega
theorem begC_in (ns : List Nd) (t f l : Int) : inB (begC ns t f l) 9 = true := by
  have := wTo_bounds (ns.getD 0 Nd.zero).word
  exact inB_yes this.1 this.2

theorem own_int_lit1 (w : World) : (w.alloc (.cells #[] 3)).ownsRow w.heap.size 3 1 (.slice (some ⟨w.heap.size, 0, none⟩) 0 0) 0 [] := by
  exact World.ownsRow_lit (base := w.heap.size) (e := 3) (size := 1) w #[] 0 (Nat.le_refl _) (by decide) rfl

set_option maxHeartbeats 1000000 in
theorem specArnChain_bad (a : Option Addr) (n cap : Nat) (ns : List Nd) (t f l : Int) (w : World) (hs : SNodes w a n ns) (hn : n ≤ 9223372036854775807) (hsh : shapeB ns t f l = false) :
    Calls Try.prog 52 #[.agg #[.slice a n cap, .int .i64 t, .int .i64 f, .int .i64 l]] w fun e w' => ListI [] e w w' := by
  go_enter Try.func52, Try.ntmps52
  go_wp2_with fail
  refine (l2Shape_any _ _ _ ns t f l _ (hs.below (al1 w (.cells #[.slice a n cap, .int .i64 t, .int .i64 f, .int .i64 l] 43))) hn).mono ?_
  rintro e w1 ⟨rfl, hb1⟩
  have hbel := below_trans' (al1 w (.cells #[.slice a n cap, .int .i64 t, .int .i64 f, .int .i64 l] 43)) hb1
  rw [hsh]
  clear hs hb1
  go_wp2
  go_ret
  exact ⟨_, 0, rfl, own_mono (own_int_lit1 _) hbel.size, below_trans' hbel (al1 _ _)⟩

set_option maxHeartbeats 2000000 in
theorem specArnChain_ok (b off cap : Nat) (ns : List Nd) (t f l : Int) (w : World) (hs : SNodes w (some ⟨b, off, none⟩) 10 ns) (hsh : shapeB ns t f l = true) (hp : inB (begC ns t f l) 9 = true) :
    Calls Try.prog 52 #[.agg #[.slice (some ⟨b, off, none⟩) 10 cap, .int .i64 t, .int .i64 f, .int .i64 l]] w fun e w' => ListI (fromTo ns (begC ns t f l) 9) e w w' := by
  have A := al1 w (.cells #[.slice (some ⟨b, off, none⟩) 10 cap, .int .i64 t, .int .i64 f, .int .i64 l] 43)
  have bx := boxA_new w (some ⟨b, off, none⟩) 10 cap t f l 43 rfl
  go_enter Try.func52, Try.ntmps52
  go_wp2_with fail
  refine (l2Shape_any _ _ _ ns t f l _ (hs.below A) (by omega)).mono ?_
  rintro e w1 ⟨rfl, hb1⟩
  have hA1 := below_trans' A hb1
  have bx1 := bx.below hb1
  have p0 := bx1.c0
  have p1 := bx1.c1
  have p2 := bx1.c2
  have p3 := bx1.c3
  rw [hsh]
  have s1 := hs.below hA1
  obtain ⟨b', off', ⟨y0, y1, y2, y3, y4, y5⟩, eb, hy, hN⟩ := s1.at (k := 0) (by omega)
  cases eb
  rw [Nat.zero_mul, Nat.add_zero] at hN
  have n2 := hN.c2
  dsimp only at n2
  have HB : Hid (begC ns t f l = wTo y2) := by show _ = _; simp [begC, List.getD, hy]
  have hp2 : Hid (inB (wTo y2) 9 = true) := by show _ = _; rw [← HB.out]; exact hp
  have HS : Hid (SNodes w1 (some ⟨b, off, none⟩) 10 ns) := s1
  clear hs hb1 bx A bx1 hN hy s1 hp hsh
  go_wp2
  go_region_held (fun w' => w'.cell? ⟨w.heap.size, 0, none⟩ = some (.slice (some ⟨b, off, none⟩) 10 cap) ∧ w'.cell? ⟨w.heap.size, 1, none⟩ = some (.int .i64 t) ∧ w'.cell? ⟨w.heap.size, 2, none⟩ = some (.int .i64 f) ∧ w'.cell? ⟨w.heap.size, 3, none⟩ = some (.int .i64 l) ∧ w'.cell? ⟨b, off + 2, none⟩ = some (.int .i64 y2)) (go_keep) (first | (go_at_call 76; refine (specWrdTo_any _ _).mono ?_; rintro e w' ⟨rfl, rfl⟩) | (go_at_call 75; refine (l2From_any b off cap ns t f l _ _ (HS.out.below (Below.refl _ _).drew) hp2.out).mono ?_; rintro e w3 ⟨a3, c3, rfl, ho3, hb3⟩; have H3 : Hid (w3.ownsRow w1.heap.size 3 1 (.slice a3 (fromTo ns (wTo y2) 9).length c3) (fromTo ns (wTo y2) 9).length ((fromTo ns (wTo y2) 9).map (Value.int .i64)) ∧ Below w.heap.size w w3) := ⟨ho3, below_trans' hA1 (below_trans' (Below.refl _ _).drew hb3)⟩; have r0 := hb3.cell (p := ⟨w.heap.size, 0, none⟩) (by exact World.block_lt_of_cell? w1 ⟨w.heap.size, 0, none⟩ p0); have r1 := hb3.cell (p := ⟨w.heap.size, 1, none⟩) (by exact World.block_lt_of_cell? w1 ⟨w.heap.size, 0, none⟩ p0); have r2 := hb3.cell (p := ⟨w.heap.size, 2, none⟩) (by exact World.block_lt_of_cell? w1 ⟨w.heap.size, 0, none⟩ p0); have r3 := hb3.cell (p := ⟨w.heap.size, 3, none⟩) (by exact World.block_lt_of_cell? w1 ⟨w.heap.size, 0, none⟩ p0); have r4 := hb3.cell (p := ⟨b, off + 2, none⟩) (by exact World.block_lt_of_cell? w1 ⟨b, off + 2, none⟩ n2); clear ho3 hb3))
  go_wp2
  go_ret
  refine ⟨a3, c3, ?_⟩
  rw [HB.out]
  exact ⟨rfl, own_mono H3.out.1 hA1.size, H3.out.2⟩

theorem specArnChain_any (a : Option Addr) (n cap : Nat) (ns : List Nd) (t f l : Int) (w : World) (hs : SNodes w a n ns) (hn : n ≤ 1048576) :
    Calls Try.prog 52 #[.agg #[.slice a n cap, .int .i64 t, .int .i64 f, .int .i64 l]] w fun e w' => ListI (pathOf begC ns t f l) e w w' := by
  cases hsh : shapeB ns t f l
  · have e : pathOf begC ns t f l = [] := by simp [pathOf, hsh]
    rw [e]
    exact specArnChain_bad a n cap ns t f l w hs (by omega) hsh
  · obtain ⟨hl, _, _, h4, h5, _⟩ := shapeB_parts hsh
    obtain ⟨rfl, b, off, rfl⟩ := snodes_some hs hl
    have e : pathOf begC ns t f l = fromTo ns (begC ns t f l) 9 := by simp [pathOf, hsh]
    rw [e]
    exact specArnChain_ok b off cap ns t f l w hs hsh (begC_in ns t f l)

set_option maxHeartbeats 1000000 in
theorem specArnStacked_bad (a : Option Addr) (n cap : Nat) (ns : List Nd) (t f l : Int) (w : World) (hs : SNodes w a n ns) (hn : n ≤ 9223372036854775807) (hsh : shapeB ns t f l = false) :
    Calls Try.prog 55 #[.agg #[.slice a n cap, .int .i64 t, .int .i64 f, .int .i64 l]] w fun e w' => ListI [] e w w' := by
  go_enter Try.func55, Try.ntmps55
  go_wp2_with fail
  refine (l2Shape_any _ _ _ ns t f l _ (hs.below (al1 w (.cells #[.slice a n cap, .int .i64 t, .int .i64 f, .int .i64 l] 43))) hn).mono ?_
  rintro e w1 ⟨rfl, hb1⟩
  have hbel := below_trans' (al1 w (.cells #[.slice a n cap, .int .i64 t, .int .i64 f, .int .i64 l] 43)) hb1
  rw [hsh]
  clear hs hb1
  go_wp2
  go_ret
  exact ⟨_, 0, rfl, own_mono (own_int_lit1 _) hbel.size, below_trans' hbel (al1 _ _)⟩

set_option maxHeartbeats 2000000 in
theorem specArnStacked_ok (b off cap : Nat) (ns : List Nd) (t f l : Int) (w : World) (hs : SNodes w (some ⟨b, off, none⟩) 10 ns) (hsh : shapeB ns t f l = true) (hp : inB (begS ns t f l) 9 = true) :
    Calls Try.prog 55 #[.agg #[.slice (some ⟨b, off, none⟩) 10 cap, .int .i64 t, .int .i64 f, .int .i64 l]] w fun e w' => ListI (fromTo ns (begS ns t f l) 9) e w w' := by
  have A := al1 w (.cells #[.slice (some ⟨b, off, none⟩) 10 cap, .int .i64 t, .int .i64 f, .int .i64 l] 43)
  have bx := boxA_new w (some ⟨b, off, none⟩) 10 cap t f l 43 rfl
  go_enter Try.func55, Try.ntmps55
  go_wp2_with fail
  refine (l2Shape_any _ _ _ ns t f l _ (hs.below A) (by omega)).mono ?_
  rintro e w1 ⟨rfl, hb1⟩
  have hA1 := below_trans' A hb1
  have bx1 := bx.below hb1
  have p0 := bx1.c0
  have p1 := bx1.c1
  have p2 := bx1.c2
  have p3 := bx1.c3
  rw [hsh]
  have s1 := hs.below hA1
  clear hs hb1 bx A bx1 hsh
  go_wp2_with fail
  refine (l2From_any b off cap ns t f l _ _ s1 hp).mono ?_
  rintro e w3 ⟨a3, c3, rfl, ho3, hb3⟩
  have H3 : Hid (w3.ownsRow w1.heap.size 3 1 (.slice a3 (fromTo ns (begS ns t f l) 9).length c3) (fromTo ns (begS ns t f l) 9).length ((fromTo ns (begS ns t f l) 9).map (Value.int .i64)) ∧ Below w.heap.size w w3) := ⟨ho3, below_trans' hA1 hb3⟩
  clear ho3 hb3
  go_wp2
  go_ret
  exact ⟨a3, c3, rfl, own_mono H3.out.1 hA1.size, H3.out.2⟩

theorem specArnStacked_any (a : Option Addr) (n cap : Nat) (ns : List Nd) (t f l : Int) (w : World) (hs : SNodes w a n ns) (hn : n ≤ 1048576) :
    Calls Try.prog 55 #[.agg #[.slice a n cap, .int .i64 t, .int .i64 f, .int .i64 l]] w fun e w' => ListI (pathOf begS ns t f l) e w w' := by
  cases hsh : shapeB ns t f l
  · have e : pathOf begS ns t f l = [] := by simp [pathOf, hsh]
    rw [e]
    exact specArnStacked_bad a n cap ns t f l w hs (by omega) hsh
  · obtain ⟨hl, _, _, h4, h5, _⟩ := shapeB_parts hsh
    obtain ⟨rfl, b, off, rfl⟩ := snodes_some hs hl
    have e : pathOf begS ns t f l = fromTo ns (begS ns t f l) 9 := by simp [pathOf, hsh]
    rw [e]
    exact specArnStacked_ok b off cap ns t f l w hs hsh (h4)

set_option maxHeartbeats 1000000 in
theorem specArnQueued_bad (a : Option Addr) (n cap : Nat) (ns : List Nd) (t f l : Int) (w : World) (hs : SNodes w a n ns) (hn : n ≤ 9223372036854775807) (hsh : shapeB ns t f l = false) :
    Calls Try.prog 56 #[.agg #[.slice a n cap, .int .i64 t, .int .i64 f, .int .i64 l]] w fun e w' => ListI [] e w w' := by
  go_enter Try.func56, Try.ntmps56
  go_wp2_with fail
  refine (l2Shape_any _ _ _ ns t f l _ (hs.below (al1 w (.cells #[.slice a n cap, .int .i64 t, .int .i64 f, .int .i64 l] 43))) hn).mono ?_
  rintro e w1 ⟨rfl, hb1⟩
  have hbel := below_trans' (al1 w (.cells #[.slice a n cap, .int .i64 t, .int .i64 f, .int .i64 l] 43)) hb1
  rw [hsh]
  clear hs hb1
  go_wp2
  go_ret
  exact ⟨_, 0, rfl, own_mono (own_int_lit1 _) hbel.size, below_trans' hbel (al1 _ _)⟩

set_option maxHeartbeats 2000000 in
theorem specArnQueued_ok (b off cap : Nat) (ns : List Nd) (t f l : Int) (w : World) (hs : SNodes w (some ⟨b, off, none⟩) 10 ns) (hsh : shapeB ns t f l = true) (hp : inB (begQ ns t f l) 9 = true) :
    Calls Try.prog 56 #[.agg #[.slice (some ⟨b, off, none⟩) 10 cap, .int .i64 t, .int .i64 f, .int .i64 l]] w fun e w' => ListI (fromTo ns (begQ ns t f l) 9) e w w' := by
  have A := al1 w (.cells #[.slice (some ⟨b, off, none⟩) 10 cap, .int .i64 t, .int .i64 f, .int .i64 l] 43)
  have bx := boxA_new w (some ⟨b, off, none⟩) 10 cap t f l 43 rfl
  go_enter Try.func56, Try.ntmps56
  go_wp2_with fail
  refine (l2Shape_any _ _ _ ns t f l _ (hs.below A) (by omega)).mono ?_
  rintro e w1 ⟨rfl, hb1⟩
  have hA1 := below_trans' A hb1
  have bx1 := bx.below hb1
  have p0 := bx1.c0
  have p1 := bx1.c1
  have p2 := bx1.c2
  have p3 := bx1.c3
  rw [hsh]
  have s1 := hs.below hA1
  clear hs hb1 bx A bx1 hsh
  go_wp2_with fail
  refine (l2From_any b off cap ns t f l _ _ s1 hp).mono ?_
  rintro e w3 ⟨a3, c3, rfl, ho3, hb3⟩
  have H3 : Hid (w3.ownsRow w1.heap.size 3 1 (.slice a3 (fromTo ns (begQ ns t f l) 9).length c3) (fromTo ns (begQ ns t f l) 9).length ((fromTo ns (begQ ns t f l) 9).map (Value.int .i64)) ∧ Below w.heap.size w w3) := ⟨ho3, below_trans' hA1 hb3⟩
  clear ho3 hb3
  go_wp2
  go_ret
  exact ⟨a3, c3, rfl, own_mono H3.out.1 hA1.size, H3.out.2⟩

theorem specArnQueued_any (a : Option Addr) (n cap : Nat) (ns : List Nd) (t f l : Int) (w : World) (hs : SNodes w a n ns) (hn : n ≤ 1048576) :
    Calls Try.prog 56 #[.agg #[.slice a n cap, .int .i64 t, .int .i64 f, .int .i64 l]] w fun e w' => ListI (pathOf begQ ns t f l) e w w' := by
  cases hsh : shapeB ns t f l
  · have e : pathOf begQ ns t f l = [] := by simp [pathOf, hsh]
    rw [e]
    exact specArnQueued_bad a n cap ns t f l w hs (by omega) hsh
  · obtain ⟨hl, _, _, h4, h5, _⟩ := shapeB_parts hsh
    obtain ⟨rfl, b, off, rfl⟩ := snodes_some hs hl
    have e : pathOf begQ ns t f l = fromTo ns (begQ ns t f l) 9 := by simp [pathOf, hsh]
    rw [e]
    exact specArnQueued_ok b off cap ns t f l w hs hsh (inP_inB h5)

end Go.Proofs.Ytklpdpdjblakgaa

/- OkS -/
namespace Go.Proofs.Ytklpdpdjblakgaa
open Go.RowKit
set_option linter.unusedVariables false

/-- The place of a number. -/
def ndAt (ns : List Nd) (z : Int) : Nd := ns.getD z.toNat Nd.zero
/-- The number is one of some. -/
def hasB (zs : List Int) (x : Int) : Bool := zs.any (fun z => z == x)
/-- None of some is marked. -/
def bareB (ns : List Nd) (zs : List Int) : Bool := zs.all (fun z => !wMark (ndAt ns z).word)
/-- All of some are in use, and none of them stands among others. -/
def usedB (ns : List Nd) (zs os : List Int) : Bool := zs.all (fun z => (ndAt ns z).used && !hasB os z)
/-- The last of some leads to none. -/
def endB (ns : List Nd) (zs : List Int) : Bool := decide (zs.length = 0) || (nextN ns (zs.getD (zs.length - 1) 0) == 0)
/-- The queue's last one is that, or the one ahead of it. -/
def lastB (zs : List Int) (l : Int) : Bool := decide (0 < zs.length) && ((l == zs.getD (zs.length - 1) 0) || (decide (1 < zs.length) && (l == zs.getD (zs.length - 2) 0)))

theorem any_no {zs : List Int} {p : Int → Bool} (h : ∀ i, i < zs.length → p (zs.getD i 0) = false) : zs.any p = false := by
  rw [List.any_eq_false]
  intro x hx
  obtain ⟨i, hi, rfl⟩ := List.mem_iff_getElem.1 hx
  have := h i hi
  simpa [List.getD, hi] using this
theorem any_yes {zs : List Int} {p : Int → Bool} {i : Nat} (hi : i < zs.length) (h : p (zs.getD i 0) = true) : zs.any p = true := by
  rw [List.any_eq_true]
  exact ⟨zs[i], List.getElem_mem hi, by simpa [List.getD, hi] using h⟩
theorem all_yes {zs : List Int} {p : Int → Bool} (h : ∀ i, i < zs.length → p (zs.getD i 0) = true) : zs.all p = true := by
  rw [List.all_eq_true]
  intro x hx
  obtain ⟨i, hi, rfl⟩ := List.mem_iff_getElem.1 hx
  have := h i hi
  simpa [List.getD, hi] using this
theorem all_no {zs : List Int} {p : Int → Bool} {i : Nat} (hi : i < zs.length) (h : p (zs.getD i 0) = false) : zs.all p = false := by
  rw [List.all_eq_false]
  exact ⟨zs[i], List.getElem_mem hi, by simpa [List.getD, hi] using h⟩

set_option maxHeartbeats 800000 in
theorem l2Has_any (a : Option Addr) (n cap : Nat) (zs : List Int) (x : Int) (w : World) (hs : SInts w a n zs) (hn : n ≤ 1048576) :
    Calls Try.prog 93 #[.slice a n cap, .int .i64 x] w fun e w' => e = .returned (.bool (hasB zs x)) ∧ w' = w := by
  have HZ : Hid (zs.length = n) := hs.1
  go_enter Try.func93, Try.ntmps93
  go_wp2
  go_loop [5] (fun i => ∃ k : Nat, k ≤ n ∧ i = .int .i64 k ∧ ∀ j, j < k → (zs.getD j 0 == x) = false) (fun i => n - (intOf i).toNat)
  case atStart => exact ⟨0, Nat.zero_le _, rfl, fun j hj => by omega⟩
  case round =>
    obtain ⟨k, hk, rfl, hall0⟩ := hrel
    have hall : Hid (∀ j, j < k → (zs.getD j 0 == x) = false) := hall0
    clear hall0
    by_cases hlt : k < n
    · obtain ⟨hz, h0 | ⟨b, off, rfl, hc⟩⟩ := hs
      · omega
      · obtain ⟨y, hy⟩ : ∃ y, zs.getD k 0 = y := ⟨_, rfl⟩
        have h1 : w.cell? ⟨b, off + k, none⟩ = some (.int .i64 y) := by rw [← hy]; exact hc k hlt
        have HY : Hid (zs.getD k 0 = y) := hy
        clear hc hy hz
        cases he : (y == x)
        · go_wp2
          go_round
          case rel => exact ⟨k + 1, by omega, by go_num, fun j hj => by
            by_cases e : j = k
            · subst e; rw [HY.out]; exact he
            · exact hall.out j (by omega)⟩
          case measure => simp [intOf]; omega
        · go_wp2
          go_ret
          exact ⟨ret_bool (any_yes (i := k) (by rw [HZ.out]; exact hlt) (by rw [HY.out]; exact he)).symm, rfl⟩
    · obtain rfl : k = n := by omega
      clear hs
      go_wp2
      go_ret
      exact ⟨ret_bool (any_no (fun i hi => hall.out i (by rw [HZ.out] at hi; exact hi))).symm, rfl⟩

theorem BoxA.drew' {W : World} {b : Nat} {a : Option Addr} {n cap : Nat} {t f l : Int} (h : BoxA W b a n cap t f l) : BoxA W.drew b a n cap t f l := ⟨h.c0, h.c1, h.c2, h.c3⟩

/-- Some places. -/
def placesB (zs : List Int) : Prop := ∀ i, i < zs.length → 1 ≤ zs.getD i 0 ∧ zs.getD i 0 ≤ 9

set_option maxRecDepth 20000 in
set_option maxHeartbeats 2000000 in
theorem l2Bare_any (b off cap : Nat) (ns : List Nd) (t f l : Int) (a : Option Addr) (n c : Nat) (zs : List Int) (w : World) (hs : SNodes w (some ⟨b, off, none⟩) 10 ns) (hz : SInts w a n zs) (hn : n ≤ 1048576) (hp : placesB zs) :
    Calls Try.prog 73 #[.agg #[.slice (some ⟨b, off, none⟩) 10 cap, .int .i64 t, .int .i64 f, .int .i64 l], .slice a n c] w fun e w' => e = .returned (.bool (bareB ns zs)) ∧ Below w.heap.size w w' := by
  have HZ : Hid (zs.length = n) := hz.1
  have HP : Hid (placesB zs) := hp
  have A := al1 w (.cells #[.slice (some ⟨b, off, none⟩) 10 cap, .int .i64 t, .int .i64 f, .int .i64 l] 43)
  have I0 : Hid (Below w.heap.size w (w.alloc (.cells #[.slice (some ⟨b, off, none⟩) 10 cap, .int .i64 t, .int .i64 f, .int .i64 l] 43)) ∧ BoxA (w.alloc (.cells #[.slice (some ⟨b, off, none⟩) 10 cap, .int .i64 t, .int .i64 f, .int .i64 l] 43)) w.heap.size (some ⟨b, off, none⟩) 10 cap t f l) := ⟨A, boxA_new w _ _ _ _ _ _ 43 rfl⟩
  have HS : Hid (SNodes w (some ⟨b, off, none⟩) 10 ns ∧ SInts w a n zs) := ⟨hs, hz⟩
  clear A hs hz hp
  go_enter Try.func73, Try.ntmps73
  go_wp2
  go_loopw [5] (fun i wr => ∃ k : Nat, k ≤ n ∧ i = .int .i64 k ∧ Below w.heap.size w wr ∧ BoxA wr w.heap.size (some ⟨b, off, none⟩) 10 cap t f l ∧ ∀ j, j < k → (!wMark (ndAt ns (zs.getD j 0)).word) = true) (fun i _ => n - (intOf i).toNat)
  case atStart => exact ⟨0, Nat.zero_le _, rfl, I0.out.1, I0.out.2, fun j hj => by omega⟩
  case round =>
    obtain ⟨k, hk, rfl, hbel, hbox, hall0⟩ := hrel
    have hall : Hid (∀ j, j < k → (!wMark (ndAt ns (zs.getD j 0)).word) = true) := hall0
    clear hall0 I0
    by_cases hlt : k < n
    · obtain ⟨_, h0 | ⟨b', off', rfl, hc⟩⟩ := HS.out.2.below hbel
      · omega
      · obtain ⟨y, hy⟩ : ∃ y, zs.getD k 0 = y := ⟨_, rfl⟩
        have h1 : wr.cell? ⟨b', off' + k, none⟩ = some (.int .i64 y) := by rw [← hy]; exact hc k hlt
        have hyb := HP.out k (by rw [HZ.out]; exact hlt)
        rw [hy] at hyb
        obtain ⟨j, rfl⟩ : ∃ j : Nat, y = j := ⟨y.toNat, by omega⟩
        have hj : j < 10 := by omega
        obtain ⟨b2, off2, ⟨x0, x1, x2, x3, x4, x5⟩, eab, hx, hN⟩ := (HS.out.1.below hbel).at hj
        cases eab
        have n2 := hN.c2
        dsimp only at n2
        have c0 := hbox.c0
        have HM : Hid ((ndAt ns (zs.getD k 0)).word = x2) := by show _ = _; rw [hy]; simp [ndAt, List.getD, hx]
        have HB : Hid (Below w.heap.size w wr ∧ BoxA wr w.heap.size (some ⟨b, off, none⟩) 10 cap t f l) := ⟨hbel, hbox⟩
        clear hc hy hN hx hyb hbox hbel
        go_wp2
        go_region_held (fun w' => w'.cell? ⟨w.heap.size, 0, none⟩ = some (.slice (some ⟨b, off, none⟩) 10 cap) ∧ w'.cell? ⟨b', off' + k, none⟩ = some (.int .i64 (j : Int)) ∧ w'.cell? ⟨b, off + j * 6 + 2, none⟩ = some (.int .i64 x2)) (go_keep) (first | (go_at_call 53; refine (specWrdMark_any _ _).mono ?_; rintro e w' ⟨rfl, rfl⟩))
        cases hm : wMark x2
        · go_wp2
          go_roundw
          case rel => exact ⟨k + 1, by omega, by go_num, HB.out.1.drew, HB.out.2.drew', fun j2 hj2 => by
            by_cases e : j2 = k
            · subst e; rw [HM.out, hm]; rfl
            · exact hall.out j2 (by omega)⟩
          case measure => simp [intOf]; omega
        · go_wp2
          go_ret
          exact ⟨ret_bool (all_no (i := k) (by rw [HZ.out]; exact hlt) (by rw [HM.out, hm]; rfl)).symm, HB.out.1.drew⟩
    · obtain rfl : k = n := by omega
      clear hbox
      go_wp2
      go_ret
      exact ⟨ret_bool (all_yes (fun i hi => hall.out i (by rw [HZ.out] at hi; exact hi))).symm, hbel⟩

end Go.Proofs.Ytklpdpdjblakgaa

/- OkS2 -/
namespace Go.Proofs.Ytklpdpdjblakgaa
open Go.RowKit
set_option linter.unusedVariables false

theorem below_drewN (B : Nat) (w : World) (n : Nat) : Below B w (w.drewN n) := ⟨rfl, rfl, rfl, Nat.le_refl _, fun _ _ => rfl⟩

theorem wrap_in64 {x : Int} (h0 : -9223372036854775808 ≤ x) (h1 : x ≤ 9223372036854775807) : IntKind.i64.wrap x = x := Go.IntWalk.i64_in x ⟨h0, h1⟩

set_option maxRecDepth 20000 in
set_option maxHeartbeats 1000000 in
theorem l2Last_any (b off cap : Nat) (ns : List Nd) (t f l : Int) (a : Option Addr) (n c : Nat) (zs : List Int) (w : World) (hz : SInts w a n zs) (hn : n ≤ 1048576) :
    Calls Try.prog 74 #[.agg #[.slice (some ⟨b, off, none⟩) 10 cap, .int .i64 t, .int .i64 f, .int .i64 l], .slice a n c] w fun e w' => e = .returned (.bool (lastB zs l)) ∧ Below w.heap.size w w' := by
  have HZ : Hid (zs.length = n) := hz.1
  have A := al1 w (.cells #[.slice (some ⟨b, off, none⟩) 10 cap, .int .i64 t, .int .i64 f, .int .i64 l] 43)
  have bx := boxA_new w (some ⟨b, off, none⟩) 10 cap t f l 43 rfl
  have c3 := bx.c3
  by_cases h0 : n = 0
  · subst h0
    have e : lastB zs l = false := by simp [lastB, HZ.out]
    rw [e]
    clear hz bx
    go_enter Try.func74, Try.ntmps74
    go_wp2
    go_quiet (fail)
    go_wp2
    go_ret
    exact ⟨rfl, below_trans' A (below_drewN _ _ _)⟩
  · obtain ⟨_, h | ⟨b', off', rfl, hc⟩⟩ := hz.below A
    · omega
    · obtain ⟨y, hy⟩ : ∃ y, zs.getD (n - 1) 0 = y := ⟨_, rfl⟩
      have h1 := hc (n - 1) (by omega)
      rw [hy] at h1
      have hpos : (0 : Int) < (n : Int) := by omega
      have hd0 : decide (0 < n) = true := decide_eq_true (by omega)
      obtain ⟨m, hm⟩ : ∃ m : Nat, n - 1 = m := ⟨_, rfl⟩
      have wm : IntKind.i64.wrap ((n : Int) - 1) = (m : Int) := by rw [wrap_in64 (by omega) (by omega)]; omega
      have w0 : IntKind.i64.wrap 0 = 0 := rfl
      have hmn : (m : Int) < (n : Int) := by omega
      rw [hm] at h1 hy
      cases hl : (l == y)
      · by_cases hn1 : n = 1
        · subst hn1
          obtain rfl : m = 0 := by omega
          rw [Nat.add_zero] at h1
          have e : lastB zs l = false := by
            unfold lastB
            rw [HZ.out]
            show (decide (0 < 1) && ((l == zs.getD 0 0) || (decide (1 < 1) && _))) = false
            rw [hy, hl]
            rfl
          rw [e]
          clear hz bx hc hy
          go_enter Try.func74, Try.ntmps74
          go_wp2
          go_quiet (fail)
          go_wp2
          go_ret
          exact ⟨rfl, below_trans' A (below_drewN _ _ _)⟩
        · obtain ⟨z, hz2⟩ : ∃ z, zs.getD (n - 2) 0 = z := ⟨_, rfl⟩
          have h2 := hc (n - 2) (by omega)
          rw [hz2] at h2
          obtain ⟨m2, hm2⟩ : ∃ m2 : Nat, n - 2 = m2 := ⟨_, rfl⟩
          have wm2 : IntKind.i64.wrap ((n : Int) - 2) = (m2 : Int) := by rw [wrap_in64 (by omega) (by omega)]; omega
          have hmn2 : (m2 : Int) < (n : Int) := by omega
          rw [hm2] at h2 hz2
          have hpos2 : (1 : Int) < (n : Int) := by omega
          have hd1 : decide (1 < n) = true := decide_eq_true (by omega)
          have e : lastB zs l = (l == z) := by
            unfold lastB
            rw [HZ.out, hm, hm2, hy, hz2, hl, decide_eq_true (show 0 < n by omega), decide_eq_true (show 1 < n by omega)]
            rfl
          rw [e]
          clear hz bx hc hy
          go_enter Try.func74, Try.ntmps74
          go_wp2
          go_quiet (fail)
          go_wp2
          go_ret
          exact ⟨rfl, below_trans' A (below_drewN _ _ _)⟩
      · have e : lastB zs l = true := by
          unfold lastB
          rw [HZ.out, hm, hy, hl, decide_eq_true (show 0 < n by omega)]
          rfl
        rw [e]
        clear hz bx hc hy
        go_enter Try.func74, Try.ntmps74
        go_wp2
        go_quiet (fail)
        go_wp2
        go_ret
        exact ⟨rfl, below_trans' A (below_drewN _ _ _)⟩

end Go.Proofs.Ytklpdpdjblakgaa

/- OkS3 -/
namespace Go.Proofs.Ytklpdpdjblakgaa
open Go.RowKit
set_option linter.unusedVariables false

theorem usedB_yes {ns : List Nd} {zs os : List Int} (h : ∀ i, i < zs.length → ((ndAt ns (zs.getD i 0)).used && !hasB os (zs.getD i 0)) = true) : usedB ns zs os = true := all_yes h
theorem usedB_no {ns : List Nd} {zs os : List Int} {i : Nat} (hi : i < zs.length) (h : ((ndAt ns (zs.getD i 0)).used && !hasB os (zs.getD i 0)) = false) : usedB ns zs os = false := all_no hi h

set_option maxRecDepth 20000 in
set_option maxHeartbeats 2000000 in
theorem l2Ends_any (b off cap : Nat) (ns : List Nd) (t f l : Int) (a : Option Addr) (n c : Nat) (zs : List Int) (a2 : Option Addr) (n2 c2 : Nat) (os : List Int) (w : World) (hs : SNodes w (some ⟨b, off, none⟩) 10 ns) (hz : SInts w a n zs) (ho : SInts w a2 n2 os) (hn : n ≤ 1048576) (hn2 : n2 ≤ 1048576) (hp : placesB zs) :
    Calls Try.prog 72 #[.agg #[.slice (some ⟨b, off, none⟩) 10 cap, .int .i64 t, .int .i64 f, .int .i64 l], .slice a n c, .slice a2 n2 c2] w fun e w' => e = .returned (.bool (usedB ns zs os && endB ns zs)) ∧ Below w.heap.size w w' := by
  have HZ : Hid (zs.length = n) := hz.1
  have HP : Hid (placesB zs) := hp
  have A := al1 w (.cells #[.slice (some ⟨b, off, none⟩) 10 cap, .int .i64 t, .int .i64 f, .int .i64 l] 43)
  have I0 : Hid (Below w.heap.size w (w.alloc (.cells #[.slice (some ⟨b, off, none⟩) 10 cap, .int .i64 t, .int .i64 f, .int .i64 l] 43)) ∧ BoxA (w.alloc (.cells #[.slice (some ⟨b, off, none⟩) 10 cap, .int .i64 t, .int .i64 f, .int .i64 l] 43)) w.heap.size (some ⟨b, off, none⟩) 10 cap t f l) := ⟨A, boxA_new w _ _ _ _ _ _ 43 rfl⟩
  have HS : Hid (SNodes w (some ⟨b, off, none⟩) 10 ns ∧ SInts w a n zs ∧ SInts w a2 n2 os) := ⟨hs, hz, ho⟩
  clear A hs hz hp ho
  go_enter Try.func72, Try.ntmps72
  go_wp2
  go_loopw [7] (fun i wr => ∃ k : Nat, k ≤ n ∧ i = .int .i64 k ∧ Below w.heap.size w wr ∧ BoxA wr w.heap.size (some ⟨b, off, none⟩) 10 cap t f l ∧ ∀ j, j < k → ((ndAt ns (zs.getD j 0)).used && !hasB os (zs.getD j 0)) = true) (fun i _ => n - (intOf i).toNat)
  case atStart => exact ⟨0, Nat.zero_le _, rfl, I0.out.1, I0.out.2, fun j hj => by omega⟩
  case round =>
    obtain ⟨k, hk, rfl, hbel, hbox, hall0⟩ := hrel
    have hall : Hid (∀ j, j < k → ((ndAt ns (zs.getD j 0)).used && !hasB os (zs.getD j 0)) = true) := hall0
    clear hall0 I0
    have c0 := hbox.c0
    by_cases hlt : k < n
    · obtain ⟨_, h0 | ⟨b', off', rfl, hc⟩⟩ := HS.out.2.1.below hbel
      · omega
      · obtain ⟨y, hy⟩ : ∃ y, zs.getD k 0 = y := ⟨_, rfl⟩
        have h1 : wr.cell? ⟨b', off' + k, none⟩ = some (.int .i64 y) := by rw [← hy]; exact hc k hlt
        have hyb := HP.out k (by rw [HZ.out]; exact hlt)
        rw [hy] at hyb
        obtain ⟨j, rfl⟩ : ∃ j : Nat, y = j := ⟨y.toNat, by omega⟩
        have hj : j < 10 := by omega
        obtain ⟨b2, off2, ⟨x0, x1, x2, x3, x4, x5⟩, eab, hx, hN⟩ := (HS.out.1.below hbel).at hj
        cases eab
        have n4 := hN.c4
        dsimp only at n4
        have HM : Hid ((ndAt ns (zs.getD k 0)).used = x4 ∧ zs.getD k 0 = (j : Int)) := ⟨by rw [hy]; simp [ndAt, List.getD, hx], hy⟩
        have HB : Hid (Below w.heap.size w wr ∧ BoxA wr w.heap.size (some ⟨b, off, none⟩) 10 cap t f l) := ⟨hbel, hbox⟩
        have HO : Hid (SInts wr.drew a2 n2 os) := (HS.out.2.2.below hbel).below (Below.refl _ _).drew
        clear hc hy hN hx hyb hbox hbel
        cases x4
        · go_wp2
          go_quiet (fail)
          go_wp2
          go_ret
          exact ⟨ret_bool (by rw [usedB_no (i := k) (by rw [HZ.out]; exact hlt) (by rw [HM.out.1]; rfl)]; rfl), below_trans' HB.out.1 (below_drewN _ _ _)⟩
        · go_wp2
          go_region_held (fun w' => w'.cell? ⟨w.heap.size, 0, none⟩ = some (.slice (some ⟨b, off, none⟩) 10 cap) ∧ w'.cell? ⟨b', off' + k, none⟩ = some (.int .i64 (j : Int)) ∧ w'.cell? ⟨b, off + j * 6 + 4, none⟩ = some (.bool true)) (go_keep) (first | (go_at_call 93; refine (l2Has_any _ _ _ os _ _ HO.out hn2).mono ?_; rintro e w' ⟨rfl, rfl⟩))
          cases hm : hasB os (j : Int)
          · go_wp2
            go_roundw
            case rel => exact ⟨k + 1, by omega, by go_num, HB.out.1.drew, HB.out.2.drew', fun j2 hj2 => by
              by_cases e : j2 = k
              · subst e; rw [HM.out.1, HM.out.2, hm]; rfl
              · exact hall.out j2 (by omega)⟩
            case measure => simp [intOf]; omega
          · go_wp2
            go_ret
            exact ⟨ret_bool (by rw [usedB_no (i := k) (by rw [HZ.out]; exact hlt) (by rw [HM.out.1, HM.out.2, hm]; rfl)]; rfl), HB.out.1.drew⟩
    · obtain rfl : k = n := by omega
      have HU : Hid (usedB ns zs os = true) := usedB_yes (fun i hi => hall.out i (by rw [HZ.out] at hi; exact hi))
      by_cases hk0 : k = 0
      · subst hk0
        clear hbox
        go_wp2
        go_quiet (fail)
        go_wp2
        go_ret
        exact ⟨ret_bool (by rw [HU.out]; simp [endB, HZ.out]), below_trans' hbel (below_drewN _ _ _)⟩
      · obtain ⟨_, h0 | ⟨b', off', rfl, hc⟩⟩ := HS.out.2.1.below hbel
        · omega
        · obtain ⟨m, hm⟩ : ∃ m : Nat, k - 1 = m := ⟨_, rfl⟩
          obtain ⟨y, hy⟩ : ∃ y, zs.getD m 0 = y := ⟨_, rfl⟩
          have h1 : wr.cell? ⟨b', off' + m, none⟩ = some (.int .i64 y) := by rw [← hy]; exact hc m (by omega)
          have hyb := HP.out m (by rw [HZ.out]; omega)
          rw [hy] at hyb
          obtain ⟨j, rfl⟩ : ∃ j : Nat, y = j := ⟨y.toNat, by omega⟩
          have hj : j < 10 := by omega
          obtain ⟨b2, off2, ⟨x0, x1, x2, x3, x4, x5⟩, eab, hx, hN⟩ := (HS.out.1.below hbel).at hj
          cases eab
          have n2 := hN.c2
          dsimp only at n2
          have HE : Hid (endB ns zs = (wTo x2 == 0)) := by
            show _ = _
            unfold endB
            rw [HZ.out, hm, hy, decide_eq_false hk0]
            simp [nextN, List.getD, hx]
          have wm : IntKind.i64.wrap ((k : Int) - 1) = (m : Int) := by rw [wrap_in64 (by omega) (by omega)]; omega
          have hmk : (m : Int) < (k : Int) := by omega
          have hz : ((k : Int) == 0) = false := by simp; omega
          have HB : Hid (Below w.heap.size w wr) := hbel
          clear hc hy hN hx hyb hbox hbel hk0 hm
          go_wp2
          go_region_held (fun w' => w'.cell? ⟨w.heap.size, 0, none⟩ = some (.slice (some ⟨b, off, none⟩) 10 cap) ∧ w'.cell? ⟨b', off' + m, none⟩ = some (.int .i64 (j : Int)) ∧ w'.cell? ⟨b, off + j * 6 + 2, none⟩ = some (.int .i64 x2)) (go_keep) (first | (go_at_call 76; refine (specWrdTo_any _ _).mono ?_; rintro e w' ⟨rfl, rfl⟩))
          go_wp2
          go_ret
          exact ⟨ret_bool (by rw [HU.out, HE.out]; rfl), HB.out.drew⟩

end Go.Proofs.Ytklpdpdjblakgaa

/- OkS4 -/
namespace Go.Proofs.Ytklpdpdjblakgaa
open Go.RowKit
set_option linter.unusedVariables false

theorem fromTo_places (ns : List Nd) {p : Int} (h : inB p 9 = true) (k : Nat) : ∀ z ∈ fromTo ns p k, 1 ≤ z ∧ z ≤ 9 := by
  induction k with
  | zero => intro z hz; simp [fromTo] at hz
  | succ k ih =>
    intro z hz
    unfold fromTo at hz
    split at hz
    · exact ih z hz
    · rename_i h0
      rcases List.mem_append.1 hz with hz | hz
      · exact ih z hz
      · simp at hz
        have := stepK_bounds ns h k
        subst hz
        omega
theorem placesB_of {zs : List Int} (h : ∀ z ∈ zs, 1 ≤ z ∧ z ≤ 9) : placesB zs := by
  intro i hi
  have := h _ (List.getElem_mem hi)
  simpa [List.getD, hi] using this
theorem path_places {p : List Nd → Int → Int → Int → Int} {ns : List Nd} {t f l : Int} (hp : inB (p ns t f l) 9 = true) : placesB (pathOf p ns t f l) ∧ (pathOf p ns t f l).length ≤ 9 := by
  unfold pathOf
  split
  · exact ⟨placesB_of (fromTo_places ns hp 9), fromTo_len _ _ _⟩
  · exact ⟨fun i hi => by simp at hi, by simp⟩

/-- Keys rise along places. -/
def riseB (ns : List Nd) (zs : List Int) : Bool := (List.range (zs.length - 1)).all fun k => decide ((ndAt ns (zs.getD k 0)).key < (ndAt ns (zs.getD (k + 1) 0)).key)
theorem riseB_yes {ns : List Nd} {zs : List Int} (h : ∀ k, k < zs.length - 1 → (ndAt ns (zs.getD k 0)).key < (ndAt ns (zs.getD (k + 1) 0)).key) : riseB ns zs = true := by
  unfold riseB
  rw [List.all_eq_true]
  intro k hk
  exact decide_eq_true (h k (List.mem_range.1 hk))
theorem riseB_no {ns : List Nd} {zs : List Int} {k : Nat} (hk : k < zs.length - 1) (h : ¬ (ndAt ns (zs.getD k 0)).key < (ndAt ns (zs.getD (k + 1) 0)).key) : riseB ns zs = false := by
  unfold riseB
  rw [List.all_eq_false]
  exact ⟨k, List.mem_range.2 hk, by simpa using h⟩

/-- All are in use, none among others, and the last leads to none. -/
def endsB (ns : List Nd) (zs os : List Int) : Bool := usedB ns zs os && endB ns zs
/-- What ArnOk asks of three lists. -/
def okL3 (ns : List Nd) (l : Int) (C S Q : List Int) : Bool := endsB ns C [] && (endsB ns S C && (endsB ns Q (C ++ S) && (bareB ns S && (bareB ns Q && (lastB Q l && riseB ns C)))))
/-- Places are ok. -/
def okA (ns : List Nd) (t f l : Int) : Bool := shapeB ns t f l && okL3 ns l (pathOf begC ns t f l) (pathOf begS ns t f l) (pathOf begQ ns t f l)

/-- An append of numbers onto numbers of one's own, as one step of a region that draws. -/
theorem step_append_ints {ops : Array Oper} {o : Oper} {a : Act} {w : World} {K : Act → World → Prop} {Q : Exit → Act → World → Prop} {E : Prop}
    (hw : Region.wanted o (yielded ops a.tmps) = true) (s x : Operand) (hop : o.op = Op.call { callee := Callee.builtin Builtin.append, args := #[s, x], argTypes := #[37, 37] })
    (base : Nat) (aa : Option Addr) (n c : Nat) (ys : List Int) (hs : a.eval s = .slice aa n c) (hown : w.ownsRow base 3 1 (.slice aa n c) n (ys.map (Value.int .i64)))
    (ad : Option Addr) (m c2 : Nat) (zs : List Int) (hx : a.eval x = .slice ad m c2) (hz : SInts w ad m zs) (hn : n ≤ 1048576) (hm : m ≤ 1048576) (hbase : base ≤ w.heap.size)
    (hK : ∀ a' c' w', w'.ownsRow base 3 1 (.slice a' (n + m) c') (n + m) ((ys ++ zs).map (Value.int .i64)) → Below base w w' → K (a.put o.dst (.slice a' (n + m) c')) w') :
    if Region.wanted o (yielded ops a.tmps) = true then Oper.wp Try.prog o a w K Q else E := by
  obtain ⟨i0, hi, hz0, hz1, hz2⟩ := info_parts Try.info3
  rw [if_pos hw]
  unfold Oper.wp
  have hr : ∀ k, (Value.slice aa n c).ownBlock = some k → base ≤ k := by
    intro k hk
    exact (hown.lt k hk).1
  cases ad with
  | none =>
    obtain ⟨hl, h0 | ⟨b, off, e, _⟩⟩ := hz
    · subst h0
      have e : zs = [] := List.eq_nil_of_length_eq_zero hl
      subst e
      have hrun := run_append_none (P := Try.prog) w base 37 o.type 3 i0 1 Try.underlying37 hi (.slice aa n c) n c2 _ hown
      simp [execOp, hop, resolve, invoke, builtin, hs, hx, hrun, Result.andThen]
      have := hK aa c w (by simpa using hown) (Below.refl _ _)
      simp only [Nat.add_zero] at this
      exact this
    · cases e
  | some ad =>
    have hsrc := hz.src_take (f := m) (Nat.le_refl _)
    have hlen : zs.length = m := hz.1
    have hc : ∀ j u, (zs.map (Value.int .i64))[j]? = some u → w.cell? (ad.add j) = some u := by
      rcases hsrc with rfl | ⟨ad', e1, h⟩
      · intro j u hj
        rw [List.eq_nil_of_length_eq_zero hlen] at hj
        simp at hj
      · cases e1
        rw [List.take_of_length_le (by omega)] at h
        exact h
    obtain ⟨v', w', hrun, r1, r2, _⟩ := run_append_own (P := Try.prog) w base 37 o.type 3 i0 (.int .i64 0) 1 8 Try.underlying37 hi hz0 hz1 hz2 rfl (by decide) _ n _ hown ad m c2 (zs.map (Value.int .i64)) (by simp [hlen]) hc (ints_oneCell _ _) (by unfold maxLen; omega) (by omega) hbase
    simp [execOp, hop, resolve, invoke, builtin, hs, hx, hrun, Result.andThen]
    have r1' := r1
    rcases r1.2 with ⟨rfl, e⟩ | ⟨g, cap, cur, rfl, _⟩
    · rw [e] at r1' 
      have := hK none 0 w' (by rw [e]; simpa using r1') ((Below.refl _ _).grown r2 hbase hr)
      rw [e] at this
      exact this
    · exact hK (some ⟨g, 0, none⟩) cap w' (by simpa using r1) ((Below.refl _ _).grown r2 hbase hr)

end Go.Proofs.Ytklpdpdjblakgaa
