/- Several texts in one: OkI2, OkI3, OkM, OkE, OkK, Concat, Concat2, Iter, PathI, OkI4, OkI5, ValsI, ValsS, MapI. -/
import Derived.Test.YtklpdpdjblakgaaGr5
import Derived.Test.YtklpdpdjblakgaaGr2
import Derived.Deep.RegionHeldLaw
import Derived.Lib.AppendZerosOnto
import Derived.Lib.SliceRun
import Derived.RangeFuncNested
import Derived.RangeFuncBound
import Derived.RangeFuncCalls
import Derived.RangeFuncLeaves
import Derived.RangeFuncBox
import Derived.Shelf.Abstract
import Derived.Shelf.RegionOpen
import Derived.WalkKit
import Derived.OwnWalkIn
import Derived.TacticsInMore
import Derived.LoopNIn
import Derived.LoopIn
import Derived.Maps.AppendAt
import Derived.Test.YtklpdpdjblakgaaGr4
import Derived.Deep.RegionHeld
/- OkI2 -/
namespace Go.Proofs.Ytklpdpdjblakgaa
open Go.RowKit
set_option linter.unusedVariables false

/-- The ten cells of what was met among some. -/
structure MetAt (w : World) (zs : List Int) (k : Nat) (wr : World) : Prop where
  bel : Below w.heap.size w wr
  lt : w.heap.size < wr.heap.size
  cell : ∀ j : Nat, j < 10 → wr.cell? ⟨w.heap.size, j, none⟩ = some (.bool (hasB (zs.take k) (j : Int)))
  free : ∀ j : Nat, j < 10 → wr.frozen? ⟨w.heap.size, j, none⟩ = false
  once : (zs.take k).Nodup

theorem hasB_iff {zs : List Int} {x : Int} : hasB zs x = true ↔ x ∈ zs := by
  unfold hasB
  rw [List.any_eq_true]
  constructor
  · rintro ⟨z, hz, h⟩
    have : z = x := by simpa using h
    exact this ▸ hz
  · intro h
    exact ⟨x, h, by simp⟩

theorem take_next {zs : List Int} {k : Nat} {y : Int} (hk : k < zs.length) (hy : zs.getD k 0 = y) : zs.take (k + 1) = zs.take k ++ [y] := by
  rw [List.take_add_one]
  have : zs[k]? = some y := by rw [← hy]; simp [List.getD, hk]
  rw [this]
  rfl

theorem MetAt.next {w wr : World} {zs : List Int} {k j : Nat} (h : MetAt w zs k wr) (hk : k < zs.length) (hy : zs.getD k 0 = (j : Int)) (hj : j < 10) (hm : hasB (zs.take k) (j : Int) = false) :
    MetAt w zs (k + 1) (wr.setCell ⟨w.heap.size, j, none⟩ (.bool true)) := by
  refine ⟨h.bel.setCell (Nat.le_refl _) _, by simpa [World.setCell] using h.lt, fun i hi => ?_, fun i hi => ?_, ?_⟩
  · rw [take_next hk hy]
    by_cases e : i = j
    · subst e
      have : hasB (zs.take k ++ [(i : Int)]) (i : Int) = true := hasB_iff.2 (by simp)
      rw [this]
      have hc := h.cell i hi
      simp [go_sem, hc]
    · have : hasB (zs.take k ++ [(j : Int)]) (i : Int) = hasB (zs.take k) (i : Int) := by
        unfold hasB
        rw [List.any_append]
        have : ((j : Int) == (i : Int)) = false := by simp; omega
        simp [this]
      rw [this]
      have hc := h.cell i hi
      simp [go_sem, hc]
  · have hf := h.free i hi
    simp [go_sem, hf]
  · rw [take_next hk hy, List.nodup_append]
    refine ⟨h.once, by simp, fun x hx y hy2 => ?_⟩
    simp at hy2
    subst hy2
    intro e
    subst e
    rw [hasB_iff.2 hx] at hm
    cases hm

set_option maxHeartbeats 1600000 in
theorem noneTwice_any (a : Option Addr) (n c : Nat) (zs : List Int) (w : World) (hz : SInts w a n zs) (hn : n ≤ 1048576) (hp : placesB zs) :
    Calls Try.prog 82 #[.slice a n c] w fun e w' => e = .returned (.bool (decide zs.Nodup)) ∧ Below w.heap.size w w' := by
  have HZ : Hid (zs.length = n) := hz.1
  have HP : Hid (placesB zs) := hp
  have HS : Hid (SInts w a n zs) := hz
  clear hz hp
  go_enter Try.func82, Try.ntmps82
  go_wp2
  go_loopw [5, 8] (fun _ i wr => ∃ k : Nat, k ≤ n ∧ i = .int .i64 k ∧ MetAt w zs k wr) (fun _ i _ => n - (intOf i).toNat)
  case atStart =>
    refine ⟨0, Nat.zero_le _, rfl, (Below.refl _ _).alloc (Nat.le_refl _) _, by simp, fun j hj => ?_, fun j hj => ?_, by simp⟩
    · have : j = 0 ∨ j = 1 ∨ j = 2 ∨ j = 3 ∨ j = 4 ∨ j = 5 ∨ j = 6 ∨ j = 7 ∨ j = 8 ∨ j = 9 := by omega
      rcases this with rfl | rfl | rfl | rfl | rfl | rfl | rfl | rfl | rfl | rfl <;> simp [hasB]
    · have : j = 0 ∨ j = 1 ∨ j = 2 ∨ j = 3 ∨ j = 4 ∨ j = 5 ∨ j = 6 ∨ j = 7 ∨ j = 8 ∨ j = 9 := by omega
      rcases this with rfl | rfl | rfl | rfl | rfl | rfl | rfl | rfl | rfl | rfl <;> simp
  case round =>
    obtain ⟨k, hk, rfl, hmet⟩ := hrel
    by_cases hlt : k < n
    · obtain ⟨_, h0 | ⟨b', off', rfl, hc⟩⟩ := HS.out.below hmet.bel
      · omega
      · obtain ⟨y, hy⟩ : ∃ y, zs.getD k 0 = y := ⟨_, rfl⟩
        have h1 : wr.cell? ⟨b', off' + k, none⟩ = some (.int .i64 y) := by rw [← hy]; exact hc k hlt
        have hyb := HP.out k (by rw [HZ.out]; exact hlt)
        rw [hy] at hyb
        obtain ⟨j, rfl⟩ : ∃ j : Nat, y = j := ⟨y.toNat, by omega⟩
        have hj : j < 10 := by omega
        have hj' : (j : Int) < 10 := by omega
        have m1 := hmet.cell j hj
        have f1 := hmet.free j hj
        have HK : Hid (MetAt w zs k wr ∧ k < zs.length ∧ zs.getD k 0 = (j : Int)) := ⟨hmet, by rw [HZ.out]; exact hlt, hy⟩
        clear hc hy hyb hmet
        cases hm : hasB (zs.take k) (j : Int)
        · rw [hm] at m1
          go_wp2
          go_roundw
          case rel => exact ⟨k + 1, by omega, by go_num, HK.out.1.next HK.out.2.1 HK.out.2.2 hj hm⟩
          case measure => simp [intOf]; omega
        · rw [hm] at m1
          go_wp2
          go_ret
          refine ⟨ret_bool (decide_eq_false ?_).symm, HK.out.1.bel⟩
          intro hd
          have := (List.take_sublist (k + 1) zs).nodup hd
          rw [take_next HK.out.2.1 HK.out.2.2, List.nodup_append] at this
          exact this.2.2 _ (hasB_iff.1 hm) _ (by simp) rfl
    · obtain rfl : k = n := by omega
      have HK : Hid (MetAt w zs k wr) := hmet
      clear hmet
      go_wp2
      go_ret
      refine ⟨ret_bool (decide_eq_true ?_).symm, HK.out.bel⟩
      have := HK.out.once
      rwa [List.take_of_length_le (by rw [HZ.out]; exact Nat.le_refl _)] at this

end Go.Proofs.Ytklpdpdjblakgaa

/- OkI3 -/
namespace Go.Proofs.Ytklpdpdjblakgaa
open Go.RowKit
set_option linter.unusedVariables false

/-- Where the first one is that is a number; behind the end, if none is. -/
def idxOf (zs : List Int) (l : Int) : Nat := zs.findIdx (fun z => z == l)

theorem idxOf_at {zs : List Int} {l : Int} {k : Nat} (hk : k < zs.length) (h : (zs.getD k 0 == l) = true) (hb : ∀ j, j < k → (zs.getD j 0 == l) = false) : idxOf zs l = k := by
  unfold idxOf
  rw [List.findIdx_eq hk]
  refine ⟨by simpa [List.getD, hk] using h, fun j hj => ?_⟩
  have := hb j hj
  simpa [List.getD, show j < zs.length by omega] using this
theorem idxOf_none {zs : List Int} {l : Int} (hb : ∀ j, j < zs.length → (zs.getD j 0 == l) = false) : idxOf zs l = zs.length := by
  unfold idxOf
  rw [List.findIdx_eq_length]
  intro x hx
  obtain ⟨i, hi, rfl⟩ := List.mem_iff_getElem.1 hx
  have := hb i hi
  simpa [List.getD, hi] using this

theorem isLast_any (x l : Int) (g : Nat) (w : World) (hc : w.cell? ⟨g, 0, none⟩ = some (.int .i64 l)) :
    Calls Try.prog 100 #[.int .i64 x, .pointer (some ⟨g, 0, none⟩)] w fun e w' => e = .returned (.bool (x == l)) ∧ w' = w := by
  go_enter Try.func100, Try.ntmps100
  go_wp2
  go_ret
  exact ⟨rfl, rfl⟩

set_option maxHeartbeats 1600000 in
theorem findLast_any (a : Option Addr) (n c : Nat) (zs : List Int) (l : Int) (g : Nat) (w : World) (hg : w.cell? ⟨g, 0, none⟩ = some (.int .i64 l)) (hs : SInts w a n zs) (hn : n ≤ 1048576) :
    Calls Try.prog 99 #[.slice a n c, .func (Fn.func 100) #[] #[.pointer (some ⟨g, 0, none⟩)]] w fun e w' => e = .returned (.int .i64 (idxOf zs l : Nat)) ∧ w' = w := by
  have HZ : Hid (zs.length = n) := hs.1
  have HG : Hid (w.cell? ⟨g, 0, none⟩ = some (.int .i64 l)) := hg
  clear hg
  go_enter Try.func99, Try.ntmps99
  go_wp2
  go_loop [5, 6, 9] (fun _ _ i => ∃ k : Nat, k ≤ n ∧ i = .int .i64 k ∧ ∀ j, j < k → (zs.getD j 0 == l) = false) (fun _ _ i => n - (intOf i).toNat)
  case atStart => exact ⟨0, Nat.zero_le _, rfl, fun j hj => by omega⟩
  case round =>
    obtain ⟨k, hk, rfl, hall0⟩ := hrel
    have hall : Hid (∀ j, j < k → (zs.getD j 0 == l) = false) := hall0
    clear hall0
    by_cases hlt : k < n
    · obtain ⟨hz, h0 | ⟨b, off, rfl, hc⟩⟩ := hs
      · omega
      · obtain ⟨y, hy⟩ : ∃ y, zs.getD k 0 = y := ⟨_, rfl⟩
        have h1 : w.cell? ⟨b, off + k, none⟩ = some (.int .i64 y) := by rw [← hy]; exact hc k hlt
        have HY : Hid (zs.getD k 0 = y) := hy
        clear hc hy hz
        go_wp2_with (go_at_call 100; refine (isLast_any _ l g _ HG.out).mono ?_; rintro e w' ⟨rfl, rfl⟩; cases he : (y == l))
        · go_wp2
          go_round
          case rel => exact ⟨k + 1, by omega, by go_num, fun j hj => by
            by_cases e : j = k
            · subst e; rw [HY.out]; exact he
            · exact hall.out j (by omega)⟩
          case measure => simp [intOf]; omega
        · go_wp2
          go_ret
          refine ⟨?_, rfl⟩
          rw [idxOf_at (k := k) (by rw [HZ.out]; exact hlt) (by rw [HY.out]; exact he) hall.out]
          rfl
    · obtain rfl : k = n := by omega
      clear hs
      go_wp2
      go_ret
      refine ⟨?_, rfl⟩
      rw [idxOf_none (fun j hj => hall.out j (by rw [HZ.out] at hj; exact hj)), HZ.out]
      rfl

/-- As lastIsNear reckons. -/
def nearB (zs : List Int) (l : Int) : Bool := decide (idxOf zs l < zs.length) && decide ((zs.length : Int) - 2 ≤ (idxOf zs l : Int))

set_option maxHeartbeats 1600000 in
theorem lastIsNear_any (a : Option Addr) (n c : Nat) (zs : List Int) (l : Int) (w : World) (hs : SInts w a n zs) (hn : n ≤ 1048576) :
    Calls Try.prog 85 #[.slice a n c, .int .i64 l] w fun e w' => e = .returned (.bool (nearB zs l)) ∧ Below w.heap.size w w' := by
  have HZ : Hid (zs.length = n) := hs.1
  have A := al1 w (.cells #[.int .i64 l] 3)
  have hc : (w.alloc (.cells #[.int .i64 l] 3)).cell? ⟨w.heap.size, 0, none⟩ = some (.int .i64 l) := by simp
  have hs' := hs.below A
  clear hs
  have wm : IntKind.i64.wrap ((n : Int) - 2) = (n : Int) - 2 := wrap_in64 (by omega) (by omega)
  have HN : Hid (nearB zs l = (decide (idxOf zs l < n) && decide ((n : Int) - 2 ≤ (idxOf zs l : Int)))) := by show _ = _; simp only [nearB, HZ.out]
  have HA : Hid (Below w.heap.size w (w.alloc (.cells #[.int .i64 l] 3))) := A
  clear A
  go_enter Try.func85, Try.ntmps85
  go_wp2_with (go_at_call 99; refine (findLast_any _ _ _ zs l _ _ hc hs' hn).mono ?_; rintro e w' ⟨rfl, rfl⟩)
  · rename_i h
    go_ret
    exact ⟨ret_bool (by rw [HN.out, decide_eq_true h]; exact (Bool.true_and _).symm), HA.out⟩
  · rename_i h
    go_ret
    exact ⟨ret_bool (by rw [HN.out, decide_eq_false h]; rfl), HA.out⟩

end Go.Proofs.Ytklpdpdjblakgaa

/- OkM -/
namespace Go.Proofs.Ytklpdpdjblakgaa
open Go.RowKit
set_option linter.unusedVariables false

theorem fromTo_range (ns : List Nd) (p : Int) (k : Nat) : ∃ m, m ≤ k ∧ fromTo ns p k = (List.range m).map (stepK ns p) ∧ (∀ i, i < m → ¬ stepK ns p i = 0) ∧ (m = k ∨ stepK ns p m = 0) := by
  induction k with
  | zero => exact ⟨0, Nat.le_refl _, rfl, fun i hi => by omega, .inl rfl⟩
  | succ k ih =>
    obtain ⟨m, hm, e, hne, hz⟩ := ih
    unfold fromTo
    by_cases h : stepK ns p k = 0
    · rw [if_pos h]
      refine ⟨m, by omega, e, hne, .inr ?_⟩
      rcases hz with rfl | hz
      · exact h
      · exact hz
    · rw [if_neg h]
      have hmk : m = k := by
        rcases hz with rfl | hz
        · rfl
        · exact absurd (fromTo_end hz k hm).2 h
      subst hmk
      refine ⟨m + 1, Nat.le_refl _, ?_, fun i hi => ?_, .inl rfl⟩
      · rw [List.range_succ, List.map_append, e]; rfl
      · by_cases ei : i = m
        · subst ei; exact h
        · exact hne i (by omega)

theorem stepK_det {ns : List Nd} {p : Int} {i j : Nat} (h : stepK ns p i = stepK ns p j) (d : Nat) : stepK ns p (i + d) = stepK ns p (j + d) := by
  induction d with
  | zero => exact h
  | succ d ih =>
    show stepK ns p (i + d + 1) = stepK ns p (j + d + 1)
    unfold stepK
    rw [ih]

theorem steps_once {ns : List Nd} {p : Int} {m : Nat} (hne : ∀ i, i < m → ¬ stepK ns p i = 0) (hz : stepK ns p m = 0) : ((List.range m).map (stepK ns p)).Nodup := by
  unfold List.Nodup
  rw [List.pairwise_map]
  refine List.Pairwise.imp_of_mem ?_ (List.pairwise_lt_range (n := m))
  intro i j hi hj hij e
  have hi := List.mem_range.1 hi
  have hj := List.mem_range.1 hj
  have := stepK_det e (m - j)
  rw [show j + (m - j) = m by omega, hz] at this
  exact hne (i + (m - j)) (by omega) this

theorem path_once {ns : List Nd} {p : Int} (h : endB ns (fromTo ns p 9) = true) : (fromTo ns p 9).Nodup := by
  obtain ⟨m, hm, e, hne, hz⟩ := fromTo_range ns p 9
  rw [e] at h ⊢
  by_cases h0 : m = 0
  · subst h0; simp
  · refine steps_once hne ?_
    obtain ⟨r, rfl⟩ : ∃ r, m = r + 1 := ⟨m - 1, by omega⟩
    unfold endB at h
    simp [List.getD] at h
    unfold stepK
    rw [if_neg (hne r (by omega))]
    exact h

theorem near_last {zs : List Int} (l : Int) (hd : zs.Nodup) : nearB zs l = lastB zs l := by
  have hle : idxOf zs l ≤ zs.length := List.findIdx_le_length
  by_cases hin : idxOf zs l < zs.length
  · obtain ⟨k, hk⟩ : ∃ k, idxOf zs l = k := ⟨_, rfl⟩
    rw [hk] at hin
    have hat : zs[k] = l := by
      have := (List.findIdx_eq hin).1 hk
      simpa using this.1
    have hu : ∀ i (hi : i < zs.length), zs[i] = l → i = k := by
      intro i hi e
      have P := List.pairwise_iff_getElem.1 hd
      rcases Nat.lt_trichotomy i k with h | h | h
      · exact absurd (e.trans hat.symm) (P i k hi hin h)
      · exact h
      · exact absurd (hat.trans e.symm) (P k i hin hi h)
    unfold nearB lastB
    rw [hk, decide_eq_true hin, decide_eq_true (show 0 < zs.length by omega), Bool.true_and, Bool.true_and]
    by_cases h1 : k = zs.length - 1
    · have : (l == zs.getD (zs.length - 1) 0) = true := by
        subst h1
        simp [List.getD, hin, hat]
      rw [this, Bool.true_or, decide_eq_true (by omega)]
    · have n1 : (l == zs.getD (zs.length - 1) 0) = false := by
        have hl : zs.length - 1 < zs.length := by omega
        simp only [List.getD, List.getElem?_eq_getElem hl, Option.getD_some, beq_eq_false_iff_ne]
        intro e
        exact h1 (hu _ hl e.symm).symm
      rw [n1, Bool.false_or]
      by_cases h2 : k = zs.length - 2
      · have hl : zs.length - 2 < zs.length := by omega
        have : (l == zs.getD (zs.length - 2) 0) = true := by
          subst h2
          simp [List.getD, hl, hat]
        rw [this, Bool.and_true, decide_eq_true (by omega), decide_eq_true (by omega)]
      · rw [decide_eq_false (by omega)]
        by_cases h3 : 1 < zs.length
        · have hl : zs.length - 2 < zs.length := by omega
          have : (l == zs.getD (zs.length - 2) 0) = false := by
            simp only [List.getD, List.getElem?_eq_getElem hl, Option.getD_some, beq_eq_false_iff_ne]
            intro e
            exact h2 (hu _ hl e.symm).symm
          rw [this, Bool.and_false]
        · rw [decide_eq_false h3, Bool.false_and]
  · have hnone : ∀ i (hi : i < zs.length), ¬ zs[i] = l := by
      intro i hi e
      have : idxOf zs l = zs.length := by omega
      unfold idxOf at this
      rw [List.findIdx_eq_length] at this
      have := this _ (List.getElem_mem hi)
      simp [e] at this
    unfold nearB lastB
    rw [decide_eq_false hin, Bool.false_and]
    by_cases h0 : 0 < zs.length
    · have n1 : (l == zs.getD (zs.length - 1) 0) = false := by
        have hl : zs.length - 1 < zs.length := by omega
        simp only [List.getD, List.getElem?_eq_getElem hl, Option.getD_some, beq_eq_false_iff_ne]
        exact fun e => hnone _ hl e.symm
      have n2 : (l == zs.getD (zs.length - 2) 0) = false := by
        have hl : zs.length - 2 < zs.length := by omega
        simp only [List.getD, List.getElem?_eq_getElem hl, Option.getD_some, beq_eq_false_iff_ne]
        exact fun e => hnone _ hl e.symm
      rw [n1, n2]
      simp
    · rw [decide_eq_false h0, Bool.false_and]

theorem usedB_eq (ns : List Nd) (zs os : List Int) : usedB ns zs os = (inUseB ns zs && zs.all (fun z => !hasB os z)) := by
  unfold usedB inUseB
  induction zs with
  | nil => rfl
  | cons z zs ih =>
    simp only [List.all_cons, ih]
    cases (ndAt ns z).used <;> cases hasB os z <;> simp

/-- What the program asks of three lists. -/
def okI3 (ns : List Nd) (l : Int) (C S Q : List Int) : Bool := endB ns C && (endB ns S && (endB ns Q && (inUseB ns (C ++ S ++ Q) && (decide (C ++ S ++ Q).Nodup && (riseB ns C && (bareB ns S && (bareB ns Q && nearB Q l)))))))

theorem apart_iff {zs os : List Int} : (zs.all (fun z => !hasB os z)) = true ↔ ∀ z ∈ zs, ¬ z ∈ os := by
  rw [List.all_eq_true]
  constructor
  · intro h z hz ho
    have := h z hz
    rw [hasB_iff.2 ho] at this
    cases this
  · intro h z hz
    have : hasB os z = false := by
      cases e : hasB os z
      · rfl
      · exact absurd (hasB_iff.1 e) (h z hz)
    rw [this]
    rfl

theorem okI3_eq (ns : List Nd) (l : Int) (C S Q : List Int) (hC : endB ns C = true → C.Nodup) (hS : endB ns S = true → S.Nodup) (hQ : endB ns Q = true → Q.Nodup) : okI3 ns l C S Q = okL3 ns l C S Q := by
  unfold okI3 okL3 endsB
  cases eC : endB ns C
  · simp
  cases eS : endB ns S
  · simp
  cases eQ : endB ns Q
  · simp
  have dC := hC eC
  have dS := hS eS
  have dQ := hQ eQ
  rw [near_last l dQ, usedB_eq, usedB_eq, usedB_eq]
  have u : inUseB ns (C ++ S ++ Q) = (inUseB ns C && (inUseB ns S && inUseB ns Q)) := by
    unfold inUseB
    rw [List.all_append, List.all_append, Bool.and_assoc]
  have a0 : (C.all fun z => !hasB [] z) = true := apart_iff.2 (fun z _ h => by cases h)
  have d : decide (C ++ S ++ Q).Nodup = ((S.all fun z => !hasB C z) && (Q.all fun z => !hasB (C ++ S) z)) := by
    rw [Bool.eq_iff_iff, decide_eq_true_eq, Bool.and_eq_true, apart_iff, apart_iff, List.nodup_append, List.nodup_append]
    constructor
    · rintro ⟨⟨_, _, h1⟩, _, h2⟩
      exact ⟨fun z hz hc => h1 z hc z hz rfl, fun z hz hc => h2 z hc z hz rfl⟩
    · rintro ⟨h1, h2⟩
      exact ⟨⟨dC, dS, fun x hx y hy e => h1 y hy (e ▸ hx)⟩, dQ, fun x hx y hy e => h2 y hy (e ▸ hx)⟩
  rw [u, d, a0]
  cases inUseB ns C <;> cases inUseB ns S <;> cases inUseB ns Q <;> cases (S.all fun z => !hasB C z) <;> cases (Q.all fun z => !hasB (C ++ S) z) <;> cases riseB ns C <;> cases bareB ns S <;> cases bareB ns Q <;> cases lastB Q l <;> rfl

end Go.Proofs.Ytklpdpdjblakgaa

/- OkE -/
namespace Go.Proofs.Ytklpdpdjblakgaa
open Go.RowKit
set_option linter.unusedVariables false

/-- The numbers of the entries of places. -/
def entsOf (ns : List Nd) (zs : List Int) : List Int := zs.flatMap (fun z => [(ndAt ns z).key, (ndAt ns z).val])

/-- What stands in the loop of entries. -/
structure EntAt (w : World) (b off cap : Nat) (t f l : Int) (a' : Option Addr) (m c' : Nat) (L : List Int) (W : World) : Prop where
  bel : Below w.heap.size w W
  box : BoxA W w.heap.size (some ⟨b, off, none⟩) 10 cap t f l
  own : W.ownsRow (w.heap.size + 1) 88 2 (.slice a' m c') m (L.map (Value.int .i64))

theorem EntAt.below {w : World} {b off cap : Nat} {t f l : Int} {a' : Option Addr} {m c' : Nat} {L : List Int} {W W' : World} (h : EntAt w b off cap t f l a' m c' L W) (hb : Below W.heap.size W W') : EntAt w b off cap t f l a' m c' L W' :=
  ⟨below_trans' h.bel hb, h.box.below hb, ownsRow_below h.own hb⟩
theorem EntAt.grown {w : World} {b off cap : Nat} {t f l : Int} {a' : Option Addr} {m c' : Nat} {L : List Int} {W W' : World} (h : EntAt w b off cap t f l a' m c' L W) (hg : W.grownBy W' (Value.slice a' m c').ownBlock) {a2 : Option Addr} {m2 c2 : Nat} {L2 : List Int} (ho : W'.ownsRow (w.heap.size + 1) 88 2 (.slice a2 m2 c2) m2 (L2.map (Value.int .i64))) : EntAt w b off cap t f l a2 m2 c2 L2 W' :=
  { bel := h.bel.grown hg h.bel.size (fun k e => by have := (h.own.lt k e).1; omega), box := h.box.grown hg (fun e => by have := (h.own.lt _ e.symm).1; omega), own := ho }

theorem entsOf_next (ns : List Nd) {zs : List Int} {k : Nat} {y : Int} {x : Nd} (hk : k < zs.length) (hy : zs.getD k 0 = y) (hx : ndAt ns y = x) : entsOf ns (zs.take (k + 1)) = entsOf ns (zs.take k) ++ [x.key, x.val] := by
  rw [take_next hk hy]
  unfold entsOf
  rw [List.flatMap_append]
  simp [hx]

set_option maxRecDepth 20000 in
set_option maxHeartbeats 2000000 in
theorem entries_any (b off cap : Nat) (ns : List Nd) (t f l : Int) (a : Option Addr) (n c : Nat) (zs : List Int) (w : World) (hs : SNodes w (some ⟨b, off, none⟩) 10 ns) (hz : SInts w a n zs) (hn : n ≤ 1048576) (hp : placesB zs) :
    Calls Try.prog 61 #[.agg #[.slice (some ⟨b, off, none⟩) 10 cap, .int .i64 t, .int .i64 f, .int .i64 l], .slice a n c] w fun e w' => ∃ a' c', e = .returned (.slice a' n c') ∧ w'.ownsRow w.heap.size 88 2 (.slice a' n c') n ((entsOf ns zs).map (Value.int .i64)) ∧ Below w.heap.size w w' := by
  obtain ⟨i0, hi, hz0, hz1, hz2⟩ := info_parts Try.info88
  have HZ : Hid (zs.length = n) := hz.1
  have HP : Hid (placesB zs) := hp
  have A := al1 w (.cells #[.slice (some ⟨b, off, none⟩) 10 cap, .int .i64 t, .int .i64 f, .int .i64 l] 43)
  have I0 : Hid (EntAt w b off cap t f l none 0 0 [] (w.alloc (.cells #[.slice (some ⟨b, off, none⟩) 10 cap, .int .i64 t, .int .i64 f, .int .i64 l] 43))) := ⟨A, boxA_new w _ _ _ _ _ _ 43 rfl, ⟨rfl, .inl ⟨rfl, rfl⟩⟩⟩
  have HS : Hid (SNodes w (some ⟨b, off, none⟩) 10 ns ∧ SInts w a n zs) := ⟨hs, hz⟩
  clear A hs hz hp
  go_enter Try.func61, Try.ntmps61
  go_wp2
  go_loopw [5, 7, 10] (fun s _ i wr => ∃ (k : Nat) (a' : Option Addr) (c' : Nat), k ≤ n ∧ i = .int .i64 k ∧ s = .slice a' k c' ∧ EntAt w b off cap t f l a' k c' (entsOf ns (zs.take k)) wr) (fun _ _ i _ => n - (intOf i).toNat)
  case atStart => exact ⟨0, none, 0, Nat.zero_le _, rfl, rfl, I0.out⟩
  case round =>
    obtain ⟨k, a', c', hk, rfl, rfl, I⟩ := hrel
    clear I0
    by_cases hlt : k < n
    · obtain ⟨_, h0 | ⟨b', off', rfl, hc⟩⟩ := HS.out.2.below I.bel
      · omega
      · obtain ⟨y, hy⟩ : ∃ y, zs.getD k 0 = y := ⟨_, rfl⟩
        have h1 : wr.cell? ⟨b', off' + k, none⟩ = some (.int .i64 y) := by rw [← hy]; exact hc k hlt
        have hyb := HP.out k (by rw [HZ.out]; exact hlt)
        rw [hy] at hyb
        obtain ⟨j, rfl⟩ : ∃ j : Nat, y = j := ⟨y.toNat, by omega⟩
        have hj : j < 10 := by omega
        obtain ⟨b2, off2, ⟨x0, x1, x2, x3, x4, x5⟩, eab, hx, hN⟩ := (HS.out.1.below I.bel).at hj
        cases eab
        have n0 := hN.c0
        have n1 := hN.c1
        dsimp only at n0 n1
        have c0 := I.box.c0
        obtain ⟨ys, hys⟩ : ∃ ys, entsOf ns (zs.take k) = ys := ⟨_, rfl⟩
        rw [hys] at I
        have HE : Hid (entsOf ns (zs.take (k + 1)) = ys ++ [x0, x1]) := by
          show _ = _
          rw [entsOf_next ns (x := ⟨x0, x1, x2, x3, x4, x5⟩) (by rw [HZ.out]; exact hlt) hy (by simp [ndAt, List.getD, hx]), hys]
        have IA := I.below (below_trans' (Below.refl _ _).drew (al1 wr.drew (.cells #[.int .i64 x0, .int .i64 x1] 88)))
        have HI : Hid (EntAt w b off cap t f l a' k c' ys (wr.drew.alloc (.cells #[.int .i64 x0, .int .i64 x1] 88))) := IA
        have hsz := I.bel.size
        have hlt0 := I.box.lt
        have hnews : Hid (∀ jj u, ([Value.int .i64 x0, Value.int .i64 x1] : List Value)[jj]? = some u → (wr.drew.alloc (.cells #[.int .i64 x0, .int .i64 x1] 88)).cell? ((⟨wr.heap.size, 0, none⟩ : Addr).add jj) = some u) := by
          intro jj u hjj
          match jj, hjj with
          | 0, hjj => simp at hjj; subst hjj; exact (show (wr.alloc (.cells #[.int .i64 x0, .int .i64 x1] 88)).cell? ⟨wr.heap.size, 0, none⟩ = some (.int .i64 x0) by simp)
          | 1, hjj => simp at hjj; subst hjj; exact (show (wr.alloc (.cells #[.int .i64 x0, .int .i64 x1] 88)).cell? ⟨wr.heap.size, 1, none⟩ = some (.int .i64 x1) by simp)
        obtain ⟨b3, off3, x9, eab2, hx9, hN9⟩ := HS.out.1.at hj
        cases eab2
        have e9 : x9 = ⟨x0, x1, x2, x3, x4, x5⟩ := by rw [hx] at hx9; exact (Option.some.inj hx9).symm
        subst e9
        have OK0 : Hid (w.cell? ⟨b, off + j * 6, none⟩ = some (.int .i64 x0)) := hN9.c0
        have OK1 : Hid (w.cell? ⟨b, off + j * 6 + 1, none⟩ = some (.int .i64 x1)) := hN9.c1
        have HBL : Hid (b < w.heap.size) := World.block_lt_of_cell? w ⟨b, off + j * 6, none⟩ hN9.c0
        clear hc hy hN hx hyb I IA hN9 hx9
        go_wp2
        go_region_held_law (fun w' => w'.cell? ⟨w.heap.size, 0, none⟩ = some (.slice (some ⟨b, off, none⟩) 10 cap) ∧ w'.cell? ⟨b, off + j * 6, none⟩ = some (.int .i64 x0) ∧ w'.cell? ⟨b, off + j * 6 + 1, none⟩ = some (.int .i64 x1)) (first | (go_keep; done) | exact KP.out)
          ((refine step_append_mine rfl (.tmp 14) (.tmp 28) 34 rfl (w.heap.size + 1) 88 i0 (.agg #[.int .i64 0, .int .i64 0]) 2 16 Try.underlying34 hi hz0 hz1 hz2 rfl (by decide) (.slice a' k c') k (ys.map (Value.int .i64)) rfl HI.out.own ⟨wr.heap.size, 0, none⟩ 1 1 [.int .i64 x0, .int .i64 x1] rfl rfl hnews.out (by intro u hu; simp at hu; rcases hu with rfl | rfl <;> rfl) (by unfold maxLen; omega) (by omega) (by simp; omega) ?_; intro v' w2 hown hgrow; obtain ⟨a2, c2, hv, _⟩ := own2_shape (zs := ys ++ [x0, x1]) (by simpa using hown); subst hv; have HI2 : Hid (EntAt w b off cap t f l a2 (k + 1) c2 (ys ++ [x0, x1]) w2) := HI.out.grown hgrow (by simpa using hown); have KP : Hid (w2.cell? ⟨w.heap.size, 0, none⟩ = some (.slice (some ⟨b, off, none⟩) 10 cap) ∧ w2.cell? ⟨b, off + j * 6, none⟩ = some (.int .i64 x0) ∧ w2.cell? ⟨b, off + j * 6 + 1, none⟩ = some (.int .i64 x1)) := ⟨HI2.out.box.c0, (HI2.out.bel.cell (p := ⟨b, off + j * 6, none⟩) HBL.out).trans OK0.out, (HI2.out.bel.cell (p := ⟨b, off + j * 6 + 1, none⟩) HBL.out).trans OK1.out⟩; clear hown hgrow))
        all_goals
          go_wp2
          go_roundw
          case rel => exact ⟨k + 1, a2, c2, by omega, by go_num, rfl, by rw [HE.out]; exact HI2.out⟩
          case measure => simp [intOf]; omega
    · obtain rfl : k = n := by omega
      have HI : Hid (EntAt w b off cap t f l a' k c' (entsOf ns (zs.take k)) wr) := I
      have hb := I.bel
      clear I
      go_wp2
      go_ret
      refine ⟨a', c', rfl, ?_, hb⟩
      have := HI.out.own
      rw [List.take_of_length_le (by rw [HZ.out]; exact Nat.le_refl _)] at this
      exact own_mono this (by omega)

end Go.Proofs.Ytklpdpdjblakgaa

/- OkK -/
namespace Go.Proofs.Ytklpdpdjblakgaa
open Go.RowKit
set_option linter.unusedVariables false

theorem entsOf_key (ns : List Nd) (zs : List Int) (i : Nat) (hi : i < zs.length) : (entsOf ns zs).getD (i * 2) 0 = (ndAt ns (zs.getD i 0)).key := by
  induction zs generalizing i with
  | nil => simp at hi
  | cons z zs ih =>
    cases i with
    | zero => simp [entsOf]
    | succ i =>
      have := ih i (by simpa using hi)
      have e : (i + 1) * 2 = i * 2 + 1 + 1 := by omega
      rw [e]
      simp only [entsOf, List.flatMap_cons, List.cons_append, List.nil_append, List.getD_cons_succ]
      exact this

set_option maxHeartbeats 1000000 in
theorem keysRise_places (ns : List Nd) (cs : List Int) (a : Option Addr) (n cap : Nat) (w : World) (hs : SInts w a (n * 2) (entsOf ns cs)) (hl : cs.length = n) (hn : n ≤ 1048576) :
    Calls Try.prog 83 #[.slice a n cap] w fun e w' => e = .returned (.bool (riseB ns cs)) ∧ Below w.heap.size w w' := by
  have HL : Hid (cs.length = n) := hl
  clear hl
  go_enter Try.func83, Try.ntmps83
  go_wp2
  go_loopw [3] (fun i wr => ∃ k : Nat, 1 ≤ k ∧ (k ≤ n ∨ k = 1) ∧ i = .int .i64 k ∧ (∀ j, j + 1 < k → (ndAt ns (cs.getD j 0)).key < (ndAt ns (cs.getD (j + 1) 0)).key) ∧ Below w.heap.size w wr) (fun i _ => n - (intOf i).toNat)
  case atStart => exact ⟨1, Nat.le_refl _, .inr rfl, rfl, fun j hj => by omega, Below.refl _ _⟩
  case round =>
    obtain ⟨k, hk1, hk, rfl, hall, hbel⟩ := hrel
    have H2 : Hid (∀ j, j + 1 < k → (ndAt ns (cs.getD j 0)).key < (ndAt ns (cs.getD (j + 1) 0)).key) := hall
    clear hall
    by_cases hlt : k < n
    · obtain ⟨_, h0 | ⟨b, off, rfl, hc⟩⟩ := hs.below hbel
      · omega
      · obtain ⟨m, hm⟩ : ∃ m : Nat, k - 1 = m := ⟨_, rfl⟩
        obtain ⟨x, hx⟩ : ∃ x, (ndAt ns (cs.getD k 0)).key = x := ⟨_, rfl⟩
        obtain ⟨z, hz⟩ : ∃ z, (ndAt ns (cs.getD m 0)).key = z := ⟨_, rfl⟩
        have h1 : wr.cell? ⟨b, off + k * 2, none⟩ = some (.int .i64 x) := by rw [hc (k * 2) (by omega), entsOf_key ns cs k (by rw [HL.out]; exact hlt), hx]
        have h3 : wr.cell? ⟨b, off + m * 2, none⟩ = some (.int .i64 z) := by rw [hc (m * 2) (by omega), entsOf_key ns cs m (by rw [HL.out]; omega), hz]
        have wm : IntKind.i64.wrap ((k : Int) - 1) = (m : Int) := by rw [wrap_in64 (by omega) (by omega)]; omega
        have hmn : (m : Int) < (n : Int) := by omega
        have hkn : (k : Int) < (n : Int) := by omega
        have HM : Hid (m + 1 = k ∧ (ndAt ns (cs.getD m 0)).key = z ∧ (ndAt ns (cs.getD k 0)).key = x) := ⟨by omega, hz, hx⟩
        have HB : Hid (Below w.heap.size w wr) := hbel
        clear hx hz hs hc hm hbel hk
        by_cases hup : x ≤ z
        · go_wp2
          go_quiet (fail)
          go_wp2
          go_ret
          exact ⟨ret_bool (riseB_no (k := m) (by rw [HL.out]; have := HM.out.1; omega) (by rw [HM.out.1, HM.out.2.1, HM.out.2.2]; omega)).symm, below_trans' HB.out (below_drewN _ _ _)⟩
        · go_wp2
          go_quiet (fail)
          go_wp2
          go_roundw
          case rel => exact ⟨k + 1, by omega, .inl (by omega), by go_num, fun j hj => by
            by_cases e : j = m
            · subst e; rw [HM.out.1, HM.out.2.1, HM.out.2.2]; omega
            · exact H2.out j (by have := HM.out.1; omega), below_trans' HB.out (below_drewN _ _ _)⟩
          case measure => simp [intOf]; omega
    · have hge : (n : Int) ≤ (k : Int) := by omega
      clear hs
      go_wp2
      go_ret
      exact ⟨ret_bool (riseB_yes (fun j hj => H2.out j (by rw [HL.out] at hj; omega))).symm, hbel⟩

end Go.Proofs.Ytklpdpdjblakgaa

/- Concat -/
namespace Go.Proofs.Ytklpdpdjblakgaa
open Go.RowKit
set_option linter.unusedVariables false

theorem grow_run (n : Nat) (h0 : 0 < n) (hn : n ≤ 1048576) (w : World) (ty : TypeId) :
    ∃ G w', (Builtin.append_ #[37, 3] ty #[.slice none 0 0, .int .i64 (n : Int)]).run Try.prog w = .ok (.slice (some ⟨w.heap.size, 0, none⟩) n G) w' ∧ n ≤ G ∧ G ≤ maxLen ∧ w'.ownsRow w.heap.size 3 1 (.slice (some ⟨w.heap.size, 0, none⟩) 0 G) 0 [] ∧ Below w.heap.size w w' := by
  obtain ⟨i0, hi, hz0, hz1, hz2⟩ := info_parts Try.info3
  have hold : (Builtin.firstCells i0.size 0 (.slice none 0 0)).run Try.prog w.drew = .ok ([] : List Value).toArray w.drew := run_firstCells_none w.drew i0.size 0 0 0
  have h := Go.Lib.run_append_grow_zeros w 37 3 ty 3 i0 (.int .i64 0) .i64 .i64 Try.underlying37 Try.underlying3 hi hz0 none 0 0 [] hold n h0 (by omega) (by omega) (by omega) (by rw [hz2]; omega) (by rw [hz2]; exact growslice_fits (by omega) (by omega))
  rw [Nat.zero_add] at h
  have hG := grownCap_ge w n 0 3
  have hM := grownCap_le_maxLen w n 0 3 (by unfold maxLen; omega)
  have hb : Below w.heap.size w (w.drew.alloc (.cells (#[] ++ Builtin.zeroCells (Value.int .i64 0).cells n ++ Builtin.zeroCells (Value.int .i64 0).cells (grownCap w n 0 3 - n)) 3)) := below_trans' (Below.refl _ _).drew (al1 _ _)
  have hown : (w.drew.alloc (.cells (#[] ++ Builtin.zeroCells (Value.int .i64 0).cells n ++ Builtin.zeroCells (Value.int .i64 0).cells (grownCap w n 0 3 - n)) 3)).ownsRow w.heap.size 3 1 (.slice (some ⟨w.heap.size, 0, none⟩) 0 (grownCap w n 0 3)) 0 [] := by
    refine ⟨rfl, Or.inr ⟨w.heap.size, grownCap w n 0 3, #[] ++ Builtin.zeroCells (Value.int .i64 0).cells n ++ Builtin.zeroCells (Value.int .i64 0).cells (grownCap w n 0 3 - n), rfl, Nat.le_refl _, ?_, Nat.zero_le _, hM, ?_, by simp⟩⟩
    · show (w.heap.push _)[w.heap.size]? = _
      simp
    · rw [Array.size_append, Array.size_append, size_zeroCells, size_zeroCells]
      have : (Value.int .i64 0).cells.size = 1 := rfl
      rw [this]
      simp
      omega
  exact ⟨grownCap w n 0 3, _, h, hG, hM, hown, hb⟩

set_option maxHeartbeats 1000000 in
theorem grow_any (n : Nat) (hn : n ≤ 1048576) (w : World) :
    Calls Try.prog 98 #[.slice none 0 0, .int .i64 (n : Int)] w fun e w' => ∃ a' c', e = .returned (.slice a' 0 c') ∧ w'.ownsRow w.heap.size 3 1 (.slice a' 0 c') 0 [] ∧ Below w.heap.size w w' := by
  have h1 : ¬ ((n : Int) < 0) := by omega
  have wm : IntKind.i64.wrap ((n : Int) - 0) = (n : Int) := by rw [Int.sub_zero]; exact wrap_in64 (by omega) (by omega)
  have wm' : IntKind.i64.wrap (n : Int) = (n : Int) := wrap_in64 (by omega) (by omega)
  by_cases h0 : 0 < n
  · obtain ⟨G, w', hr, hg, hgm, hown, hb⟩ := grow_run n h0 hn w 37
    have HO : Hid (w'.ownsRow w.heap.size 3 1 (.slice (some ⟨w.heap.size, 0, none⟩) 0 G) 0 [] ∧ Below w.heap.size w w') := ⟨hown, hb⟩
    have h0' : (n : Int) > 0 := by omega
    unfold maxLen at hgm
    clear hown hb
    go_enter Try.func98, Try.ntmps98
    go_wp2_with (at_builtin; refine Go.Lib.wpList_append_run _ rfl _ _ _ _ rfl _ _ rfl rfl _ _ hr ?_)
    go_ret
    exact ⟨_, _, rfl, HO.out.1, HO.out.2⟩
  · obtain rfl : n = 0 := by omega
    go_enter Try.func98, Try.ntmps98
    go_wp2
    go_ret
    exact ⟨none, 0, rfl, ⟨rfl, .inl ⟨rfl, rfl⟩⟩, Below.refl _ _⟩

end Go.Proofs.Ytklpdpdjblakgaa

/- Concat2 -/
namespace Go.Proofs.Ytklpdpdjblakgaa
open Go.RowKit
set_option linter.unusedVariables false

theorem wpList_append_ints {ops : Array Oper} {rest : List Oper} {o : Oper} {a : Act} {w : World} {Q : Exit → Act → World → Prop}
    (hg : o.guard = none) (s x : Operand) (hop : o.op = Op.call { callee := Callee.builtin Builtin.append, args := #[s, x], argTypes := #[37, 37] })
    (base : Nat) (aa : Option Addr) (n c : Nat) (ys : List Int) (hs : a.eval s = .slice aa n c) (hown : w.ownsRow base 3 1 (.slice aa n c) n (ys.map (Value.int .i64)))
    (ad : Option Addr) (m c2 : Nat) (zs : List Int) (hx : a.eval x = .slice ad m c2) (hz : SInts w ad m zs) (hn : n ≤ 1048576) (hm : m ≤ 1048576) (hbase : base ≤ w.heap.size)
    (hK : ∀ a' c' w', w'.ownsRow base 3 1 (.slice a' (n + m) c') (n + m) ((ys ++ zs).map (Value.int .i64)) → Below base w w' → wpList Try.prog ops Q rest (a.put o.dst (.slice a' (n + m) c')) w') :
    wpList Try.prog ops Q (o :: rest) a w := by
  refine wpList_plain hg fun K hK' => ?_
  have hw : Region.wanted o (yielded ops a.tmps) = true := by simp [Region.wanted, hg]
  have h := step_append_ints (K := K) (Q := Q) (E := True) hw s x hop base aa n c ys hs hown ad m c2 zs hx hz hn hm hbase (fun a' c' w' h1 h2 => hK' _ _ (hK a' c' w' h1 h2))
  rw [if_pos hw] at h
  exact h

/-- The sum of the first k; the first k behind each other. -/
def sumTo (lens : Nat → Nat) : Nat → Nat
  | 0 => 0
  | k + 1 => sumTo lens k + lens k
def catTo (ls : Nat → List Int) : Nat → List Int
  | 0 => []
  | k + 1 => catTo ls k ++ ls k
theorem sumTo_le {lens : Nat → Nat} (hl : ∀ k, k < 3 → lens k ≤ 9) {k : Nat} (hk : k ≤ 3) : sumTo lens k ≤ 9 * k := by
  induction k with
  | zero => simp [sumTo]
  | succ k ih =>
    have := ih (by omega)
    have := hl k (by omega)
    unfold sumTo
    omega

/-- What stands in the second loop. -/
structure CatAt (w : World) (ls : Nat → List Int) (lens : Nat → Nat) (k : Nat) (a' : Option Addr) (c' : Nat) (W : World) : Prop where
  bel : Below w.heap.size w W
  own : W.ownsRow w.heap.size 3 1 (.slice a' (sumTo lens k) c') (sumTo lens k) ((catTo ls k).map (Value.int .i64))

set_option maxRecDepth 20000 in
set_option maxHeartbeats 2000000 in
theorem concat_any (g : Nat) (ads : Nat → Option Addr) (lens caps : Nat → Nat) (ls : Nat → List Int) (w : World) (hc0 : ∀ k, k < 3 → w.cell? ⟨g, k, none⟩ = some (.slice (ads k) (lens k) (caps k))) (hs0 : ∀ k, k < 3 → SInts w (ads k) (lens k) (ls k)) (hl0 : ∀ k, k < 3 → lens k ≤ 9) :
    Calls Try.prog 80 #[.slice (some ⟨g, 0, none⟩) 3 3] w fun e w' => ∃ a' c', e = .returned (.slice a' (sumTo lens 3) c') ∧ w'.ownsRow w.heap.size 3 1 (.slice a' (sumTo lens 3) c') (sumTo lens 3) ((catTo ls 3).map (Value.int .i64)) ∧ Below w.heap.size w w' := by
  have HC : Hid (∀ k, k < 3 → w.cell? ⟨g, k, none⟩ = some (.slice (ads k) (lens k) (caps k))) := hc0
  have HS : Hid (∀ k, k < 3 → SInts w (ads k) (lens k) (ls k)) := hs0
  have HL : Hid (∀ k, k < 3 → lens k ≤ 9) := hl0
  clear hc0 hs0 hl0
  go_enter Try.func80, Try.ntmps80
  go_wp2
  go_loop [3, 5, 11] (fun s _ i => ∃ k : Nat, k ≤ 3 ∧ i = .int .i64 k ∧ s = .int .i64 (sumTo lens k : Nat)) (fun _ _ i => 3 - (intOf i).toNat)
  case atStart => exact ⟨0, by omega, rfl, rfl⟩
  case round =>
    obtain ⟨k, hk, rfl, rfl⟩ := hrel
    obtain ⟨m, hm⟩ : ∃ m, sumTo lens k = m := ⟨_, rfl⟩
    have hmb := sumTo_le HL.out hk
    rw [hm] at hmb ⊢
    by_cases hlt : k < 3
    · obtain ⟨q, hq⟩ : ∃ q, lens k = q := ⟨_, rfl⟩
      have h1 := HC.out k hlt
      have hqb := HL.out k hlt
      rw [hq] at h1 hqb
      have HM : Hid (sumTo lens (k + 1) = m + q) := by show _ = _; unfold sumTo; rw [hm, hq]
      have wm : IntKind.i64.wrap ((m : Int) + (q : Int)) = ((m + q : Nat) : Int) := by rw [wrap_in64 (by omega) (by omega)]; omega
      have hge : ¬ (((m + q : Nat) : Int) < 0) := by omega
      have hk3 : (k : Int) < 3 := by omega
      clear hm hq
      go_wp2
      go_round
      case rel => exact ⟨k + 1, by omega, by go_num, by rw [HM.out]; first | rfl | go_num⟩
      case measure => simp [intOf]; omega
    · obtain rfl : k = 3 := by omega
      have HM : Hid (sumTo lens 3 = m) := hm
      clear hm hlt
      go_wp2_with fail
      refine (grow_any m (by omega) _).mono ?_
      rintro e w1 ⟨a1, c1, rfl, hown1, hb1⟩
      have I0 : Hid (CatAt w ls lens 0 a1 c1 w1) := ⟨hb1, hown1⟩
      clear hown1 hb1
      go_wp2
      go_loopw [6, 8, 27] (fun s _ i wr => ∃ (k : Nat) (a' : Option Addr) (c' : Nat), k ≤ 3 ∧ i = .int .i64 k ∧ s = .slice a' (sumTo lens k) c' ∧ CatAt w ls lens k a' c' wr) (fun _ _ i _ => 3 - (intOf i).toNat)
      case atStart => exact ⟨0, a1, c1, by omega, rfl, rfl, I0.out⟩
      case round =>
        obtain ⟨k, a', c', hk2, rfl, rfl, I⟩ := hrel
        clear I0
        have HI : Hid (CatAt w ls lens k a' c' wr) := I
        obtain ⟨p, hp⟩ : ∃ p, sumTo lens k = p := ⟨_, rfl⟩
        have hpb := sumTo_le HL.out hk2
        rw [hp] at hpb ⊢
        have HPk : Hid (sumTo lens k = p) := hp
        by_cases hlt : k < 3
        · obtain ⟨q, hq⟩ : ∃ q, lens k = q := ⟨_, rfl⟩
          have h1 : wr.cell? ⟨g, k, none⟩ = some (.slice (ads k) q (caps k)) := by
            have := HC.out k hlt
            rw [hq] at this
            exact (I.bel.cell (p := ⟨g, k, none⟩) (World.block_lt_of_cell? w ⟨g, k, none⟩ this)).trans this
          have hqb := HL.out k hlt
          have hsr := (HS.out k hlt).below I.bel
          rw [hq] at hqb hsr
          have HM : Hid (sumTo lens (k + 1) = p + q) := by show _ = _; unfold sumTo; rw [hp, hq]
          have hown := I.own
          rw [hp] at hown
          have hsz := I.bel.size
          have HSR : Hid (SInts wr (ads k) q (ls k)) := hsr
          have HOW : Hid (wr.ownsRow w.heap.size 3 1 (.slice a' p c') p ((catTo ls k).map (Value.int .i64))) := hown
          clear hp hq I hsr hown
          go_wp2_with (at_builtin; go_must (refine wpList_append_ints rfl (.tmp 31) (.tmp 32) rfl w.heap.size _ _ _ (catTo ls k) rfl HOW.out _ _ _ (ls k) rfl HSR.out (by omega) (by omega) hsz ?_))
          intro a2 c2 w2 hown2 hb2
          have HI2 : Hid (CatAt w ls lens (k + 1) a2 c2 w2) := ⟨HI.out.bel.trans hb2, by rw [HM.out]; unfold catTo; rw [List.map_append]; exact hown2⟩
          clear hown2 hb2
          go_wp2
          go_roundw
          case rel => exact ⟨k + 1, a2, c2, by omega, by go_num, by rw [HM.out], HI2.out⟩
          case measure => simp [intOf]; omega
        · obtain rfl : k = 3 := by omega
          clear I hp
          go_wp2
          go_ret
          exact ⟨a', c', by rw [HPk.out]; rfl, HI.out.own, HI.out.bel⟩

end Go.Proofs.Ytklpdpdjblakgaa

/- Iter -/
namespace Go.Proofs.Ytklpdpdjblakgaa
open Go.RowKit Go.Shelf
set_option linter.unusedVariables false

attribute [local go_sem] Oper.semAt_some

theorem fromTo_prefix (ns : List Nd) (p : Int) {k m : Nat} (h : k ≤ m) : fromTo ns p k <+: fromTo ns p m := by
  have key : ∀ m, fromTo ns p m <+: fromTo ns p (m + 1) := fun m => by
    show _ <+: (if stepK ns p m = 0 then fromTo ns p m else fromTo ns p m ++ [stepK ns p m])
    split
    · exact List.prefix_refl _
    · exact List.prefix_append _ _
  obtain ⟨d, rfl⟩ : ∃ d, m = k + d := ⟨m - k, by omega⟩
  induction d with
  | zero => exact List.prefix_refl _
  | succ d ih => exact (ih (by omega)).trans (key _)

set_option maxRecDepth 100000 in
set_option maxHeartbeats 2000000 in
/-- The iterator: for every loop body that keeps what lay below n₀. -/
theorem from1_in (l Bf Ba n₀ b off cap : Nat) (ns : List Nd) (t f q p : Int) (hb : b < n₀) (hBa : Ba < n₀) (hp : inB p 9 = true) (J Jx : List Int → World → Prop) (W : World)
    (hJ : AbidesFrom W.heap.size J)
    (hY : ∀ pre x W1, J pre W1 → pre.length < 9 → YieldAt Fence.wide 2 Try.prog l #[.int .i64 x] W1 fun e W' =>
      (e = .returned (.bool true) ∧ J (pre ++ [x]) W' ∧ Below n₀ W1 W') ∨ (e = .returned (.bool false) ∧ Jx (pre ++ [x]) W'))
    (hBf : W.cell? ⟨Bf, 0, none⟩ = some (.int .i64 p)) (hBx : BoxA W Ba (some ⟨b, off, none⟩) 10 cap t f q) (hs : SNodes W (some ⟨b, off, none⟩) 10 ns) (hnw : n₀ ≤ W.heap.size) (h0 : J [] W) :
    CallsIn Fence.wide 3 Try.prog 102 #[.func (.yield l) #[] #[], .pointer (some ⟨Bf, 0, none⟩), .pointer (some ⟨Ba, 0, none⟩)] W fun e W' => (∃ v, e = .returned v) ∧
      ((∃ ys, ys = fromTo ns p 9 ∧ J ys W') ∨ (∃ pre, pre <+: fromTo ns p 9 ∧ Jx pre W')) := by
  have hgr : Hid (∀ pre (A B : World), J pre A → Below A.heap.size A B → J pre B) := fun pre A B h hb => hJ pre A B none h ⟨hb.os, hb.tape, hb.output, hb.size, fun c hc _ => hb.block c hc⟩ (fun r e => by cases e)
  have HP : Hid (inB p 9 = true) := hp
  have wf1 : Fence.wide.fn 88 := trivial
  refine callsIn_of_wp Try.func102 rfl trivial ?_ rfl
  simp only [Try.ntmps102, List.size_toArray, List.length_cons, List.length_nil, Nat.reduceAdd, Nat.reduceSub, Array.replicate_succ, Array.replicate_zero, List.push_toArray, List.append_toArray, List.nil_append, List.cons_append]
  gi_wp2
  gi_loopw [4, 6] (fun at_ i wr => ∃ k : Nat, k ≤ 9 ∧ i = .int .i64 k ∧ at_ = .int .i64 (stepK ns p k) ∧ J (fromTo ns p k) wr ∧ Below n₀ W wr)
    (fun _ i _ => 9 - (intOf i).toNat)
  case atStart => exact ⟨0, Nat.zero_le _, rfl, rfl, h0, Below.refl _ _⟩
  case round =>
    obtain ⟨k, hk, rfl, rfl, hJs, hnx⟩ := hrel
    obtain ⟨x, hx⟩ : ∃ x, stepK ns p k = x := ⟨_, rfl⟩
    have hxb := stepK_bounds ns HP.out k
    rw [hx] at hxb ⊢
    have HX : Hid (stepK ns p k = x) := hx
    obtain ⟨hx0, hx9⟩ := hxb
    clear hx
    by_cases hlt : k < 9
    · by_cases hz : x = 0
      · have HR : Hid (fromTo ns p 9 = fromTo ns p k) := (fromTo_end (k := k) (by rw [HX.out]; exact hz) 9 (by omega)).1
        subst hz
        gi_wp2
        refine ⟨fun _ h => (by cases h), ?_⟩
        gi_wp2
        refine bodyPost_ret (results_none rfl _ _ _) rfl ?_
        exact ⟨⟨_, rfl⟩, .inl ⟨_, HR.out.symm, hJs⟩⟩
      · have hne : (x == 0) = false := by simpa using hz
        obtain ⟨fn, tmps, assign, body, hy, hR⟩ := hY (fromTo ns p k) x wr hJs (by have := fromTo_len ns p k; omega)
        have HG : Hid (fromTo ns p (k + 1) = fromTo ns p k ++ [x] ∧ stepK ns p (k + 1) = nextN ns x) := fromTo_go HX.out hz
        gi_wp2
        refine hR.mono ?_
        rintro e W3 (⟨rfl, hJ3, hk3⟩ | ⟨rfl, hJx3⟩)
        · obtain ⟨j, rfl⟩ : ∃ j : Nat, x = j := ⟨x.toNat, by omega⟩
          have hj : j < 10 := by omega
          obtain ⟨b', off', ⟨y0, y1, y2, y3, y4, y5⟩, eb, hyy, hN⟩ := hs.at (k := j) hj
          cases eb
          have hn3 := hnx.trans hk3
          have n0 := (hn3.cell (p := ⟨b, off + j * 6, none⟩) hb).trans hN.c0
          have n1 := (hn3.cell (p := ⟨b, off + j * 6 + 1, none⟩) hb).trans hN.c1
          have n2 := (hn3.cell (p := ⟨b, off + j * 6 + 2, none⟩) hb).trans hN.c2
          have n3 := (hn3.cell (p := ⟨b, off + j * 6 + 3, none⟩) hb).trans hN.c3
          have n4 := (hn3.cell (p := ⟨b, off + j * 6 + 4, none⟩) hb).trans hN.c4
          have n5 := (hn3.cell (p := ⟨b, off + j * 6 + 5, none⟩) hb).trans hN.c5
          have q0 := (hn3.cell (p := ⟨Ba, 0, none⟩) hBa).trans hBx.c0
          dsimp only at n0 n1 n2 n3 n4 n5
          have HW : Hid (nextN ns (j : Int) = wTo y2) := by show _ = _; simp [nextN, List.getD, hyy]
          clear hN hyy
          gi_wp2
          refine (callsIn_wide.2 (leads_any _ _ _ _ _ _ _)).mono ?_
          rintro e W4 ⟨rfl, hb4⟩
          have hn4 : Below n₀ W W4 := hn3.trans (hb4.mono (Nat.le_trans hnw hn3.size))
          have hJ4 := hgr.out _ _ _ hJ3 hb4
          clear n0 n1 n2 n3 n4 n5 q0 hJ3
          gi_wp2
          go_roundw
          case rel => exact ⟨k + 1, by omega, by simp, by rw [HG.out.2, HW.out], by rw [HG.out.1]; exact hJ4, hn4⟩
          case measure => simp [intOf]; omega
        · gi_wp2
          refine bodyPost_ret (results_none rfl _ _ _) rfl ?_
          refine ⟨⟨_, rfl⟩, .inr ⟨fromTo ns p k ++ [x], ?_, hJx3⟩⟩
          rw [← HG.out.1]
          exact fromTo_prefix ns p (by omega)
    · obtain rfl : k = 9 := by omega
      gi_wp2
      go_end0
      exact ⟨⟨_, rfl⟩, .inl ⟨_, rfl, hJs⟩⟩

/-- The iterator's contract. -/
theorem from_stops (Bf Ba n₀ b off cap : Nat) (ns : List Nd) (t f q p : Int) (w : World) (hb : b < n₀) (hBa : Ba < n₀) (hBf : Bf < w.heap.size) (hp : inB p 9 = true) (hn₀ : n₀ ≤ w.heap.size)
    (hc : w.cell? ⟨Bf, 0, none⟩ = some (.int .i64 p)) (hBx : BoxA w Ba (some ⟨b, off, none⟩) 10 cap t f q) (hs : SNodes w (some ⟨b, off, none⟩) 10 ns) :
    SeqStopsK Fence.wide 3 Try.prog 102 #[.pointer (some ⟨Bf, 0, none⟩), .pointer (some ⟨Ba, 0, none⟩)] (fun x : Int => #[Value.int .i64 x]) (Below n₀) (fun ys => ys = fromTo ns p 9) (fun pre => pre <+: fromTo ns p 9) 9 w := fun l J Jx W hW hJ _ hY h0 =>
  from1_in l Bf Ba n₀ b off cap ns t f q p hb hBa hp J Jx W hJ hY ((hW.cell (p := ⟨Bf, 0, none⟩) hBf).trans hc) (hBx.below hW) (hs.below hW) (Nat.le_trans hn₀ hW.size) h0

set_option maxRecDepth 100000 in
set_option maxHeartbeats 2000000 in
/-- slices.AppendSeq(nil, ..) over the iterator. -/
theorem appendSeq_in (Bf Ba b off cap : Nat) (ns : List Nd) (t f q p : Int) (w : World) (hb : b < w.heap.size) (hBf : Bf < w.heap.size) (hp : inB p 9 = true)
    (hc : w.cell? ⟨Bf, 0, none⟩ = some (.int .i64 p)) (hBx : BoxA w Ba (some ⟨b, off, none⟩) 10 cap t f q) (hs : SNodes w (some ⟨b, off, none⟩) 10 ns) :
    CallsIn Fence.wide 4 Try.prog 101 #[.slice none 0 0, .func (.func 102) #[] #[.pointer (some ⟨Bf, 0, none⟩), .pointer (some ⟨Ba, 0, none⟩)]] w fun e W' => ∃ v, e = .returned v ∧ W'.ownsRow w.heap.size 3 1 v (fromTo ns p 9).length ((fromTo ns p 9).map (Value.int .i64)) ∧ Below w.heap.size w W' := by
  have h1 : (1 : Nat) ≤ 4 := by omega
  have hro : Fence.wide.round = none := rfl
  have wf2 : Fence.wide.fn 102 := trivial
  obtain ⟨i0, hi, hz0, hz1, hz2⟩ := info_parts Try.info3
  refine callsIn_of_wp_marks Try.func101 rfl trivial ?_ rfl
  simp only [Try.ntmps101, List.size_toArray, List.length_cons, List.length_nil, Nat.reduceAdd, Nat.reduceSub, Array.replicate_succ, Array.replicate_zero, List.push_toArray, List.append_toArray, List.nil_append, List.cons_append]
  gi_wp2
  have bO := Boxed.new w 37 (.slice none 0 0)
  have A := al1 w (.cells #[.slice none 0 0] 37)
  refine wpIn_rangeFunc_ownG hro h1 (gf := 102) (lb := #[.pointer (some ⟨Bf, 0, none⟩), .pointer (some ⟨Ba, 0, none⟩)]) rfl wf2 (enters_of Try.func102 (by kernel_rfl) rfl)
    (from_stops Bf Ba w.heap.size b off cap ns t f q p _ hb hBx.lt (by simp; omega) hp (by simp) (cell_kept A hc) (hBx.below A) (hs.below A)) belowK_t (belowK_b (by simp)) (Below.refl _ _) (fun _ => rfl)
    (fun pre W => (∃ v, Boxed W w.heap.size 37 v ∧ W.ownsRow w.heap.size 3 1 v pre.length (pre.map (Value.int .i64)) ∧ True) ∧ Below w.heap.size w W)
    (fun _ _ _ => False)
    (OwnFrom.and (Own.from (holdsRow_own w.heap.size w.heap.size 37 3 1 (fun pre : List Int => pre.length) (fun pre => pre.map (Value.int .i64)) (fun pre v => True)) _) (ownFrom_below (Nat.le_refl _) (by simp)))
    (fun _ _ _ _ _ hs _ _ => hs)
    ⟨⟨_, bO, World.ownsRow_nil _ _ _ _, trivial⟩, A⟩
    (fun x => { tmps := #[.slice none 0 0, .func (.func 102) #[] #[.pointer (some ⟨Bf, 0, none⟩), .pointer (some ⟨Ba, 0, none⟩)], .pointer (some ⟨w.heap.size, 0, none⟩), undef, .slice none 0 0, .int .i64 x, .func (.func 102) #[] #[.pointer (some ⟨Bf, 0, none⟩), .pointer (some ⟨Ba, 0, none⟩)], .int .i64 x, undef, undef, undef, undef, undef], defers := [] }) ?assign ?body ?done ?stop
  case assign =>
    intro l x W K hK
    gi_wp2
    exact hK
  case body =>
    rintro l pre x W ⟨⟨v, hv, hrow, _⟩, hB⟩ hlt
    have hcv := hv.cell
    gi_wp2_with (gi_at_builtin; refine wpListIn_append_own _ rfl _ _ 37 rfl w.heap.size 3 i0 (.int .i64 0) 1 8 Try.underlying37 hi hz0 hz1 hz2 rfl (by decide) _ _ _ rfl (hrow.alloc _) ⟨W.heap.size, 0, none⟩ 1 1 [.int .i64 x] rfl rfl (cell_one_new _ _ _) (by simp [Value.oneCell']) (by unfold maxLen; omega) (by omega) (by have := hB.size; simp; omega) ?_; intro v' w1 hown' hgrow _; obtain ⟨g', cap', rfl⟩ := ownsRow_succ hown'; obtain ⟨hv1, hv2, hr2, hk2, hb2⟩ := hv.appended (by decide) hrow hB.size (Nat.le_refl _) hown' hgrow; have hc1 := hv1.cell; have hf1 := hv1.frozen)
    exact ⟨hk2.from _, hb2, ⟨_, hv2, by simpa using hr2, trivial⟩, hB.trans hb2⟩
  case done =>
    rintro D ys W hD rfl ⟨⟨v, hv, hrow, _⟩, hB⟩ hK
    have hcv := hv.cell
    gi_wp2
    refine ⟨by simp, .inl ⟨_, _, rfl, run_takeDeferred hK, ?_⟩⟩
    exact ⟨_, results_tmp rfl _ _ _, v, rfl, ownsRow_putObj hrow _ hK rfl, hB.trans (belowK_b (w := w) (Nat.le_refl _) W D _ _ (by simp at hD; omega) hK rfl rfl)⟩
  case stop =>
    rintro D c pre W _ _ h _
    exact h.elim

theorem collect_any (Bf Ba b off cap : Nat) (ns : List Nd) (t f q p : Int) (w : World) (hb : b < w.heap.size) (hBf : Bf < w.heap.size) (hp : inB p 9 = true)
    (hc : w.cell? ⟨Bf, 0, none⟩ = some (.int .i64 p)) (hBx : BoxA w Ba (some ⟨b, off, none⟩) 10 cap t f q) (hs : SNodes w (some ⟨b, off, none⟩) 10 ns) :
    Calls Try.prog 86 #[.func (.func 102) #[] #[.pointer (some ⟨Bf, 0, none⟩), .pointer (some ⟨Ba, 0, none⟩)]] w fun e w' => ListI (fromTo ns p 9) e w w' := by
  go_enter Try.func86, Try.ntmps86
  go_wp2_with fail
  refine (callsIn_wide.1 (appendSeq_in Bf Ba b off cap ns t f q p w hb hBf hp hc hBx hs)).mono ?_
  rintro e w1 ⟨v, rfl, ho, hb1⟩
  obtain ⟨a', c', rfl, _⟩ := own_shape ho
  have H : Hid (w1.ownsRow w.heap.size 3 1 (.slice a' (fromTo ns p 9).length c') (fromTo ns p 9).length ((fromTo ns p 9).map (Value.int .i64)) ∧ Below w.heap.size w w1) := ⟨ho, hb1⟩
  clear ho hb1 hc hBx hs
  go_wp2
  go_ret
  exact ⟨a', c', rfl, H.out.1, H.out.2⟩

set_option maxHeartbeats 1000000 in
theorem placesFrom_any (a : Option Addr) (m cap : Nat) (t f l p : Int) (w : World) :
    Calls Try.prog 87 #[.agg #[.slice a m cap, .int .i64 t, .int .i64 f, .int .i64 l], .int .i64 p] w fun e w' => e = .returned (.func (.func 102) #[] #[.pointer (some ⟨w.heap.size + 1, 0, none⟩), .pointer (some ⟨w.heap.size, 0, none⟩)]) ∧ w' = (w.alloc (.cells #[.slice a m cap, .int .i64 t, .int .i64 f, .int .i64 l] 43)).alloc (.cells #[.int .i64 p] 3) := by
  have hmf : ∀ (fn : Fn) (first cap : Array Value) (w : World), (Instr.makeFunc fn first cap).run Try.prog w = .ok (.func fn first cap) w := fun _ _ _ _ => rfl
  go_enter Try.func87, Try.ntmps87
  go_wp2
  go_ret
  exact ⟨rfl, rfl⟩

end Go.Proofs.Ytklpdpdjblakgaa

/- PathI -/
namespace Go.Proofs.Ytklpdpdjblakgaa
open Go.RowKit
set_option linter.unusedVariables false

theorem cell_at' (W : World) (cs : Array Value) (t : TypeId) (i : Nat) {b : Nat} (hb : b = W.heap.size) {v : Value} (hv : cs[i]? = some v) : (W.alloc (.cells cs t)).cell? ⟨b, i, none⟩ = some v := by
  subst hb
  simpa using hv

theorem snodes_lt {w : World} {b off : Nat} {ns : List Nd} (hs : SNodes w (some ⟨b, off, none⟩) 10 ns) : b < w.heap.size := by
  obtain ⟨b', off', x, e, _, hN⟩ := hs.at (k := 0) (by omega)
  cases e
  exact World.block_lt_of_cell? w ⟨b, off + 0 * 6, none⟩ hN.c0

/-- The iterator's value, made and collected: the two boxes. -/
theorem collect_made (b off cap : Nat) (ns : List Nd) (t f l p : Int) (w : World) (hs : SNodes w (some ⟨b, off, none⟩) 10 ns) (hp : inB p 9 = true) :
    Calls Try.prog 86 #[.func (.func 102) #[] #[.pointer (some ⟨w.heap.size + 1, 0, none⟩), .pointer (some ⟨w.heap.size, 0, none⟩)]] ((w.alloc (.cells #[.slice (some ⟨b, off, none⟩) 10 cap, .int .i64 t, .int .i64 f, .int .i64 l] 43)).alloc (.cells #[.int .i64 p] 3))
      fun e w' => ∃ a c, e = .returned (.slice a (fromTo ns p 9).length c) ∧ w'.ownsRow w.heap.size 3 1 (.slice a (fromTo ns p 9).length c) (fromTo ns p 9).length ((fromTo ns p 9).map (Value.int .i64)) ∧ Below w.heap.size w w' := by
  have A1 := al1 w (.cells #[.slice (some ⟨b, off, none⟩) 10 cap, .int .i64 t, .int .i64 f, .int .i64 l] 43)
  have A2 := al1 (w.alloc (.cells #[.slice (some ⟨b, off, none⟩) 10 cap, .int .i64 t, .int .i64 f, .int .i64 l] 43)) (.cells #[.int .i64 p] 3)
  have A := below_trans' A1 A2
  have hlt := snodes_lt hs
  refine (collect_any (w.heap.size + 1) w.heap.size b off cap ns t f l p _ (by simp; omega) (by simp) hp (cell_at' _ _ _ 0 (by simp) rfl) ((boxA_new w _ _ _ _ _ _ 43 rfl).below A2) (hs.below A)).mono ?_
  rintro e w1 ⟨a, c, rfl, ho, hb⟩
  exact ⟨a, c, rfl, own_mono ho A.size, below_trans' A hb⟩

set_option maxHeartbeats 1000000 in
theorem implArnStacked_bad (a : Option Addr) (n cap : Nat) (ns : List Nd) (t f l : Int) (w : World) (hs : SNodes w a n ns) (hn : n ≤ 9223372036854775807) (hsh : shapeB ns t f l = false) :
    Calls Try.prog 63 #[.agg #[.slice a n cap, .int .i64 t, .int .i64 f, .int .i64 l]] w fun e w' => ListI [] e w w' := by
  go_enter Try.func63, Try.ntmps63
  go_wp2_with fail
  refine (shaped_any _ _ _ ns t f l _ (hs.below (al1 w (.cells #[.slice a n cap, .int .i64 t, .int .i64 f, .int .i64 l] 43))) hn).mono ?_
  rintro e w1 ⟨rfl, hb1⟩
  have hbel := below_trans' (al1 w (.cells #[.slice a n cap, .int .i64 t, .int .i64 f, .int .i64 l] 43)) hb1
  rw [hsh]
  clear hs hb1
  go_wp2
  go_ret
  exact ⟨none, 0, rfl, World.ownsRow_nil _ _ _ _, hbel⟩

set_option maxHeartbeats 2000000 in
theorem implArnStacked_ok (b off cap : Nat) (ns : List Nd) (t f l : Int) (w : World) (hs : SNodes w (some ⟨b, off, none⟩) 10 ns) (hsh : shapeB ns t f l = true) (hp : inB (begS ns t f l) 9 = true) :
    Calls Try.prog 63 #[.agg #[.slice (some ⟨b, off, none⟩) 10 cap, .int .i64 t, .int .i64 f, .int .i64 l]] w fun e w' => ListI (fromTo ns (begS ns t f l) 9) e w w' := by
  have A := al1 w (.cells #[.slice (some ⟨b, off, none⟩) 10 cap, .int .i64 t, .int .i64 f, .int .i64 l] 43)
  have bx := boxA_new w (some ⟨b, off, none⟩) 10 cap t f l 43 rfl
  go_enter Try.func63, Try.ntmps63
  go_wp2_with fail
  refine (shaped_any _ _ _ ns t f l _ (hs.below A) (by omega)).mono ?_
  rintro e w1 ⟨rfl, hb1⟩
  have hA1 := below_trans' A hb1
  have bx1 := bx.below hb1
  have p0 := bx1.c0
  have p1 := bx1.c1
  have p2 := bx1.c2
  have p3 := bx1.c3
  rw [hsh]
  have s1 := hs.below hA1
  clear hs hb1 bx A bx1 hsh
  go_wp2_with fail
  refine (placesFrom_any _ _ _ _ _ _ _ _).mono ?_
  rintro e w3 ⟨rfl, rfl⟩
  go_wp2_with fail
  refine (collect_made b off cap ns t f l _ _ s1 hp).mono ?_
  rintro e w4 ⟨a4, c4, rfl, ho4, hb4⟩
  have H3 : Hid (w4.ownsRow w1.heap.size 3 1 (.slice a4 (fromTo ns (begS ns t f l) 9).length c4) (fromTo ns (begS ns t f l) 9).length ((fromTo ns (begS ns t f l) 9).map (Value.int .i64)) ∧ Below w.heap.size w w4) := ⟨ho4, below_trans' hA1 hb4⟩
  clear ho4 hb4
  go_wp2
  go_ret
  exact ⟨a4, c4, rfl, own_mono H3.out.1 hA1.size, H3.out.2⟩

theorem implArnStacked_any (a : Option Addr) (n cap : Nat) (ns : List Nd) (t f l : Int) (w : World) (hs : SNodes w a n ns) (hn : n ≤ 1048576) :
    Calls Try.prog 63 #[.agg #[.slice a n cap, .int .i64 t, .int .i64 f, .int .i64 l]] w fun e w' => ListI (pathOf begS ns t f l) e w w' := by
  cases hsh : shapeB ns t f l
  · have e : pathOf begS ns t f l = [] := by simp [pathOf, hsh]
    rw [e]
    exact implArnStacked_bad a n cap ns t f l w hs (by omega) hsh
  · obtain ⟨hl, _, _, h4, h5, _⟩ := shapeB_parts hsh
    obtain ⟨rfl, b, off, rfl⟩ := snodes_some hs hl
    have e : pathOf begS ns t f l = fromTo ns (begS ns t f l) 9 := by simp [pathOf, hsh]
    rw [e]
    exact implArnStacked_ok b off cap ns t f l w hs hsh (h4)

set_option maxHeartbeats 1000000 in
theorem implArnQueued_bad (a : Option Addr) (n cap : Nat) (ns : List Nd) (t f l : Int) (w : World) (hs : SNodes w a n ns) (hn : n ≤ 9223372036854775807) (hsh : shapeB ns t f l = false) :
    Calls Try.prog 64 #[.agg #[.slice a n cap, .int .i64 t, .int .i64 f, .int .i64 l]] w fun e w' => ListI [] e w w' := by
  go_enter Try.func64, Try.ntmps64
  go_wp2_with fail
  refine (shaped_any _ _ _ ns t f l _ (hs.below (al1 w (.cells #[.slice a n cap, .int .i64 t, .int .i64 f, .int .i64 l] 43))) hn).mono ?_
  rintro e w1 ⟨rfl, hb1⟩
  have hbel := below_trans' (al1 w (.cells #[.slice a n cap, .int .i64 t, .int .i64 f, .int .i64 l] 43)) hb1
  rw [hsh]
  clear hs hb1
  go_wp2
  go_ret
  exact ⟨none, 0, rfl, World.ownsRow_nil _ _ _ _, hbel⟩

set_option maxHeartbeats 2000000 in
theorem implArnQueued_ok (b off cap : Nat) (ns : List Nd) (t f l : Int) (w : World) (hs : SNodes w (some ⟨b, off, none⟩) 10 ns) (hsh : shapeB ns t f l = true) (hp : inB (begQ ns t f l) 9 = true) :
    Calls Try.prog 64 #[.agg #[.slice (some ⟨b, off, none⟩) 10 cap, .int .i64 t, .int .i64 f, .int .i64 l]] w fun e w' => ListI (fromTo ns (begQ ns t f l) 9) e w w' := by
  have A := al1 w (.cells #[.slice (some ⟨b, off, none⟩) 10 cap, .int .i64 t, .int .i64 f, .int .i64 l] 43)
  have bx := boxA_new w (some ⟨b, off, none⟩) 10 cap t f l 43 rfl
  go_enter Try.func64, Try.ntmps64
  go_wp2_with fail
  refine (shaped_any _ _ _ ns t f l _ (hs.below A) (by omega)).mono ?_
  rintro e w1 ⟨rfl, hb1⟩
  have hA1 := below_trans' A hb1
  have bx1 := bx.below hb1
  have p0 := bx1.c0
  have p1 := bx1.c1
  have p2 := bx1.c2
  have p3 := bx1.c3
  rw [hsh]
  have s1 := hs.below hA1
  clear hs hb1 bx A bx1 hsh
  go_wp2_with fail
  refine (placesFrom_any _ _ _ _ _ _ _ _).mono ?_
  rintro e w3 ⟨rfl, rfl⟩
  go_wp2_with fail
  refine (collect_made b off cap ns t f l _ _ s1 hp).mono ?_
  rintro e w4 ⟨a4, c4, rfl, ho4, hb4⟩
  have H3 : Hid (w4.ownsRow w1.heap.size 3 1 (.slice a4 (fromTo ns (begQ ns t f l) 9).length c4) (fromTo ns (begQ ns t f l) 9).length ((fromTo ns (begQ ns t f l) 9).map (Value.int .i64)) ∧ Below w.heap.size w w4) := ⟨ho4, below_trans' hA1 hb4⟩
  clear ho4 hb4
  go_wp2
  go_ret
  exact ⟨a4, c4, rfl, own_mono H3.out.1 hA1.size, H3.out.2⟩

theorem implArnQueued_any (a : Option Addr) (n cap : Nat) (ns : List Nd) (t f l : Int) (w : World) (hs : SNodes w a n ns) (hn : n ≤ 1048576) :
    Calls Try.prog 64 #[.agg #[.slice a n cap, .int .i64 t, .int .i64 f, .int .i64 l]] w fun e w' => ListI (pathOf begQ ns t f l) e w w' := by
  cases hsh : shapeB ns t f l
  · have e : pathOf begQ ns t f l = [] := by simp [pathOf, hsh]
    rw [e]
    exact implArnQueued_bad a n cap ns t f l w hs (by omega) hsh
  · obtain ⟨hl, _, _, h4, h5, _⟩ := shapeB_parts hsh
    obtain ⟨rfl, b, off, rfl⟩ := snodes_some hs hl
    have e : pathOf begQ ns t f l = fromTo ns (begQ ns t f l) 9 := by simp [pathOf, hsh]
    rw [e]
    exact implArnQueued_ok b off cap ns t f l w hs hsh (inP_inB h5)

set_option maxHeartbeats 1000000 in
theorem implArnChain_bad (a : Option Addr) (n cap : Nat) (ns : List Nd) (t f l : Int) (w : World) (hs : SNodes w a n ns) (hn : n ≤ 9223372036854775807) (hsh : shapeB ns t f l = false) :
    Calls Try.prog 59 #[.agg #[.slice a n cap, .int .i64 t, .int .i64 f, .int .i64 l]] w fun e w' => ListI [] e w w' := by
  go_enter Try.func59, Try.ntmps59
  go_wp2_with fail
  refine (shaped_any _ _ _ ns t f l _ (hs.below (al1 w (.cells #[.slice a n cap, .int .i64 t, .int .i64 f, .int .i64 l] 43))) hn).mono ?_
  rintro e w1 ⟨rfl, hb1⟩
  have hbel := below_trans' (al1 w (.cells #[.slice a n cap, .int .i64 t, .int .i64 f, .int .i64 l] 43)) hb1
  rw [hsh]
  clear hs hb1
  go_wp2
  go_ret
  exact ⟨none, 0, rfl, World.ownsRow_nil _ _ _ _, hbel⟩

set_option maxHeartbeats 2000000 in
theorem implArnChain_ok (b off cap : Nat) (ns : List Nd) (t f l : Int) (w : World) (hs : SNodes w (some ⟨b, off, none⟩) 10 ns) (hsh : shapeB ns t f l = true) (hp : inB (begC ns t f l) 9 = true) :
    Calls Try.prog 59 #[.agg #[.slice (some ⟨b, off, none⟩) 10 cap, .int .i64 t, .int .i64 f, .int .i64 l]] w fun e w' => ListI (fromTo ns (begC ns t f l) 9) e w w' := by
  have A := al1 w (.cells #[.slice (some ⟨b, off, none⟩) 10 cap, .int .i64 t, .int .i64 f, .int .i64 l] 43)
  have bx := boxA_new w (some ⟨b, off, none⟩) 10 cap t f l 43 rfl
  go_enter Try.func59, Try.ntmps59
  go_wp2_with fail
  refine (shaped_any _ _ _ ns t f l _ (hs.below A) (by omega)).mono ?_
  rintro e w1 ⟨rfl, hb1⟩
  have hA1 := below_trans' A hb1
  have bx1 := bx.below hb1
  have p0 := bx1.c0
  have p1 := bx1.c1
  have p2 := bx1.c2
  have p3 := bx1.c3
  rw [hsh]
  have s1 := hs.below hA1
  obtain ⟨b', off', ⟨y0, y1, y2, y3, y4, y5⟩, eb, hy, hN⟩ := s1.at (k := 0) (by omega)
  cases eb
  rw [Nat.zero_mul, Nat.add_zero] at hN
  have n0 := hN.c0
  have n1 := hN.c1
  have n2 := hN.c2
  have n3 := hN.c3
  have n4 := hN.c4
  have n5 := hN.c5
  dsimp only at n0 n1 n2 n3 n4 n5
  have HB : Hid (begC ns t f l = wTo y2) := by show _ = _; simp [begC, List.getD, hy]
  have hp2 : Hid (inB (wTo y2) 9 = true) := by show _ = _; rw [← HB.out]; exact hp
  have HS : Hid (SNodes w1 (some ⟨b, off, none⟩) 10 ns) := s1
  have HN : Hid (NodeAt w1 b off ⟨y0, y1, y2, y3, y4, y5⟩) := hN
  have HBX : Hid (BoxA w1 w.heap.size (some ⟨b, off, none⟩) 10 cap t f l) := bx1
  clear hs hb1 bx A bx1 hN hy s1 hp hsh
  go_wp2
  go_region_held (fun w' => w'.cell? ⟨w.heap.size, 0, none⟩ = some (.slice (some ⟨b, off, none⟩) 10 cap) ∧ w'.cell? ⟨w.heap.size, 1, none⟩ = some (.int .i64 t) ∧ w'.cell? ⟨w.heap.size, 2, none⟩ = some (.int .i64 f) ∧ w'.cell? ⟨w.heap.size, 3, none⟩ = some (.int .i64 l) ∧ w'.cell? ⟨b, off, none⟩ = some (.int .i64 y0) ∧ w'.cell? ⟨b, off + 1, none⟩ = some (.int .i64 y1) ∧ w'.cell? ⟨b, off + 2, none⟩ = some (.int .i64 y2) ∧ w'.cell? ⟨b, off + 3, none⟩ = some (.int .i64 y3) ∧ w'.cell? ⟨b, off + 4, none⟩ = some (.bool y4) ∧ w'.cell? ⟨b, off + 5, none⟩ = some (.int .i64 y5)) (go_keep) (first | (go_at_call 88; refine (leads_any _ _ _ _ _ _ _).mono ?_; rintro e w2 ⟨rfl, hb2⟩; have B2 := below_trans' (Below.refl w1.heap.size w1).drew hb2; have K2 : Hid (SNodes w2 (some ⟨b, off, none⟩) 10 ns ∧ Below w.heap.size w w2 ∧ NodeAt w2 b off ⟨y0, y1, y2, y3, y4, y5⟩ ∧ BoxA w2 w.heap.size (some ⟨b, off, none⟩) 10 cap t f l) := ⟨HS.out.below B2, below_trans' hA1 B2, HN.out.below B2, HBX.out.below B2⟩; have a0 := K2.out.2.2.2.c0; have a1 := K2.out.2.2.2.c1; have a2 := K2.out.2.2.2.c2; have a3 := K2.out.2.2.2.c3; have k0 := K2.out.2.2.1.c0; have k1 := K2.out.2.2.1.c1; have k2 := K2.out.2.2.1.c2; have k3 := K2.out.2.2.1.c3; have k4 := K2.out.2.2.1.c4; have k5 := K2.out.2.2.1.c5; dsimp only at k0 k1 k2 k3 k4 k5; clear hb2 B2) | (go_at_call 87; refine (placesFrom_any _ _ _ _ _ _ _ _).mono ?_; rintro e w3 ⟨rfl, rfl⟩; have B3 := below_trans' (al1 w2 (.cells #[.slice (some ⟨b, off, none⟩) 10 cap, .int .i64 t, .int .i64 f, .int .i64 l] 43)) (al1 _ (.cells #[.int .i64 (wTo y2)] 3)); have K3 : Hid (NodeAt ((w2.alloc (.cells #[.slice (some ⟨b, off, none⟩) 10 cap, .int .i64 t, .int .i64 f, .int .i64 l] 43)).alloc (.cells #[.int .i64 (wTo y2)] 3)) b off ⟨y0, y1, y2, y3, y4, y5⟩ ∧ BoxA ((w2.alloc (.cells #[.slice (some ⟨b, off, none⟩) 10 cap, .int .i64 t, .int .i64 f, .int .i64 l] 43)).alloc (.cells #[.int .i64 (wTo y2)] 3)) w.heap.size (some ⟨b, off, none⟩) 10 cap t f l) := ⟨K2.out.2.2.1.below B3, K2.out.2.2.2.below B3⟩; have c0 := K3.out.2.c0; have c1 := K3.out.2.c1; have c2 := K3.out.2.c2; have c3 := K3.out.2.c3; have m0 := K3.out.1.c0; have m1 := K3.out.1.c1; have m2 := K3.out.1.c2; have m3 := K3.out.1.c3; have m4 := K3.out.1.c4; have m5 := K3.out.1.c5; dsimp only at m0 m1 m2 m3 m4 m5; clear B3) | (go_at_call 86; refine (collect_made b off cap ns t f l _ _ K2.out.1 hp2.out).mono ?_; rintro e w4 ⟨a4, c4, rfl, ho4, hb4⟩; have H4 : Hid (w4.ownsRow w2.heap.size 3 1 (.slice a4 (fromTo ns (wTo y2) 9).length c4) (fromTo ns (wTo y2) 9).length ((fromTo ns (wTo y2) 9).map (Value.int .i64)) ∧ Below w2.heap.size w2 w4) := ⟨ho4, hb4⟩; have g0 := (K2.out.2.2.2.below hb4).c0; have g1 := (K2.out.2.2.2.below hb4).c1; have g2 := (K2.out.2.2.2.below hb4).c2; have g3 := (K2.out.2.2.2.below hb4).c3; have e0 := (K2.out.2.2.1.below hb4).c0; have e1 := (K2.out.2.2.1.below hb4).c1; have e2 := (K2.out.2.2.1.below hb4).c2; have e3 := (K2.out.2.2.1.below hb4).c3; have e4 := (K2.out.2.2.1.below hb4).c4; have e5 := (K2.out.2.2.1.below hb4).c5; dsimp only at e0 e1 e2 e3 e4 e5; clear ho4 hb4))
  go_wp2
  go_ret
  refine ⟨a4, c4, ?_⟩
  rw [HB.out]
  exact ⟨rfl, own_mono H4.out.1 K2.out.2.1.size, below_trans' K2.out.2.1 H4.out.2⟩

theorem implArnChain_any (a : Option Addr) (n cap : Nat) (ns : List Nd) (t f l : Int) (w : World) (hs : SNodes w a n ns) (hn : n ≤ 1048576) :
    Calls Try.prog 59 #[.agg #[.slice a n cap, .int .i64 t, .int .i64 f, .int .i64 l]] w fun e w' => ListI (pathOf begC ns t f l) e w w' := by
  cases hsh : shapeB ns t f l
  · have e : pathOf begC ns t f l = [] := by simp [pathOf, hsh]
    rw [e]
    exact implArnChain_bad a n cap ns t f l w hs (by omega) hsh
  · obtain ⟨hl, _, _, h4, h5, _⟩ := shapeB_parts hsh
    obtain ⟨rfl, b, off, rfl⟩ := snodes_some hs hl
    have e : pathOf begC ns t f l = fromTo ns (begC ns t f l) 9 := by simp [pathOf, hsh]
    rw [e]
    exact implArnChain_ok b off cap ns t f l w hs hsh (begC_in ns t f l)

end Go.Proofs.Ytklpdpdjblakgaa

/- OkI4 -/
namespace Go.Proofs.Ytklpdpdjblakgaa
open Go.RowKit
set_option linter.unusedVariables false

theorem placesB_mem {zs : List Int} (h : placesB zs) {z : Int} (hz : z ∈ zs) : 1 ≤ z ∧ z ≤ 9 := by
  obtain ⟨i, hi, rfl⟩ := List.mem_iff_getElem.1 hz
  have := h i hi
  simpa [List.getD, hi] using this

theorem concat3_any (g : Nat) (a1 a2 a3 : Option Addr) (n1 n2 n3 c1 c2 c3 : Nat) (l1 l2 l3 : List Int) (w : World) (h1 : w.cell? ⟨g, 0, none⟩ = some (.slice a1 n1 c1)) (h2 : w.cell? ⟨g, 1, none⟩ = some (.slice a2 n2 c2)) (h3 : w.cell? ⟨g, 2, none⟩ = some (.slice a3 n3 c3))
    (s1 : SInts w a1 n1 l1) (s2 : SInts w a2 n2 l2) (s3 : SInts w a3 n3 l3) (b1 : n1 ≤ 9) (b2 : n2 ≤ 9) (b3 : n3 ≤ 9) :
    Calls Try.prog 80 #[.slice (some ⟨g, 0, none⟩) 3 3] w fun e w' => ∃ a' c', e = .returned (.slice a' (n1 + n2 + n3) c') ∧ SInts w' a' (n1 + n2 + n3) (l1 ++ l2 ++ l3) ∧ Below w.heap.size w w' := by
  refine (concat_any g (fun k => match k with | 0 => a1 | 1 => a2 | _ => a3) (fun k => match k with | 0 => n1 | 1 => n2 | _ => n3) (fun k => match k with | 0 => c1 | 1 => c2 | _ => c3) (fun k => match k with | 0 => l1 | 1 => l2 | _ => l3) w ?_ ?_ ?_).mono ?_
  · intro k hk
    match k, hk with
    | 0, _ => exact h1
    | 1, _ => exact h2
    | 2, _ => exact h3
  · intro k hk
    match k, hk with
    | 0, _ => exact s1
    | 1, _ => exact s2
    | 2, _ => exact s3
  · intro k hk
    match k, hk with
    | 0, _ => exact b1
    | 1, _ => exact b2
    | 2, _ => exact b3
  · rintro e w' ⟨a', c', rfl, ho, hb⟩
    simp only [sumTo, catTo, Nat.zero_add, List.nil_append] at ho ⊢
    exact ⟨a', c', rfl, own_sints ho, hb⟩

set_option maxRecDepth 20000 in
set_option maxHeartbeats 4000000 in
theorem implArnOk_ok (b off cap : Nat) (ns : List Nd) (t f l : Int) (w : World) (hs : SNodes w (some ⟨b, off, none⟩) 10 ns) (hsh : shapeB ns t f l = true) (C S Q : List Int) (eC : pathOf begC ns t f l = C) (eS : pathOf begS ns t f l = S) (eQ : pathOf begQ ns t f l = Q) :
    Calls Try.prog 58 #[.agg #[.slice (some ⟨b, off, none⟩) 10 cap, .int .i64 t, .int .i64 f, .int .i64 l]] w fun e w' => e = .returned (.bool (okI3 ns l C S Q)) ∧ Below w.heap.size w w' := by
  obtain ⟨_, _, _, h4, h5, _⟩ := shapeB_parts hsh
  have HP : Hid ((placesB C ∧ C.length ≤ 9) ∧ (placesB S ∧ S.length ≤ 9) ∧ (placesB Q ∧ Q.length ≤ 9)) := ⟨eC ▸ path_places (begC_in ns t f l), eS ▸ path_places (p := begS) h4, eQ ▸ path_places (p := begQ) (inP_inB h5)⟩
  have hc0 := implArnChain_any (some ⟨b, off, none⟩) 10 cap ns t f l
  have hst0 := implArnStacked_any (some ⟨b, off, none⟩) 10 cap ns t f l
  have hq0 := implArnQueued_any (some ⟨b, off, none⟩) 10 cap ns t f l
  rw [eC] at hc0
  rw [eS] at hst0
  rw [eQ] at hq0
  obtain ⟨nC, lC⟩ : ∃ n, C.length = n := ⟨_, rfl⟩
  obtain ⟨nS, lS⟩ : ∃ n, S.length = n := ⟨_, rfl⟩
  obtain ⟨nQ, lQ⟩ : ∃ n, Q.length = n := ⟨_, rfl⟩
  have HL : Hid ((C.length = nC ∧ S.length = nS ∧ Q.length = nQ) ∧ nC ≤ 9 ∧ nS ≤ 9 ∧ nQ ≤ 9) := ⟨⟨lC, lS, lQ⟩, lC ▸ HP.out.1.2, lS ▸ HP.out.2.1.2, lQ ▸ HP.out.2.2.2⟩
  have HPA : Hid (placesB (C ++ S ++ Q)) := placesB_of (fun z hz => by
    rcases List.mem_append.1 hz with hz | hz
    · rcases List.mem_append.1 hz with hz | hz
      · exact placesB_mem HP.out.1.1 hz
      · exact placesB_mem HP.out.2.1.1 hz
    · exact placesB_mem HP.out.2.2.1 hz)
  have hc : Hid (∀ W, SNodes W (some ⟨b, off, none⟩) 10 ns → Calls Try.prog 59 #[.agg #[.slice (some ⟨b, off, none⟩) 10 cap, .int .i64 t, .int .i64 f, .int .i64 l]] W fun e w' => ∃ a c, e = .returned (.slice a nC c) ∧ SInts w' a nC C ∧ Below W.heap.size W w') := fun W h => (hc0 W h (by omega)).mono (by rintro e w' ⟨a, c, rfl, ho, hb⟩; rw [lC] at ho ⊢; exact ⟨a, c, rfl, own_sints ho, hb⟩)
  have hst : Hid (∀ W, SNodes W (some ⟨b, off, none⟩) 10 ns → Calls Try.prog 63 #[.agg #[.slice (some ⟨b, off, none⟩) 10 cap, .int .i64 t, .int .i64 f, .int .i64 l]] W fun e w' => ∃ a c, e = .returned (.slice a nS c) ∧ SInts w' a nS S ∧ Below W.heap.size W w') := fun W h => (hst0 W h (by omega)).mono (by rintro e w' ⟨a, c, rfl, ho, hb⟩; rw [lS] at ho ⊢; exact ⟨a, c, rfl, own_sints ho, hb⟩)
  have hq : Hid (∀ W, SNodes W (some ⟨b, off, none⟩) 10 ns → Calls Try.prog 64 #[.agg #[.slice (some ⟨b, off, none⟩) 10 cap, .int .i64 t, .int .i64 f, .int .i64 l]] W fun e w' => ∃ a c, e = .returned (.slice a nQ c) ∧ SInts w' a nQ Q ∧ Below W.heap.size W w') := fun W h => (hq0 W h (by omega)).mono (by rintro e w' ⟨a, c, rfl, ho, hb⟩; rw [lQ] at ho ⊢; exact ⟨a, c, rfl, own_sints ho, hb⟩)
  have A := al1 w (.cells #[.slice (some ⟨b, off, none⟩) 10 cap, .int .i64 t, .int .i64 f, .int .i64 l] 43)
  have bx := boxA_new w (some ⟨b, off, none⟩) 10 cap t f l 43 rfl
  clear hc0 hst0 hq0 h4 h5 eC eS eQ lC lS lQ
  go_enter Try.func58, Try.ntmps58
  go_wp2_with fail
  refine (shaped_any _ _ _ ns t f l _ (hs.below A) (by omega)).mono ?_
  rintro e w1 ⟨rfl, hb1⟩
  rw [hsh]
  have HX : Hid (BoxA w1 w.heap.size (some ⟨b, off, none⟩) 10 cap t f l ∧ SNodes w1 (some ⟨b, off, none⟩) 10 ns ∧ Below w.heap.size w w1) := ⟨bx.below hb1, hs.below (below_trans' A hb1), below_trans' A hb1⟩
  clear hb1 bx A hsh hs
  obtain ⟨p0, p1, p2, p3⟩ := HX.out.1.cells
  go_wp2
  have HB0 : Hid (Below w1.heap.size w1 w1.drew) := (Below.refl _ _).drew
  go_region_held_law (fun w' => w'.cell? ⟨w.heap.size, 0, none⟩ = some (.slice (some ⟨b, off, none⟩) 10 cap) ∧ w'.cell? ⟨w.heap.size, 1, none⟩ = some (.int .i64 t) ∧ w'.cell? ⟨w.heap.size, 2, none⟩ = some (.int .i64 f) ∧ w'.cell? ⟨w.heap.size, 3, none⟩ = some (.int .i64 l)) (first | (go_keep; done) | exact KP.out)
    ((first
      | (go_at_call 59; refine (hc.out _ (HX.out.2.1.below HB0.out)).mono ?_; rintro e w2 ⟨aC, cC, rfl, sC, hb2⟩; have HC : Hid (SInts w2 aC nC C) := sC; have HB2 : Hid (Below w1.heap.size w1 w2) := below_trans' HB0.out hb2; have KP : Hid (w2.cell? ⟨w.heap.size, 0, none⟩ = some (.slice (some ⟨b, off, none⟩) 10 cap) ∧ w2.cell? ⟨w.heap.size, 1, none⟩ = some (.int .i64 t) ∧ w2.cell? ⟨w.heap.size, 2, none⟩ = some (.int .i64 f) ∧ w2.cell? ⟨w.heap.size, 3, none⟩ = some (.int .i64 l)) := (HX.out.1.below HB2.out).cells; clear sC hb2)
      | (go_at_call 63; refine (hst.out _ (HX.out.2.1.below HB2.out)).mono ?_; rintro e w3 ⟨aS, cS, rfl, sS, hb3⟩; have HS3 : Hid (SInts w3 aS nS S ∧ SInts w3 aC nC C) := ⟨sS, HC.out.below hb3⟩; have HB3 : Hid (Below w1.heap.size w1 w3) := below_trans' HB2.out hb3; have KP : Hid (w3.cell? ⟨w.heap.size, 0, none⟩ = some (.slice (some ⟨b, off, none⟩) 10 cap) ∧ w3.cell? ⟨w.heap.size, 1, none⟩ = some (.int .i64 t) ∧ w3.cell? ⟨w.heap.size, 2, none⟩ = some (.int .i64 f) ∧ w3.cell? ⟨w.heap.size, 3, none⟩ = some (.int .i64 l)) := (HX.out.1.below HB3.out).cells; clear sS hb3)
      | (go_at_call 64; refine (hq.out _ (HX.out.2.1.below HB3.out)).mono ?_; rintro e W ⟨aQ, cQ, rfl, sQ, hb4⟩; have HQ4 : Hid (SInts W aQ nQ Q ∧ SInts W aS nS S ∧ SInts W aC nC C) := ⟨sQ, HS3.out.1.below hb4, HS3.out.2.below hb4⟩; have HB4 : Hid (Below w1.heap.size w1 W) := below_trans' HB3.out hb4; have KP : Hid (W.cell? ⟨w.heap.size, 0, none⟩ = some (.slice (some ⟨b, off, none⟩) 10 cap) ∧ W.cell? ⟨w.heap.size, 1, none⟩ = some (.int .i64 t) ∧ W.cell? ⟨w.heap.size, 2, none⟩ = some (.int .i64 f) ∧ W.cell? ⟨w.heap.size, 3, none⟩ = some (.int .i64 l)) := (HX.out.1.below HB4.out).cells; clear sQ hb4)))
  have HY : Hid (BoxA W w.heap.size (some ⟨b, off, none⟩) 10 cap t f l ∧ SNodes W (some ⟨b, off, none⟩) 10 ns ∧ SInts W aC nC C ∧ SInts W aS nS S ∧ SInts W aQ nQ Q ∧ Below w.heap.size w W) := ⟨HX.out.1.below HB4.out, HX.out.2.1.below HB4.out, HQ4.out.2.2, HQ4.out.2.1, HQ4.out.1, below_trans' HX.out.2.2 HB4.out⟩
  clear HX HB0 HB2 HB3 HB4 HC HS3 HQ4 hc hst hq p0 p1 p2 p3
  obtain ⟨p0, p1, p2, p3⟩ := HY.out.1.cells
  have HB : Hid (Below W.heap.size W W) := Below.refl _ _
  go_wp2_with fail
  refine (endI_any b off cap ns t f l aC nC cC C _ (HY.out.2.1.below HB.out) (HY.out.2.2.1.below HB.out) (by have := HL.out; omega) HP.out.1.1).mono ?_
  rintro e v10 ⟨rfl, hb⟩
  have HB' : Hid (Below W.heap.size W v10) := below_trans' HB.out hb
  clear HB hb p0 p1 p2 p3
  have HB := HB'
  clear HB'
  obtain ⟨p0, p1, p2, p3⟩ := (HY.out.1.below HB.out).cells
  cases e1 : endB ns C
  · go_wp2
    go_ret
    exact ⟨ret_bool (by simp [okI3, e1]), below_trans' HY.out.2.2.2.2.2 HB.out⟩
  have E1 : Hid (endB ns C = true) := e1
  clear e1
  go_wp2_with fail
  refine (endI_any b off cap ns t f l aS nS cS S _ (HY.out.2.1.below HB.out) (HY.out.2.2.2.1.below HB.out) (by have := HL.out; omega) HP.out.2.1.1).mono ?_
  rintro e v11 ⟨rfl, hb⟩
  have HB' : Hid (Below W.heap.size W v11) := below_trans' HB.out hb
  clear HB hb p0 p1 p2 p3
  have HB := HB'
  clear HB'
  obtain ⟨p0, p1, p2, p3⟩ := (HY.out.1.below HB.out).cells
  cases e2 : endB ns S
  · go_wp2
    go_ret
    exact ⟨ret_bool (by simp [okI3, E1.out, e2]), below_trans' HY.out.2.2.2.2.2 HB.out⟩
  have E2 : Hid (endB ns S = true) := e2
  clear e2
  go_wp2_with fail
  refine (endI_any b off cap ns t f l aQ nQ cQ Q _ (HY.out.2.1.below HB.out) (HY.out.2.2.2.2.1.below HB.out) (by have := HL.out; omega) HP.out.2.2.1).mono ?_
  rintro e v12 ⟨rfl, hb⟩
  have HB' : Hid (Below W.heap.size W v12) := below_trans' HB.out hb
  clear HB hb p0 p1 p2 p3
  have HB := HB'
  clear HB'
  obtain ⟨p0, p1, p2, p3⟩ := (HY.out.1.below HB.out).cells
  cases e3 : endB ns Q
  · go_wp2
    go_ret
    exact ⟨ret_bool (by simp [okI3, E1.out, E2.out, e3]), below_trans' HY.out.2.2.2.2.2 HB.out⟩
  have E3 : Hid (endB ns Q = true) := e3
  clear e3
  have HBA : Hid (Below W.heap.size W (v12.alloc (.cells #[.slice aC nC cC, .slice aS nS cS, .slice aQ nQ cQ] 37))) := below_trans' HB.out (al1 _ _)
  go_wp2_with fail
  refine (concat3_any v12.heap.size aC aS aQ nC nS nQ cC cS cQ C S Q _ (by simp) (by simp) (by simp) (HY.out.2.2.1.below HBA.out) (HY.out.2.2.2.1.below HBA.out) (HY.out.2.2.2.2.1.below HBA.out) (by have := HL.out; omega) (by have := HL.out; omega) (by have := HL.out; omega)).mono ?_
  rintro e u1 ⟨aA, cA, rfl, sA, hb⟩
  have HB' : Hid (Below W.heap.size W u1) := below_trans' HBA.out hb
  have HA : Hid (SInts u1 aA (nC + nS + nQ) (C ++ S ++ Q)) := sA
  clear HB HBA hb sA p0 p1 p2 p3
  have HB := HB'
  clear HB'
  obtain ⟨p0, p1, p2, p3⟩ := (HY.out.1.below HB.out).cells
  go_wp2_with fail
  refine (allUsed_any b off cap ns t f l aA (nC + nS + nQ) cA (C ++ S ++ Q) _ (HY.out.2.1.below HB.out) HA.out (by have := HL.out; omega) HPA.out).mono ?_
  rintro e v13 ⟨rfl, hb⟩
  have HA2 := HA.out.below hb
  have HB' : Hid (Below W.heap.size W v13) := below_trans' HB.out hb
  clear HB hb p0 p1 p2 p3
  have HB := HB'
  clear HB'
  obtain ⟨p0, p1, p2, p3⟩ := (HY.out.1.below HB.out).cells
  clear HA
  have HA : Hid (SInts v13 aA (nC + nS + nQ) (C ++ S ++ Q)) := HA2
  clear HA2
  cases e4 : inUseB ns (C ++ S ++ Q)
  · go_wp2
    go_ret
    exact ⟨ret_bool (by simp only [okI3, E1.out, E2.out, E3.out, e4, Bool.true_and, Bool.false_and]), below_trans' HY.out.2.2.2.2.2 HB.out⟩
  have E4 : Hid (inUseB ns (C ++ S ++ Q) = true) := e4
  clear e4
  go_wp2_with fail
  refine (noneTwice_any aA (nC + nS + nQ) cA (C ++ S ++ Q) _ HA.out (by have := HL.out; omega) HPA.out).mono ?_
  rintro e v14 ⟨rfl, hb⟩
  have HB' : Hid (Below W.heap.size W v14) := below_trans' HB.out hb
  clear HB hb p0 p1 p2 p3
  have HB := HB'
  clear HB'
  obtain ⟨p0, p1, p2, p3⟩ := (HY.out.1.below HB.out).cells
  cases e5 : decide (C ++ S ++ Q).Nodup
  · go_wp2
    go_ret
    exact ⟨ret_bool (by simp only [okI3, E1.out, E2.out, E3.out, E4.out, e5, Bool.true_and, Bool.false_and]), below_trans' HY.out.2.2.2.2.2 HB.out⟩
  have E5 : Hid (decide (C ++ S ++ Q).Nodup = true) := e5
  clear e5
  go_wp2_with fail
  refine (entries_any b off cap ns t f l aC nC cC C _ (HY.out.2.1.below HB.out) (HY.out.2.2.1.below HB.out) (by have := HL.out; omega) HP.out.1.1).mono ?_
  rintro e u2 ⟨aE, cE, rfl, oE, hb⟩
  have HE := own2_sints oE
  have HB' : Hid (Below W.heap.size W u2) := below_trans' HB.out hb
  clear HB hb p0 p1 p2 p3 oE HA
  have HB := HB'
  clear HB'
  obtain ⟨p0, p1, p2, p3⟩ := (HY.out.1.below HB.out).cells
  go_wp2_with fail
  refine (keysRise_places ns C aE nC cE _ HE HL.out.1.1 (by have := HL.out; omega)).mono ?_
  rintro e v15 ⟨rfl, hb⟩
  have HB' : Hid (Below W.heap.size W v15) := below_trans' HB.out hb
  clear HB hb HE p0 p1 p2 p3
  have HB := HB'
  clear HB'
  obtain ⟨p0, p1, p2, p3⟩ := (HY.out.1.below HB.out).cells
  cases e6 : riseB ns C
  · go_wp2
    go_ret
    exact ⟨ret_bool (by simp only [okI3, E1.out, E2.out, E3.out, E4.out, E5.out, e6, Bool.true_and, Bool.false_and]), below_trans' HY.out.2.2.2.2.2 HB.out⟩
  have E6 : Hid (riseB ns C = true) := e6
  clear e6
  go_wp2_with fail
  refine (noneMarked_any b off cap ns t f l aS nS cS S _ (HY.out.2.1.below HB.out) (HY.out.2.2.2.1.below HB.out) (by have := HL.out; omega) HP.out.2.1.1).mono ?_
  rintro e v16 ⟨rfl, hb⟩
  have HB' : Hid (Below W.heap.size W v16) := below_trans' HB.out hb
  clear HB hb p0 p1 p2 p3
  have HB := HB'
  clear HB'
  obtain ⟨p0, p1, p2, p3⟩ := (HY.out.1.below HB.out).cells
  cases e7 : bareB ns S
  · go_wp2
    go_ret
    exact ⟨ret_bool (by simp only [Bool.true_and, Bool.false_and, okI3, E1.out, E2.out, E3.out, E4.out, E5.out, E6.out, e7]), below_trans' HY.out.2.2.2.2.2 HB.out⟩
  have E7 : Hid (bareB ns S = true) := e7
  clear e7
  go_wp2_with fail
  refine (noneMarked_any b off cap ns t f l aQ nQ cQ Q _ (HY.out.2.1.below HB.out) (HY.out.2.2.2.2.1.below HB.out) (by have := HL.out; omega) HP.out.2.2.1).mono ?_
  rintro e v17 ⟨rfl, hb⟩
  have HB' : Hid (Below W.heap.size W v17) := below_trans' HB.out hb
  clear HB hb p0 p1 p2 p3
  have HB := HB'
  clear HB'
  obtain ⟨p0, p1, p2, p3⟩ := (HY.out.1.below HB.out).cells
  cases e8 : bareB ns Q
  · go_wp2
    go_ret
    exact ⟨ret_bool (by simp only [Bool.true_and, Bool.false_and, okI3, E1.out, E2.out, E3.out, E4.out, E5.out, E6.out, E7.out, e8]), below_trans' HY.out.2.2.2.2.2 HB.out⟩
  have E8 : Hid (bareB ns Q = true) := e8
  clear e8
  go_wp2_with fail
  refine (lastIsNear_any aQ nQ cQ Q l _ (HY.out.2.2.2.2.1.below HB.out) (by have := HL.out; omega)).mono ?_
  rintro e v18 ⟨rfl, hb⟩
  have HB' : Hid (Below W.heap.size W v18) := below_trans' HB.out hb
  clear HB hb p0 p1 p2 p3
  have HB := HB'
  clear HB'
  obtain ⟨p0, p1, p2, p3⟩ := (HY.out.1.below HB.out).cells
  go_wp2
  go_ret
  exact ⟨ret_bool (by simp only [okI3, E1.out, E2.out, E3.out, E4.out, E5.out, E6.out, E7.out, E8.out, Bool.true_and]), below_trans' HY.out.2.2.2.2.2 HB.out⟩

end Go.Proofs.Ytklpdpdjblakgaa

/- OkI5 -/
namespace Go.Proofs.Ytklpdpdjblakgaa
open Go.RowKit
set_option linter.unusedVariables false

set_option maxHeartbeats 1000000 in
theorem implArnOk_bad (a : Option Addr) (n cap : Nat) (ns : List Nd) (t f l : Int) (w : World) (hs : SNodes w a n ns) (hn : n ≤ 9223372036854775807) (hsh : shapeB ns t f l = false) :
    Calls Try.prog 58 #[.agg #[.slice a n cap, .int .i64 t, .int .i64 f, .int .i64 l]] w fun e w' => e = .returned (.bool false) ∧ Below w.heap.size w w' := by
  go_enter Try.func58, Try.ntmps58
  go_wp2_with fail
  refine (shaped_any _ _ _ ns t f l _ (hs.below (al1 w (.cells #[.slice a n cap, .int .i64 t, .int .i64 f, .int .i64 l] 43))) hn).mono ?_
  rintro e w1 ⟨rfl, hb1⟩
  have hbel := below_trans' (al1 w (.cells #[.slice a n cap, .int .i64 t, .int .i64 f, .int .i64 l] 43)) hb1
  rw [hsh]
  clear hs hb1
  go_wp2
  go_ret
  exact ⟨rfl, hbel⟩

theorem path_once' {p : List Nd → Int → Int → Int → Int} {ns : List Nd} {t f l : Int} (h : endB ns (pathOf p ns t f l) = true) : (pathOf p ns t f l).Nodup := by
  unfold pathOf at h ⊢
  split
  · rename_i hs
    rw [if_pos hs] at h
    exact path_once h
  · simp

theorem implArnOk_any (a : Option Addr) (n cap : Nat) (ns : List Nd) (t f l : Int) (w : World) (hs : SNodes w a n ns) (hn : n ≤ 1048576) :
    Calls Try.prog 58 #[.agg #[.slice a n cap, .int .i64 t, .int .i64 f, .int .i64 l]] w fun e w' => e = .returned (.bool (okA ns t f l)) ∧ Below w.heap.size w w' := by
  cases hsh : shapeB ns t f l
  · have e : okA ns t f l = false := by simp [okA, hsh]
    rw [e]
    exact implArnOk_bad a n cap ns t f l w hs (by omega) hsh
  · obtain ⟨hl, _⟩ := shapeB_parts hsh
    obtain ⟨rfl, b, off, rfl⟩ := snodes_some hs hl
    have e : okA ns t f l = okI3 ns l (pathOf begC ns t f l) (pathOf begS ns t f l) (pathOf begQ ns t f l) := by
      rw [okI3_eq _ _ _ _ _ path_once' path_once' path_once']
      simp [okA, hsh]
    rw [e]
    exact implArnOk_ok b off cap ns t f l w hs hsh _ _ _ rfl rfl rfl

end Go.Proofs.Ytklpdpdjblakgaa

/- ValsI -/
namespace Go.Proofs.Ytklpdpdjblakgaa
open Go.RowKit
set_option linter.unusedVariables false

/-- The values of places. -/
def valsOf (ns : List Nd) (zs : List Int) : List Int := zs.map (fun z => (ndAt ns z).val)
theorem valsOf_next (ns : List Nd) {zs : List Int} {k : Nat} {y : Int} {x : Nd} (hk : k < zs.length) (hy : zs.getD k 0 = y) (hx : ndAt ns y = x) : valsOf ns (zs.take (k + 1)) = valsOf ns (zs.take k) ++ [x.val] := by
  rw [take_next hk hy]
  unfold valsOf
  rw [List.map_append]
  simp [hx]

/-- What stands in the loops. -/
structure ValAt (w : World) (b off cap : Nat) (t f l : Int) (a' : Option Addr) (m c' : Nat) (L : List Int) (W : World) : Prop where
  bel : Below w.heap.size w W
  box : BoxA W w.heap.size (some ⟨b, off, none⟩) 10 cap t f l
  own : W.ownsRow (w.heap.size + 1) 3 1 (.slice a' m c') m (L.map (Value.int .i64))
theorem ValAt.below {w : World} {b off cap : Nat} {t f l : Int} {a' : Option Addr} {m c' : Nat} {L : List Int} {W W' : World} (h : ValAt w b off cap t f l a' m c' L W) (hb : Below W.heap.size W W') : ValAt w b off cap t f l a' m c' L W' :=
  ⟨below_trans' h.bel hb, h.box.below hb, ownsRow_below h.own hb⟩
theorem ValAt.more {w : World} {b off cap : Nat} {t f l : Int} {a' : Option Addr} {m c' : Nat} {L : List Int} {W W' : World} (h : ValAt w b off cap t f l a' m c' L W) (hb : Below (w.heap.size + 1) W W') {a2 : Option Addr} {m2 c2 : Nat} {L2 : List Int} (ho : W'.ownsRow (w.heap.size + 1) 3 1 (.slice a2 m2 c2) m2 (L2.map (Value.int .i64))) : ValAt w b off cap t f l a2 m2 c2 L2 W' :=
  ⟨h.bel.trans (hb.mono (by omega)), ⟨(hb.cell (p := ⟨w.heap.size, 0, none⟩) (Nat.lt_succ_self _)).trans h.box.c0, (hb.cell (p := ⟨w.heap.size, 1, none⟩) (Nat.lt_succ_self _)).trans h.box.c1, (hb.cell (p := ⟨w.heap.size, 2, none⟩) (Nat.lt_succ_self _)).trans h.box.c2, (hb.cell (p := ⟨w.heap.size, 3, none⟩) (Nat.lt_succ_self _)).trans h.box.c3⟩, ho⟩
theorem sints_one (w : World) (v : Int) : SInts (w.alloc (.cells #[.int .i64 v] 3)) (some ⟨w.heap.size, 0, none⟩) 1 [v] := by
  refine ⟨rfl, .inr ⟨_, _, rfl, fun i hi => ?_⟩⟩
  obtain rfl : i = 0 := by omega
  simp

set_option maxRecDepth 20000 in
set_option maxHeartbeats 2000000 in
theorem values_any (b off cap : Nat) (ns : List Nd) (t f l : Int) (a : Option Addr) (n c : Nat) (zs : List Int) (w : World) (hs : SNodes w (some ⟨b, off, none⟩) 10 ns) (hz : SInts w a n zs) (hn : n ≤ 1048576) (hp : placesB zs) :
    Calls Try.prog 62 #[.agg #[.slice (some ⟨b, off, none⟩) 10 cap, .int .i64 t, .int .i64 f, .int .i64 l], .slice a n c] w fun e w' => ListI (valsOf ns zs) e w w' := by
  have HZ : Hid (zs.length = n) := hz.1
  have HP : Hid (placesB zs) := hp
  have A := al1 w (.cells #[.slice (some ⟨b, off, none⟩) 10 cap, .int .i64 t, .int .i64 f, .int .i64 l] 43)
  have I0 : Hid (ValAt w b off cap t f l none 0 0 [] (w.alloc (.cells #[.slice (some ⟨b, off, none⟩) 10 cap, .int .i64 t, .int .i64 f, .int .i64 l] 43))) := ⟨A, boxA_new w _ _ _ _ _ _ 43 rfl, ⟨rfl, .inl ⟨rfl, rfl⟩⟩⟩
  have HS : Hid (SNodes w (some ⟨b, off, none⟩) 10 ns ∧ SInts w a n zs) := ⟨hs, hz⟩
  clear A hs hz hp
  go_enter Try.func62, Try.ntmps62
  go_wp2
  go_loopw [5, 7, 10] (fun s _ i wr => ∃ (k : Nat) (a' : Option Addr) (c' : Nat), k ≤ n ∧ i = .int .i64 k ∧ s = .slice a' k c' ∧ ValAt w b off cap t f l a' k c' (valsOf ns (zs.take k)) wr) (fun _ _ i _ => n - (intOf i).toNat)
  case atStart => exact ⟨0, none, 0, Nat.zero_le _, rfl, rfl, I0.out⟩
  case round =>
    obtain ⟨k, a', c', hk, rfl, rfl, I⟩ := hrel
    clear I0
    by_cases hlt : k < n
    · obtain ⟨_, h0 | ⟨b', off', rfl, hc⟩⟩ := HS.out.2.below I.bel
      · omega
      · obtain ⟨y, hy⟩ : ∃ y, zs.getD k 0 = y := ⟨_, rfl⟩
        have h1 : wr.cell? ⟨b', off' + k, none⟩ = some (.int .i64 y) := by rw [← hy]; exact hc k hlt
        have hyb := HP.out k (by rw [HZ.out]; exact hlt)
        rw [hy] at hyb
        obtain ⟨j, rfl⟩ : ∃ j : Nat, y = j := ⟨y.toNat, by omega⟩
        have hj : j < 10 := by omega
        obtain ⟨b2, off2, ⟨x0, x1, x2, x3, x4, x5⟩, eab, hx, hN⟩ := (HS.out.1.below I.bel).at hj
        cases eab
        have n1 := hN.c1
        dsimp only at n1
        have c0 := I.box.c0
        obtain ⟨ys, hys⟩ : ∃ ys, valsOf ns (zs.take k) = ys := ⟨_, rfl⟩
        rw [hys] at I
        have HE : Hid (valsOf ns (zs.take (k + 1)) = ys ++ [x1]) := by
          show _ = _
          rw [valsOf_next ns (x := ⟨x0, x1, x2, x3, x4, x5⟩) (by rw [HZ.out]; exact hlt) hy (by simp [ndAt, List.getD, hx]), hys]
        have HI : Hid (ValAt w b off cap t f l a' k c' ys (wr.alloc (.cells #[.int .i64 x1] 3))) := I.below (al1 _ _)
        have hlt0 := I.box.lt
        clear hc hy hN hx hyb I
        go_wp2_with (at_builtin; go_must (refine wpList_append_ints rfl (.tmp 14) (.tmp 21) rfl (w.heap.size + 1) _ _ _ ys rfl HI.out.own _ _ _ [x1] rfl (sints_one wr x1) (by omega) (by omega) (by simp; omega) ?_))
        intro a2 c2 w2 hown2 hb2
        have HI2 : Hid (ValAt w b off cap t f l a2 (k + 1) c2 (ys ++ [x1]) w2) := HI.out.more hb2 (by rw [List.map_append]; exact hown2)
        clear hown2 hb2
        go_wp2
        go_roundw
        case rel => exact ⟨k + 1, a2, c2, by omega, by go_num, rfl, by rw [HE.out]; exact HI2.out⟩
        case measure => simp [intOf]; omega
    · obtain rfl : k = n := by omega
      have HI : Hid (ValAt w b off cap t f l a' k c' (valsOf ns (zs.take k)) wr) := I
      clear I
      go_wp2
      go_ret
      have ho := HI.out.own
      rw [List.take_of_length_le (by rw [HZ.out]; exact Nat.le_refl _)] at ho
      have e : (valsOf ns zs).length = k := by unfold valsOf; rw [List.length_map, HZ.out]
      refine ⟨a', c', ?_⟩
      rw [e]
      exact ⟨rfl, own_mono ho (by omega), HI.out.bel⟩

end Go.Proofs.Ytklpdpdjblakgaa

/- ValsS -/
namespace Go.Proofs.Ytklpdpdjblakgaa
open Go.RowKit
set_option linter.unusedVariables false

set_option maxRecDepth 20000 in
set_option maxHeartbeats 2000000 in
theorem l2Vals_any (b off cap : Nat) (ns : List Nd) (t f l : Int) (a : Option Addr) (n c : Nat) (zs : List Int) (w : World) (hs : SNodes w (some ⟨b, off, none⟩) 10 ns) (hz : SInts w a n zs) (hn : n ≤ 1048576) (hp : placesB zs) :
    Calls Try.prog 54 #[.agg #[.slice (some ⟨b, off, none⟩) 10 cap, .int .i64 t, .int .i64 f, .int .i64 l], .slice a n c] w fun e w' => ListI (valsOf ns zs) e w w' := by
  have HZ : Hid (zs.length = n) := hz.1
  have HP : Hid (placesB zs) := hp
  have A := al1 w (.cells #[.slice (some ⟨b, off, none⟩) 10 cap, .int .i64 t, .int .i64 f, .int .i64 l] 43)
  have I0 : Hid (ValAt w b off cap t f l (some ⟨w.heap.size + 1, 0, none⟩) 0 0 [] ((w.alloc (.cells #[.slice (some ⟨b, off, none⟩) 10 cap, .int .i64 t, .int .i64 f, .int .i64 l] 43)).alloc (.cells #[] 3))) := ⟨below_trans' A (al1 _ _), (boxA_new w _ _ _ _ _ _ 43 rfl).below (al1 _ _), own_int_lit w _⟩
  have HS : Hid (SNodes w (some ⟨b, off, none⟩) 10 ns ∧ SInts w a n zs) := ⟨hs, hz⟩
  clear A hs hz hp
  go_enter Try.func54, Try.ntmps54
  go_wp2
  go_loopw [5, 6] (fun s i wr => ∃ (k : Nat) (a' : Option Addr) (c' : Nat), k ≤ n ∧ i = .int .i64 k ∧ s = .slice a' k c' ∧ ValAt w b off cap t f l a' k c' (valsOf ns (zs.take k)) wr) (fun _ i _ => n - (intOf i).toNat)
  case atStart => exact ⟨0, _, 0, Nat.zero_le _, rfl, rfl, I0.out⟩
  case round =>
    obtain ⟨k, a', c', hk, rfl, rfl, I⟩ := hrel
    clear I0
    by_cases hlt : k < n
    · obtain ⟨_, h0 | ⟨b', off', rfl, hc⟩⟩ := HS.out.2
      · omega
      · obtain ⟨y, hy⟩ : ∃ y, zs.getD k 0 = y := ⟨_, rfl⟩
        have hcy : w.cell? ⟨b', off' + k, none⟩ = some (.int .i64 y) := by rw [← hy]; exact hc k hlt
        have hyb := HP.out k (by rw [HZ.out]; exact hlt)
        rw [hy] at hyb
        obtain ⟨j, rfl⟩ : ∃ j : Nat, y = j := ⟨y.toNat, by omega⟩
        have hj : j < 10 := by omega
        obtain ⟨b2, off2, ⟨x0, x1, x2, x3, x4, x5⟩, eab, hx, hN⟩ := HS.out.1.at hj
        cases eab
        have hcv := hN.c1
        dsimp only at hcv
        have HK : Hid (∀ W, Below w.heap.size w W → W.cell? ⟨b', off' + k, none⟩ = some (.int .i64 (j : Int)) ∧ W.cell? ⟨b, off + j * 6 + 1, none⟩ = some (.int .i64 x1)) := fun W hb => ⟨(hb.cell (p := ⟨b', off' + k, none⟩) (World.block_lt_of_cell? w ⟨b', off' + k, none⟩ hcy)).trans hcy, (hb.cell (p := ⟨b, off + j * 6 + 1, none⟩) (World.block_lt_of_cell? w ⟨b, off + j * 6 + 1, none⟩ hcv)).trans hcv⟩
        obtain ⟨h1, n1⟩ := HK.out wr I.bel
        have c0 := I.box.c0
        obtain ⟨ys, hys⟩ : ∃ ys, valsOf ns (zs.take k) = ys := ⟨_, rfl⟩
        rw [hys] at I
        have HE : Hid (valsOf ns (zs.take (k + 1)) = ys ++ [x1]) := by
          show _ = _
          rw [valsOf_next ns (x := ⟨x0, x1, x2, x3, x4, x5⟩) (by rw [HZ.out]; exact hlt) hy (by simp [ndAt, List.getD, hx]), hys]
        have HI : Hid (ValAt w b off cap t f l a' k c' ys (wr.drew.alloc (.cells #[.int .i64 x1] 3))) := I.below (below_trans' (Below.refl _ _).drew (al1 _ _))
        have hlt0 := I.box.lt
        clear hc hy hN hx hyb I hcy hcv
        go_wp2
        go_region_held_law (fun w' => w'.cell? ⟨w.heap.size, 0, none⟩ = some (.slice (some ⟨b, off, none⟩) 10 cap) ∧ w'.cell? ⟨b', off' + k, none⟩ = some (.int .i64 (j : Int)) ∧ w'.cell? ⟨b, off + j * 6 + 1, none⟩ = some (.int .i64 x1)) (first | (go_keep; done) | exact KP.out)
          ((refine step_append_ints (by rfl) (.tmp 14) (.tmp 24) rfl (w.heap.size + 1) _ _ _ ys rfl HI.out.own _ _ _ [x1] rfl (sints_one wr.drew x1) (by omega) (by omega) (by simp; omega) ?_; intro a2 c2 w2 hown2 hb2; have HI2 : Hid (ValAt w b off cap t f l a2 (k + 1) c2 (ys ++ [x1]) w2) := HI.out.more hb2 (by first | exact hown2 | (rw [List.map_append]; exact hown2)); have KP : Hid (w2.cell? ⟨w.heap.size, 0, none⟩ = some (.slice (some ⟨b, off, none⟩) 10 cap) ∧ w2.cell? ⟨b', off' + k, none⟩ = some (.int .i64 (j : Int)) ∧ w2.cell? ⟨b, off + j * 6 + 1, none⟩ = some (.int .i64 x1)) := ⟨HI2.out.box.c0, HK.out w2 HI2.out.bel⟩; clear hown2 hb2))
        all_goals
          go_wp2
          go_roundw
          case rel => exact ⟨k + 1, a2, c2, by omega, by go_num, rfl, by rw [HE.out]; exact HI2.out⟩
          case measure => simp [intOf]; omega
    · obtain rfl : k = n := by omega
      have HI : Hid (ValAt w b off cap t f l a' k c' (valsOf ns (zs.take k)) wr) := I
      clear I
      go_wp2
      go_ret
      have ho := HI.out.own
      rw [List.take_of_length_le (by rw [HZ.out]; exact Nat.le_refl _)] at ho
      have e : (valsOf ns zs).length = k := by unfold valsOf; rw [List.length_map, HZ.out]
      refine ⟨a', c', ?_⟩
      rw [e]
      exact ⟨rfl, own_mono ho (by omega), HI.out.bel⟩

end Go.Proofs.Ytklpdpdjblakgaa

/- MapI -/
namespace Go.Proofs.Ytklpdpdjblakgaa
open Go.RowKit
set_option linter.unusedVariables false

/-- The places that are not marked. -/
def unm (ns : List Nd) (zs : List Int) : List Int := zs.filter (fun z => !(wMark (ndAt ns z).word))
/-- The map's places that are not marked, of places that are ok. -/
def mapP (ns : List Nd) (t f l : Int) : List Int := if okA ns t f l then unm ns (pathOf begC ns t f l) else []

theorem unm_next (ns : List Nd) {zs : List Int} {k : Nat} {y : Int} {x : Nd} (hk : k < zs.length) (hy : zs.getD k 0 = y) (hx : ndAt ns y = x) : unm ns (zs.take (k + 1)) = unm ns (zs.take k) ++ (if wMark x.word then [] else [y]) := by
  rw [take_next hk hy]
  unfold unm
  rw [List.filter_append]
  cases h : wMark x.word <;> simp [hx, h]
theorem unm_places {ns : List Nd} {zs : List Int} (h : placesB zs) : placesB (unm ns zs) := by
  intro i hi
  have hm : (unm ns zs)[i] ∈ zs := (List.mem_filter.1 (List.getElem_mem hi)).1
  obtain ⟨j, hj, e⟩ := List.mem_iff_getElem.1 hm
  have := h j hj
  simpa [List.getD, hi, hj, ← e] using this
theorem unm_len (ns : List Nd) (zs : List Int) : (unm ns zs).length ≤ zs.length := List.length_filter_le _ _
theorem entsOf_len (ns : List Nd) (zs : List Int) : (entsOf ns zs).length = zs.length * 2 := by
  induction zs with
  | nil => rfl
  | cons z zs ih =>
    have e : entsOf ns (z :: zs) = [(ndAt ns z).key, (ndAt ns z).val] ++ entsOf ns zs := rfl
    rw [e, List.length_append, ih]
    simp
    omega

/-- The answer is entries, in memory of their own. -/
def MapR (n : Nat) (L : List Int) (e : Ending) (w w' : World) : Prop :=
  ∃ a c, e = .returned (.agg #[.slice a n c]) ∧ w'.ownsRow w.heap.size 88 2 (.slice a n c) n (L.map (Value.int .i64)) ∧ Below w.heap.size w w'

/-- What stands in the loop. -/
structure ThAt (w2 : World) (a' : Option Addr) (m c' : Nat) (L : List Int) (W : World) : Prop where
  base : Below w2.heap.size w2 W
  own : W.ownsRow w2.heap.size 3 1 (.slice a' m c') m (L.map (Value.int .i64))
theorem ThAt.below {w2 : World} {a' : Option Addr} {m c' : Nat} {L : List Int} {W W' : World} (h : ThAt w2 a' m c' L W) (hb : Below W.heap.size W W') : ThAt w2 a' m c' L W' :=
  ⟨below_trans' h.base hb, ownsRow_below h.own hb⟩
theorem ThAt.grown {w2 : World} {a' : Option Addr} {m c' : Nat} {L : List Int} {W W' : World} (h : ThAt w2 a' m c' L W) (hg : W.grownBy W' (Value.slice a' m c').ownBlock) {a2 : Option Addr} {m2 c2 : Nat} {L2 : List Int} (ho : W'.ownsRow w2.heap.size 3 1 (.slice a2 m2 c2) m2 (L2.map (Value.int .i64))) : ThAt w2 a2 m2 c2 L2 W' :=
  ⟨h.base.grown hg h.base.size (fun k e => (h.own.lt k e).1), ho⟩

theorem own3_shape {W : World} {b n : Nat} {v : Value} {xs : List Value} (h : W.ownsRow b 3 1 v n xs) : ∃ a c, v = .slice a n c := by
  rcases h.2 with ⟨rfl, h0⟩ | ⟨g, cap, cur, rfl, _⟩
  · subst h0; exact ⟨none, 0, rfl⟩
  · exact ⟨_, _, rfl⟩

set_option maxHeartbeats 1000000 in
theorem implArnMap_bad (a : Option Addr) (n cap : Nat) (ns : List Nd) (t f l : Int) (w : World) (hs : SNodes w a n ns) (hn : n ≤ 1048576) (hok : okA ns t f l = false) :
    Calls Try.prog 33 #[.agg #[.slice a n cap, .int .i64 t, .int .i64 f, .int .i64 l]] w fun e w' => MapR 0 [] e w w' := by
  have A := below_trans' (al1 w (.cells #[.slice a n cap, .int .i64 t, .int .i64 f, .int .i64 l] 43)) (al1 _ (.cells #[.slice none 0 0] 36))
  have r0 := cell_at (w.alloc (.cells #[.slice a n cap, .int .i64 t, .int .i64 f, .int .i64 l] 43)) #[.slice none 0 0] 36 0 (b := w.heap.size + 1) (by simp) (v := .slice none 0 0) rfl
  have rf := frozen_at (w.alloc (.cells #[.slice a n cap, .int .i64 t, .int .i64 f, .int .i64 l] 43)) #[.slice none 0 0] 36 0 (b := w.heap.size + 1) (by simp)
  go_enter Try.func33, Try.ntmps33
  go_wp2_with fail
  refine (implArnOk_any _ _ _ ns t f l _ (hs.below A) hn).mono ?_
  rintro e w1 ⟨rfl, hb1⟩
  have hbel := below_trans' A hb1
  have r1 := cell_kept hb1 r0
  have f1 := (hb1.frozen (p := ⟨w.heap.size + 1, 0, none⟩) (by simp)).trans rf
  rw [hok]
  clear hs hb1 r0 rf A
  go_wp2
  exact bodyPost_ret (v := .agg #[.slice none 0 0]) (by simp [results, Try.results33, go_sem, r1]) rfl ⟨none, 0, rfl, ⟨rfl, .inl ⟨rfl, rfl⟩⟩, hbel.setCell (p := ⟨w.heap.size + 1, 0, none⟩) (by show w.heap.size ≤ w.heap.size + 1; omega) _⟩

set_option maxRecDepth 20000 in
set_option maxHeartbeats 2000000 in
theorem implArnMap_ok (b off cap : Nat) (ns : List Nd) (t f l : Int) (w : World) (hs : SNodes w (some ⟨b, off, none⟩) 10 ns) (hok : okA ns t f l = true) :
    Calls Try.prog 33 #[.agg #[.slice (some ⟨b, off, none⟩) 10 cap, .int .i64 t, .int .i64 f, .int .i64 l]] w fun e w' => MapR (unm ns (pathOf begC ns t f l)).length (entsOf ns (unm ns (pathOf begC ns t f l))) e w w' := by
  obtain ⟨i0, hi, hz0, hz1, hz2⟩ := info_parts Try.info3
  have A := below_trans' (al1 w (.cells #[.slice (some ⟨b, off, none⟩) 10 cap, .int .i64 t, .int .i64 f, .int .i64 l] 43)) (al1 _ (.cells #[.slice none 0 0] 36))
  have bx := (boxA_new w (some ⟨b, off, none⟩) 10 cap t f l 43 rfl).below (al1 _ (.cells #[.slice none 0 0] 36))
  have r0 := cell_at (w.alloc (.cells #[.slice (some ⟨b, off, none⟩) 10 cap, .int .i64 t, .int .i64 f, .int .i64 l] 43)) #[.slice none 0 0] 36 0 (b := w.heap.size + 1) (by simp) (v := .slice none 0 0) rfl
  have rf := frozen_at (w.alloc (.cells #[.slice (some ⟨b, off, none⟩) 10 cap, .int .i64 t, .int .i64 f, .int .i64 l] 43)) #[.slice none 0 0] 36 0 (b := w.heap.size + 1) (by simp)
  obtain ⟨zs, ez⟩ : ∃ zs, pathOf begC ns t f l = zs := ⟨_, rfl⟩
  have HP : Hid (placesB zs ∧ zs.length ≤ 9) := ez ▸ path_places (begC_in ns t f l)
  have hc0 := implArnChain_any (some ⟨b, off, none⟩) 10 cap ns t f l
  rw [ez] at hc0 ⊢
  obtain ⟨n, ln⟩ : ∃ n, zs.length = n := ⟨_, rfl⟩
  have HN : Hid (zs.length = n ∧ n ≤ 9) := ⟨ln, by have := HP.out.2; omega⟩
  have hn9 : n ≤ 9 := HN.out.2
  clear ez ln
  go_enter Try.func33, Try.ntmps33
  go_wp2_with fail
  refine (implArnOk_any _ _ _ ns t f l _ (hs.below A) (by omega)).mono ?_
  rintro e w1 ⟨rfl, hb1⟩
  rw [hok]
  have bx1 := bx.below hb1
  obtain ⟨p0, p1, p2, p3⟩ := bx1.cells
  go_wp2_with fail
  refine (hc0 _ (hs.below (below_trans' A hb1)) (by omega)).mono ?_
  rintro e w2 ⟨aC, cC, rfl, ho2, hb2⟩
  rw [HN.out.1] at ho2 ⊢
  have hb := below_trans' hb1 hb2
  have H2 : Hid (BoxA w2 w.heap.size (some ⟨b, off, none⟩) 10 cap t f l ∧ w2.cell? ⟨w.heap.size + 1, 0, none⟩ = some (.slice none 0 0) ∧ w2.frozen? ⟨w.heap.size + 1, 0, none⟩ = false ∧ SNodes w2 (some ⟨b, off, none⟩) 10 ns ∧ SInts w2 aC n zs ∧ Below w.heap.size w w2 ∧ w.heap.size + 1 < w2.heap.size) :=
    ⟨bx1.below hb2, cell_kept hb r0, (hb.frozen (p := ⟨w.heap.size + 1, 0, none⟩) (by simp)).trans rf, hs.below (below_trans' A hb), own_sints ho2, below_trans' A hb, World.block_lt_of_cell? w2 ⟨w.heap.size + 1, 0, none⟩ (cell_kept hb r0)⟩
  have T0 : Hid (ThAt w2 none 0 0 [] w2) := ⟨Below.refl _ _, ⟨rfl, .inl ⟨rfl, rfl⟩⟩⟩
  clear hb hb1 hb2 ho2 bx bx1 r0 rf A hs hok hc0 p0 p1 p2 p3
  go_wp2
  go_loopw [3, 5, 13] (fun s _ i wr => ∃ (k m : Nat) (a' : Option Addr) (c' : Nat), k ≤ n ∧ i = .int .i64 k ∧ s = .slice a' m c' ∧ m = (unm ns (zs.take k)).length ∧ ThAt w2 a' m c' (unm ns (zs.take k)) wr) (fun _ _ i _ => n - (intOf i).toNat)
  case atStart => exact ⟨0, 0, none, 0, Nat.zero_le _, rfl, rfl, rfl, T0.out⟩
  case round =>
    obtain ⟨k, m, a', c', hk, rfl, rfl, hm, I⟩ := hrel
    clear T0
    have HM : Hid (m = (unm ns (zs.take k)).length) := hm
    have hm9 : m ≤ 9 := by
      have := unm_len ns (zs.take k)
      have h2 := List.length_take_le k zs
      have := HN.out.2
      omega
    clear hm
    by_cases hlt : k < n
    · obtain ⟨_, h0 | ⟨b', off', rfl, hc⟩⟩ := H2.out.2.2.2.2.1.below I.base
      · omega
      · obtain ⟨y, hy⟩ : ∃ y, zs.getD k 0 = y := ⟨_, rfl⟩
        have h1 : wr.cell? ⟨b', off' + k, none⟩ = some (.int .i64 y) := by rw [← hy]; exact hc k hlt
        have hyb := HP.out.1 k (by rw [HN.out.1]; exact hlt)
        rw [hy] at hyb
        obtain ⟨j, rfl⟩ : ∃ j : Nat, y = j := ⟨y.toNat, by omega⟩
        have hj : j < 10 := by omega
        have hji : (j : Int) < 10 := by omega
        obtain ⟨b2, off2, ⟨x0, x1, x2, x3, x4, x5⟩, eab, hx, hN⟩ := (H2.out.2.2.2.1.below I.base).at hj
        cases eab
        have n0 := hN.c0
        have n1 := hN.c1
        have n2 := hN.c2
        have n3 := hN.c3
        have n4 := hN.c4
        have n5 := hN.c5
        dsimp only at n0 n1 n2 n3 n4 n5
        have c0 := (H2.out.1.below I.base).c0
        obtain ⟨ys, hys⟩ : ∃ ys, unm ns (zs.take k) = ys := ⟨_, rfl⟩
        rw [hys] at I HM
        have HE : Hid (unm ns (zs.take (k + 1)) = ys ++ (if wMark x2 then [] else [(j : Int)])) := by
          show _ = _
          rw [unm_next ns (x := ⟨x0, x1, x2, x3, x4, x5⟩) (by rw [HN.out.1]; exact hlt) hy (by simp [ndAt, List.getD, hx]), hys]
        have HI : Hid (ThAt w2 a' m c' ys wr) := I
        clear hc hy hN hx hyb I
        go_wp2_with fail
        refine (nodeMarked_any _ _ _ _ _ _ _).mono ?_
        rintro e w3 ⟨rfl, hb3⟩
        have HI3 : Hid (ThAt w2 a' m c' ys w3) := HI.out.below hb3
        have HI4 : Hid (ThAt w2 a' m c' ys (w3.alloc (.cells #[.int .i64 (j : Int)] 3))) := HI3.out.below (al1 _ _)
        have HSZ : Hid (w2.heap.size ≤ w3.heap.size) := HI3.out.base.size
        clear HI hb3 n0 n1 n2 n3 n4 n5 c0 h1
        cases hmk : wMark x2
        · rw [hmk] at HE
          have HE2 : Hid (unm ns (zs.take (k + 1)) = ys ++ [(j : Int)]) := by show _ = _; simpa using HE.out
          clear HE
          go_wp2_with (at_builtin; go_must (refine wpList_append_own _ rfl (.tmp 24) (.tmp 26) 37 rfl w2.heap.size 3 i0 (.int .i64 0) 1 8 Try.underlying37 hi hz0 hz1 hz2 rfl (by decide) (.slice a' m c') m _ rfl HI4.out.own ⟨w3.heap.size, 0, none⟩ 1 1 [.int .i64 (j : Int)] rfl rfl (by intro jj u hjj; match jj, hjj with | 0, hjj => simp at hjj; subst hjj; exact cell_at _ _ _ 0 rfl rfl) (by intro u hu; simp at hu; subst hu; rfl) (by unfold maxLen; omega) (by omega) (by have := HSZ.out; simp; omega) ?_))
          intro v' w5 hown hgrow _
          obtain ⟨a2, c2, rfl⟩ := own3_shape hown
          have HI5 : Hid (ThAt w2 a2 (m + 1) c2 (ys ++ [(j : Int)]) w5) := HI4.out.grown hgrow (by simpa using hown)
          clear hown hgrow HI3 HI4
          go_wp2
          go_roundw
          case rel => exact ⟨k + 1, m + 1, a2, c2, by omega, by go_num, rfl, by rw [HE2.out, HM.out]; simp, by rw [HE2.out]; exact HI5.out⟩
          case measure => simp [intOf]; omega
        · rw [hmk] at HE
          have HE2 : Hid (unm ns (zs.take (k + 1)) = ys) := by show _ = _; simpa using HE.out
          clear HE HI4
          go_wp2
          go_roundw
          case rel => exact ⟨k + 1, m, a', c', by omega, by go_num, rfl, by rw [HE2.out]; exact HM.out, by rw [HE2.out]; exact HI3.out⟩
          case measure => simp [intOf]; omega
    · obtain rfl : k = n := by omega
      have et : zs.take k = zs := List.take_of_length_le (by rw [HN.out.1]; exact Nat.le_refl _)
      rw [et] at I HM
      have HMI : Hid (m = (unm ns zs).length) := HM
      obtain ⟨p0, p1, p2, p3⟩ := (H2.out.1.below I.base).cells
      have HI : Hid (ThAt w2 a' m c' (unm ns zs) wr) := I
      clear I et HM
      go_wp2_with fail
      refine (entries_any b off cap ns t f l _ _ _ (unm ns zs) _ (H2.out.2.2.2.1.below HI.out.base) (own_sints HI.out.own) (by omega) (unm_places HP.out.1)).mono ?_
      rintro e w3 ⟨aE, cE, rfl, oE, hb3⟩
      have hb := below_trans' HI.out.base hb3
      have r1 := cell_kept hb H2.out.2.1
      have f1 := (hb.frozen (p := ⟨w.heap.size + 1, 0, none⟩) H2.out.2.2.2.2.2.2).trans H2.out.2.2.1
      have R : Hid (w3.ownsRow w2.heap.size 88 2 (.slice aE m cE) m ((entsOf ns (unm ns zs)).map (Value.int .i64)) ∧ Below w.heap.size w w3) := ⟨own_mono oE HI.out.base.size, below_trans' H2.out.2.2.2.2.2.1 hb⟩
      clear oE hb3 hb HI p0 p1 p2 p3
      go_wp2
      refine bodyPost_ret (v := .agg #[.slice aE m cE]) (by simp [results, Try.results33, go_sem, r1]) rfl ⟨aE, cE, by rw [← HMI.out], ?_, R.out.2.setCell (p := ⟨w.heap.size + 1, 0, none⟩) (by show w.heap.size ≤ w.heap.size + 1; omega) _⟩
      rw [← HMI.out]
      have hw := H2.out.2.2.2.2.2.2
      exact own_mono (ownsRow_setCell_other R.out.1 (fun e => by have := (R.out.1.lt (w.heap.size + 1) e).1; omega) _) (by omega)

theorem implArnMap_any (a : Option Addr) (n cap : Nat) (ns : List Nd) (t f l : Int) (w : World) (hs : SNodes w a n ns) (hn : n ≤ 1048576) :
    Calls Try.prog 33 #[.agg #[.slice a n cap, .int .i64 t, .int .i64 f, .int .i64 l]] w fun e w' => MapR (mapP ns t f l).length (entsOf ns (mapP ns t f l)) e w w' := by
  cases hok : okA ns t f l
  · have e : mapP ns t f l = [] := by simp [mapP, hok]
    rw [e]
    exact implArnMap_bad a n cap ns t f l w hs hn hok
  · have hsh : shapeB ns t f l = true := by
      unfold okA at hok
      exact (Bool.and_eq_true _ _ ▸ hok).1
    obtain ⟨hl, _⟩ := shapeB_parts hsh
    obtain ⟨rfl, b, off, rfl⟩ := snodes_some hs hl
    have e : mapP ns t f l = unm ns (pathOf begC ns t f l) := by simp [mapP, hok]
    rw [e]
    exact implArnMap_ok b off cap ns t f l w hs hok

end Go.Proofs.Ytklpdpdjblakgaa
