/- A path that ends has no place twice; what the program asks is what the specification asks. -/
import Derived.Test.YtcffoehldohooaaOkI3
namespace Go.Proofs.Ytcffoehldohooaa
open Go.RowKit
set_option linter.unusedVariables false

theorem fromTo_range (ns : List Nd) (p : Int) (k : Nat) : ∃ m, m ≤ k ∧ fromTo ns p k = (List.range m).map (stepK ns p) ∧ (∀ i, i < m → ¬ stepK ns p i = 0) ∧ (m = k ∨ stepK ns p m = 0) := by
  induction k with
  | zero => exact ⟨0, Nat.le_refl _, rfl, fun i hi => by omega, .inl rfl⟩
  | succ k ih =>
    obtain ⟨m, hm, e, hne, hz⟩ := ih
    unfold fromTo
    by_cases h : stepK ns p k = 0
    · rw [if_pos h]
      refine ⟨m, by omega, e, hne, .inr ?_⟩
      rcases hz with rfl | hz
      · exact h
      · exact hz
    · rw [if_neg h]
      have hmk : m = k := by
        rcases hz with rfl | hz
        · rfl
        · exact absurd (fromTo_end hz k hm).2 h
      subst hmk
      refine ⟨m + 1, Nat.le_refl _, ?_, fun i hi => ?_, .inl rfl⟩
      · rw [List.range_succ, List.map_append, e]; rfl
      · by_cases ei : i = m
        · subst ei; exact h
        · exact hne i (by omega)

theorem stepK_det {ns : List Nd} {p : Int} {i j : Nat} (h : stepK ns p i = stepK ns p j) (d : Nat) : stepK ns p (i + d) = stepK ns p (j + d) := by
  induction d with
  | zero => exact h
  | succ d ih =>
    show stepK ns p (i + d + 1) = stepK ns p (j + d + 1)
    unfold stepK
    rw [ih]

theorem steps_once {ns : List Nd} {p : Int} {m : Nat} (hne : ∀ i, i < m → ¬ stepK ns p i = 0) (hz : stepK ns p m = 0) : ((List.range m).map (stepK ns p)).Nodup := by
  unfold List.Nodup
  rw [List.pairwise_map]
  refine List.Pairwise.imp_of_mem ?_ (List.pairwise_lt_range (n := m))
  intro i j hi hj hij e
  have hi := List.mem_range.1 hi
  have hj := List.mem_range.1 hj
  have := stepK_det e (m - j)
  rw [show j + (m - j) = m by omega, hz] at this
  exact hne (i + (m - j)) (by omega) this

theorem path_once {ns : List Nd} {p : Int} (h : endB ns (fromTo ns p 9) = true) : (fromTo ns p 9).Nodup := by
  obtain ⟨m, hm, e, hne, hz⟩ := fromTo_range ns p 9
  rw [e] at h ⊢
  by_cases h0 : m = 0
  · subst h0; simp
  · refine steps_once hne ?_
    obtain ⟨r, rfl⟩ : ∃ r, m = r + 1 := ⟨m - 1, by omega⟩
    unfold endB at h
    simp [List.getD] at h
    unfold stepK
    rw [if_neg (hne r (by omega))]
    exact h

theorem near_last {zs : List Int} (l : Int) (hd : zs.Nodup) : nearB zs l = lastB zs l := by
  have hle : idxOf zs l ≤ zs.length := List.findIdx_le_length
  by_cases hin : idxOf zs l < zs.length
  · obtain ⟨k, hk⟩ : ∃ k, idxOf zs l = k := ⟨_, rfl⟩
    rw [hk] at hin
    have hat : zs[k] = l := by
      have := (List.findIdx_eq hin).1 hk
      simpa using this.1
    have hu : ∀ i (hi : i < zs.length), zs[i] = l → i = k := by
      intro i hi e
      have P := List.pairwise_iff_getElem.1 hd
      rcases Nat.lt_trichotomy i k with h | h | h
      · exact absurd (e.trans hat.symm) (P i k hi hin h)
      · exact h
      · exact absurd (hat.trans e.symm) (P k i hin hi h)
    unfold nearB lastB
    rw [hk, decide_eq_true hin, decide_eq_true (show 0 < zs.length by omega), Bool.true_and, Bool.true_and]
    by_cases h1 : k = zs.length - 1
    · have : (l == zs.getD (zs.length - 1) 0) = true := by
        subst h1
        simp [List.getD, hin, hat]
      rw [this, Bool.true_or, decide_eq_true (by omega)]
    · have n1 : (l == zs.getD (zs.length - 1) 0) = false := by
        have hl : zs.length - 1 < zs.length := by omega
        simp only [List.getD, List.getElem?_eq_getElem hl, Option.getD_some, beq_eq_false_iff_ne]
        intro e
        exact h1 (hu _ hl e.symm).symm
      rw [n1, Bool.false_or]
      by_cases h2 : k = zs.length - 2
      · have hl : zs.length - 2 < zs.length := by omega
        have : (l == zs.getD (zs.length - 2) 0) = true := by
          subst h2
          simp [List.getD, hl, hat]
        rw [this, Bool.and_true, decide_eq_true (by omega), decide_eq_true (by omega)]
      · rw [decide_eq_false (by omega)]
        by_cases h3 : 1 < zs.length
        · have hl : zs.length - 2 < zs.length := by omega
          have : (l == zs.getD (zs.length - 2) 0) = false := by
            simp only [List.getD, List.getElem?_eq_getElem hl, Option.getD_some, beq_eq_false_iff_ne]
            intro e
            exact h2 (hu _ hl e.symm).symm
          rw [this, Bool.and_false]
        · rw [decide_eq_false h3, Bool.false_and]
  · have hnone : ∀ i (hi : i < zs.length), ¬ zs[i] = l := by
      intro i hi e
      have : idxOf zs l = zs.length := by omega
      unfold idxOf at this
      rw [List.findIdx_eq_length] at this
      have := this _ (List.getElem_mem hi)
      simp [e] at this
    unfold nearB lastB
    rw [decide_eq_false hin, Bool.false_and]
    by_cases h0 : 0 < zs.length
    · have n1 : (l == zs.getD (zs.length - 1) 0) = false := by
        have hl : zs.length - 1 < zs.length := by omega
        simp only [List.getD, List.getElem?_eq_getElem hl, Option.getD_some, beq_eq_false_iff_ne]
        exact fun e => hnone _ hl e.symm
      have n2 : (l == zs.getD (zs.length - 2) 0) = false := by
        have hl : zs.length - 2 < zs.length := by omega
        simp only [List.getD, List.getElem?_eq_getElem hl, Option.getD_some, beq_eq_false_iff_ne]
        exact fun e => hnone _ hl e.symm
      rw [n1, n2]
      simp
    · rw [decide_eq_false h0, Bool.false_and]

theorem usedB_eq (ns : List Nd) (zs os : List Int) : usedB ns zs os = (inUseB ns zs && zs.all (fun z => !hasB os z)) := by
  unfold usedB inUseB
  induction zs with
  | nil => rfl
  | cons z zs ih =>
    simp only [List.all_cons, ih]
    cases (ndAt ns z).used <;> cases hasB os z <;> simp

/-- What the program asks of three lists. -/
def okI3 (ns : List Nd) (l : Int) (C S Q : List Int) : Bool := endB ns C && (endB ns S && (endB ns Q && (inUseB ns (C ++ S ++ Q) && (decide (C ++ S ++ Q).Nodup && (riseB ns C && (bareB ns S && (bareB ns Q && nearB Q l)))))))

theorem apart_iff {zs os : List Int} : (zs.all (fun z => !hasB os z)) = true ↔ ∀ z ∈ zs, ¬ z ∈ os := by
  rw [List.all_eq_true]
  constructor
  · intro h z hz ho
    have := h z hz
    rw [hasB_iff.2 ho] at this
    cases this
  · intro h z hz
    have : hasB os z = false := by
      cases e : hasB os z
      · rfl
      · exact absurd (hasB_iff.1 e) (h z hz)
    rw [this]
    rfl

theorem okI3_eq (ns : List Nd) (l : Int) (C S Q : List Int) (hC : endB ns C = true → C.Nodup) (hS : endB ns S = true → S.Nodup) (hQ : endB ns Q = true → Q.Nodup) : okI3 ns l C S Q = okL3 ns l C S Q := by
  unfold okI3 okL3 endsB
  cases eC : endB ns C
  · simp
  cases eS : endB ns S
  · simp
  cases eQ : endB ns Q
  · simp
  have dC := hC eC
  have dS := hS eS
  have dQ := hQ eQ
  rw [near_last l dQ, usedB_eq, usedB_eq, usedB_eq]
  have u : inUseB ns (C ++ S ++ Q) = (inUseB ns C && (inUseB ns S && inUseB ns Q)) := by
    unfold inUseB
    rw [List.all_append, List.all_append, Bool.and_assoc]
  have a0 : (C.all fun z => !hasB [] z) = true := apart_iff.2 (fun z _ h => by cases h)
  have d : decide (C ++ S ++ Q).Nodup = ((S.all fun z => !hasB C z) && (Q.all fun z => !hasB (C ++ S) z)) := by
    rw [Bool.eq_iff_iff, decide_eq_true_eq, Bool.and_eq_true, apart_iff, apart_iff, List.nodup_append, List.nodup_append]
    constructor
    · rintro ⟨⟨_, _, h1⟩, _, h2⟩
      exact ⟨fun z hz hc => h1 z hc z hz rfl, fun z hz hc => h2 z hc z hz rfl⟩
    · rintro ⟨h1, h2⟩
      exact ⟨⟨dC, dS, fun x hx y hy e => h1 y hy (e ▸ hx)⟩, dQ, fun x hx y hy e => h2 y hy (e ▸ hx)⟩
  rw [u, d, a0]
  cases inUseB ns C <;> cases inUseB ns S <;> cases inUseB ns Q <;> cases (S.all fun z => !hasB C z) <;> cases (Q.all fun z => !hasB (C ++ S) z) <;> cases riseB ns C <;> cases bareB ns S <;> cases bareB ns Q <;> cases lastB Q l <;> rfl

end Go.Proofs.Ytcffoehldohooaa
