/- What MapGet, MapPut and MapDel of entries that are ok have to do with each other. -/
import Derived.Test.YtkfamlbalgolmaaPut
import Derived.Test.YtkfamlbalgolmaaGet
import Derived.Test.YtkfamlbalgolmaaDel
namespace Go.Proofs.Ytkfamlbalgolmaa
open Go.RowKit
set_option linter.unusedVariables false

theorem okM_iff {zs : List Int} {n : Nat} : okM zs n = true ↔ n ≤ 8 ∧ (∀ i, i < n → entIn zs i = true) ∧ (∀ i j, i < j → j < n → keyAt zs i < keyAt zs j) := by
  constructor
  · intro h
    obtain ⟨h1, h2, h3⟩ := okM_parts h
    exact ⟨h1, h2, fun i j hij hj => up_lt h3 j i hij hj⟩
  · rintro ⟨h1, h2, h3⟩
    simp only [okM, Bool.and_eq_true, decide_eq_true_eq, List.all_eq_true, List.mem_range]
    refine ⟨h1, h2, fun i hi => ?_⟩
    unfold entUp
    by_cases e : i = 0
    · simp [e]
    · simp [e]
      exact h3 (i - 1) i (by omega) hi

theorem cut_key {zs : List Int} {i j : Nat} : keyAt (zs.take (i * 2) ++ zs.drop ((i + 1) * 2)) j = keyAt zs (if j < i then j else j + 1) ∨ zs.length < i * 2 := by
  by_cases hl : zs.length < i * 2
  · exact .inr hl
  left
  unfold keyAt
  by_cases h : j < i
  · rw [if_pos h]
    simp only [List.getD_eq_getElem?_getD]
    rw [List.getElem?_append_left (by simp; omega), List.getElem?_take_of_lt (by omega)]
  · rw [if_neg h]
    simp only [List.getD_eq_getElem?_getD]
    rw [List.getElem?_append_right (by simp; omega), List.getElem?_drop]
    congr 2
    simp
    omega
theorem cut_val {zs : List Int} {i j : Nat} : valAt (zs.take (i * 2) ++ zs.drop ((i + 1) * 2)) j = valAt zs (if j < i then j else j + 1) ∨ zs.length < i * 2 := by
  by_cases hl : zs.length < i * 2
  · exact .inr hl
  left
  unfold valAt
  by_cases h : j < i
  · rw [if_pos h]
    simp only [List.getD_eq_getElem?_getD]
    rw [List.getElem?_append_left (by simp; omega), List.getElem?_take_of_lt (by omega)]
  · rw [if_neg h]
    simp only [List.getD_eq_getElem?_getD]
    rw [List.getElem?_append_right (by simp; omega), List.getElem?_drop]
    congr 2
    simp
    omega

/-- The entries without one are ok. -/
theorem cut_ok {zs : List Int} {n i : Nat} (hl : zs.length = n * 2) (h : okM zs n = true) (hi : i < n) : okM (zs.take (i * 2) ++ zs.drop ((i + 1) * 2)) (n - 1) = true := by
  obtain ⟨h1, h2, h3⟩ := okM_iff.1 h
  have ck : ∀ j, keyAt (zs.take (i * 2) ++ zs.drop ((i + 1) * 2)) j = keyAt zs (if j < i then j else j + 1) := fun j => (cut_key).resolve_right (by omega)
  have cv : ∀ j, valAt (zs.take (i * 2) ++ zs.drop ((i + 1) * 2)) j = valAt zs (if j < i then j else j + 1) := fun j => (cut_val).resolve_right (by omega)
  refine okM_iff.2 ⟨by omega, fun j hj => ?_, fun j k hjk hk => ?_⟩
  · have := h2 (if j < i then j else j + 1) (by split <;> omega)
    unfold entIn at this ⊢
    rw [ck, cv]
    exact this
  · rw [ck, ck]
    exact h3 _ _ (by split <;> split <;> omega) (by split <;> omega)

/-- A beginning of entries is ok. -/
theorem take_ok {zs : List Int} {n k : Nat} (h : okM zs n = true) (hk : k ≤ n) : okM (zs.take (k * 2)) k = true := by
  obtain ⟨h1, h2, h3⟩ := okM_iff.1 h
  have ck : ∀ j, j < k → keyAt (zs.take (k * 2)) j = keyAt zs j := fun j hj => by
    unfold keyAt
    simp only [List.getD_eq_getElem?_getD]
    rw [List.getElem?_take_of_lt (by omega)]
  have cv : ∀ j, j < k → valAt (zs.take (k * 2)) j = valAt zs j := fun j hj => by
    unfold valAt
    simp only [List.getD_eq_getElem?_getD]
    rw [List.getElem?_take_of_lt (by omega)]
  refine okM_iff.2 ⟨by omega, fun j hj => ?_, fun i j hij hj => ?_⟩
  · have := h2 j (by omega)
    unfold entIn at this ⊢
    rw [ck j hj, cv j hj]
    exact this
  · rw [ck i (by omega), ck j hj]
    exact h3 i j hij (by omega)

/-- Where a key is, among entries that are ok. -/
theorem ent_at {zs : List Int} {n k : Nat} (h : okM zs n = true) (hk : k < n) : entI zs n (keyAt zs k) = k ∧ entB zs n (keyAt zs k) = true := by
  obtain ⟨h1, h2, h3⟩ := okM_iff.1 h
  have hup := upM_yes (okM_parts h).2.2
  have hI : entI zs n (keyAt zs k) = k := by
    unfold entI
    rw [hup]
    exact fIdx_eq (by omega) (fun j hj => geK_no (h3 j k hj hk)) (.inr (geK_yes (Int.le_refl _)))
  refine ⟨hI, ?_⟩
  unfold entB
  rw [hI]
  simp [hk]

/-- MapGet by what stands where. -/
theorem get_yes {zs : List Int} {n i : Nat} {key : Int} (hup : ∀ i j, i < j → j < n → keyAt zs i < keyAt zs j) (hi : i < n) (hk : keyAt zs i = key) : getC zs n key = 2 ∧ getV zs n key = valAt zs i := by
  have h : fIdx (fun j => eqK key (keyAt zs j)) n = i := fIdx_eq (by omega) (fun j hj => by
    have := hup j i hj hi
    simp [eqK]
    omega) (.inr (by simp [eqK, hk]))
  unfold getC getV
  rw [h, if_neg (by omega), if_neg (by omega)]
  exact ⟨rfl, rfl⟩
theorem get_no {zs : List Int} {n : Nat} {key : Int} (h : ∀ j, j < n → keyAt zs j ≠ key) : getC zs n key = 1 ∧ getV zs n key = 0 := by
  have h : fIdx (fun j => eqK key (keyAt zs j)) n = n := fIdx_eq (Nat.le_refl _) (fun j hj => by
    have := h j hj
    simpa [eqK] using this) (.inl rfl)
  unfold getC getV
  rw [h, if_pos rfl, if_pos rfl]
  exact ⟨rfl, rfl⟩
/-- Either a key is there, once, or it is not. -/
theorem ent_cases {zs : List Int} {n : Nat} (key : Int) (h : okM zs n = true) :
    (entB zs n key = true ∧ entI zs n key < n ∧ keyAt zs (entI zs n key) = key) ∨ (entB zs n key = false ∧ ∀ j, j < n → keyAt zs j ≠ key) := by
  by_cases hx : ∃ j, j < n ∧ keyAt zs j = key
  · obtain ⟨j, hj, rfl⟩ := hx
    have := ent_at h hj
    exact .inl ⟨this.2, by rw [this.1]; exact hj, by rw [this.1]⟩
  · refine .inr ⟨?_, fun j hj e => hx ⟨j, hj, e⟩⟩
    unfold entB
    by_cases hl : entI zs n key < n
    · have : ¬ keyAt zs (entI zs n key) = key := fun e => hx ⟨_, hl, e⟩
      simp [this]
    · simp [hl]
/-- Without a key: what is got then. -/
theorem cut_get {zs : List Int} {n i : Nat} (hl : zs.length = n * 2) (h : okM zs n = true) (hi : i < n) :
    (getC (zs.take (i * 2) ++ zs.drop ((i + 1) * 2)) (n - 1) (keyAt zs i) = 1) ∧ ∀ k, k ≠ keyAt zs i → getC (zs.take (i * 2) ++ zs.drop ((i + 1) * 2)) (n - 1) k = getC zs n k ∧ getV (zs.take (i * 2) ++ zs.drop ((i + 1) * 2)) (n - 1) k = getV zs n k := by
  obtain ⟨h1, h2, h3⟩ := okM_iff.1 h
  obtain ⟨_, _, h3'⟩ := okM_iff.1 (cut_ok hl h hi)
  have ck : ∀ j, keyAt (zs.take (i * 2) ++ zs.drop ((i + 1) * 2)) j = keyAt zs (if j < i then j else j + 1) := fun j => (cut_key).resolve_right (by omega)
  have cv : ∀ j, valAt (zs.take (i * 2) ++ zs.drop ((i + 1) * 2)) j = valAt zs (if j < i then j else j + 1) := fun j => (cut_val).resolve_right (by omega)
  refine ⟨(get_no (fun j hj e => ?_)).1, fun k hk => ?_⟩
  · rw [ck] at e
    by_cases hji : j < i
    · rw [if_pos hji] at e
      have := h3 j i hji hi
      omega
    · rw [if_neg hji] at e
      have := h3 i (j + 1) (by omega) (by omega)
      omega
  · by_cases hx : ∃ j, j < n ∧ keyAt zs j = k
    · obtain ⟨j, hj, e⟩ := hx
      have hji : j ≠ i := fun e2 => by subst e2; exact hk e.symm
      have a := get_yes h3 hj e
      by_cases hlt : j < i
      · have b := get_yes (i := j) (key := k) h3' (by omega) (by rw [ck, if_pos hlt]; exact e)
        rw [a.1, a.2, b.1, b.2, cv, if_pos hlt]
        exact ⟨rfl, rfl⟩
      · have b := get_yes (i := j - 1) (key := k) h3' (by omega) (by rw [ck, if_neg (by omega), show j - 1 + 1 = j by omega]; exact e)
        rw [a.1, a.2, b.1, b.2, cv, if_neg (by omega), show j - 1 + 1 = j by omega]
        exact ⟨rfl, rfl⟩
    · have a := get_no (zs := zs) (n := n) (key := k) (fun j hj e => hx ⟨j, hj, e⟩)
      have b := get_no (zs := zs.take (i * 2) ++ zs.drop ((i + 1) * 2)) (n := n - 1) (key := k) (fun j hj e => hx (by rw [ck] at e; exact ⟨_, by split <;> omega, e⟩))
      rw [a.1, a.2, b.1, b.2]
      exact ⟨rfl, rfl⟩
/-- To put back what was taken out. -/
theorem cut_back {zs : List Int} {n i : Nat} (hl : zs.length = n * 2) (h : okM zs n = true) (hi : i < n) :
    ptL (zs.take (i * 2) ++ zs.drop ((i + 1) * 2)) (n - 1) (keyAt zs i) (valAt zs i) = zs ∧ ptN (zs.take (i * 2) ++ zs.drop ((i + 1) * 2)) (n - 1) (keyAt zs i) (valAt zs i) = n := by
  obtain ⟨h1, h2, h3⟩ := okM_iff.1 h
  have hok := cut_ok hl h hi
  have hin := h2 i hi
  have ck : ∀ j, keyAt (zs.take (i * 2) ++ zs.drop ((i + 1) * 2)) j = keyAt zs (if j < i then j else j + 1) := fun j => (cut_key).resolve_right (by omega)
  have hpt : ptOk (zs.take (i * 2) ++ zs.drop ((i + 1) * 2)) (n - 1) (keyAt zs i) (valAt zs i) = true := by
    unfold ptOk
    unfold entIn at hin
    rw [hok, Bool.true_and]
    exact hin
  have hI : entI (zs.take (i * 2) ++ zs.drop ((i + 1) * 2)) (n - 1) (keyAt zs i) = i := by
    unfold entI
    rw [upM_yes (okM_parts hok).2.2]
    refine fIdx_eq (by omega) (fun j hj => geK_no (by rw [ck, if_pos hj]; exact h3 j i hj hi)) ?_
    by_cases e : i = n - 1
    · exact .inl e
    · right
      refine geK_yes ?_
      rw [ck, if_neg (by omega)]
      have := h3 i (i + 1) (by omega) (by omega)
      omega
  have hB : entB (zs.take (i * 2) ++ zs.drop ((i + 1) * 2)) (n - 1) (keyAt zs i) = false := by
    unfold entB
    rw [hI, ck, if_neg (by omega)]
    by_cases e : i < n - 1
    · have := h3 i (i + 1) (by omega) (by omega)
      have : ¬ keyAt zs (i + 1) = keyAt zs i := by omega
      simp [this]
    · simp [e]
  unfold ptL ptN
  rw [hpt, hB, hI, if_neg (show ¬ n - 1 = 8 by omega), if_neg (show ¬ n - 1 = 8 by omega)]
  simp only [if_true, Bool.false_eq_true, if_false]
  refine ⟨?_, by omega⟩
  have t1 : (zs.take (i * 2) ++ zs.drop ((i + 1) * 2)).take (i * 2) = zs.take (i * 2) := by
    rw [List.take_append_of_le_length (by simp; omega), List.take_take, Nat.min_self]
  have t2 : (zs.take (i * 2) ++ zs.drop ((i + 1) * 2)).drop (i * 2) = zs.drop ((i + 1) * 2) := by
    rw [List.drop_append_of_le_length (by simp; omega), List.drop_take]
    simp
  rw [t1, t2]
  have hk : zs[i * 2]? = some (keyAt zs i) := by
    unfold keyAt
    rw [List.getD_eq_getElem?_getD, List.getElem?_eq_getElem (by omega)]
    rfl
  have hv : zs[i * 2 + 1]? = some (valAt zs i) := by
    unfold valAt
    rw [List.getD_eq_getElem?_getD, List.getElem?_eq_getElem (by omega)]
    rfl
  have e2 : zs.drop (i * 2) = keyAt zs i :: valAt zs i :: zs.drop ((i + 1) * 2) := by
    obtain ⟨ha, ea⟩ := List.getElem?_eq_some_iff.1 hk
    obtain ⟨hb, eb⟩ := List.getElem?_eq_some_iff.1 hv
    rw [List.drop_eq_getElem_cons ha, ea, List.drop_eq_getElem_cons hb, eb]
    rw [show i * 2 + 1 + 1 = (i + 1) * 2 by omega]
  rw [show zs.take (i * 2) ++ [keyAt zs i, valAt zs i] ++ zs.drop ((i + 1) * 2) = zs.take (i * 2) ++ (keyAt zs i :: valAt zs i :: zs.drop ((i + 1) * 2)) by simp, ← e2, List.take_append_drop]

end Go.Proofs.Ytkfamlbalgolmaa
