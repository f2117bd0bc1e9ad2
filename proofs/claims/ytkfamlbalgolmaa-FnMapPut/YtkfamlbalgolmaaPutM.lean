/- What MapPut of entries that are ok makes. -/
import Derived.Test.YtkfamlbalgolmaaMapM
namespace Go.Proofs.Ytkfamlbalgolmaa
open Go.RowKit
set_option linter.unusedVariables false

theorem ins_at {zs : List Int} {i m : Nat} {k v : Int} (hl : i * 2 ≤ zs.length) (b : Nat) (hb : b < 2) : (zs.take (i * 2) ++ [k, v] ++ zs.drop (i * 2))[m * 2 + b]? = if m < i then zs[m * 2 + b]? else if m = i then some (if b = 0 then k else v) else zs[(m - 1) * 2 + b]? := by
  have ht : (zs.take (i * 2)).length = i * 2 := by simp; omega
  rw [List.append_assoc]
  by_cases h : m < i
  · rw [if_pos h, List.getElem?_append_left (by omega), List.getElem?_take_of_lt (by omega)]
  · rw [if_neg h, List.getElem?_append_right (by omega), ht]
    by_cases e : m = i
    · subst e
      rw [if_pos rfl, show m * 2 + b - m * 2 = b by omega]
      rcases (show b = 0 ∨ b = 1 by omega) with rfl | rfl <;> rfl
    · rw [if_neg e, show m * 2 + b - i * 2 = ((m - i - 1) * 2 + b) + 2 by omega]
      show (zs.drop (i * 2))[(m - i - 1) * 2 + b]? = _
      rw [List.getElem?_drop]
      congr 1
      omega
theorem ins_key {zs : List Int} {i m : Nat} {k v : Int} (hl : i * 2 ≤ zs.length) : keyAt (zs.take (i * 2) ++ [k, v] ++ zs.drop (i * 2)) m = if m < i then keyAt zs m else if m = i then k else keyAt zs (m - 1) := by
  have h := ins_at (m := m) (k := k) (v := v) hl 0 (by omega)
  simp only [Nat.add_zero] at h
  unfold keyAt
  simp only [List.getD_eq_getElem?_getD]
  rw [h]
  split
  · rfl
  · split <;> rfl
theorem ins_val {zs : List Int} {i m : Nat} {k v : Int} (hl : i * 2 ≤ zs.length) : valAt (zs.take (i * 2) ++ [k, v] ++ zs.drop (i * 2)) m = if m < i then valAt zs m else if m = i then v else valAt zs (m - 1) := by
  have h := ins_at (m := m) (k := k) (v := v) hl 1 (by omega)
  unfold valAt
  simp only [List.getD_eq_getElem?_getD]
  rw [h]
  split
  · rfl
  · split <;> rfl
theorem ins_cut {zs : List Int} {i : Nat} {k v : Int} (hl : i * 2 ≤ zs.length) : (zs.take (i * 2) ++ [k, v] ++ zs.drop (i * 2)).take (i * 2) ++ (zs.take (i * 2) ++ [k, v] ++ zs.drop (i * 2)).drop ((i + 1) * 2) = zs := by
  have ht : (zs.take (i * 2)).length = i * 2 := by simp; omega
  have e1 : (zs.take (i * 2) ++ [k, v] ++ zs.drop (i * 2)).take (i * 2) = zs.take (i * 2) := by
    rw [List.append_assoc, List.take_append_of_le_length (by omega), List.take_take, Nat.min_self]
  have e2 : (zs.take (i * 2) ++ [k, v] ++ zs.drop (i * 2)).drop ((i + 1) * 2) = zs.drop (i * 2) := by
    have : (zs.take (i * 2) ++ [k, v]).length = (i + 1) * 2 := by simp [ht]; omega
    rw [← this, List.drop_left]
  rw [e1, e2, List.take_append_drop]

/-- Entries that are ok, and one more. -/
theorem put_new {L : List Int} {N : Nat} {key val : Int} (hl : L.length = N * 2) (hok : okM L N = true) (hin : (inB key 99 && inB val 999) = true) (hno : ∀ j, j < N → keyAt L j ≠ key) (h8 : N < 8) (D : List Int) (hD : D = L.take (entI L N key * 2) ++ [key, val] ++ L.drop (entI L N key * 2)) :
    okM D (N + 1) = true ∧ getC D (N + 1) key = 2 ∧ getV D (N + 1) key = val ∧ ∀ k, k ≠ key → getC D (N + 1) k = getC L N k ∧ getV D (N + 1) k = getV L N k := by
  obtain ⟨h1, h2, h3⟩ := okM_iff.1 hok
  have hI : entI L N key = fIdx (fun i => geK key (keyAt L i)) N := by simp [entI, upM_yes (okM_parts hok).2.2]
  obtain ⟨hlow0, hat0⟩ := fIdx_spec (fun i => geK key (keyAt L i)) N
  have hle := fIdx_le (fun i => geK key (keyAt L i)) N
  rw [← hI] at hlow0 hat0 hle
  have hlow : ∀ j, j < entI L N key → keyAt L j < key := by
    intro j hj
    have := hlow0 j hj
    simp [geK] at this
    exact this
  have hhigh : ∀ j, entI L N key ≤ j → j < N → key < keyAt L j := by
    intro j hj hjn
    have h4 := hat0 (by omega)
    simp [geK] at h4
    have h5 := hno (entI L N key) (by omega)
    by_cases e : j = entI L N key
    · subst e; omega
    · have := h3 (entI L N key) j (by omega) hjn
      omega
  generalize entI L N key = i at hD hlow hhigh hle
  clear hI hlow0 hat0
  have hil : i * 2 ≤ L.length := by omega
  have ck : ∀ m, keyAt D m = if m < i then keyAt L m else if m = i then key else keyAt L (m - 1) := fun m => by rw [hD]; exact ins_key hil
  have cv : ∀ m, valAt D m = if m < i then valAt L m else if m = i then val else valAt L (m - 1) := fun m => by rw [hD]; exact ins_val hil
  have hDl : D.length = (N + 1) * 2 := by rw [hD]; simp; omega
  have hDok : okM D (N + 1) = true := by
    refine okM_iff.2 ⟨by omega, fun j hj => ?_, fun a b hab hb => ?_⟩
    · unfold entIn
      rw [ck, cv]
      by_cases e1 : j < i
      · rw [if_pos e1, if_pos e1]
        exact h2 j (by omega)
      · rw [if_neg e1, if_neg e1]
        by_cases e2 : j = i
        · rw [if_pos e2, if_pos e2]
          exact hin
        · rw [if_neg e2, if_neg e2]
          exact h2 (j - 1) (by omega)
    · rw [ck, ck]
      by_cases a1 : a < i
      · rw [if_pos a1]
        by_cases b1 : b < i
        · rw [if_pos b1]; exact h3 a b hab (by omega)
        · rw [if_neg b1]
          by_cases b2 : b = i
          · rw [if_pos b2]; exact hlow a a1
          · rw [if_neg b2]; exact h3 a (b - 1) (by omega) (by omega)
      · rw [if_neg a1, if_neg (show ¬ b < i by omega), if_neg (show ¬ b = i by omega)]
        by_cases a2 : a = i
        · rw [if_pos a2]; exact hhigh (b - 1) (by omega) (by omega)
        · rw [if_neg a2]; exact h3 (a - 1) (b - 1) (by omega) (by omega)
  have hki : keyAt D i = key := by rw [ck, if_neg (by omega), if_pos rfl]
  have hvi : valAt D i = val := by rw [cv, if_neg (by omega), if_pos rfl]
  have hc : D.take (i * 2) ++ D.drop ((i + 1) * 2) = L := by rw [hD]; exact ins_cut hil
  have g := get_yes (okM_iff.1 hDok).2.2 (show i < N + 1 by omega) hki
  have c := (cut_get hDl hDok (show i < N + 1 by omega)).2
  rw [hki, hc] at c
  exact ⟨hDok, g.1, by rw [g.2, hvi], fun k hk => ⟨(c k hk).1.symm, (c k hk).2.symm⟩⟩

/-- What MapPut of entries that are ok makes, and answers. -/
theorem put_all {L : List Int} {N : Nat} {key val : Int} (hl : L.length = N * 2) (hp : ptOk L N key val = true) :
    okM (ptL L N key val) (ptN L N key val) = true ∧
    ((ptC L N key val = 1 ∧ ptL L N key val = L ∧ ptN L N key val = N ∧ getC L N key = 2) ∨
     (ptC L N key val = 3 ∧ ptL L N key val = L ∧ ptN L N key val = N ∧ getC L N key = 1 ∧ N = 8) ∨
     (ptC L N key val = 2 ∧ getC L N key = 1 ∧ getC (ptL L N key val) (ptN L N key val) key = 2 ∧ getV (ptL L N key val) (ptN L N key val) key = val ∧
       ∀ k, k ≠ key → getC (ptL L N key val) (ptN L N key val) k = getC L N k ∧ getV (ptL L N key val) (ptN L N key val) k = getV L N k)) := by
  obtain ⟨hok, hin⟩ : okM L N = true ∧ (inB key 99 && inB val 999) = true := by
    have := hp
    unfold ptOk at this
    rw [Bool.and_eq_true] at this
    exact this
  obtain ⟨h1, h2, h3⟩ := okM_iff.1 hok
  rcases ent_cases key hok with ⟨hB, hi, hk⟩ | ⟨hB, hno⟩
  · have e1 : ptL L N key val = L := by simp [ptL, hp, hB]
    have e2 : ptN L N key val = N := by simp [ptN, hp, hB]
    have e3 : ptC L N key val = 1 := by simp [ptC, hp, hB]
    rw [e1, e2, e3]
    exact ⟨hok, .inl ⟨rfl, rfl, rfl, (get_yes h3 hi hk).1⟩⟩
  · by_cases h8 : N = 8
    · have e1 : ptL L N key val = L := by unfold ptL; rw [hp, hB, if_pos h8]; rfl
      have e2 : ptN L N key val = N := by unfold ptN; rw [hp, hB, if_pos h8]; rfl
      have e3 : ptC L N key val = 3 := by unfold ptC; rw [hp, hB, if_pos h8]; rfl
      rw [e1, e2, e3]
      exact ⟨hok, .inr (.inl ⟨rfl, rfl, rfl, (get_no hno).1, h8⟩)⟩
    · have e1 : ptL L N key val = L.take (entI L N key * 2) ++ [key, val] ++ L.drop (entI L N key * 2) := by simp [ptL, hp, hB, h8]
      have e2 : ptN L N key val = N + 1 := by simp [ptN, hp, hB, h8]
      have e3 : ptC L N key val = 2 := by simp [ptC, hp, hB, h8]
      rw [e2, e3]
      obtain ⟨a, b, c, d⟩ := put_new hl hok hin hno (by omega) _ e1
      exact ⟨a, .inr (.inr ⟨rfl, (get_no hno).1, b, c, d⟩)⟩
theorem put_not {L : List Int} {N : Nat} {key val : Int} (hp : ptOk L N key val = false) : ptC L N key val = 0 ∧ ptN L N key val = 0 := ⟨by simp [ptC, hp], by simp [ptN, hp]⟩
theorem ptOk_yes {L : List Int} {N : Nat} {key val : Int} (h : okM L N = true) (h1 : 0 ≤ key) (h2 : key ≤ 99) (h3 : 0 ≤ val) (h4 : val ≤ 999) : ptOk L N key val = true := by
  simp [ptOk, h, inB]
  omega
theorem ptOk_no {L : List Int} {N : Nat} {key val : Int} (h : okM L N = false ∨ key < 0 ∨ 99 < key ∨ val < 0 ∨ 999 < val) : ptOk L N key val = false := by
  cases e : ptOk L N key val
  · rfl
  · exfalso
    simp [ptOk, inB] at e
    rcases h with h | h
    · rw [h] at e; simp at e
    · omega

end Go.Proofs.Ytkfamlbalgolmaa
