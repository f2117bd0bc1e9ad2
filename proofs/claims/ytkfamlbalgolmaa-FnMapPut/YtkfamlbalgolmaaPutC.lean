/- MapPut of the specification, at any capacity. -/
import Derived.Test.YtkfamlbalgolmaaSpecPut
namespace Go.Proofs.Ytkfamlbalgolmaa
open Go.RowKit
set_option linter.unusedVariables false

theorem specMapPut_cap (a : Option Addr) (n cap : Nat) (zs : List Int) (key val : Int) (w : World) (hs : SInts w a (n * 2) zs) (hn : n ≤ 1048576) :
    Calls Try.prog 11 #[.agg #[.slice a n cap], .int .i64 key, .int .i64 val] w fun e w' => MapRes (ptL zs n key val) (ptN zs n key val) (ptC zs n key val) 0 e w w' := by
  cases hok : ptOk zs n key val
  · have e1 : ptL zs n key val = [] := by simp [ptL, hok]
    have e2 : ptN zs n key val = 0 := by simp [ptN, hok]
    have e3 : ptC zs n key val = 0 := by simp [ptC, hok]
    rw [e1, e2, e3]
    exact specMapPut_bad a n cap zs key val w hs (by omega) hok
  · obtain ⟨h1, h2, h3⟩ := ptOk_parts hok
    obtain ⟨h8, _, hup⟩ := okM_parts h1
    have hupM : upM zs n = true := upM_yes hup
    have hrise := up_lt hup
    have hI : entI zs n key = fIdx (fun i => geK key (keyAt zs i)) n := by simp [entI, hupM]
    obtain ⟨hlow0, hat0⟩ := fIdx_spec (fun i => geK key (keyAt zs i)) n
    rw [← hI] at hlow0 hat0
    have hlow : ∀ j, j < entI zs n key → keyAt zs j < key := by
      intro j hj
      have := hlow0 j hj
      simp [geK] at this
      exact this
    cases hE : entB zs n key
    · have hhigh : ∀ j, entI zs n key ≤ j → j < n → key < keyAt zs j := by
        intro j hj hjn
        have hlt : entI zs n key < n := by omega
        have h4 := hat0 hlt
        simp [geK] at h4
        have h5 : ¬ keyAt zs (entI zs n key) = key := by
          simp only [entB, hlt, decide_true, Bool.true_and] at hE
          simpa using hE
        by_cases e : j = entI zs n key
        · subst e; omega
        · have := hrise j (entI zs n key) (by omega) hjn
          omega
      have h := specMapPut_loop a n cap zs key val (entI zs n key) w hs h8 h1 h2 h3 (entI_le zs n key) hlow hhigh
      have e1 : ptL zs n key val = if n = 8 then zs else zs.take (entI zs n key * 2) ++ [key, val] ++ zs.drop (entI zs n key * 2) := by simp [ptL, hok, hE]
      have e2 : ptN zs n key val = if n = 8 then n else n + 1 := by simp [ptN, hok, hE]
      have e3 : ptC zs n key val = if n = 8 then 3 else 2 := by simp [ptC, hok, hE]
      rw [e1, e2, e3]
      exact h
    · have e1 : ptL zs n key val = zs := by simp [ptL, hok, hE]
      have e2 : ptN zs n key val = n := by simp [ptN, hok, hE]
      have e3 : ptC zs n key val = 1 := by simp [ptC, hok, hE]
      rw [e1, e2, e3]
      simp only [entB, Bool.and_eq_true, decide_eq_true_eq] at hE
      exact specMapPut_there a n cap zs key val (entI zs n key) w hs h8 h1 h2 h3 hE.1 hlow (by simpa using hE.2)

end Go.Proofs.Ytkfamlbalgolmaa
