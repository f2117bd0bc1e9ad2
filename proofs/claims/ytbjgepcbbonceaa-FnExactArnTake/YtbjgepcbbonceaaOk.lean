/- Contracts of ListOk, of the specification's and of the program's, and of the two tests on bounds. -/
import Derived.Test.YtbjgepcbbonceaaInts
namespace Go.Proofs.Ytbjgepcbbonceaa
open Go.RowKit

/-- The number is in bounds. -/
def inB (x hi : Int) : Bool := decide (0 ≤ x) && decide (x ≤ hi)
/-- The values are ok. -/
def okL (zs : List Int) : Bool := decide (zs.length ≤ 8) && zs.all (fun x => inB x 999)

theorem inB_yes {x hi : Int} (h0 : 0 ≤ x) (h1 : x ≤ hi) : inB x hi = true := by simp [inB, h0, h1]
theorem inB_low {x hi : Int} (h0 : ¬ 0 ≤ x) : inB x hi = false := by simp [inB, h0]
theorem inB_high {x hi : Int} (h1 : ¬ x ≤ hi) : inB x hi = false := by simp [inB, h1]
theorem ret_bool {a b : Bool} (h : a = b) : Ending.returned (.bool a) = .returned (.bool b) := by rw [h]

set_option maxHeartbeats 400000 in
theorem l1In_any (x hi : Int) (w : World) :
    Calls Try.prog 19 #[.int .i64 x, .int .i64 0, .int .i64 hi] w fun e w' => e = .returned (.bool (inB x hi)) ∧ w' = w := by
  by_cases h0 : 0 ≤ x
  · by_cases h1 : x ≤ hi
    · go_enter Try.func19, Try.ntmps19
      go_wp2
      go_ret
      exact ⟨ret_bool (inB_yes h0 h1).symm, rfl⟩
    · go_enter Try.func19, Try.ntmps19
      go_wp2
      go_ret
      exact ⟨ret_bool (inB_high (by omega)).symm, rfl⟩
  · go_enter Try.func19, Try.ntmps19
    go_wp2
    go_ret
    exact ⟨ret_bool (inB_low (by omega)).symm, rfl⟩

set_option maxHeartbeats 400000 in
theorem within_any (x hi : Int) (w : World) :
    Calls Try.prog 24 #[.int .i64 x, .int .i64 hi] w fun e w' => e = .returned (.bool (inB x hi)) ∧ w' = w := by
  by_cases h0 : 0 ≤ x
  · by_cases h1 : x ≤ hi
    · go_enter Try.func24, Try.ntmps24
      go_wp2
      go_ret
      exact ⟨ret_bool (inB_yes h0 h1).symm, rfl⟩
    · go_enter Try.func24, Try.ntmps24
      go_wp2
      go_ret
      exact ⟨ret_bool (inB_high (by omega)).symm, rfl⟩
  · go_enter Try.func24, Try.ntmps24
    go_wp2
    go_ret
    exact ⟨ret_bool (inB_low (by omega)).symm, rfl⟩

theorem okL_long {zs : List Int} (h : 8 < zs.length) : okL zs = false := by simp [okL]; omega
theorem okL_no {zs : List Int} {k : Nat} (hk : k < zs.length) (h : inB (zs.getD k 0) 999 = false) : okL zs = false := by
  have : zs.all (fun x => inB x 999) = false := by
    rw [List.all_eq_false]
    refine ⟨zs[k], List.getElem_mem hk, ?_⟩
    simpa [List.getD, hk] using h
  simp [okL, this]
theorem okL_yes {zs : List Int} (h8 : zs.length ≤ 8) (h : ∀ i, i < zs.length → inB (zs.getD i 0) 999 = true) : okL zs = true := by
  have : zs.all (fun x => inB x 999) = true := by
    rw [List.all_eq_true]
    intro x hx
    obtain ⟨i, hi, rfl⟩ := List.mem_iff_getElem.1 hx
    simpa [List.getD, hi] using h i hi
  simp [okL, this, h8]

end Go.Proofs.Ytbjgepcbbonceaa
