/- Contracts of the law helpers over places: they copy, compare, mark and look at the marks. -/
import Derived.Test.YtgcpjihjhefpnaaNodes
namespace Go.Proofs.Ytgcpjihjhefpnaa
open Go.RowKit
set_option linter.unusedVariables false

theorem made_nodes (n : Nat) : (madeCells #[Value.int .i64 0, Value.int .i64 0, Value.int .i64 0, Value.int .i64 0, Value.bool false, Value.int .i64 0] (n * 6)).toList = flatN (List.replicate n Nd.zero) := by
  apply List.ext_getElem?
  intro i
  obtain ⟨q, r, rfl, hr⟩ : ∃ q r, i = q * 6 + r ∧ r < 6 := ⟨i / 6, i % 6, by omega, by omega⟩
  have hm : (q * 6 + r) % 6 = r := by omega
  rw [flatN_get _ _ _ hr]
  by_cases hi : q < n
  · have h1 : q * 6 + r < n * 6 := by omega
    have h6 : r = 0 ∨ r = 1 ∨ r = 2 ∨ r = 3 ∨ r = 4 ∨ r = 5 := by omega
    rcases h6 with rfl | rfl | rfl | rfl | rfl | rfl <;> simp [madeCells, hm, h1, hi, Nd.cells, Nd.zero]
  · have h1 : ¬ q * 6 + r < n * 6 := by omega
    simp [madeCells, h1, hi]

/-- The marks that are written into place i from k on. -/
def markN (k : Int) (i : Nat) : Nd := ⟨k + 6 * i, k + 6 * i + 1, k + 6 * i + 1 + 1, k + 6 * i + 1 + 1 + 1, (k + 6 * i + 1 + 1 + 1 + 1) % 3 == 0, k + 6 * i + 1 + 1 + 1 + 1 + 1⟩
def marksN (k : Int) (n : Nat) : List Nd := (List.range n).map (markN k)
theorem marksN_len (k : Int) (n : Nat) : (marksN k n).length = n := by simp [marksN]
theorem marksN_get (k : Int) {n i : Nat} (h : i < n) : (marksN k n)[i]? = some (markN k i) := by simp [marksN, h]

end Go.Proofs.Ytgcpjihjhefpnaa
