/- The opening of an argument that is a map: a struct of one slice of entries. -/
import Derived.Test.YtleajkacfhhemagFrame
import Derived.Test.YtleajkacfhhemagEnts2
import Derived.Lib.SmallJoins
import Derived.Deep.SlicePairs
namespace Go.Proofs.Ytleajkacfhhemag
open Go.ChangeShapes Go.WideShapes Go.ChangeAt Go.RowKit Go.Joins Go.Deep
set_option linter.unusedVariables false

theorem array1 {α : Type} {cs : Array α} (h : cs.size = 1) : ∃ c0, cs = #[c0] := by
  obtain ⟨l⟩ := cs
  match l, h with
  | [c0], _ => exact ⟨c0, rfl⟩

/-- The numbers of pairs of cells, one behind the other. -/
def flatV (V0 V1 : Nat → Value) (n : Nat) : List Int := (List.range (n * 2)).map (fun j => intOf (if j % 2 = 0 then V0 (j / 2) else V1 (j / 2)))
theorem flatV_len (V0 V1 : Nat → Value) (n : Nat) : (flatV V0 V1 n).length = n * 2 := by simp [flatV]
theorem flatV_get (V0 V1 : Nat → Value) {n j : Nat} (h : j < n * 2) : (flatV V0 V1 n).getD j 0 = intOf (if j % 2 = 0 then V0 (j / 2) else V1 (j / 2)) := by simp [flatV, List.getD, h]

end Go.Proofs.Ytleajkacfhhemag
