/- Contracts of ListTake, of the specification's and of the program's, and of the program's ListFirst. -/
import Derived.Test.YtleajkacfhhemahSpecQue
import Derived.Deep.RegionLawGrows
namespace Go.Proofs.Ytleajkacfhhemah
open Go.RowKit
set_option linter.unusedVariables false

theorem behind_none {w w1 : World} {c0 c1 : Value} {o : Obj} {row : Option Nat} (hg : ((w.alloc (.cells #[c0, c1] 34)).alloc o).drew.grownBy w1 row) (hr : ∀ k, row = some k → w.heap.size + 1 ≤ k) :
    w1.cell? ⟨w.heap.size, 0, none⟩ = some c0 ∧ w1.cell? ⟨w.heap.size, 1, none⟩ = some c1 ∧ w1.frozen? ⟨w.heap.size, 0, none⟩ = false ∧ w1.frozen? ⟨w.heap.size, 1, none⟩ = false ∧ Below w.heap.size w w1 := by
  have hblk := hg.block w.heap.size (by simp; omega) (fun e => by have := hr _ e.symm; omega)
  refine ⟨?_, ?_, ?_, ?_, ?_⟩
  · rw [World.cell?_of_block (a := ⟨w.heap.size, 0, none⟩) hblk]; simp
  · rw [World.cell?_of_block (a := ⟨w.heap.size, 1, none⟩) hblk]; simp
  · rw [World.frozen?_of_block (a := ⟨w.heap.size, 0, none⟩) hblk]; simp
  · rw [World.frozen?_of_block (a := ⟨w.heap.size, 1, none⟩) hblk]; simp
  · exact ((((Below.refl _ _).alloc (Nat.le_refl _) _).alloc (by simp) _).drew).grown hg (by simp; omega) (fun k h => by have := hr _ h; omega)

/-- What is left, the code and the value of ListTake. -/
def takeL (zs : List Int) : List Int := if okL zs then zs.drop 1 else []
def takeC (zs : List Int) : Int := if okL zs then (if zs.length = 0 then 1 else 2) else 0
def takeV (zs : List Int) : Int := if okL zs then zs.headD 0 else 0

theorem takeL_len (zs : List Int) : (takeL zs).length ≤ zs.length := by
  unfold takeL
  split
  · simp
  · simp

end Go.Proofs.Ytleajkacfhhemah
