/- The opening of an argument that is a map: a struct of one slice of entries. -/
import Derived.Test.YtleajkacfhhemapFrame
import Derived.Test.YtleajkacfhhemapEnts2
import Derived.Lib.SmallJoins
import Derived.Deep.SlicePairs
namespace Go.Proofs.Ytleajkacfhhemap
open Go.ChangeShapes Go.WideShapes Go.ChangeAt Go.RowKit Go.Joins Go.Deep
set_option linter.unusedVariables false

theorem array1 {α : Type} {cs : Array α} (h : cs.size = 1) : ∃ c0, cs = #[c0] := by
  obtain ⟨l⟩ := cs
  match l, h with
  | [c0], _ => exact ⟨c0, rfl⟩

theorem Try.cells24 : Try.prog.cellsOf 24 = 1 := by kernel_rfl
theorem Try.cells22 : Try.prog.cellsOf 22 = 1 := by kernel_rfl
theorem Try.cells57 : Try.prog.cellsOf 57 = 2 := by kernel_rfl
theorem Try.cells3 : Try.prog.cellsOf 3 = 1 := by kernel_rfl

/-- The numbers of pairs of cells, one behind the other. -/
def flatV (V0 V1 : Nat → Value) (n : Nat) : List Int := (List.range (n * 2)).map (fun j => intOf (if j % 2 = 0 then V0 (j / 2) else V1 (j / 2)))
theorem flatV_len (V0 V1 : Nat → Value) (n : Nat) : (flatV V0 V1 n).length = n * 2 := by simp [flatV]
theorem flatV_get (V0 V1 : Nat → Value) {n j : Nat} (h : j < n * 2) : (flatV V0 V1 n).getD j 0 = intOf (if j % 2 = 0 then V0 (j / 2) else V1 (j / 2)) := by simp [flatV, List.getD, h]

theorem ents_of_open {H : Type} {enc : TypeId × Value → H} {W : World} {base : Nat} {v0 : Value} {d0 : DataW H} {p0 : List MemPlace} (hv : Value.okWide Try.prog W .any base 24 v0)
    (h0 : DataW.Trod enc Try.prog W 0 (fun _ => true) true 24 v0 d0 p0) : ∃ a n cap zs, v0 = .agg #[.slice a n cap] ∧ SInts W a (n * 2) zs ∧ n ≤ 9223372036854775807 := by
  obtain ⟨cs, rfl, hsz⟩ := okWide_struct Try.underlying24 hv
  obtain ⟨c0, rfl⟩ := array1 (hsz.trans Try.cells24)
  obtain ⟨fuel, hf⟩ := h0
  obtain ⟨y0, m, hx, _, h1⟩ := trod_struct1 Try.underlying24 hf
  have h1' : DataW.trod enc Try.prog W 0 (fun _ => true) true m 22 [c0] = some y0 := by
    simpa [Value.cells, Try.cells22] using h1
  rcases open_slice_pairs Try.underlying22 Try.underlying57 Try.cells57 rfl rfl Try.cells3 Try.cells3 h1' with ⟨hcs, _⟩ | ⟨x, l, c, mm, nn, V0, V1, D0, D1, P0, P1, hcs, _, hl, hm, hmm, _, hcell⟩
  · simp at hcs
    subst hcs
    exact ⟨none, 0, 0, [], rfl, ⟨rfl, .inl rfl⟩, by omega⟩
  · simp at hcs
    subst hcs
    unfold maxLen at hm
    refine ⟨_, l, c, flatV V0 V1 l, rfl, ⟨flatV_len _ _ _, ?_⟩, by omega⟩
    by_cases hl0 : l = 0
    · exact .inl (by omega)
    · obtain ⟨b, off, spot⟩ := x
      have hmm' : mm = c := by simpa using hmm
      have hz := (hcell 0 (by omega)).1
      have hspot : spot = none := by simpa [Addr.add] using World.cell?_spot hz
      subst hspot
      refine .inr ⟨b, off, rfl, fun i hi => ?_⟩
      obtain ⟨q0, q1, t0, t1⟩ := hcell (i / 2) (by omega)
      obtain ⟨u0, e0, _, _⟩ := DataW.trod_int Try.underlying3 t0
      obtain ⟨u1, e1, _, _⟩ := DataW.trod_int Try.underlying3 t1
      simp at e0 e1
      rw [flatV_get _ _ hi]
      by_cases hpar : i % 2 = 0
      · rw [if_pos hpar]
        rw [Addr.add_lit, show off + i / 2 * 2 = off + i by omega] at q0
        rw [q0, e0]
        rfl
      · rw [if_neg hpar]
        rw [Addr.add_lit, show off + (i / 2 * 2 + 1) = off + i by omega] at q1
        rw [q1, e1]
        rfl

end Go.Proofs.Ytleajkacfhhemap
