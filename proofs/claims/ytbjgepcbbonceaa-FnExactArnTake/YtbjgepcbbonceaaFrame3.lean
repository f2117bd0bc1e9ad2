/- The opening of an argument that is all places: a struct of a slice of places and three integers. -/
import Derived.Test.YtbjgepcbbonceaaFrame
import Derived.Test.YtbjgepcbbonceaaNodes
import Derived.Lib.SmallJoins
import Derived.Deep.Slices
namespace Go.Proofs.Ytbjgepcbbonceaa
open Go.ChangeShapes Go.WideShapes Go.ChangeAt Go.RowKit Go.Joins Go.Deep
set_option linter.unusedVariables false

theorem Try.cells24 : Try.prog.cellsOf 24 = 4 := by kernel_rfl
theorem Try.cells22 : Try.prog.cellsOf 22 = 1 := by kernel_rfl
theorem Try.cells58 : Try.prog.cellsOf 58 = 6 := by kernel_rfl
theorem Try.cells3 : Try.prog.cellsOf 3 = 1 := by kernel_rfl
theorem Try.cells4 : Try.prog.cellsOf 4 = 1 := by kernel_rfl

def boolOf : Value → Bool
  | .bool b => b
  | _ => false

/-- The place of six cells. -/
def ndOf (cs : List Value) : Nd := ⟨intOf (cs.getD 0 undef), intOf (cs.getD 1 undef), intOf (cs.getD 2 undef), intOf (cs.getD 3 undef), boolOf (cs.getD 4 undef), intOf (cs.getD 5 undef)⟩

theorem list6 {α : Type} {l : List α} (h : l.length = 6) : ∃ a b c d e f, l = [a, b, c, d, e, f] := by
  match l, h with
  | [a, b, c, d, e, f], _ => exact ⟨a, b, c, d, e, f, rfl⟩

theorem node_of_trod {H : Type} {enc : TypeId × Value → H} {W : World} {fuel : Nat} {cs : List Value} {x : DataW H × List MemPlace} (hl : cs.length = 6)
    (h : DataW.trod enc Try.prog W 0 (fun _ => true) true fuel 58 cs = some x) : cs = (ndOf cs).cells := by
  obtain ⟨xs, k, hk, hxy, _, hxl, hf⟩ := DataW.trod_struct Try.underlying58 h
  obtain ⟨c0, c1, c2, c3, c4, c5, rfl⟩ := list6 hl
  obtain ⟨y0, y1, y2, y3, y4, y5, rfl⟩ := list6 (l := xs) (by simpa using hxl)
  have g0 := hf 0 _ rfl
  have g1 := hf 1 _ rfl
  have g2 := hf 2 _ rfl
  have g3 := hf 3 _ rfl
  have g4 := hf 4 _ rfl
  have g5 := hf 5 _ rfl
  simp [Try.cells3, Try.cells4] at g0 g1 g2 g3 g4 g5
  obtain ⟨u0, e0, _, _⟩ := DataW.trod_int Try.underlying3 g0
  obtain ⟨u1, e1, _, _⟩ := DataW.trod_int Try.underlying3 g1
  obtain ⟨u2, e2, _, _⟩ := DataW.trod_int Try.underlying3 g2
  obtain ⟨u3, e3, _, _⟩ := DataW.trod_int Try.underlying3 g3
  obtain ⟨u5, e5, _, _⟩ := DataW.trod_int Try.underlying3 g5
  obtain ⟨u4, e4, _⟩ := DataW.trod_bool Try.underlying4 g4
  simp at e0 e1 e2 e3 e4 e5
  subst e0 e1 e2 e3 e4 e5
  rfl

theorem arena_of_open {H : Type} {enc : TypeId × Value → H} {W : World} {base : Nat} {v0 : Value} {d0 : DataW H} {p0 : List MemPlace} (hv : Value.okWide Try.prog W .any base 24 v0)
    (h0 : DataW.Trod enc Try.prog W 0 (fun _ => true) true 24 v0 d0 p0) : ∃ a n cap t f l ns, v0 = .agg #[.slice a n cap, .int .i64 t, .int .i64 f, .int .i64 l] ∧ SNodes W a n ns ∧ n ≤ 9223372036854775807 := by
  obtain ⟨cs, rfl, hsz⟩ := okWide_struct Try.underlying24 hv
  obtain ⟨c0, c1, c2, c3, rfl⟩ := array4 (hsz.trans Try.cells24)
  obtain ⟨fuel, hf⟩ := h0
  obtain ⟨y0, y1, y2, y3, m, hx, _, g0, g1, g2, g3⟩ := trod_struct4 Try.underlying24 hf
  simp [Value.cells, Try.cells22, Try.cells3] at g0 g1 g2 g3
  obtain ⟨t, e1, _, _⟩ := DataW.trod_int Try.underlying3 g1
  obtain ⟨f, e2, _, _⟩ := DataW.trod_int Try.underlying3 g2
  obtain ⟨l, e3, _, _⟩ := DataW.trod_int Try.underlying3 g3
  simp at e1 e2 e3
  subst e1 e2 e3
  rcases open_slice Try.underlying22 g0 with ⟨hcs, _⟩ | ⟨x, len, cap, mm, nn, D, Pl, hcs, hb, hl, hm, hmm, _, hcell⟩
  · simp at hcs
    subst hcs
    exact ⟨none, 0, 0, t, f, l, [], rfl, ⟨rfl, .inl rfl⟩, by omega⟩
  · simp at hcs
    subst hcs
    unfold maxLen at hm
    have hmm' : mm = cap := by simpa using hmm
    have each : ∀ i, i < len → ∃ y : Nd, ∀ j v, y.cells[j]? = some v → W.cell? (x.add (i * 6 + j)) = some v := by
      intro i hi
      obtain ⟨cs', h1, h2⟩ := hcell i (by omega)
      rw [Try.cells58] at h1
      obtain ⟨_, hlen, hc⟩ := World.cells?_some h1
      have e := node_of_trod (by simpa using hlen) h2
      refine ⟨ndOf cs', fun j v hj => ?_⟩
      rw [← e] at hj
      have hj6 : j < 6 := by have := (List.getElem?_eq_some_iff.1 hj).1; omega
      have := (hc j hj6).trans hj
      rw [Go.Deep.add_add] at this
      exact this
    obtain ⟨F, hF⟩ : ∃ F : Nat → Nd, ∀ i, i < len → ∀ j v, (F i).cells[j]? = some v → W.cell? (x.add (i * 6 + j)) = some v := by
      classical
      refine ⟨fun i => if h : i < len then Classical.choose (each i h) else Nd.zero, fun i hi => ?_⟩
      simp only [hi, dif_pos]
      exact Classical.choose_spec (each i hi)
    refine ⟨_, len, cap, t, f, l, (List.range len).map F, rfl, ⟨by simp, ?_⟩, by omega⟩
    by_cases hl0 : len = 0
    · exact .inl hl0
    · obtain ⟨b, off, spot⟩ := x
      have hz := hF 0 (by omega) 0 _ rfl
      have hspot : spot = none := by simpa [Addr.add] using World.cell?_spot hz
      subst hspot
      refine .inr ⟨b, off, rfl, fun i y hy => ?_⟩
      have hi : i < len := by have := (List.getElem?_eq_some_iff.1 hy).1; simpa using this
      obtain rfl : F i = y := by simpa [hi] using hy
      have key : ∀ j v, (F i).cells[j]? = some v → W.cell? ⟨b, off + i * 6 + j, none⟩ = some v := fun j v hj => by
        have := hF i hi j v hj
        rw [Addr.add_lit] at this
        rw [show off + i * 6 + j = off + (i * 6 + j) by omega]
        exact this
      exact ⟨key 0 _ rfl, key 1 _ rfl, key 2 _ rfl, key 3 _ rfl, key 4 _ rfl, key 5 _ rfl⟩

end Go.Proofs.Ytbjgepcbbonceaa
