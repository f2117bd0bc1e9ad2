/- Contracts of ArnSwap, of the specification's and of the program's. -/
import Derived.Test.YtbefjhcokmmeoaaGive2
namespace Go.Proofs.Ytbefjhcokmmeoaa
open Go.RowKit
set_option linter.unusedVariables false

/-- The answer is all places, in memory of its own, and one thing more. -/
def ArenaRes2 (x : Value) (ns : List Nd) (n : Nat) (t f l : Int) (e : Ending) (w w' : World) : Prop :=
  ∃ a c, e = .returned (.tuple #[.agg #[.slice a n c, .int .i64 t, .int .i64 f, .int .i64 l], x]) ∧ w'.ownsRow w.heap.size 48 6 (.slice a n c) n (flatN ns) ∧ Below w.heap.size w w'

theorem set_same {α : Type} {l : List α} {i : Nat} {v : α} (h : l[i]? = some v) : l.set i v = l := by
  obtain ⟨hi, e⟩ := List.getElem?_eq_some_iff.1 h
  subst e
  exact List.set_getElem_self hi

theorem flatN_set2 {ns : List Nd} {k : Nat} {x : Nd} (hx : ns[k]? = some x) (o r : Int) :
    ((flatN ns).set (k * 6 + 2) (.int .i64 o)).set (k * 6 + 3) (.int .i64 r) = flatN (ns.set k ⟨x.key, x.val, o, r, x.used, x.gen⟩) := by
  have h : ∀ j, j < 6 → (flatN ns)[k * 6 + j]? = x.cells[j]? := fun j hj => by rw [flatN_get _ _ _ hj, hx]; rfl
  have h0 : (flatN ns).set (k * 6) (.int .i64 x.key) = flatN ns := set_same (h 0 (by omega))
  have h1 : (flatN ns).set (k * 6 + 1) (.int .i64 x.val) = flatN ns := set_same (h 1 (by omega))
  have h4 : (((flatN ns).set (k * 6 + 2) (.int .i64 o)).set (k * 6 + 3) (.int .i64 r)).set (k * 6 + 4) (.bool x.used) = ((flatN ns).set (k * 6 + 2) (.int .i64 o)).set (k * 6 + 3) (.int .i64 r) := set_same (by rw [List.getElem?_set_ne (by omega), List.getElem?_set_ne (by omega)]; exact h 4 (by omega))
  have h5 : (((flatN ns).set (k * 6 + 2) (.int .i64 o)).set (k * 6 + 3) (.int .i64 r)).set (k * 6 + 5) (.int .i64 x.gen) = ((flatN ns).set (k * 6 + 2) (.int .i64 o)).set (k * 6 + 3) (.int .i64 r) := set_same (by rw [List.getElem?_set_ne (by omega), List.getElem?_set_ne (by omega)]; exact h 5 (by omega))
  rw [← flatN_set]
  dsimp only
  rw [h0, h1, h4, h5]

theorem CopyA.put2 {w : World} {a0 : Option Addr} {n0 cap0 : Nat} {t f l : Int} {X g c : Nat} {ns : List Nd} {W : World} (h : CopyA w a0 n0 cap0 t f l X g c ns W) {k : Nat} {x : Nd} (hx : ns[k]? = some x) (o r : Int) :
    CopyA w a0 n0 cap0 t f l X g c (ns.set k ⟨x.key, x.val, o, r, x.used, x.gen⟩) ((W.setCell ⟨g, k * 6 + 2, none⟩ (.int .i64 o)).setCell ⟨g, k * 6 + 3, none⟩ (.int .i64 r)) := by
  have s1 := h.own.stored (k * 6 + 2) (.int .i64 o)
  have s2 := s1.1.stored (k * 6 + 3) (.int .i64 r)
  have h2 := grown_trans s1.2 s2.2
  have h1 := s2.1
  rw [flatN_set2 hx] at h1
  exact { loc := h.loc.grown h2 h.lt0, x := h.x.grown h2 (fun e => by have h1 : X = g := Option.some.inj e; have := h.lt1; omega), own := h1, lt0 := h.lt0, lt1 := h.lt1 }

/-- A word may be turned so. -/
def swapOk (ns : List Nd) (t f l at_ word : Int) : Bool := shapeB ns t f l && (inB at_ 9 && (inB word 19 && !(at_ == 0 && wMark word)))


end Go.Proofs.Ytbefjhcokmmeoaa
