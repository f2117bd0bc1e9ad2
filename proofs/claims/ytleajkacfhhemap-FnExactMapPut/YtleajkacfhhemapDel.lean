/- Contracts of the program's MapDel. -/
import Derived.Test.YtleajkacfhhemapEntry
import Derived.Test.YtleajkacfhhemapListsE
namespace Go.Proofs.Ytleajkacfhhemap
open Go.RowKit
set_option linter.unusedVariables false

/-- A map and an answer come back, in new memory. -/
def MapRes (zs : List Int) (n : Nat) (c v : Int) (e : Ending) (w w' : World) : Prop :=
  ∃ a' c', e = .returned (.tuple #[.agg #[.slice a' n c'], .agg #[.int .i64 c, .int .i64 v]]) ∧ w'.ownsRow w.heap.size 44 2 (.slice a' n c') n (zs.map (Value.int .i64)) ∧ Below w.heap.size w w'

def delT (zs : List Int) (n : Nat) (key : Int) : Bool := okM zs n && entB zs n key
def delL (zs : List Int) (n : Nat) (key : Int) : List Int := if okM zs n then (if entB zs n key then zs.take (entI zs n key * 2) ++ zs.drop ((entI zs n key + 1) * 2) else zs) else []
def delN (zs : List Int) (n : Nat) (key : Int) : Nat := if okM zs n then (if entB zs n key then n - 1 else n) else 0
def delC (zs : List Int) (n : Nat) (key : Int) : Int := if okM zs n then (if entB zs n key then 2 else 1) else 0
def delV (zs : List Int) (n : Nat) (key : Int) : Int := if okM zs n then (if entB zs n key then valAt zs (entI zs n key) else 0) else 0

theorem delN_le (zs : List Int) (n : Nat) (key : Int) : delN zs n key ≤ n := by
  unfold delN
  split
  · split <;> omega
  · omega

/-- The blocks that MapDel and MapPut lay first: the argument, the map and the answer that they hand back. -/
structure Loc (w : World) (a : Option Addr) (n cap : Nat) (W : World) : Prop where
  bel : Below w.heap.size w W
  sz : w.heap.size + 1 + 1 < W.heap.size
  box : W.cell? ⟨w.heap.size, 0, none⟩ = some (.slice a n cap)
  m0 : W.cell? ⟨w.heap.size + 1, 0, none⟩ = some (.slice none 0 0)
  r0 : W.cell? ⟨w.heap.size + 1 + 1, 0, none⟩ = some (.int .i64 0)
  r1 : W.cell? ⟨w.heap.size + 1 + 1, 1, none⟩ = some (.int .i64 0)
  fm : W.frozen? ⟨w.heap.size + 1, 0, none⟩ = false
  f0 : W.frozen? ⟨w.heap.size + 1 + 1, 0, none⟩ = false
  f1 : W.frozen? ⟨w.heap.size + 1 + 1, 1, none⟩ = false

theorem frozen_kept {W W' : World} {b o : Nat} (hb : Below W.heap.size W W') (hlt : b < W.heap.size) (h : W.frozen? ⟨b, o, none⟩ = false) : W'.frozen? ⟨b, o, none⟩ = false :=
  (hb.frozen (p := ⟨b, o, none⟩) hlt).trans h

theorem Loc.below {w : World} {a : Option Addr} {n cap : Nat} {W W' : World} (h : Loc w a n cap W) (hb : Below W.heap.size W W') : Loc w a n cap W' :=
  { bel := below_trans' h.bel hb, sz := Nat.lt_of_lt_of_le h.sz hb.size, box := cell_kept hb h.box, m0 := cell_kept hb h.m0, r0 := cell_kept hb h.r0, r1 := cell_kept hb h.r1,
    fm := frozen_kept hb (by have := h.sz; omega) h.fm, f0 := frozen_kept hb h.sz h.f0, f1 := frozen_kept hb h.sz h.f1 }

theorem loc_start (w : World) (a : Option Addr) (n cap : Nat) : Loc w a n cap (((w.alloc (.cells #[.slice a n cap] 29)).alloc (.cells #[.slice none 0 0] 29)).alloc (.cells #[.int .i64 0, .int .i64 0] 34)) := by
  have al : ∀ (W : World) (o : Obj), Below W.heap.size W (W.alloc o) := fun W o => (Below.refl _ _).alloc (Nat.le_refl _) o
  exact
    { bel := below_trans' (below_trans' (al _ _) (al _ _)) (al _ _), sz := by simp,
      box := cell_kept (al _ _) (cell_kept (al _ _) (cell_at w _ _ 0 rfl rfl)), m0 := cell_kept (al _ _) (cell_at (w.alloc _) _ _ 0 (by simp) rfl),
      r0 := cell_at ((w.alloc _).alloc _) _ _ 0 (by simp) rfl, r1 := cell_at ((w.alloc _).alloc _) _ _ 1 (by simp) rfl,
      fm := frozen_kept (al _ _) (by simp) (frozen_at (w.alloc _) _ _ 0 (by simp)),
      f0 := frozen_at ((w.alloc _).alloc _) _ _ 0 (by simp), f1 := frozen_at ((w.alloc _).alloc _) _ _ 1 (by simp) }

end Go.Proofs.Ytleajkacfhhemap
