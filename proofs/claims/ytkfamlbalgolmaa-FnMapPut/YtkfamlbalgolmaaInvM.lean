/- What a law over one map and one answer keeps from call to call. -/
import Derived.Test.YtkfamlbalgolmaaDel
namespace Go.Proofs.Ytkfamlbalgolmaa
open Go.RowKit
set_option linter.unusedVariables false

theorem grown_trans {w w1 w2 : World} {row : Option Nat} (h : w.grownBy w1 row) (k : w1.grownBy w2 row) : w.grownBy w2 row :=
  ⟨k.os.trans h.os, k.tape.trans h.tape, k.output.trans h.output, Nat.le_trans h.size k.size, fun b hb hne => (k.block b (Nat.lt_of_lt_of_le hb h.size) hne).trans (h.block b hb hne)⟩

structure MInv (w : World) (a : Option Addr) (n cap : Nat) (aw : Option Addr) (Nw cw : Nat) (L : List Int) (B1 : Nat) (C V : Int) (gx B2 : Nat) (X : List Int) (ag : Option Addr) (Ng cg : Nat) (G : List Int) (B3 : Nat) (W : World) : Prop where
  bel : Below w.heap.size w W
  p : W.cell? ⟨w.heap.size, 0, none⟩ = some (.slice a n cap)
  lt0 : w.heap.size < B1
  ow : W.ownsRow (w.heap.size + 1) 41 2 (.slice aw Nw cw) Nw (L.map (Value.int .i64))
  owlt : ∀ k, (Value.slice aw Nw cw).ownBlock = some k → k < B1
  mw : W.cell? ⟨B1, 0, none⟩ = some (.slice aw Nw cw)
  r0 : W.cell? ⟨B1 + 1, 0, none⟩ = some (.int .i64 C)
  r1 : W.cell? ⟨B1 + 1, 1, none⟩ = some (.int .i64 V)
  lt1 : B1 + 1 < gx
  ox : W.ownsRow (w.heap.size + 1) 41 2 (.slice (some ⟨gx, 0, none⟩) n n) n (X.map (Value.int .i64))
  lt2 : gx < B2
  mx : W.cell? ⟨B2, 0, none⟩ = some (.slice (some ⟨gx, 0, none⟩) n n)
  og : W.ownsRow (B2 + 1) 41 2 (.slice ag Ng cg) Ng (G.map (Value.int .i64))
  oglt : ∀ k, (Value.slice ag Ng cg).ownBlock = some k → k < B3
  lt3 : B2 < B3
  mg : W.cell? ⟨B3, 0, none⟩ = some (.slice ag Ng cg)
  s0 : W.cell? ⟨B3 + 1, 0, none⟩ = some (.int .i64 C)
  s1 : W.cell? ⟨B3 + 1, 1, none⟩ = some (.int .i64 V)

section
variable {w : World} {a : Option Addr} {n cap : Nat} {aw : Option Addr} {Nw cw : Nat} {L : List Int} {B1 : Nat} {C V : Int} {gx B2 : Nat} {X : List Int} {ag : Option Addr} {Ng cg : Nat} {G : List Int} {B3 : Nat} {W W' : World}

theorem MInv.below (h : MInv w a n cap aw Nw cw L B1 C V gx B2 X ag Ng cg G B3 W) (hb : Below W.heap.size W W') : MInv w a n cap aw Nw cw L B1 C V gx B2 X ag Ng cg G B3 W' :=
  { bel := below_trans' h.bel hb, p := cell_kept hb h.p, lt0 := h.lt0, ow := ownsRow_below h.ow hb, owlt := h.owlt, mw := cell_kept hb h.mw, r0 := cell_kept hb h.r0, r1 := cell_kept hb h.r1, lt1 := h.lt1,
    ox := ownsRow_below h.ox hb, lt2 := h.lt2, mx := cell_kept hb h.mx, og := ownsRow_below h.og hb, oglt := h.oglt, lt3 := h.lt3, mg := cell_kept hb h.mg, s0 := cell_kept hb h.s0, s1 := cell_kept hb h.s1 }

theorem cell_grown {row : Option Nat} {b o : Nat} {v : Value} (hg : W.grownBy W' row) (h : W.cell? ⟨b, o, none⟩ = some v) (hne : ∀ k, row = some k → k ≠ b) : W'.cell? ⟨b, o, none⟩ = some v :=
  hg.cell h (fun e => hne b e.symm rfl)
theorem own_grown {row : Option Nat} {base : Nat} {e : TypeId} {size : Nat} {v : Value} {m : Nat} {xs : List Value} (hg : W.grownBy W' row) (h : W.ownsRow base e size v m xs) (hne : ∀ k j, row = some k → v.ownBlock = some j → k ≠ j) : W'.ownsRow base e size v m xs :=
  h.kept hg (by
    cases e : v.ownBlock with
    | none => exact .inl rfl
    | some j => exact .inr (fun e' => hne j j e'.symm e rfl))

theorem MInv.markX (h : MInv w a n cap aw Nw cw L B1 C V gx B2 X ag Ng cg G B3 W) {X' : List Int} (hg : W.grownBy W' (some gx)) (ho : W'.ownsRow (w.heap.size + 1) 41 2 (.slice (some ⟨gx, 0, none⟩) n n) n (X'.map (Value.int .i64))) :
    MInv w a n cap aw Nw cw L B1 C V gx B2 X' ag Ng cg G B3 W' := by
  have l0 := h.lt0
  have l1 := h.lt1
  have l2 := h.lt2
  have l3 := h.lt3
  exact
  { bel := h.bel.grown hg h.bel.size (fun k e => by cases e; omega), p := cell_grown hg h.p (fun k e => by cases e; omega), lt0 := h.lt0,
    ow := own_grown hg h.ow (fun k j e e' => by cases e; have := h.owlt _ e'; omega), owlt := h.owlt, mw := cell_grown hg h.mw (fun k e => by cases e; omega), r0 := cell_grown hg h.r0 (fun k e => by cases e; omega), r1 := cell_grown hg h.r1 (fun k e => by cases e; omega), lt1 := h.lt1,
    ox := ho, lt2 := h.lt2, mx := cell_grown hg h.mx (fun k e => by cases e; omega), og := own_grown hg h.og (fun k j e e' => by cases e; have := (h.og.lt _ e').1; omega), oglt := h.oglt, lt3 := h.lt3,
    mg := cell_grown hg h.mg (fun k e => by cases e; omega), s0 := cell_grown hg h.s0 (fun k e => by cases e; omega), s1 := cell_grown hg h.s1 (fun k e => by cases e; omega) }

theorem MInv.markG (h : MInv w a n cap aw Nw cw L B1 C V gx B2 X ag Ng cg G B3 W) {G' : List Int} (hg : W.grownBy W' (Value.slice ag Ng cg).ownBlock) (ho : W'.ownsRow (B2 + 1) 41 2 (.slice ag Ng cg) Ng (G'.map (Value.int .i64))) :
    MInv w a n cap aw Nw cw L B1 C V gx B2 X ag Ng cg G' B3 W' := by
  have l0 := h.lt0
  have l1 := h.lt1
  have l2 := h.lt2
  have l3 := h.lt3
  have lo : ∀ k, (Value.slice ag Ng cg).ownBlock = some k → B2 + 1 ≤ k ∧ k < B3 := fun k e => ⟨(h.og.lt _ e).1, h.oglt k e⟩
  exact
  { bel := h.bel.grown hg h.bel.size (fun k e => by have := lo k e; omega), p := cell_grown hg h.p (fun k e => by have := lo k e; omega), lt0 := h.lt0,
    ow := own_grown hg h.ow (fun k j e e' => by have := lo k e; have := h.owlt _ e'; omega), owlt := h.owlt, mw := cell_grown hg h.mw (fun k e => by have := lo k e; omega), r0 := cell_grown hg h.r0 (fun k e => by have := lo k e; omega), r1 := cell_grown hg h.r1 (fun k e => by have := lo k e; omega), lt1 := h.lt1,
    ox := own_grown hg h.ox (fun k j e e' => by have := lo k e; have e2 : gx = j := (by cases e'; rfl); omega), lt2 := h.lt2, mx := cell_grown hg h.mx (fun k e => by have := lo k e; omega), og := ho, oglt := h.oglt, lt3 := h.lt3,
    mg := cell_grown hg h.mg (fun k e => by have := lo k e; omega), s0 := cell_grown hg h.s0 (fun k e => by have := lo k e; omega), s1 := cell_grown hg h.s1 (fun k e => by have := lo k e; omega) }

end

/-- The facts behind the program's first call: all stands. -/
theorem minv_start {w w2 w4 w6 : World} {a : Option Addr} {n cap : Nat} {aw : Option Addr} {Nw cw : Nat} {L : List Int} {C V : Int} {X : List Int} {gx : Nat} {ag : Option Addr} {Ng cg : Nat} {b : Nat}
    (hb2 : Below w.heap.size w w2) (hp : w2.cell? ⟨w.heap.size, 0, none⟩ = some (.slice a n cap)) (hb : w.heap.size + 1 ≤ b) (ow : w2.ownsRow b 41 2 (.slice aw Nw cw) Nw (L.map (Value.int .i64)))
    (hb4 : Below ((w2.alloc (.cells #[.slice aw Nw cw] 25)).alloc (.cells #[.int .i64 C, .int .i64 V] 29)).heap.size ((w2.alloc (.cells #[.slice aw Nw cw] 25)).alloc (.cells #[.int .i64 C, .int .i64 V] 29)) w4)
    (hgx : ((w2.alloc (.cells #[.slice aw Nw cw] 25)).alloc (.cells #[.int .i64 C, .int .i64 V] 29)).heap.size ≤ gx)
    (ox : w4.ownsRow ((w2.alloc (.cells #[.slice aw Nw cw] 25)).alloc (.cells #[.int .i64 C, .int .i64 V] 29)).heap.size 41 2 (.slice (some ⟨gx, 0, none⟩) n n) n (X.map (Value.int .i64)))
    (og : w6.ownsRow (w4.alloc (.cells #[.slice (some ⟨gx, 0, none⟩) n n] 25)).heap.size 41 2 (.slice ag Ng cg) Ng (L.map (Value.int .i64)))
    (hb6 : Below (w4.alloc (.cells #[.slice (some ⟨gx, 0, none⟩) n n] 25)).heap.size (w4.alloc (.cells #[.slice (some ⟨gx, 0, none⟩) n n] 25)) w6) :
    MInv w a n cap aw Nw cw L w2.heap.size C V gx w4.heap.size X ag Ng cg L w6.heap.size ((w6.alloc (.cells #[.slice ag Ng cg] 25)).alloc (.cells #[.int .i64 C, .int .i64 V] 29)) := by
  have al : ∀ (W : World) (o : Obj), Below W.heap.size W (W.alloc o) := fun W o => (Below.refl _ _).alloc (Nat.le_refl _) o
  have T3 := below_trans' (al w6 (.cells #[.slice ag Ng cg] 25)) (al _ (.cells #[.int .i64 C, .int .i64 V] 29))
  have T2 := below_trans' (below_trans' (al w4 (.cells #[.slice (some ⟨gx, 0, none⟩) n n] 25)) hb6) T3
  have T1 := below_trans' hb4 T2
  have T0 := below_trans' (below_trans' (al w2 (.cells #[.slice aw Nw cw] 25)) (al _ (.cells #[.int .i64 C, .int .i64 V] 29))) T1
  have hplt := World.block_lt_of_cell? w2 ⟨w.heap.size, 0, none⟩ hp
  have s4 := hb4.size
  have s6 := hb6.size
  have hx := ox.lt _ rfl
  simp at s4 s6 hgx hx hplt
  exact
    { bel := below_trans' hb2 T0, p := cell_kept T0 hp, lt0 := hplt, ow := own_mono (ownsRow_below ow T0) hb, owlt := fun k e => (ow.lt k e).2,
      mw := cell_kept T1 (cell_kept (al _ _) (cell_at w2 _ _ 0 rfl rfl)), r0 := cell_kept T1 (cell_at (w2.alloc _) _ _ 0 (by simp) rfl), r1 := cell_kept T1 (cell_at (w2.alloc _) _ _ 1 (by simp) rfl),
      lt1 := by omega, ox := own_mono (ownsRow_below ox T2) (by simp; omega), lt2 := by omega, mx := cell_kept (below_trans' hb6 T3) (cell_at w4 _ _ 0 rfl rfl),
      og := own_mono (ownsRow_below og T3) (by simp), oglt := fun k e => (og.lt k e).2, lt3 := by omega,
      mg := cell_kept (al _ _) (cell_at w6 _ _ 0 rfl rfl), s0 := cell_at (w6.alloc _) _ _ 0 (by simp) rfl, s1 := cell_at (w6.alloc _) _ _ 1 (by simp) rfl }

end Go.Proofs.Ytkfamlbalgolmaa
