/- What a law over one list and one answer keeps from call to call: the specification's list and answer, the copy that was handed in, the program's list and answer, each in memory of its own. -/
import Derived.Test.YtbjgepcbbonceaaMarks
import Derived.Test.YtbjgepcbbonceaaPush
namespace Go.Proofs.Ytbjgepcbbonceaa
open Go.RowKit
set_option linter.unusedVariables false

structure LawInv (w : World) (aw : Option Addr) (Nw cw : Nat) (L : List Int) (c1 : Nat) (C V : Int) (bx n : Nat) (X : List Int) (ag : Option Addr) (Ng cg : Nat) (G : List Int) (c2 : Nat) (W : World) : Prop where
  bel : Below w.heap.size w W
  ow : W.ownsRow w.heap.size 3 1 (.slice aw Nw cw) Nw (L.map (Value.int .i64))
  owlt : ∀ k, (Value.slice aw Nw cw).ownBlock = some k → k < c1
  c10 : W.cell? ⟨c1, 0, none⟩ = some (.int .i64 C)
  c11 : W.cell? ⟨c1, 1, none⟩ = some (.int .i64 V)
  lt0 : w.heap.size ≤ c1
  lt1 : c1 < bx
  ox : W.ownsRow w.heap.size 3 1 (.slice (some ⟨bx, 0, none⟩) n n) n (X.map (Value.int .i64))
  og : W.ownsRow (bx + 1) 3 1 (.slice ag Ng cg) Ng (G.map (Value.int .i64))
  oglt : ∀ k, (Value.slice ag Ng cg).ownBlock = some k → k < c2
  lt2 : bx < c2
  c20 : W.cell? ⟨c2, 0, none⟩ = some (.int .i64 C)
  c21 : W.cell? ⟨c2, 1, none⟩ = some (.int .i64 V)

theorem cell_kept {W W' : World} {b o : Nat} {v : Value} (hb : Below W.heap.size W W') (h : W.cell? ⟨b, o, none⟩ = some v) : W'.cell? ⟨b, o, none⟩ = some v :=
  (hb.cell (World.block_lt_of_cell? W ⟨b, o, none⟩ h)).trans h

section
variable {w : World} {aw : Option Addr} {Nw cw : Nat} {L : List Int} {c1 : Nat} {C V : Int} {bx n : Nat} {X : List Int} {ag : Option Addr} {Ng cg : Nat} {G : List Int} {c2 : Nat} {W W' : World}

theorem LawInv.below (h : LawInv w aw Nw cw L c1 C V bx n X ag Ng cg G c2 W) (hb : Below W.heap.size W W') : LawInv w aw Nw cw L c1 C V bx n X ag Ng cg G c2 W' :=
  { bel := below_trans' h.bel hb, ow := ownsRow_below h.ow hb, owlt := h.owlt, c10 := cell_kept hb h.c10, c11 := cell_kept hb h.c11, lt0 := h.lt0, lt1 := h.lt1,
    ox := ownsRow_below h.ox hb, og := ownsRow_below h.og hb, oglt := h.oglt, lt2 := h.lt2, c20 := cell_kept hb h.c20, c21 := cell_kept hb h.c21 }

theorem LawInv.markX (h : LawInv w aw Nw cw L c1 C V bx n X ag Ng cg G c2 W) {X' : List Int} (hg : W.grownBy W' (some bx)) (ho : W'.ownsRow w.heap.size 3 1 (.slice (some ⟨bx, 0, none⟩) n n) n (X'.map (Value.int .i64))) :
    LawInv w aw Nw cw L c1 C V bx n X' ag Ng cg G c2 W' :=
  { bel := h.bel.grown hg h.bel.size (fun k e => by cases e; have := h.lt0; have := h.lt1; omega),
    ow := h.ow.kept hg (by cases e : (Value.slice aw Nw cw).ownBlock with | none => exact .inl rfl | some k => exact .inr (fun e' => by cases e'; have := h.owlt _ e; have := h.lt1; omega)),
    owlt := h.owlt, c10 := hg.cell h.c10 (fun e => by cases e; exact Nat.lt_irrefl _ h.lt1), c11 := hg.cell h.c11 (fun e => by cases e; exact Nat.lt_irrefl _ h.lt1), lt0 := h.lt0, lt1 := h.lt1, ox := ho,
    og := h.og.kept hg (by cases e : (Value.slice ag Ng cg).ownBlock with | none => exact .inl rfl | some k => exact .inr (fun e' => by cases e'; have := (h.og.lt _ e).1; omega)),
    oglt := h.oglt, lt2 := h.lt2, c20 := hg.cell h.c20 (fun e => by cases e; exact Nat.lt_irrefl _ h.lt2), c21 := hg.cell h.c21 (fun e => by cases e; exact Nat.lt_irrefl _ h.lt2) }

theorem LawInv.markG (h : LawInv w aw Nw cw L c1 C V bx n X ag Ng cg G c2 W) {G' : List Int} (hg : W.grownBy W' (Value.slice ag Ng cg).ownBlock) (ho : W'.ownsRow (bx + 1) 3 1 (.slice ag Ng cg) Ng (G'.map (Value.int .i64))) :
    LawInv w aw Nw cw L c1 C V bx n X ag Ng cg G' c2 W' :=
  { bel := h.bel.grown hg h.bel.size (fun k e => by have := (h.og.lt _ e).1; have := h.lt0; have := h.lt1; omega),
    ow := h.ow.kept hg (by cases e : (Value.slice aw Nw cw).ownBlock with | none => exact .inl rfl | some k => exact .inr (fun e' => by have := h.owlt _ e; have := (h.og.lt _ e'.symm).1; have := h.lt1; omega)),
    owlt := h.owlt, c10 := hg.cell h.c10 (fun e => by have h2 : bx + 1 ≤ c1 := (h.og.lt _ e.symm).1; have := h.lt1; omega), c11 := hg.cell h.c11 (fun e => by have h2 : bx + 1 ≤ c1 := (h.og.lt _ e.symm).1; have := h.lt1; omega), lt0 := h.lt0, lt1 := h.lt1,
    ox := h.ox.kept hg (.inr (fun e' => by have h2 : bx + 1 ≤ bx := (h.og.lt _ e'.symm).1; omega)), og := ho, oglt := h.oglt, lt2 := h.lt2,
    c20 := hg.cell h.c20 (fun e => Nat.lt_irrefl c2 (h.oglt _ e.symm)), c21 := hg.cell h.c21 (fun e => Nat.lt_irrefl c2 (h.oglt _ e.symm)) }

end

end Go.Proofs.Ytbjgepcbbonceaa
