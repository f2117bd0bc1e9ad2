/- What a law over one list and one answer keeps from call to call: the specification's list and answer, the copy that was handed in, the program's list and answer, each in memory of its own. -/
import Derived.Test.YtafhlflddndgjaaDoorMarks
import Derived.Test.YtafhlflddndgjaaDoorPush
namespace Go.Proofs.YtafhlflddndgjaaDoor
open Go.RowKit
set_option linter.unusedVariables false

structure LawInv (w : World) (aw : Option Addr) (Nw cw : Nat) (L : List Int) (c1 : Nat) (C V : Int) (bx n : Nat) (X : List Int) (ag : Option Addr) (Ng cg : Nat) (G : List Int) (c2 : Nat) (W : World) : Prop where
  bel : Below w.heap.size w W
  ow : W.ownsRow w.heap.size 3 1 (.slice aw Nw cw) Nw (L.map (Value.int .i64))
  owlt : ∀ k, (Value.slice aw Nw cw).ownBlock = some k → k < c1
  c10 : W.cell? ⟨c1, 0, none⟩ = some (.int .i64 C)
  c11 : W.cell? ⟨c1, 1, none⟩ = some (.int .i64 V)
  lt0 : w.heap.size ≤ c1
  lt1 : c1 < bx
  ox : W.ownsRow w.heap.size 3 1 (.slice (some ⟨bx, 0, none⟩) n n) n (X.map (Value.int .i64))
  og : W.ownsRow (bx + 1) 3 1 (.slice ag Ng cg) Ng (G.map (Value.int .i64))
  oglt : ∀ k, (Value.slice ag Ng cg).ownBlock = some k → k < c2
  lt2 : bx < c2
  c20 : W.cell? ⟨c2, 0, none⟩ = some (.int .i64 C)
  c21 : W.cell? ⟨c2, 1, none⟩ = some (.int .i64 V)

theorem cell_kept {W W' : World} {b o : Nat} {v : Value} (hb : Below W.heap.size W W') (h : W.cell? ⟨b, o, none⟩ = some v) : W'.cell? ⟨b, o, none⟩ = some v :=
  (hb.cell (World.block_lt_of_cell? W ⟨b, o, none⟩ h)).trans h

section
variable {w : World} {aw : Option Addr} {Nw cw : Nat} {L : List Int} {c1 : Nat} {C V : Int} {bx n : Nat} {X : List Int} {ag : Option Addr} {Ng cg : Nat} {G : List Int} {c2 : Nat} {W W' : World}

theorem LawInv.below (h : LawInv w aw Nw cw L c1 C V bx n X ag Ng cg G c2 W) (hb : Below W.heap.size W W') : LawInv w aw Nw cw L c1 C V bx n X ag Ng cg G c2 W' :=
  { bel := below_trans' h.bel hb, ow := ownsRow_below h.ow hb, owlt := h.owlt, c10 := cell_kept hb h.c10, c11 := cell_kept hb h.c11, lt0 := h.lt0, lt1 := h.lt1,
    ox := ownsRow_below h.ox hb, og := ownsRow_below h.og hb, oglt := h.oglt, lt2 := h.lt2, c20 := cell_kept hb h.c20, c21 := cell_kept hb h.c21 }

theorem LawInv.markX (h : LawInv w aw Nw cw L c1 C V bx n X ag Ng cg G c2 W) {X' : List Int} (hg : W.grownBy W' (some bx)) (ho : W'.ownsRow w.heap.size 3 1 (.slice (some ⟨bx, 0, none⟩) n n) n (X'.map (Value.int .i64))) :
    LawInv w aw Nw cw L c1 C V bx n X' ag Ng cg G c2 W' :=
  { bel := h.bel.grown hg h.bel.size (fun k e => by cases e; have := h.lt0; have := h.lt1; omega),
    ow := h.ow.kept hg (by cases e : (Value.slice aw Nw cw).ownBlock with | none => exact .inl rfl | some k => exact .inr (fun e' => by cases e'; have := h.owlt _ e; have := h.lt1; omega)),
    owlt := h.owlt, c10 := hg.cell h.c10 (fun e => by cases e; exact Nat.lt_irrefl _ h.lt1), c11 := hg.cell h.c11 (fun e => by cases e; exact Nat.lt_irrefl _ h.lt1), lt0 := h.lt0, lt1 := h.lt1, ox := ho,
    og := h.og.kept hg (by cases e : (Value.slice ag Ng cg).ownBlock with | none => exact .inl rfl | some k => exact .inr (fun e' => by cases e'; have := (h.og.lt _ e).1; omega)),
    oglt := h.oglt, lt2 := h.lt2, c20 := hg.cell h.c20 (fun e => by cases e; exact Nat.lt_irrefl _ h.lt2), c21 := hg.cell h.c21 (fun e => by cases e; exact Nat.lt_irrefl _ h.lt2) }

theorem LawInv.markG (h : LawInv w aw Nw cw L c1 C V bx n X ag Ng cg G c2 W) {G' : List Int} (hg : W.grownBy W' (Value.slice ag Ng cg).ownBlock) (ho : W'.ownsRow (bx + 1) 3 1 (.slice ag Ng cg) Ng (G'.map (Value.int .i64))) :
    LawInv w aw Nw cw L c1 C V bx n X ag Ng cg G' c2 W' :=
  { bel := h.bel.grown hg h.bel.size (fun k e => by have := (h.og.lt _ e).1; have := h.lt0; have := h.lt1; omega),
    ow := h.ow.kept hg (by cases e : (Value.slice aw Nw cw).ownBlock with | none => exact .inl rfl | some k => exact .inr (fun e' => by have := h.owlt _ e; have := (h.og.lt _ e'.symm).1; have := h.lt1; omega)),
    owlt := h.owlt, c10 := hg.cell h.c10 (fun e => by have h2 : bx + 1 ≤ c1 := (h.og.lt _ e.symm).1; have := h.lt1; omega), c11 := hg.cell h.c11 (fun e => by have h2 : bx + 1 ≤ c1 := (h.og.lt _ e.symm).1; have := h.lt1; omega), lt0 := h.lt0, lt1 := h.lt1,
    ox := h.ox.kept hg (.inr (fun e' => by have h2 : bx + 1 ≤ bx := (h.og.lt _ e'.symm).1; omega)), og := ho, oglt := h.oglt, lt2 := h.lt2,
    c20 := hg.cell h.c20 (fun e => Nat.lt_irrefl c2 (h.oglt _ e.symm)), c21 := hg.cell h.c21 (fun e => Nat.lt_irrefl c2 (h.oglt _ e.symm)) }

end

/-- The facts behind the program's first call: all stands. -/
theorem law_inv {w w2 w4 w5 : World} {aw : Option Addr} {Nw cw : Nat} {L : List Int} {C V : Int} {n : Nat} {X : List Int} {ag : Option Addr} {Ng cg : Nat} {b : Nat}
    (hb2 : Below w.heap.size w w2) (hb : w.heap.size ≤ b) (ow : w2.ownsRow b 3 1 (.slice aw Nw cw) Nw (L.map (Value.int .i64)))
    (hb4 : Below (w2.heap.size + 1) (w2.alloc (.cells #[.int .i64 C, .int .i64 V] 28)) w4)
    (ox : w4.ownsRow (w2.heap.size + 1) 3 1 (.slice (some ⟨w2.heap.size + 1, 0, none⟩) n n) n (X.map (Value.int .i64)))
    (og : w5.ownsRow w4.heap.size 3 1 (.slice ag Ng cg) Ng (L.map (Value.int .i64))) (hb5 : Below w4.heap.size w4 w5) :
    LawInv w aw Nw cw L w2.heap.size C V (w2.heap.size + 1) n X ag Ng cg L w5.heap.size (w5.alloc (.cells #[.int .i64 C, .int .i64 V] 28)) := by
  have hA : Below w2.heap.size w2 (w2.alloc (.cells #[.int .i64 C, .int .i64 V] 28)) := (Below.refl _ _).alloc (Nat.le_refl _) _
  have hsz : (w2.alloc (.cells #[.int .i64 C, .int .i64 V] 28)).heap.size = w2.heap.size + 1 := by simp
  have hb4' : Below (w2.alloc (.cells #[.int .i64 C, .int .i64 V] 28)).heap.size (w2.alloc (.cells #[.int .i64 C, .int .i64 V] 28)) w4 := by rw [hsz]; exact hb4
  have hB : Below w5.heap.size w5 (w5.alloc (.cells #[.int .i64 C, .int .i64 V] 28)) := (Below.refl _ _).alloc (Nat.le_refl _) _
  have hall := below_trans' (below_trans' (below_trans' hA hb4') hb5) hB
  have h4s := hb4'.size
  have h5s := hb5.size
  have hx := ox.lt _ rfl
  have h2s := hb2.size
  exact
    { bel := below_trans' hb2 hall, ow := own_mono (ownsRow_below ow hall) hb, owlt := fun k e => (ow.lt k e).2,
      c10 := cell_kept (below_trans' (below_trans' hb4' hb5) hB) (by simp), c11 := cell_kept (below_trans' (below_trans' hb4' hb5) hB) (by simp),
      lt0 := h2s, lt1 := Nat.lt_succ_self _, ox := own_mono (ownsRow_below ox (below_trans' hb5 hB)) (by omega),
      og := own_mono (ownsRow_below og hB) (by omega), oglt := fun k e => (og.lt k e).2, lt2 := by omega, c20 := by simp, c21 := by simp }

end Go.Proofs.YtafhlflddndgjaaDoor
