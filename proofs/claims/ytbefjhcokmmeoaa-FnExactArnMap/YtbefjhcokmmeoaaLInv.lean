/- What a law over all places, whose answer is a list of numbers, keeps from call to call. -/
import Derived.Test.YtbefjhcokmmeoaaPathS
namespace Go.Proofs.Ytbefjhcokmmeoaa
open Go.RowKit
set_option linter.unusedVariables false

theorem pathOf_len (p : List Nd → Int → Int → Int → Int) (ns : List Nd) (t f l : Int) : (pathOf p ns t f l).length ≤ 2000000 := by
  unfold pathOf
  split
  · have := fromTo_len ns (p ns t f l) 9; omega
  · simp

structure LInv (w : World) (a : Option Addr) (n cap : Nat) (t f l : Int) (S1 S2 S3 : Nat) (aw : Option Addr) (N cw : Nat) (L : List Int) (bx gx : Nat) (X : List Nd) (ag : Option Addr) (cg : Nat) (G : List Int) (W : World) : Prop where
  inv : Inv3 w S1 S2 S3 (fun W => BoxA W w.heap.size a n cap t f l ∧ RowIn w.heap.size S1 3 1 (.slice aw N cw) N (L.map (Value.int .i64)) W) (ArIn S1 S2 bx (some ⟨gx, 0, none⟩) n n X t f l) (RowIn S2 S3 3 1 (.slice ag N cg) N (G.map (Value.int .i64))) W
  x1 : S1 ≤ bx
  x2 : bx < S2
  xr : ∀ k, (Value.slice (some ⟨gx, 0, none⟩) n n).ownBlock = some k → S1 ≤ k ∧ k < S2
  xn : ∀ k, (Value.slice (some ⟨gx, 0, none⟩) n n).ownBlock = some k → k < bx
  gr : ∀ k, (Value.slice ag N cg).ownBlock = some k → S2 ≤ k ∧ k < S3

section
variable {w : World} {a : Option Addr} {n cap : Nat} {t f l : Int} {S1 S2 S3 : Nat} {aw : Option Addr} {N cw : Nat} {L : List Int} {bx gx : Nat} {X : List Nd} {ag : Option Addr} {cg : Nat} {G : List Int} {W W' : World}

theorem LInv.bel (h : LInv w a n cap t f l S1 S2 S3 aw N cw L bx gx X ag cg G W) : Below w.heap.size w W := h.inv.bel
theorem LInv.bp_ (h : LInv w a n cap t f l S1 S2 S3 aw N cw L bx gx X ag cg G W) : BoxA W w.heap.size a n cap t f l := h.inv.hw.1
theorem LInv.ow (h : LInv w a n cap t f l S1 S2 S3 aw N cw L bx gx X ag cg G W) : W.ownsRow w.heap.size 3 1 (.slice aw N cw) N (L.map (Value.int .i64)) := h.inv.hw.2.1
theorem LInv.bx_ (h : LInv w a n cap t f l S1 S2 S3 aw N cw L bx gx X ag cg G W) : BoxA W bx (some ⟨gx, 0, none⟩) n n t f l := h.inv.hx.1
theorem LInv.ox (h : LInv w a n cap t f l S1 S2 S3 aw N cw L bx gx X ag cg G W) : W.ownsRow S1 48 6 (.slice (some ⟨gx, 0, none⟩) n n) n (flatN X) := h.inv.hx.2.1
theorem LInv.og (h : LInv w a n cap t f l S1 S2 S3 aw N cw L bx gx X ag cg G W) : W.ownsRow S2 3 1 (.slice ag N cg) N (G.map (Value.int .i64)) := h.inv.hg.1

theorem LInv.below (h : LInv w a n cap t f l S1 S2 S3 aw N cw L bx gx X ag cg G W) (hb : Below W.heap.size W W') : LInv w a n cap t f l S1 S2 S3 aw N cw L bx gx X ag cg G W' :=
  { inv := h.inv.below hb, x1 := h.x1, x2 := h.x2, xr := h.xr, xn := h.xn, gr := h.gr }

theorem LInv.markX (h : LInv w a n cap t f l S1 S2 S3 aw N cw L bx gx X ag cg G W) {X' : List Nd} (hg : W.grownBy W' (Value.slice (some ⟨gx, 0, none⟩) n n).ownBlock) (ho : W'.ownsRow S1 48 6 (.slice (some ⟨gx, 0, none⟩) n n) n (flatN X')) : LInv w a n cap t f l S1 S2 S3 aw N cw L bx gx X' ag cg G W' :=
  { inv := h.inv.markX hg h.xr ⟨h.bx_.grown hg (fun e => by have := h.xn _ e.symm; omega), ho, fun k e => (h.xr k e).2⟩ (onlyB_ar _ _ _ _ _ _ _ h.x1 h.x2), x1 := h.x1, x2 := h.x2, xr := h.xr, xn := h.xn, gr := h.gr }

theorem LInv.markG (h : LInv w a n cap t f l S1 S2 S3 aw N cw L bx gx X ag cg G W) {G' : List Int} (hg : W.grownBy W' (Value.slice ag N cg).ownBlock) (ho : W'.ownsRow S2 3 1 (.slice ag N cg) N (G'.map (Value.int .i64))) : LInv w a n cap t f l S1 S2 S3 aw N cw L bx gx X ag cg G' W' :=
  { inv := h.inv.markG hg h.gr ⟨ho, fun k e => (h.gr k e).2⟩ (onlyB_row _ _ _ _ _ _ _), x1 := h.x1, x2 := h.x2, xr := h.xr, xn := h.xn, gr := h.gr }

end

theorem linv_start {w w1 w2 w4 w6 : World} {a : Option Addr} {n cap : Nat} {t f l : Int} {aw : Option Addr} {N cw : Nat} {L : List Int} {gx : Nat} {ns : List Nd} {ag : Option Addr} {cg : Nat}
    (hA1 : Below w.heap.size w w1) (bx1 : BoxA w1 w.heap.size a n cap t f l) (hb2 : Below w1.heap.size w1 w2) (ow : w2.ownsRow w1.heap.size 3 1 (.slice aw N cw) N (L.map (Value.int .i64)))
    (hb4 : Below w2.heap.size w2 w4) (ox : w4.ownsRow w2.heap.size 48 6 (.slice (some ⟨gx, 0, none⟩) n n) n (flatN ns))
    (hb6 : Below (w4.alloc (.cells #[.slice (some ⟨gx, 0, none⟩) n n, .int .i64 t, .int .i64 f, .int .i64 l] 32)).heap.size (w4.alloc (.cells #[.slice (some ⟨gx, 0, none⟩) n n, .int .i64 t, .int .i64 f, .int .i64 l] 32)) w6)
    (og : w6.ownsRow (w4.alloc (.cells #[.slice (some ⟨gx, 0, none⟩) n n, .int .i64 t, .int .i64 f, .int .i64 l] 32)).heap.size 3 1 (.slice ag N cg) N (L.map (Value.int .i64))) :
    ∃ S1 S2 S3, LInv w a n cap t f l S1 S2 S3 aw N cw L w4.heap.size gx ns ag cg L w6 := by
  have T5 := al1 w4 (.cells #[.slice (some ⟨gx, 0, none⟩) n n, .int .i64 t, .int .i64 f, .int .i64 l] 32)
  have bx3 := bx1.below hb2
  refine ⟨_, _, _,
    { inv := Inv3.start (below_trans' hA1 hb2) ⟨bx3, rowIn_of (own_mono ow hA1.size) (Nat.le_refl _)⟩
        ((onlyB_box a n cap t f l (Nat.le_refl _) bx3.lt).and (onlyB_row _ _ _ _ _ _ _))
        (below_trans' hb4 T5) ⟨boxA_new w4 _ _ _ _ _ _ 32 rfl, rowIn_of (ownsRow_below ox T5) (Nat.le_refl _)⟩ (onlyB_ar _ _ _ _ _ _ _ hb4.size (by simp))
        hb6 (rowIn_of og (Nat.le_refl _)) (onlyB_row _ _ _ _ _ _ _),
      x1 := hb4.size, x2 := by simp, xr := fun k e => ⟨(ox.lt k e).1, by have := (ox.lt k e).2; simp; omega⟩, xn := fun k e => (ox.lt k e).2,
      gr := fun k e => ⟨(og.lt k e).1, (og.lt k e).2⟩ }⟩

end Go.Proofs.Ytbefjhcokmmeoaa
