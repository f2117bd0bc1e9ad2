/- What a law over all places, whose answer is all places, keeps from call to call. -/
import Derived.Test.YtbjgepcbbonceaaGive
namespace Go.Proofs.Ytbjgepcbbonceaa
open Go.RowKit
set_option linter.unusedVariables false

structure AInv (w : World) (a : Option Addr) (n cap : Nat) (t f l : Int) (S1 S2 S3 : Nat) (bw : Nat) (aw : Option Addr) (N cw : Nat) (L : List Nd) (T F E : Int) (bx gx : Nat) (X : List Nd) (bg : Nat) (ag : Option Addr) (cg : Nat) (G : List Nd) (W : World) : Prop where
  inv : Inv3 w S1 S2 S3 (fun W => BoxA W w.heap.size a n cap t f l ∧ ArIn w.heap.size S1 bw aw N cw L T F E W) (ArIn S1 S2 bx (some ⟨gx, 0, none⟩) n n X t f l) (ArIn S2 S3 bg ag N cg G T F E) W
  x1 : S1 ≤ bx
  x2 : bx < S2
  xr : ∀ k, (Value.slice (some ⟨gx, 0, none⟩) n n).ownBlock = some k → S1 ≤ k ∧ k < S2
  xn : ∀ k, (Value.slice (some ⟨gx, 0, none⟩) n n).ownBlock = some k → k < bx
  g1 : S2 ≤ bg
  g2 : bg < S3
  gr : ∀ k, (Value.slice ag N cg).ownBlock = some k → S2 ≤ k ∧ k < S3
  gn : ∀ k, (Value.slice ag N cg).ownBlock = some k → k < bg

section
variable {w : World} {a : Option Addr} {n cap : Nat} {t f l : Int} {S1 S2 S3 : Nat} {bw : Nat} {aw : Option Addr} {N cw : Nat} {L : List Nd} {T F E : Int} {bx gx : Nat} {X : List Nd} {bg : Nat} {ag : Option Addr} {cg : Nat} {G : List Nd} {W W' : World}

theorem AInv.bel (h : AInv w a n cap t f l S1 S2 S3 bw aw N cw L T F E bx gx X bg ag cg G W) : Below w.heap.size w W := h.inv.bel
theorem AInv.bp_ (h : AInv w a n cap t f l S1 S2 S3 bw aw N cw L T F E bx gx X bg ag cg G W) : BoxA W w.heap.size a n cap t f l := h.inv.hw.1
theorem AInv.bw_ (h : AInv w a n cap t f l S1 S2 S3 bw aw N cw L T F E bx gx X bg ag cg G W) : BoxA W bw aw N cw T F E := h.inv.hw.2.1
theorem AInv.ow (h : AInv w a n cap t f l S1 S2 S3 bw aw N cw L T F E bx gx X bg ag cg G W) : W.ownsRow w.heap.size 46 6 (.slice aw N cw) N (flatN L) := h.inv.hw.2.2.1
theorem AInv.bx_ (h : AInv w a n cap t f l S1 S2 S3 bw aw N cw L T F E bx gx X bg ag cg G W) : BoxA W bx (some ⟨gx, 0, none⟩) n n t f l := h.inv.hx.1
theorem AInv.ox (h : AInv w a n cap t f l S1 S2 S3 bw aw N cw L T F E bx gx X bg ag cg G W) : W.ownsRow S1 46 6 (.slice (some ⟨gx, 0, none⟩) n n) n (flatN X) := h.inv.hx.2.1
theorem AInv.bg_ (h : AInv w a n cap t f l S1 S2 S3 bw aw N cw L T F E bx gx X bg ag cg G W) : BoxA W bg ag N cg T F E := h.inv.hg.1
theorem AInv.og (h : AInv w a n cap t f l S1 S2 S3 bw aw N cw L T F E bx gx X bg ag cg G W) : W.ownsRow S2 46 6 (.slice ag N cg) N (flatN G) := h.inv.hg.2.1

theorem AInv.below (h : AInv w a n cap t f l S1 S2 S3 bw aw N cw L T F E bx gx X bg ag cg G W) (hb : Below W.heap.size W W') : AInv w a n cap t f l S1 S2 S3 bw aw N cw L T F E bx gx X bg ag cg G W' :=
  { inv := h.inv.below hb, x1 := h.x1, x2 := h.x2, xr := h.xr, xn := h.xn, g1 := h.g1, g2 := h.g2, gr := h.gr, gn := h.gn }

theorem AInv.markX (h : AInv w a n cap t f l S1 S2 S3 bw aw N cw L T F E bx gx X bg ag cg G W) {X' : List Nd} (hg : W.grownBy W' (Value.slice (some ⟨gx, 0, none⟩) n n).ownBlock) (ho : W'.ownsRow S1 46 6 (.slice (some ⟨gx, 0, none⟩) n n) n (flatN X')) : AInv w a n cap t f l S1 S2 S3 bw aw N cw L T F E bx gx X' bg ag cg G W' :=
  { inv := h.inv.markX hg h.xr ⟨h.bx_.grown hg (fun e => by have := h.xn _ e.symm; omega), ho, fun k e => (h.xr k e).2⟩ (onlyB_ar _ _ _ _ _ _ _ h.x1 h.x2), x1 := h.x1, x2 := h.x2, xr := h.xr, xn := h.xn, g1 := h.g1, g2 := h.g2, gr := h.gr, gn := h.gn }

theorem AInv.markG (h : AInv w a n cap t f l S1 S2 S3 bw aw N cw L T F E bx gx X bg ag cg G W) {G' : List Nd} (hg : W.grownBy W' (Value.slice ag N cg).ownBlock) (ho : W'.ownsRow S2 46 6 (.slice ag N cg) N (flatN G')) : AInv w a n cap t f l S1 S2 S3 bw aw N cw L T F E bx gx X bg ag cg G' W' :=
  { inv := h.inv.markG hg h.gr ⟨h.bg_.grown hg (fun e => by have := h.gn _ e.symm; omega), ho, fun k e => (h.gr k e).2⟩ (onlyB_ar _ _ _ _ _ _ _ h.g1 h.g2), x1 := h.x1, x2 := h.x2, xr := h.xr, xn := h.xn, g1 := h.g1, g2 := h.g2, gr := h.gr, gn := h.gn }

end

theorem ainv_start {w w1 w2 w4 w6 : World} {a : Option Addr} {n cap : Nat} {t f l : Int} {aw : Option Addr} {N cw : Nat} {L : List Nd} {T F E : Int} {gx : Nat} {ns : List Nd} {ag : Option Addr} {cg : Nat}
    (hA1 : Below w.heap.size w w1) (bx1 : BoxA w1 w.heap.size a n cap t f l) (hb2 : Below w1.heap.size w1 w2) (ow : w2.ownsRow w1.heap.size 46 6 (.slice aw N cw) N (flatN L))
    (hb4 : Below (w2.alloc (.cells #[.slice aw N cw, .int .i64 T, .int .i64 F, .int .i64 E] 28)).heap.size (w2.alloc (.cells #[.slice aw N cw, .int .i64 T, .int .i64 F, .int .i64 E] 28)) w4)
    (ox : w4.ownsRow (w2.alloc (.cells #[.slice aw N cw, .int .i64 T, .int .i64 F, .int .i64 E] 28)).heap.size 46 6 (.slice (some ⟨gx, 0, none⟩) n n) n (flatN ns))
    (hb6 : Below (w4.alloc (.cells #[.slice (some ⟨gx, 0, none⟩) n n, .int .i64 t, .int .i64 f, .int .i64 l] 28)).heap.size (w4.alloc (.cells #[.slice (some ⟨gx, 0, none⟩) n n, .int .i64 t, .int .i64 f, .int .i64 l] 28)) w6)
    (og : w6.ownsRow (w4.alloc (.cells #[.slice (some ⟨gx, 0, none⟩) n n, .int .i64 t, .int .i64 f, .int .i64 l] 28)).heap.size 46 6 (.slice ag N cg) N (flatN L)) :
    ∃ S1 S2 S3, AInv w a n cap t f l S1 S2 S3 w2.heap.size aw N cw L T F E w4.heap.size gx ns w6.heap.size ag cg L (w6.alloc (.cells #[.slice ag N cg, .int .i64 T, .int .i64 F, .int .i64 E] 28)) := by
  have T3 := al1 w2 (.cells #[.slice aw N cw, .int .i64 T, .int .i64 F, .int .i64 E] 28)
  have T5 := al1 w4 (.cells #[.slice (some ⟨gx, 0, none⟩) n n, .int .i64 t, .int .i64 f, .int .i64 l] 28)
  have T7 := al1 w6 (.cells #[.slice ag N cg, .int .i64 T, .int .i64 F, .int .i64 E] 28)
  have bx3 := (bx1.below hb2).below T3
  refine ⟨_, _, _,
    { inv := Inv3.start (below_trans' (below_trans' hA1 hb2) T3) ⟨bx3, boxA_new w2 aw N cw T F E 28 rfl, rowIn_of (own_mono (ownsRow_below ow T3) hA1.size) (Nat.le_refl _)⟩
        ((onlyB_box a n cap t f l (Nat.le_refl _) bx3.lt).and (onlyB_ar _ _ _ _ _ _ _ (below_trans' hA1 hb2).size (by simp)))
        (below_trans' hb4 T5) ⟨boxA_new w4 _ _ _ _ _ _ 28 rfl, rowIn_of (ownsRow_below ox T5) (Nat.le_refl _)⟩ (onlyB_ar _ _ _ _ _ _ _ hb4.size (by simp))
        (below_trans' hb6 T7) ⟨boxA_new w6 _ _ _ _ _ _ 28 rfl, rowIn_of (ownsRow_below og T7) (Nat.le_refl _)⟩ (onlyB_ar _ _ _ _ _ _ _ hb6.size (by simp)),
      x1 := hb4.size, x2 := by simp, xr := fun k e => ⟨(ox.lt k e).1, by have := (ox.lt k e).2; simp; omega⟩, xn := fun k e => (ox.lt k e).2,
      g1 := hb6.size, g2 := by simp, gr := fun k e => ⟨(og.lt k e).1, by have := (og.lt k e).2; simp; omega⟩, gn := fun k e => (og.lt k e).2 }⟩

end Go.Proofs.Ytbjgepcbbonceaa
