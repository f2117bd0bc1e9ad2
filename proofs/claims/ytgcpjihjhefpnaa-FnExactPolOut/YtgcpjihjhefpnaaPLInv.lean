/- What a law over a pool, whose answer is a list of numbers, keeps from call to call. -/
import Derived.Test.YtgcpjihjhefpnaaPool
import Derived.Test.YtgcpjihjhefpnaaPB
namespace Go.Proofs.Ytgcpjihjhefpnaa
open Go.RowKit
set_option linter.unusedVariables false

theorem Inv3.turn {w W W' : World} {s1 s2 s3 : Nat} {Pw Px Pg : World → Prop} (h : Inv3 w s1 s2 s3 Pw Px Pg W) (ht : TurnIn s1 s2 W W') : Inv3 w s1 s2 s3 Pw (fun _ => True) Pg W' :=
  { bel := h.bel.trans (ht.below h.l0 h.bel.size), l0 := h.l0, l1 := h.l1, l2 := h.l2, l3 := Nat.le_trans h.l3 ht.size, fw := h.fw, fx := onlyB_const _ _ _, fg := h.fg,
    hw := h.fw W W' h.hw (fun k _ hk => ht.block k (by have := h.l1; have := h.l2; have := h.l3; omega) (.inl hk)), hx := trivial,
    hg := h.fg W W' h.hg (fun k hk hk2 => ht.block k (by have := h.l3; omega) (.inr hk)) }

structure LInvP (w : World) (E : Int) (pa : Option Addr) (np pc : Nat) (la : Option Addr) (nl lc : Nat) (S1 S2 S3 : Nat) (aw : Option Addr) (N cw : Nat) (L : List Int) (Px : World → Prop) (ag : Option Addr) (cg : Nat) (G : List Int) (W : World) : Prop where
  inv : Inv3 w S1 S2 S3 (fun W => BoxP W w.heap.size E pa np pc la nl lc ∧ RowIn w.heap.size S1 3 1 (.slice aw N cw) N (L.map (Value.int .i64)) W) Px (RowIn S2 S3 3 1 (.slice ag N cg) N (G.map (Value.int .i64))) W
  gr : ∀ k, (Value.slice ag N cg).ownBlock = some k → S2 ≤ k ∧ k < S3

section
variable {w : World} {E : Int} {pa : Option Addr} {np pc : Nat} {la : Option Addr} {nl lc : Nat} {S1 S2 S3 : Nat} {aw : Option Addr} {N cw : Nat} {L : List Int} {Px : World → Prop} {ag : Option Addr} {cg : Nat} {G : List Int} {W W' : World}

theorem LInvP.bel (h : LInvP w E pa np pc la nl lc S1 S2 S3 aw N cw L Px ag cg G W) : Below w.heap.size w W := h.inv.bel
theorem LInvP.bp_ (h : LInvP w E pa np pc la nl lc S1 S2 S3 aw N cw L Px ag cg G W) : BoxP W w.heap.size E pa np pc la nl lc := h.inv.hw.1
theorem LInvP.ow (h : LInvP w E pa np pc la nl lc S1 S2 S3 aw N cw L Px ag cg G W) : W.ownsRow w.heap.size 3 1 (.slice aw N cw) N (L.map (Value.int .i64)) := h.inv.hw.2.1
theorem LInvP.hx (h : LInvP w E pa np pc la nl lc S1 S2 S3 aw N cw L Px ag cg G W) : Px W := h.inv.hx
theorem LInvP.og (h : LInvP w E pa np pc la nl lc S1 S2 S3 aw N cw L Px ag cg G W) : W.ownsRow S2 3 1 (.slice ag N cg) N (G.map (Value.int .i64)) := h.inv.hg.1
theorem LInvP.far (h : LInvP w E pa np pc la nl lc S1 S2 S3 aw N cw L Px ag cg G W) : S2 ≤ W.heap.size := Nat.le_trans h.inv.l2 h.inv.l3
theorem LInvP.below (h : LInvP w E pa np pc la nl lc S1 S2 S3 aw N cw L Px ag cg G W) (hb : Below W.heap.size W W') : LInvP w E pa np pc la nl lc S1 S2 S3 aw N cw L Px ag cg G W' :=
  { inv := h.inv.below hb, gr := h.gr }
theorem LInvP.turn (h : LInvP w E pa np pc la nl lc S1 S2 S3 aw N cw L Px ag cg G W) (ht : TurnIn S1 S2 W W') : LInvP w E pa np pc la nl lc S1 S2 S3 aw N cw L (fun _ => True) ag cg G W' :=
  { inv := h.inv.turn ht, gr := h.gr }
theorem LInvP.markG (h : LInvP w E pa np pc la nl lc S1 S2 S3 aw N cw L Px ag cg G W) {G' : List Int} (hg : W.grownBy W' (Value.slice ag N cg).ownBlock) (ho : W'.ownsRow S2 3 1 (.slice ag N cg) N (G'.map (Value.int .i64))) : LInvP w E pa np pc la nl lc S1 S2 S3 aw N cw L Px ag cg G' W' :=
  { inv := h.inv.markG hg h.gr ⟨ho, fun k e => (h.gr k e).2⟩ (onlyB_row _ _ _ _ _ _ _), gr := h.gr }

end

/-- The copy that is handed in, with the box in which it lies. -/
def PoolBox (lo hi b : Nat) (E : Int) (gp np gl nl : Nat) (ps : List Int) (oss : List (List Od)) (W : World) : Prop :=
  BoxP W b E (some ⟨gp, 0, none⟩) np np (some ⟨gl, 0, none⟩) nl nl ∧ OPool lo hi gp np ps gl nl oss W

theorem linvP_start {w w1 w2 w4 w6 : World} {E : Int} {pa : Option Addr} {np pc : Nat} {la : Option Addr} {nl lc : Nat} {aw : Option Addr} {N cw : Nat} {L : List Int} {gp gl : Nat} {ps : List Int} {oss : List (List Od)} {ag : Option Addr} {cg : Nat}
    (hA1 : Below w.heap.size w w1) (bx1 : BoxP w1 w.heap.size E pa np pc la nl lc) (hb2 : Below w1.heap.size w1 w2) (ow : w2.ownsRow w1.heap.size 3 1 (.slice aw N cw) N (L.map (Value.int .i64)))
    (hb4 : Below w2.heap.size w2 w4) (ox : OPool w2.heap.size w4.heap.size gp np ps gl nl oss w4)
    (hb6 : Below (w4.alloc (.cells #[.int .i64 E, .slice (some ⟨gp, 0, none⟩) np np, .slice (some ⟨gl, 0, none⟩) nl nl] 25)).heap.size (w4.alloc (.cells #[.int .i64 E, .slice (some ⟨gp, 0, none⟩) np np, .slice (some ⟨gl, 0, none⟩) nl nl] 25)) w6)
    (og : w6.ownsRow (w4.alloc (.cells #[.int .i64 E, .slice (some ⟨gp, 0, none⟩) np np, .slice (some ⟨gl, 0, none⟩) nl nl] 25)).heap.size 3 1 (.slice ag N cg) N (L.map (Value.int .i64))) :
    ∃ S1 S2 S3, LInvP w E pa np pc la nl lc S1 S2 S3 aw N cw L (PoolBox S1 S2 w4.heap.size E gp np gl nl ps oss) ag cg L w6 := by
  have T5 := al1 w4 (.cells #[.int .i64 E, .slice (some ⟨gp, 0, none⟩) np np, .slice (some ⟨gl, 0, none⟩) nl nl] 25)
  have bx3 := bx1.below hb2
  refine ⟨_, _, _,
    { inv := Inv3.start (below_trans' hA1 hb2) ⟨bx3, rowIn_of (own_mono ow hA1.size) (Nat.le_refl _)⟩
        ((onlyB_boxP E pa np pc la nl lc (Nat.le_refl _) bx3.lt).and (onlyB_row _ _ _ _ _ _ _))
        (below_trans' hb4 T5) ⟨boxP_new w4 _ _ _ _ _ _ _ 25 rfl, (ox.below (Nat.le_refl _) T5).mono (Nat.le_refl _) T5.size⟩ ((onlyB_boxP _ _ _ _ _ _ _ hb4.size (by simp)).and OPool.only)
        hb6 (rowIn_of og (Nat.le_refl _)) (onlyB_row _ _ _ _ _ _ _),
      gr := fun k e => ⟨(og.lt k e).1, (og.lt k e).2⟩ }⟩

end Go.Proofs.Ytgcpjihjhefpnaa
