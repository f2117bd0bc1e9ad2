/- What a law over a pool keeps from call to call. -/
import Derived.Test.YtgcpjihjhefpnaaPool
namespace Go.Proofs.Ytgcpjihjhefpnaa
open Go.RowKit
set_option linter.unusedVariables false

structure XInvP (w : World) (E : Int) (pa : Option Addr) (np pc : Nat) (la : Option Addr) (nl lc : Nat) (bx gp gl : Nat) (ps : List Int) (oss : List (List Od)) (W : World) : Prop where
  bel : Below w.heap.size w W
  bp_ : BoxP W w.heap.size E pa np pc la nl lc
  bx_ : BoxP W bx E (some ⟨gp, 0, none⟩) np np (some ⟨gl, 0, none⟩) nl nl
  sp : SInts W (some ⟨gp, 0, none⟩) np ps
  sl : SLimbo W (some ⟨gl, 0, none⟩) nl oss

theorem XInvP.below {w : World} {E : Int} {pa : Option Addr} {np pc : Nat} {la : Option Addr} {nl lc : Nat} {bx gp gl : Nat} {ps : List Int} {oss : List (List Od)} {W W' : World} (h : XInvP w E pa np pc la nl lc bx gp gl ps oss W) (hb : Below W.heap.size W W') : XInvP w E pa np pc la nl lc bx gp gl ps oss W' :=
  { bel := below_trans' h.bel hb, bp_ := h.bp_.below hb, bx_ := h.bx_.below hb, sp := h.sp.below hb, sl := h.sl.below hb }

theorem xinvP_start {w w3 w4 : World} {E : Int} {pa : Option Addr} {np pc : Nat} {la : Option Addr} {nl lc : Nat} {gp gl : Nat} {ps : List Int} {oss : List (List Od)} (hA3 : Below w.heap.size w w3) (bx3 : BoxP w3 w.heap.size E pa np pc la nl lc) (hb4 : Below w3.heap.size w3 w4)
    (ox : OPool w3.heap.size w4.heap.size gp np ps gl nl oss w4) : XInvP w E pa np pc la nl lc w4.heap.size gp gl ps oss (w4.alloc (.cells #[.int .i64 E, .slice (some ⟨gp, 0, none⟩) np np, .slice (some ⟨gl, 0, none⟩) nl nl] 25)) :=
  { bel := below_trans' (below_trans' hA3 hb4) (al1 _ _), bp_ := (bx3.below hb4).below (al1 _ _), bx_ := boxP_new _ _ _ _ _ _ _ _ _ rfl, sp := ox.sp.below (al1 _ _), sl := ox.sl.below (al1 _ _) }

end Go.Proofs.Ytgcpjihjhefpnaa
