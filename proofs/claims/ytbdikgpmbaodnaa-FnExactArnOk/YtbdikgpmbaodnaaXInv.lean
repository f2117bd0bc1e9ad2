/- What a law over all places, whose answer is a number or a yes, keeps from call to call. -/
import Derived.Test.YtbdikgpmbaodnaaArena
namespace Go.Proofs.Ytbdikgpmbaodnaa
open Go.RowKit
set_option linter.unusedVariables false

structure XInv (w : World) (a : Option Addr) (n cap : Nat) (t f l : Int) (bx gx : Nat) (ns : List Nd) (W : World) : Prop where
  bel : Below w.heap.size w W
  bp_ : BoxA W w.heap.size a n cap t f l
  bx_ : BoxA W bx (some ⟨gx, 0, none⟩) n n t f l
  ox : SNodes W (some ⟨gx, 0, none⟩) n ns
  lt : gx < W.heap.size

theorem XInv.below {w : World} {a : Option Addr} {n cap : Nat} {t f l : Int} {bx gx : Nat} {ns : List Nd} {W W' : World} (h : XInv w a n cap t f l bx gx ns W) (hb : Below W.heap.size W W') : XInv w a n cap t f l bx gx ns W' :=
  { bel := below_trans' h.bel hb, bp_ := h.bp_.below hb, bx_ := h.bx_.below hb, ox := h.ox.below hb, lt := Nat.lt_of_lt_of_le h.lt hb.size }

theorem xinv_start {w w3 w4 : World} {a : Option Addr} {n cap : Nat} {t f l : Int} {gx : Nat} {ns : List Nd} (hA3 : Below w.heap.size w w3) (bx3 : BoxA w3 w.heap.size a n cap t f l) (hb4 : Below w3.heap.size w3 w4)
    (ox : w4.ownsRow w3.heap.size 55 6 (.slice (some ⟨gx, 0, none⟩) n n) n (flatN ns)) : XInv w a n cap t f l w4.heap.size gx ns (w4.alloc (.cells #[.slice (some ⟨gx, 0, none⟩) n n, .int .i64 t, .int .i64 f, .int .i64 l] 24)) :=
  { bel := below_trans' (below_trans' hA3 hb4) (al1 _ _), bp_ := (bx3.below hb4).below (al1 _ _), bx_ := boxA_new _ _ _ _ _ _ _ _ rfl, ox := own6_snodes (ownsRow_below ox (al1 _ _)), lt := by have := (ox.lt gx rfl).2; simp; omega }

end Go.Proofs.Ytbdikgpmbaodnaa
