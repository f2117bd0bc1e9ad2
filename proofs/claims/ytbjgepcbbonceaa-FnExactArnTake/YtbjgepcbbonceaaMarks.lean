/- Contracts of markIntS, heldIntS and eqResRes. -/
import Derived.Test.YtbjgepcbbonceaaInts
namespace Go.Proofs.Ytbjgepcbbonceaa
open Go.RowKit

theorem own_sints {w : World} {base : Nat} {a : Option Addr} {n cap : Nat} {zs : List Int} (h : w.ownsRow base 3 1 (.slice a n cap) n (zs.map (Value.int .i64))) : SInts w a n zs := by
  obtain ⟨a', cap', e, hs⟩ := own_shape h
  cases e
  exact hs

/-- The marks that are written from k on. -/
def marks (k : Int) (n : Nat) : List Int := (List.range n).map (fun i : Nat => k + (i : Int))
theorem marks_len (k : Int) (n : Nat) : (marks k n).length = n := by simp [marks]
theorem marks_get (k : Int) {n i : Nat} (h : i < n) : (marks k n).getD i 0 = k + i := by simp [marks, List.getD, h]

end Go.Proofs.Ytbjgepcbbonceaa
