/- The specification's PolOut. -/
import Derived.Test.YtcffoehldohooaaPB
namespace Go.Proofs.Ytcffoehldohooaa
open Go.RowKit
set_option linter.unusedVariables false

/-- The places of what was taken out. -/
def nodesOf (os : List Od) : List Int := os.map Prod.fst
/-- All places that were taken out, hand by hand. -/
def outL (oss : List (List Od)) : List Int := oss.flatMap nodesOf
theorem nodesOf_len (os : List Od) : (nodesOf os).length = os.length := by simp [nodesOf]
theorem nodesOf_next {os : List Od} {j : Nat} {x y : Int} (h : os[j]? = some (x, y)) : nodesOf (os.take (j + 1)) = nodesOf (os.take j) ++ [x] := by
  rw [take_one h]; simp [nodesOf]
theorem outL_next {oss : List (List Od)} {k : Nat} {os : List Od} (h : oss[k]? = some os) : outL (oss.take (k + 1)) = outL (oss.take k) ++ nodesOf os := by
  rw [take_one h]; simp [outL]
theorem outL_len (oss : List (List Od)) : (outL oss).length = sumL oss := by
  induction oss with
  | nil => rfl
  | cons os r ih =>
    have e : outL (os :: r) = nodesOf os ++ outL r := rfl
    rw [e, List.length_append, ih, nodesOf_len]
    rfl
theorem part_len {oss : List (List Od)} {k : Nat} {os : List Od} (h : oss[k]? = some os) {j : Nat} (hj : j ≤ os.length) : (outL (oss.take k) ++ nodesOf (os.take j)).length ≤ sumL oss := by
  rw [List.length_append, outL_len, nodesOf_len]
  have := sumL_next h
  have := sumL_take oss (k + 1)
  simp
  omega

/-- What stands in the loops. -/
structure OutAt (w : World) (E : Int) (pa : Option Addr) (np pc : Nat) (la : Option Addr) (nl lc : Nat) (s : Value) (L : List Int) (W : World) : Prop where
  bel : Below w.heap.size w W
  box : BoxP W w.heap.size E pa np pc la nl lc
  own : ∃ a' c', s = .slice a' L.length c' ∧ W.ownsRow (w.heap.size + 1) 3 1 (.slice a' L.length c') L.length (L.map (Value.int .i64))
theorem OutAt.below {w : World} {E : Int} {pa : Option Addr} {np pc : Nat} {la : Option Addr} {nl lc : Nat} {s : Value} {L : List Int} {W W' : World} (h : OutAt w E pa np pc la nl lc s L W) (hb : Below W.heap.size W W') : OutAt w E pa np pc la nl lc s L W' := by
  obtain ⟨a', c', e, ho⟩ := h.own
  exact ⟨below_trans' h.bel hb, h.box.below hb, a', c', e, ownsRow_below ho hb⟩
theorem OutAt.more {w : World} {E : Int} {pa : Option Addr} {np pc : Nat} {la : Option Addr} {nl lc : Nat} {s s' : Value} {L L' : List Int} {W W' : World} (h : OutAt w E pa np pc la nl lc s L W) (hb : Below (w.heap.size + 1) W W') (ho : ∃ a' c', s' = .slice a' L'.length c' ∧ W'.ownsRow (w.heap.size + 1) 3 1 (.slice a' L'.length c') L'.length (L'.map (Value.int .i64))) : OutAt w E pa np pc la nl lc s' L' W' :=
  ⟨h.bel.trans (hb.mono (by omega)), ⟨(hb.cell (p := ⟨w.heap.size, 0, none⟩) (Nat.lt_succ_self _)).trans h.box.c0, (hb.cell (p := ⟨w.heap.size, 1, none⟩) (Nat.lt_succ_self _)).trans h.box.c1, (hb.cell (p := ⟨w.heap.size, 2, none⟩) (Nat.lt_succ_self _)).trans h.box.c2⟩, ho⟩

end Go.Proofs.Ytcffoehldohooaa
