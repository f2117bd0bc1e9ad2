/- Contracts of the program's StkPush and QuePut. -/
import Derived.Test.YtbjgepcbbonceaaOk
import Derived.Test.YtbjgepcbbonceaaLists
namespace Go.Proofs.Ytbjgepcbbonceaa
open Go.RowKit
set_option linter.unusedVariables false

/-- The answer's code of a put at a place. -/
def putC (zs : List Int) (x : Int) : Int := if okL zs && inB x 999 then (if zs.length = 8 then 3 else 2) else 0
/-- The values behind it. -/
def putL (zs : List Int) (i : Nat) (x : Int) : List Int := if okL zs && inB x 999 then (if zs.length = 8 then zs else zs.take i ++ [x] ++ zs.drop i) else []

/-- A list and an answer come back, in new memory. -/
def ListRes (zs : List Int) (c v : Int) (e : Ending) (w w' : World) : Prop :=
  ∃ N a' c', e = .returned (.tuple #[.slice a' N c', .agg #[.int .i64 c, .int .i64 v]]) ∧ w'.ownsRow w.heap.size 3 1 (.slice a' N c') N (zs.map (Value.int .i64)) ∧ Below w.heap.size w w'

theorem own_mono {w : World} {base base' : Nat} {e : TypeId} {size : Nat} {v : Value} {n : Nat} {xs : List Value} (h : w.ownsRow base e size v n xs) (hb : base' ≤ base) : w.ownsRow base' e size v n xs := by
  obtain ⟨h1, h2⟩ := h
  refine ⟨h1, ?_⟩
  rcases h2 with h2 | ⟨g, cap, cur, hv, hg, r⟩
  · exact .inl h2
  · exact .inr ⟨g, cap, cur, hv, by omega, r⟩

theorem own_setCell {w : World} {base : Nat} {e : TypeId} {size : Nat} {v : Value} {n : Nat} {xs : List Value} (h : w.ownsRow base e size v n xs) {b o : Nat} (hb : b < base) (u : Value) : (w.setCell ⟨b, o, none⟩ u).ownsRow base e size v n xs :=
  ownsRow_setCell_below h hb u

end Go.Proofs.Ytbjgepcbbonceaa
