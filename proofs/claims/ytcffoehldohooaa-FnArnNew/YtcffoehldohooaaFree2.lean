/- ArnFree at all places. -/
import Derived.Test.YtcffoehldohooaaFree
namespace Go.Proofs.Ytcffoehldohooaa
open Go.RowKit
set_option linter.unusedVariables false

theorem implArnFree_any (b off n cap : Nat) (ns : List Nd) (t f l : Int) (w : World) (hs : SNodes w (some ⟨b, off, none⟩) n ns) (hb : b < w.heap.size) (hn : n ≤ 1048576) :
    Calls Try.prog 24 #[.agg #[.slice (some ⟨b, off, none⟩) n cap, .int .i64 t, .int .i64 f, .int .i64 l]] w fun e w' => e = .returned (.int .i64 ((freeTo ns n).length : Nat)) ∧ Below w.heap.size w w' :=
  callsIn_wide.1 (implArnFree_some b off n cap ns t f l w hs hb hn)

end Go.Proofs.Ytcffoehldohooaa
