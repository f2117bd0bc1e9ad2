/-
  No cell of these rows narrows 'for every input' (looked for: loops, veiled, ifaces, maps, wideKeys, modest, calm, conditions, laid).
  DERIVED. THE GIVEN ROWS OF THIS SEAT. 12 by the template 'for every input the law returns true; each argument reads behind the call as it read before'; 0 by the template 'total and deterministic' (their statements: YtbdikgpmbaodnaaTotals.lean).
  GIVEN WITH THE SEED: the statements are not yours to turn. If you find one false, say at which input.
  Laid BY PROGRAM, IN A SANDBOX (cutbox-rows.mjs): the forced cells as the released guide's own fill.sh prints them over the translation 34c635eeee75f08d… (all of the seat's roots in one cut). By AI agents, Wed Nov 11 2026. No macro, syntax, notation, axiom, sorry.
-/
import Derived.Test.YtbdikgpmbaodnaaChecked
import GoSem.Claim
import GoSem.ClaimJoined
import GoSem.ClaimMapViews
import Derived.JoinedTies
import Derived.KernelRfl
namespace Go.Proofs.Ytbdikgpmbaodnaa
/- THE CELL 'sum', in the pinned program and in every row, IS THE sha256 OF THE DUMP (.gsa) THAT YtbdikgpmbaodnaaProg.lean LOADS. Nothing in Lean hashes anything: it is a label: what it is worth is what the hold of that sum in a sandbox is worth. -/
noncomputable def Try.pinned : Pinned := { name := "ytbdikgpmbaodnaa", sum := "34c635eeee75f08d513dd45b507e1e79dbd98383e5b7a22fb1054c7ebe1cd342", checked := Try.checked }
namespace Rows
def none {H : Type} : Left H := { results := [], args := [] }

/-- 'laws.FnExactArnNew': WHATEVER THE INPUT: true; the input reads as it did. -/
def fnExactArnNewSpec : ChangeSpec := { name := "fnExactArnNew", fn := fun _ => fun
  | [] => { results := [.lit (.bool true)], args := [] }
  | _ => none }
def fnExactArnNewRow : OpenClaim := { program := "ytbdikgpmbaodnaa", sum := "34c635eeee75f08d513dd45b507e1e79dbd98383e5b7a22fb1054c7ebe1cd342", func := "loop.example/tuggers/laws.FnExactArnNew", spec := "fnExactArnNew", apart := false }
def FnExactArnNewSaid : Prop := fnExactArnNewRow.holds Try.pinned (OpenSpec.ofChange fnExactArnNewSpec)

/-- ITS FALSE NEIGHBOUR: 'it returns false'. Refute it at one input. -/
def fnExactArnNewWrong : ChangeSpec := { name := "fnExactArnNew", fn := fun _ => fun
  | [] => { results := [.lit (.bool false)], args := [] }
  | _ => none }
def FnExactArnNewWrongFalsely : Prop := fnExactArnNewRow.holds Try.pinned (OpenSpec.ofChange fnExactArnNewWrong)

/-- 'laws.FnExactArnChain': WHATEVER THE INPUT: true; the input reads as it did. -/
def fnExactArnChainSpec : ChangeSpec := { name := "fnExactArnChain", fn := fun _ => fun
  | [d] => { results := [.lit (.bool true)], args := [d] }
  | _ => none }
def fnExactArnChainRow : OpenClaim := { program := "ytbdikgpmbaodnaa", sum := "34c635eeee75f08d513dd45b507e1e79dbd98383e5b7a22fb1054c7ebe1cd342", func := "loop.example/tuggers/laws.FnExactArnChain", spec := "fnExactArnChain", unfollowed := true, recurses := true, apart := false }
def FnExactArnChainSaid : Prop := fnExactArnChainRow.holds Try.pinned (OpenSpec.ofChange fnExactArnChainSpec)

/-- ITS FALSE NEIGHBOUR: 'it returns false'. Refute it at one input. -/
def fnExactArnChainWrong : ChangeSpec := { name := "fnExactArnChain", fn := fun _ => fun
  | [d] => { results := [.lit (.bool false)], args := [d] }
  | _ => none }
def FnExactArnChainWrongFalsely : Prop := fnExactArnChainRow.holds Try.pinned (OpenSpec.ofChange fnExactArnChainWrong)

/-- 'laws.FnExactArnStacked': WHATEVER THE INPUT: true; the input reads as it did. -/
def fnExactArnStackedSpec : ChangeSpec := { name := "fnExactArnStacked", fn := fun _ => fun
  | [d] => { results := [.lit (.bool true)], args := [d] }
  | _ => none }
def fnExactArnStackedRow : OpenClaim := { program := "ytbdikgpmbaodnaa", sum := "34c635eeee75f08d513dd45b507e1e79dbd98383e5b7a22fb1054c7ebe1cd342", func := "loop.example/tuggers/laws.FnExactArnStacked", spec := "fnExactArnStacked", unfollowed := true, recurses := true, apart := false }
def FnExactArnStackedSaid : Prop := fnExactArnStackedRow.holds Try.pinned (OpenSpec.ofChange fnExactArnStackedSpec)

/-- ITS FALSE NEIGHBOUR: 'it returns false'. Refute it at one input. -/
def fnExactArnStackedWrong : ChangeSpec := { name := "fnExactArnStacked", fn := fun _ => fun
  | [d] => { results := [.lit (.bool false)], args := [d] }
  | _ => none }
def FnExactArnStackedWrongFalsely : Prop := fnExactArnStackedRow.holds Try.pinned (OpenSpec.ofChange fnExactArnStackedWrong)

/-- 'laws.FnExactArnQueued': WHATEVER THE INPUT: true; the input reads as it did. -/
def fnExactArnQueuedSpec : ChangeSpec := { name := "fnExactArnQueued", fn := fun _ => fun
  | [d] => { results := [.lit (.bool true)], args := [d] }
  | _ => none }
def fnExactArnQueuedRow : OpenClaim := { program := "ytbdikgpmbaodnaa", sum := "34c635eeee75f08d513dd45b507e1e79dbd98383e5b7a22fb1054c7ebe1cd342", func := "loop.example/tuggers/laws.FnExactArnQueued", spec := "fnExactArnQueued", unfollowed := true, recurses := true, apart := false }
def FnExactArnQueuedSaid : Prop := fnExactArnQueuedRow.holds Try.pinned (OpenSpec.ofChange fnExactArnQueuedSpec)

/-- ITS FALSE NEIGHBOUR: 'it returns false'. Refute it at one input. -/
def fnExactArnQueuedWrong : ChangeSpec := { name := "fnExactArnQueued", fn := fun _ => fun
  | [d] => { results := [.lit (.bool false)], args := [d] }
  | _ => none }
def FnExactArnQueuedWrongFalsely : Prop := fnExactArnQueuedRow.holds Try.pinned (OpenSpec.ofChange fnExactArnQueuedWrong)

/-- 'laws.FnExactArnOk': WHATEVER THE INPUT: true; the input reads as it did. -/
def fnExactArnOkSpec : ChangeSpec := { name := "fnExactArnOk", fn := fun _ => fun
  | [d] => { results := [.lit (.bool true)], args := [d] }
  | _ => none }
def fnExactArnOkRow : OpenClaim := { program := "ytbdikgpmbaodnaa", sum := "34c635eeee75f08d513dd45b507e1e79dbd98383e5b7a22fb1054c7ebe1cd342", func := "loop.example/tuggers/laws.FnExactArnOk", spec := "fnExactArnOk", unfollowed := true, recurses := true, apart := false }
def FnExactArnOkSaid : Prop := fnExactArnOkRow.holds Try.pinned (OpenSpec.ofChange fnExactArnOkSpec)

/-- ITS FALSE NEIGHBOUR: 'it returns false'. Refute it at one input. -/
def fnExactArnOkWrong : ChangeSpec := { name := "fnExactArnOk", fn := fun _ => fun
  | [d] => { results := [.lit (.bool false)], args := [d] }
  | _ => none }
def FnExactArnOkWrongFalsely : Prop := fnExactArnOkRow.holds Try.pinned (OpenSpec.ofChange fnExactArnOkWrong)

/-- 'laws.FnExactArnMap': WHATEVER THE INPUT: true; the input reads as it did. -/
def fnExactArnMapSpec : ChangeSpec := { name := "fnExactArnMap", fn := fun _ => fun
  | [d] => { results := [.lit (.bool true)], args := [d] }
  | _ => none }
def fnExactArnMapRow : OpenClaim := { program := "ytbdikgpmbaodnaa", sum := "34c635eeee75f08d513dd45b507e1e79dbd98383e5b7a22fb1054c7ebe1cd342", func := "loop.example/tuggers/laws.FnExactArnMap", spec := "fnExactArnMap", unfollowed := true, recurses := true, apart := false }
def FnExactArnMapSaid : Prop := fnExactArnMapRow.holds Try.pinned (OpenSpec.ofChange fnExactArnMapSpec)

/-- ITS FALSE NEIGHBOUR: 'it returns false'. Refute it at one input. -/
def fnExactArnMapWrong : ChangeSpec := { name := "fnExactArnMap", fn := fun _ => fun
  | [d] => { results := [.lit (.bool false)], args := [d] }
  | _ => none }
def FnExactArnMapWrongFalsely : Prop := fnExactArnMapRow.holds Try.pinned (OpenSpec.ofChange fnExactArnMapWrong)

/-- 'laws.FnExactArnStack': WHATEVER THE INPUT: true; the input reads as it did. -/
def fnExactArnStackSpec : ChangeSpec := { name := "fnExactArnStack", fn := fun _ => fun
  | [d] => { results := [.lit (.bool true)], args := [d] }
  | _ => none }
def fnExactArnStackRow : OpenClaim := { program := "ytbdikgpmbaodnaa", sum := "34c635eeee75f08d513dd45b507e1e79dbd98383e5b7a22fb1054c7ebe1cd342", func := "loop.example/tuggers/laws.FnExactArnStack", spec := "fnExactArnStack", unfollowed := true, recurses := true, apart := false }
def FnExactArnStackSaid : Prop := fnExactArnStackRow.holds Try.pinned (OpenSpec.ofChange fnExactArnStackSpec)

/-- ITS FALSE NEIGHBOUR: 'it returns false'. Refute it at one input. -/
def fnExactArnStackWrong : ChangeSpec := { name := "fnExactArnStack", fn := fun _ => fun
  | [d] => { results := [.lit (.bool false)], args := [d] }
  | _ => none }
def FnExactArnStackWrongFalsely : Prop := fnExactArnStackRow.holds Try.pinned (OpenSpec.ofChange fnExactArnStackWrong)

/-- 'laws.FnExactArnQueue': WHATEVER THE INPUT: true; the input reads as it did. -/
def fnExactArnQueueSpec : ChangeSpec := { name := "fnExactArnQueue", fn := fun _ => fun
  | [d] => { results := [.lit (.bool true)], args := [d] }
  | _ => none }
def fnExactArnQueueRow : OpenClaim := { program := "ytbdikgpmbaodnaa", sum := "34c635eeee75f08d513dd45b507e1e79dbd98383e5b7a22fb1054c7ebe1cd342", func := "loop.example/tuggers/laws.FnExactArnQueue", spec := "fnExactArnQueue", unfollowed := true, recurses := true, apart := false }
def FnExactArnQueueSaid : Prop := fnExactArnQueueRow.holds Try.pinned (OpenSpec.ofChange fnExactArnQueueSpec)

/-- ITS FALSE NEIGHBOUR: 'it returns false'. Refute it at one input. -/
def fnExactArnQueueWrong : ChangeSpec := { name := "fnExactArnQueue", fn := fun _ => fun
  | [d] => { results := [.lit (.bool false)], args := [d] }
  | _ => none }
def FnExactArnQueueWrongFalsely : Prop := fnExactArnQueueRow.holds Try.pinned (OpenSpec.ofChange fnExactArnQueueWrong)

/-- 'laws.FnExactArnFree': WHATEVER THE INPUT: true; the input reads as it did. -/
def fnExactArnFreeSpec : ChangeSpec := { name := "fnExactArnFree", fn := fun _ => fun
  | [d] => { results := [.lit (.bool true)], args := [d] }
  | _ => none }
def fnExactArnFreeRow : OpenClaim := { program := "ytbdikgpmbaodnaa", sum := "34c635eeee75f08d513dd45b507e1e79dbd98383e5b7a22fb1054c7ebe1cd342", func := "loop.example/tuggers/laws.FnExactArnFree", spec := "fnExactArnFree", unfollowed := true, recurses := true, apart := false }
def FnExactArnFreeSaid : Prop := fnExactArnFreeRow.holds Try.pinned (OpenSpec.ofChange fnExactArnFreeSpec)

/-- ITS FALSE NEIGHBOUR: 'it returns false'. Refute it at one input. -/
def fnExactArnFreeWrong : ChangeSpec := { name := "fnExactArnFree", fn := fun _ => fun
  | [d] => { results := [.lit (.bool false)], args := [d] }
  | _ => none }
def FnExactArnFreeWrongFalsely : Prop := fnExactArnFreeRow.holds Try.pinned (OpenSpec.ofChange fnExactArnFreeWrong)

/-- 'laws.FnExactArnSwap': WHATEVER THE INPUT: true; the input reads as it did. -/
def fnExactArnSwapSpec : ChangeSpec := { name := "fnExactArnSwap", fn := fun _ => fun
  | [d1, d2, d3, d4] => { results := [.lit (.bool true)], args := [d1, d2, d3, d4] }
  | _ => none }
def fnExactArnSwapRow : OpenClaim := { program := "ytbdikgpmbaodnaa", sum := "34c635eeee75f08d513dd45b507e1e79dbd98383e5b7a22fb1054c7ebe1cd342", func := "loop.example/tuggers/laws.FnExactArnSwap", spec := "fnExactArnSwap", apart := false }
def FnExactArnSwapSaid : Prop := fnExactArnSwapRow.holds Try.pinned (OpenSpec.ofChange fnExactArnSwapSpec)

/-- ITS FALSE NEIGHBOUR: 'it returns false'. Refute it at one input. -/
def fnExactArnSwapWrong : ChangeSpec := { name := "fnExactArnSwap", fn := fun _ => fun
  | [d1, d2, d3, d4] => { results := [.lit (.bool false)], args := [d1, d2, d3, d4] }
  | _ => none }
def FnExactArnSwapWrongFalsely : Prop := fnExactArnSwapRow.holds Try.pinned (OpenSpec.ofChange fnExactArnSwapWrong)

/-- 'laws.FnExactArnTake': WHATEVER THE INPUT: true; the input reads as it did. -/
def fnExactArnTakeSpec : ChangeSpec := { name := "fnExactArnTake", fn := fun _ => fun
  | [d] => { results := [.lit (.bool true)], args := [d] }
  | _ => none }
def fnExactArnTakeRow : OpenClaim := { program := "ytbdikgpmbaodnaa", sum := "34c635eeee75f08d513dd45b507e1e79dbd98383e5b7a22fb1054c7ebe1cd342", func := "loop.example/tuggers/laws.FnExactArnTake", spec := "fnExactArnTake", unfollowed := true, recurses := true, apart := false }
def FnExactArnTakeSaid : Prop := fnExactArnTakeRow.holds Try.pinned (OpenSpec.ofChange fnExactArnTakeSpec)

/-- ITS FALSE NEIGHBOUR: 'it returns false'. Refute it at one input. -/
def fnExactArnTakeWrong : ChangeSpec := { name := "fnExactArnTake", fn := fun _ => fun
  | [d] => { results := [.lit (.bool false)], args := [d] }
  | _ => none }
def FnExactArnTakeWrongFalsely : Prop := fnExactArnTakeRow.holds Try.pinned (OpenSpec.ofChange fnExactArnTakeWrong)

/-- 'laws.FnExactArnGive': WHATEVER THE INPUT: true; the input reads as it did. -/
def fnExactArnGiveSpec : ChangeSpec := { name := "fnExactArnGive", fn := fun _ => fun
  | [d1, d2] => { results := [.lit (.bool true)], args := [d1, d2] }
  | _ => none }
def fnExactArnGiveRow : OpenClaim := { program := "ytbdikgpmbaodnaa", sum := "34c635eeee75f08d513dd45b507e1e79dbd98383e5b7a22fb1054c7ebe1cd342", func := "loop.example/tuggers/laws.FnExactArnGive", spec := "fnExactArnGive", apart := false }
def FnExactArnGiveSaid : Prop := fnExactArnGiveRow.holds Try.pinned (OpenSpec.ofChange fnExactArnGiveSpec)

/-- ITS FALSE NEIGHBOUR: 'it returns false'. Refute it at one input. -/
def fnExactArnGiveWrong : ChangeSpec := { name := "fnExactArnGive", fn := fun _ => fun
  | [d1, d2] => { results := [.lit (.bool false)], args := [d1, d2] }
  | _ => none }
def FnExactArnGiveWrongFalsely : Prop := fnExactArnGiveRow.holds Try.pinned (OpenSpec.ofChange fnExactArnGiveWrong)

/- THE SECOND FORM. 'bulk': how many values and letters a reading holds, each counted each time it is reached (what is shared counts as often as it is met; a slice's spare places count too). A statement '..UptoSaid' is the law's where the arguments, and the package variables that the reading takes, are together of bulk at most 1048576: NARROWER than '..Said'. Prove '..Said' where nothing that the law and all that it calls make is longer than what came in: it says more and counts as full. Else prove '..UptoSaid'. A law counts once. -/
mutual
def uptoBulk {H : Type} : DataW H → Nat
  | .lit (.string bytes) => bytes.length + 1
  | .lit _ => 1
  | .nil => 1
  | .ptr d => uptoBulk d + 1
  | .slice elems spare => uptoBulkAll elems + uptoBulkAll spare + 1
  | .agg parts => uptoBulkAll parts + 1
  | .iface _ d => uptoBulk d + 1
  | .map entries => uptoBulkEntries entries + 1
  | .held _ => 1
def uptoBulkAll {H : Type} : List (DataW H) → Nat
  | [] => 0
  | d :: r => uptoBulk d + uptoBulkAll r
def uptoBulkEntries {H : Type} : List (Lit × DataW H) → Nat
  | [] => 0
  | x :: r => uptoBulkEntry x + uptoBulkEntries r
def uptoBulkEntry {H : Type} : Lit × DataW H → Nat
  | (.string bytes, d) => bytes.length + uptoBulk d + 1
  | (_, d) => uptoBulk d + 1
 end
def uptoSmall : (H : Type) → List (DataW H) → Bool := fun _ ds => decide (uptoBulkAll ds ≤ 1048576)
def OpenSpec.upto (s : _root_.Go.ChangeSpec) : _root_.Go.OpenSpec := { _root_.Go.OpenSpec.ofChange s with cond := some uptoSmall }

/-- 'laws.FnExactArnNew', WHERE WHAT IT READS IS OF BULK AT MOST 1048576: true; the input reads as it did. -/
def fnExactArnNewUptoRow : OpenClaim := { program := "ytbdikgpmbaodnaa", sum := "34c635eeee75f08d513dd45b507e1e79dbd98383e5b7a22fb1054c7ebe1cd342", func := "loop.example/tuggers/laws.FnExactArnNew", spec := "fnExactArnNew", apart := false, narrowed := true }
def FnExactArnNewUptoSaid : Prop := fnExactArnNewUptoRow.holds Try.pinned (OpenSpec.upto fnExactArnNewSpec)

/-- 'laws.FnExactArnChain', WHERE WHAT IT READS IS OF BULK AT MOST 1048576: true; the input reads as it did. -/
def fnExactArnChainUptoRow : OpenClaim := { program := "ytbdikgpmbaodnaa", sum := "34c635eeee75f08d513dd45b507e1e79dbd98383e5b7a22fb1054c7ebe1cd342", func := "loop.example/tuggers/laws.FnExactArnChain", spec := "fnExactArnChain", unfollowed := true, recurses := true, apart := false, narrowed := true }
def FnExactArnChainUptoSaid : Prop := fnExactArnChainUptoRow.holds Try.pinned (OpenSpec.upto fnExactArnChainSpec)

/-- 'laws.FnExactArnStacked', WHERE WHAT IT READS IS OF BULK AT MOST 1048576: true; the input reads as it did. -/
def fnExactArnStackedUptoRow : OpenClaim := { program := "ytbdikgpmbaodnaa", sum := "34c635eeee75f08d513dd45b507e1e79dbd98383e5b7a22fb1054c7ebe1cd342", func := "loop.example/tuggers/laws.FnExactArnStacked", spec := "fnExactArnStacked", unfollowed := true, recurses := true, apart := false, narrowed := true }
def FnExactArnStackedUptoSaid : Prop := fnExactArnStackedUptoRow.holds Try.pinned (OpenSpec.upto fnExactArnStackedSpec)

/-- 'laws.FnExactArnQueued', WHERE WHAT IT READS IS OF BULK AT MOST 1048576: true; the input reads as it did. -/
def fnExactArnQueuedUptoRow : OpenClaim := { program := "ytbdikgpmbaodnaa", sum := "34c635eeee75f08d513dd45b507e1e79dbd98383e5b7a22fb1054c7ebe1cd342", func := "loop.example/tuggers/laws.FnExactArnQueued", spec := "fnExactArnQueued", unfollowed := true, recurses := true, apart := false, narrowed := true }
def FnExactArnQueuedUptoSaid : Prop := fnExactArnQueuedUptoRow.holds Try.pinned (OpenSpec.upto fnExactArnQueuedSpec)

/-- 'laws.FnExactArnOk', WHERE WHAT IT READS IS OF BULK AT MOST 1048576: true; the input reads as it did. -/
def fnExactArnOkUptoRow : OpenClaim := { program := "ytbdikgpmbaodnaa", sum := "34c635eeee75f08d513dd45b507e1e79dbd98383e5b7a22fb1054c7ebe1cd342", func := "loop.example/tuggers/laws.FnExactArnOk", spec := "fnExactArnOk", unfollowed := true, recurses := true, apart := false, narrowed := true }
def FnExactArnOkUptoSaid : Prop := fnExactArnOkUptoRow.holds Try.pinned (OpenSpec.upto fnExactArnOkSpec)

/-- 'laws.FnExactArnMap', WHERE WHAT IT READS IS OF BULK AT MOST 1048576: true; the input reads as it did. -/
def fnExactArnMapUptoRow : OpenClaim := { program := "ytbdikgpmbaodnaa", sum := "34c635eeee75f08d513dd45b507e1e79dbd98383e5b7a22fb1054c7ebe1cd342", func := "loop.example/tuggers/laws.FnExactArnMap", spec := "fnExactArnMap", unfollowed := true, recurses := true, apart := false, narrowed := true }
def FnExactArnMapUptoSaid : Prop := fnExactArnMapUptoRow.holds Try.pinned (OpenSpec.upto fnExactArnMapSpec)

/-- 'laws.FnExactArnStack', WHERE WHAT IT READS IS OF BULK AT MOST 1048576: true; the input reads as it did. -/
def fnExactArnStackUptoRow : OpenClaim := { program := "ytbdikgpmbaodnaa", sum := "34c635eeee75f08d513dd45b507e1e79dbd98383e5b7a22fb1054c7ebe1cd342", func := "loop.example/tuggers/laws.FnExactArnStack", spec := "fnExactArnStack", unfollowed := true, recurses := true, apart := false, narrowed := true }
def FnExactArnStackUptoSaid : Prop := fnExactArnStackUptoRow.holds Try.pinned (OpenSpec.upto fnExactArnStackSpec)

/-- 'laws.FnExactArnQueue', WHERE WHAT IT READS IS OF BULK AT MOST 1048576: true; the input reads as it did. -/
def fnExactArnQueueUptoRow : OpenClaim := { program := "ytbdikgpmbaodnaa", sum := "34c635eeee75f08d513dd45b507e1e79dbd98383e5b7a22fb1054c7ebe1cd342", func := "loop.example/tuggers/laws.FnExactArnQueue", spec := "fnExactArnQueue", unfollowed := true, recurses := true, apart := false, narrowed := true }
def FnExactArnQueueUptoSaid : Prop := fnExactArnQueueUptoRow.holds Try.pinned (OpenSpec.upto fnExactArnQueueSpec)

/-- 'laws.FnExactArnFree', WHERE WHAT IT READS IS OF BULK AT MOST 1048576: true; the input reads as it did. -/
def fnExactArnFreeUptoRow : OpenClaim := { program := "ytbdikgpmbaodnaa", sum := "34c635eeee75f08d513dd45b507e1e79dbd98383e5b7a22fb1054c7ebe1cd342", func := "loop.example/tuggers/laws.FnExactArnFree", spec := "fnExactArnFree", unfollowed := true, recurses := true, apart := false, narrowed := true }
def FnExactArnFreeUptoSaid : Prop := fnExactArnFreeUptoRow.holds Try.pinned (OpenSpec.upto fnExactArnFreeSpec)

/-- 'laws.FnExactArnSwap', WHERE WHAT IT READS IS OF BULK AT MOST 1048576: true; the input reads as it did. -/
def fnExactArnSwapUptoRow : OpenClaim := { program := "ytbdikgpmbaodnaa", sum := "34c635eeee75f08d513dd45b507e1e79dbd98383e5b7a22fb1054c7ebe1cd342", func := "loop.example/tuggers/laws.FnExactArnSwap", spec := "fnExactArnSwap", apart := false, narrowed := true }
def FnExactArnSwapUptoSaid : Prop := fnExactArnSwapUptoRow.holds Try.pinned (OpenSpec.upto fnExactArnSwapSpec)

/-- 'laws.FnExactArnTake', WHERE WHAT IT READS IS OF BULK AT MOST 1048576: true; the input reads as it did. -/
def fnExactArnTakeUptoRow : OpenClaim := { program := "ytbdikgpmbaodnaa", sum := "34c635eeee75f08d513dd45b507e1e79dbd98383e5b7a22fb1054c7ebe1cd342", func := "loop.example/tuggers/laws.FnExactArnTake", spec := "fnExactArnTake", unfollowed := true, recurses := true, apart := false, narrowed := true }
def FnExactArnTakeUptoSaid : Prop := fnExactArnTakeUptoRow.holds Try.pinned (OpenSpec.upto fnExactArnTakeSpec)

/-- 'laws.FnExactArnGive', WHERE WHAT IT READS IS OF BULK AT MOST 1048576: true; the input reads as it did. -/
def fnExactArnGiveUptoRow : OpenClaim := { program := "ytbdikgpmbaodnaa", sum := "34c635eeee75f08d513dd45b507e1e79dbd98383e5b7a22fb1054c7ebe1cd342", func := "loop.example/tuggers/laws.FnExactArnGive", spec := "fnExactArnGive", apart := false, narrowed := true }
def FnExactArnGiveUptoSaid : Prop := fnExactArnGiveUptoRow.holds Try.pinned (OpenSpec.upto fnExactArnGiveSpec)

end Rows
end Go.Proofs.Ytbdikgpmbaodnaa
