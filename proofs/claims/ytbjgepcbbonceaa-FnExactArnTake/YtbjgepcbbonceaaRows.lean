/-
  No cell of these rows narrows 'for every input' (looked for: loops, veiled, ifaces, maps, wideKeys, modest, calm, conditions, laid).
  DERIVED. THE GIVEN ROWS OF THIS SEAT. 3 by the template 'for every input the law returns true; each argument reads behind the call as it read before'; 0 by the template 'total and deterministic' (their statements: YtbjgepcbbonceaaTotals.lean).
  GIVEN WITH THE SEED: the statements are not yours to turn. If you find one false, say at which input.
  Laid BY PROGRAM, IN A SANDBOX (cutbox-rows.mjs): the forced cells as the released guide's own fill.sh prints them over the translation 517a37c11a1133d3… (all of the seat's roots in one cut). By AI agents, Wed Nov 11 2026. No macro, syntax, notation, axiom, sorry.
-/
import Derived.Test.YtbjgepcbbonceaaChecked
import GoSem.Claim
import GoSem.ClaimJoined
import GoSem.ClaimMapViews
import Derived.JoinedTies
import Derived.KernelRfl
namespace Go.Proofs.Ytbjgepcbbonceaa
/- THE CELL 'sum', in the pinned program and in every row, IS THE sha256 OF THE DUMP (.gsa) THAT YtbjgepcbbonceaaProg.lean LOADS. Nothing in Lean hashes anything: it is a label: what it is worth is what the hold of that sum in a sandbox is worth. -/
noncomputable def Try.pinned : Pinned := { name := "ytbjgepcbbonceaa", sum := "517a37c11a1133d34a107263692be27b48028f719704e82e0b958f1bd3feae83", checked := Try.checked }
namespace Rows
def none {H : Type} : Left H := { results := [], args := [] }

/-- 'laws.FnExactArnSwap': WHATEVER THE INPUT: true; the input reads as it did. -/
def fnExactArnSwapSpec : ChangeSpec := { name := "fnExactArnSwap", fn := fun _ => fun
  | [d1, d2, d3, d4] => { results := [.lit (.bool true)], args := [d1, d2, d3, d4] }
  | _ => none }
def fnExactArnSwapRow : OpenClaim := { program := "ytbjgepcbbonceaa", sum := "517a37c11a1133d34a107263692be27b48028f719704e82e0b958f1bd3feae83", func := "loop.example/tuggers/laws.FnExactArnSwap", spec := "fnExactArnSwap", apart := false }
def FnExactArnSwapSaid : Prop := fnExactArnSwapRow.holds Try.pinned (OpenSpec.ofChange fnExactArnSwapSpec)

/-- ITS FALSE NEIGHBOUR: 'it returns false'. Refute it at one input. -/
def fnExactArnSwapWrong : ChangeSpec := { name := "fnExactArnSwap", fn := fun _ => fun
  | [d1, d2, d3, d4] => { results := [.lit (.bool false)], args := [d1, d2, d3, d4] }
  | _ => none }
def FnExactArnSwapWrongFalsely : Prop := fnExactArnSwapRow.holds Try.pinned (OpenSpec.ofChange fnExactArnSwapWrong)

/-- 'laws.FnExactArnTake': WHATEVER THE INPUT: true; the input reads as it did. -/
def fnExactArnTakeSpec : ChangeSpec := { name := "fnExactArnTake", fn := fun _ => fun
  | [d] => { results := [.lit (.bool true)], args := [d] }
  | _ => none }
def fnExactArnTakeRow : OpenClaim := { program := "ytbjgepcbbonceaa", sum := "517a37c11a1133d34a107263692be27b48028f719704e82e0b958f1bd3feae83", func := "loop.example/tuggers/laws.FnExactArnTake", spec := "fnExactArnTake", unfollowed := true, recurses := true, apart := false }
def FnExactArnTakeSaid : Prop := fnExactArnTakeRow.holds Try.pinned (OpenSpec.ofChange fnExactArnTakeSpec)

/-- ITS FALSE NEIGHBOUR: 'it returns false'. Refute it at one input. -/
def fnExactArnTakeWrong : ChangeSpec := { name := "fnExactArnTake", fn := fun _ => fun
  | [d] => { results := [.lit (.bool false)], args := [d] }
  | _ => none }
def FnExactArnTakeWrongFalsely : Prop := fnExactArnTakeRow.holds Try.pinned (OpenSpec.ofChange fnExactArnTakeWrong)

/-- 'laws.FnExactArnGive': WHATEVER THE INPUT: true; the input reads as it did. -/
def fnExactArnGiveSpec : ChangeSpec := { name := "fnExactArnGive", fn := fun _ => fun
  | [d1, d2] => { results := [.lit (.bool true)], args := [d1, d2] }
  | _ => none }
def fnExactArnGiveRow : OpenClaim := { program := "ytbjgepcbbonceaa", sum := "517a37c11a1133d34a107263692be27b48028f719704e82e0b958f1bd3feae83", func := "loop.example/tuggers/laws.FnExactArnGive", spec := "fnExactArnGive", apart := false }
def FnExactArnGiveSaid : Prop := fnExactArnGiveRow.holds Try.pinned (OpenSpec.ofChange fnExactArnGiveSpec)

/-- ITS FALSE NEIGHBOUR: 'it returns false'. Refute it at one input. -/
def fnExactArnGiveWrong : ChangeSpec := { name := "fnExactArnGive", fn := fun _ => fun
  | [d1, d2] => { results := [.lit (.bool false)], args := [d1, d2] }
  | _ => none }
def FnExactArnGiveWrongFalsely : Prop := fnExactArnGiveRow.holds Try.pinned (OpenSpec.ofChange fnExactArnGiveWrong)

/- THE SECOND FORM. 'bulk': how many values and letters a reading holds, each counted each time it is reached (what is shared counts as often as it is met; a slice's spare places count too). A statement '..UptoSaid' is the law's where the arguments, and the package variables that the reading takes, are together of bulk at most 1048576: NARROWER than '..Said'. Prove '..Said' where nothing that the law and all that it calls make is longer than what came in: it says more and counts as full. Else prove '..UptoSaid'. A law counts once. -/
mutual
def uptoBulk {H : Type} : DataW H → Nat
  | .lit (.string bytes) => bytes.length + 1
  | .lit _ => 1
  | .nil => 1
  | .ptr d => uptoBulk d + 1
  | .slice elems spare => uptoBulkAll elems + uptoBulkAll spare + 1
  | .agg parts => uptoBulkAll parts + 1
  | .iface _ d => uptoBulk d + 1
  | .map entries => uptoBulkEntries entries + 1
  | .held _ => 1
def uptoBulkAll {H : Type} : List (DataW H) → Nat
  | [] => 0
  | d :: r => uptoBulk d + uptoBulkAll r
def uptoBulkEntries {H : Type} : List (Lit × DataW H) → Nat
  | [] => 0
  | x :: r => uptoBulkEntry x + uptoBulkEntries r
def uptoBulkEntry {H : Type} : Lit × DataW H → Nat
  | (.string bytes, d) => bytes.length + uptoBulk d + 1
  | (_, d) => uptoBulk d + 1
 end
def uptoSmall : (H : Type) → List (DataW H) → Bool := fun _ ds => decide (uptoBulkAll ds ≤ 1048576)
def OpenSpec.upto (s : _root_.Go.ChangeSpec) : _root_.Go.OpenSpec := { _root_.Go.OpenSpec.ofChange s with cond := some uptoSmall }

/-- 'laws.FnExactArnSwap', WHERE WHAT IT READS IS OF BULK AT MOST 1048576: true; the input reads as it did. -/
def fnExactArnSwapUptoRow : OpenClaim := { program := "ytbjgepcbbonceaa", sum := "517a37c11a1133d34a107263692be27b48028f719704e82e0b958f1bd3feae83", func := "loop.example/tuggers/laws.FnExactArnSwap", spec := "fnExactArnSwap", apart := false, narrowed := true }
def FnExactArnSwapUptoSaid : Prop := fnExactArnSwapUptoRow.holds Try.pinned (OpenSpec.upto fnExactArnSwapSpec)

/-- 'laws.FnExactArnTake', WHERE WHAT IT READS IS OF BULK AT MOST 1048576: true; the input reads as it did. -/
def fnExactArnTakeUptoRow : OpenClaim := { program := "ytbjgepcbbonceaa", sum := "517a37c11a1133d34a107263692be27b48028f719704e82e0b958f1bd3feae83", func := "loop.example/tuggers/laws.FnExactArnTake", spec := "fnExactArnTake", unfollowed := true, recurses := true, apart := false, narrowed := true }
def FnExactArnTakeUptoSaid : Prop := fnExactArnTakeUptoRow.holds Try.pinned (OpenSpec.upto fnExactArnTakeSpec)

/-- 'laws.FnExactArnGive', WHERE WHAT IT READS IS OF BULK AT MOST 1048576: true; the input reads as it did. -/
def fnExactArnGiveUptoRow : OpenClaim := { program := "ytbjgepcbbonceaa", sum := "517a37c11a1133d34a107263692be27b48028f719704e82e0b958f1bd3feae83", func := "loop.example/tuggers/laws.FnExactArnGive", spec := "fnExactArnGive", apart := false, narrowed := true }
def FnExactArnGiveUptoSaid : Prop := fnExactArnGiveUptoRow.holds Try.pinned (OpenSpec.upto fnExactArnGiveSpec)

end Rows
end Go.Proofs.Ytbjgepcbbonceaa
