/-
  No cell of these rows narrows 'for every input' (looked for: loops, veiled, ifaces, maps, wideKeys, modest, calm, conditions, laid).
  DERIVED. THE GIVEN ROWS OF THIS SEAT. 3 by the template 'for every input the law returns true; each argument reads behind the call as it read before'; 0 by the template 'total and deterministic' (their statements: YtleajkacfhhemagTotals.lean).
  GIVEN WITH THE SEED: the statements are not yours to turn. If you find one false, say at which input.
  Laid BY PROGRAM, IN A SANDBOX (cutbox-rows.mjs): the forced cells as the released guide's own fill.sh prints them over the translation 1c04b4f11fe6a452… (all of the seat's roots in one cut). By AI agents, Wed Nov 11 2026. No macro, syntax, notation, axiom, sorry.
-/
import Derived.Test.YtleajkacfhhemagChecked
import GoSem.Claim
import GoSem.ClaimJoined
import GoSem.ClaimMapViews
import Derived.JoinedTies
import Derived.KernelRfl
namespace Go.Proofs.Ytleajkacfhhemag
/- THE CELL 'sum', in the pinned program and in every row, IS THE sha256 OF THE DUMP (.gsa) THAT YtleajkacfhhemagProg.lean LOADS. Nothing in Lean hashes anything: it is a label: what it is worth is what the hold of that sum in a sandbox is worth. -/
noncomputable def Try.pinned : Pinned := { name := "ytleajkacfhhemag", sum := "1c04b4f11fe6a4525cc7d3c2e950a7ff3c0aadcdc32059f762184f8a067339f7", checked := Try.checked }
namespace Rows
def none {H : Type} : Left H := { results := [], args := [] }

/-- 'laws.FnStkPush': WHATEVER THE INPUT: true; the input reads as it did. -/
def fnStkPushSpec : ChangeSpec := { name := "fnStkPush", fn := fun _ => fun
  | [d] => { results := [.lit (.bool true)], args := [d] }
  | _ => none }
def fnStkPushRow : OpenClaim := { program := "ytleajkacfhhemag", sum := "1c04b4f11fe6a4525cc7d3c2e950a7ff3c0aadcdc32059f762184f8a067339f7", func := "loop.example/tuggers/laws.FnStkPush", spec := "fnStkPush", apart := false }
def FnStkPushSaid : Prop := fnStkPushRow.holds Try.pinned (OpenSpec.ofChange fnStkPushSpec)

/-- ITS FALSE NEIGHBOUR: 'it returns false'. Refute it at one input. -/
def fnStkPushWrong : ChangeSpec := { name := "fnStkPush", fn := fun _ => fun
  | [d] => { results := [.lit (.bool false)], args := [d] }
  | _ => none }
def FnStkPushWrongFalsely : Prop := fnStkPushRow.holds Try.pinned (OpenSpec.ofChange fnStkPushWrong)

/-- 'laws.FnQuePut': WHATEVER THE INPUT: true; the input reads as it did. -/
def fnQuePutSpec : ChangeSpec := { name := "fnQuePut", fn := fun _ => fun
  | [d] => { results := [.lit (.bool true)], args := [d] }
  | _ => none }
def fnQuePutRow : OpenClaim := { program := "ytleajkacfhhemag", sum := "1c04b4f11fe6a4525cc7d3c2e950a7ff3c0aadcdc32059f762184f8a067339f7", func := "loop.example/tuggers/laws.FnQuePut", spec := "fnQuePut", apart := false }
def FnQuePutSaid : Prop := fnQuePutRow.holds Try.pinned (OpenSpec.ofChange fnQuePutSpec)

/-- ITS FALSE NEIGHBOUR: 'it returns false'. Refute it at one input. -/
def fnQuePutWrong : ChangeSpec := { name := "fnQuePut", fn := fun _ => fun
  | [d] => { results := [.lit (.bool false)], args := [d] }
  | _ => none }
def FnQuePutWrongFalsely : Prop := fnQuePutRow.holds Try.pinned (OpenSpec.ofChange fnQuePutWrong)

/-- 'laws.FnListTake': WHATEVER THE INPUT: true; the input reads as it did. -/
def fnListTakeSpec : ChangeSpec := { name := "fnListTake", fn := fun _ => fun
  | [d] => { results := [.lit (.bool true)], args := [d] }
  | _ => none }
def fnListTakeRow : OpenClaim := { program := "ytleajkacfhhemag", sum := "1c04b4f11fe6a4525cc7d3c2e950a7ff3c0aadcdc32059f762184f8a067339f7", func := "loop.example/tuggers/laws.FnListTake", spec := "fnListTake", apart := false }
def FnListTakeSaid : Prop := fnListTakeRow.holds Try.pinned (OpenSpec.ofChange fnListTakeSpec)

/-- ITS FALSE NEIGHBOUR: 'it returns false'. Refute it at one input. -/
def fnListTakeWrong : ChangeSpec := { name := "fnListTake", fn := fun _ => fun
  | [d] => { results := [.lit (.bool false)], args := [d] }
  | _ => none }
def FnListTakeWrongFalsely : Prop := fnListTakeRow.holds Try.pinned (OpenSpec.ofChange fnListTakeWrong)

/- THE SECOND FORM. 'bulk': how many values and letters a reading holds, each counted each time it is reached (what is shared counts as often as it is met; a slice's spare places count too). A statement '..UptoSaid' is the law's where the arguments, and the package variables that the reading takes, are together of bulk at most 1048576: NARROWER than '..Said'. Prove '..Said' where nothing that the law and all that it calls make is longer than what came in: it says more and counts as full. Else prove '..UptoSaid'. A law counts once. -/
mutual
def uptoBulk {H : Type} : DataW H → Nat
  | .lit (.string bytes) => bytes.length + 1
  | .lit _ => 1
  | .nil => 1
  | .ptr d => uptoBulk d + 1
  | .slice elems spare => uptoBulkAll elems + uptoBulkAll spare + 1
  | .agg parts => uptoBulkAll parts + 1
  | .iface _ d => uptoBulk d + 1
  | .map entries => uptoBulkEntries entries + 1
  | .held _ => 1
def uptoBulkAll {H : Type} : List (DataW H) → Nat
  | [] => 0
  | d :: r => uptoBulk d + uptoBulkAll r
def uptoBulkEntries {H : Type} : List (Lit × DataW H) → Nat
  | [] => 0
  | x :: r => uptoBulkEntry x + uptoBulkEntries r
def uptoBulkEntry {H : Type} : Lit × DataW H → Nat
  | (.string bytes, d) => bytes.length + uptoBulk d + 1
  | (_, d) => uptoBulk d + 1
 end
def uptoSmall : (H : Type) → List (DataW H) → Bool := fun _ ds => decide (uptoBulkAll ds ≤ 1048576)
def OpenSpec.upto (s : _root_.Go.ChangeSpec) : _root_.Go.OpenSpec := { _root_.Go.OpenSpec.ofChange s with cond := some uptoSmall }

/-- 'laws.FnStkPush', WHERE WHAT IT READS IS OF BULK AT MOST 1048576: true; the input reads as it did. -/
def fnStkPushUptoRow : OpenClaim := { program := "ytleajkacfhhemag", sum := "1c04b4f11fe6a4525cc7d3c2e950a7ff3c0aadcdc32059f762184f8a067339f7", func := "loop.example/tuggers/laws.FnStkPush", spec := "fnStkPush", apart := false, narrowed := true }
def FnStkPushUptoSaid : Prop := fnStkPushUptoRow.holds Try.pinned (OpenSpec.upto fnStkPushSpec)

/-- 'laws.FnQuePut', WHERE WHAT IT READS IS OF BULK AT MOST 1048576: true; the input reads as it did. -/
def fnQuePutUptoRow : OpenClaim := { program := "ytleajkacfhhemag", sum := "1c04b4f11fe6a4525cc7d3c2e950a7ff3c0aadcdc32059f762184f8a067339f7", func := "loop.example/tuggers/laws.FnQuePut", spec := "fnQuePut", apart := false, narrowed := true }
def FnQuePutUptoSaid : Prop := fnQuePutUptoRow.holds Try.pinned (OpenSpec.upto fnQuePutSpec)

/-- 'laws.FnListTake', WHERE WHAT IT READS IS OF BULK AT MOST 1048576: true; the input reads as it did. -/
def fnListTakeUptoRow : OpenClaim := { program := "ytleajkacfhhemag", sum := "1c04b4f11fe6a4525cc7d3c2e950a7ff3c0aadcdc32059f762184f8a067339f7", func := "loop.example/tuggers/laws.FnListTake", spec := "fnListTake", apart := false, narrowed := true }
def FnListTakeUptoSaid : Prop := fnListTakeUptoRow.holds Try.pinned (OpenSpec.upto fnListTakeSpec)

end Rows
end Go.Proofs.Ytleajkacfhhemag
