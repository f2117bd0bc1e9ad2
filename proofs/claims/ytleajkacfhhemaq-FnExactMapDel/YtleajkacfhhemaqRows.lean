/-
  No cell of these rows narrows 'for every input' (looked for: loops, veiled, ifaces, maps, wideKeys, modest, calm, conditions, laid).
  DERIVED. THE GIVEN ROWS OF THIS SEAT. 6 by the template 'for every input the law returns true; each argument reads behind the call as it read before'; 0 by the template 'total and deterministic' (their statements: YtleajkacfhhemaqTotals.lean).
  GIVEN WITH THE SEED: the statements are not yours to turn. If you find one false, say at which input.
  Laid BY PROGRAM, IN A SANDBOX (cutbox-rows.mjs): the forced cells as the released guide's own fill.sh prints them over the translation 8f3cb1255002894a… (all of the seat's roots in one cut). By AI agents, Wed Nov 11 2026. No macro, syntax, notation, axiom, sorry.
-/
import Derived.Test.YtleajkacfhhemaqChecked
import GoSem.Claim
import GoSem.ClaimJoined
import GoSem.ClaimMapViews
import Derived.JoinedTies
import Derived.KernelRfl
namespace Go.Proofs.Ytleajkacfhhemaq
/- THE CELL 'sum', in the pinned program and in every row, IS THE sha256 OF THE DUMP (.gsa) THAT YtleajkacfhhemaqProg.lean LOADS. Nothing in Lean hashes anything: it is a label: what it is worth is what the hold of that sum in a sandbox is worth. -/
noncomputable def Try.pinned : Pinned := { name := "ytleajkacfhhemaq", sum := "8f3cb1255002894a9aa597152dbfdd14f62096ce89d57c2bc9dbf42a55a776e2", checked := Try.checked }
namespace Rows
def none {H : Type} : Left H := { results := [], args := [] }

/-- 'laws.FnExactMapDel': WHATEVER THE INPUT: true; the input reads as it did. -/
def fnExactMapDelSpec : ChangeSpec := { name := "fnExactMapDel", fn := fun _ => fun
  | [d1, d2] => { results := [.lit (.bool true)], args := [d1, d2] }
  | _ => none }
def fnExactMapDelRow : OpenClaim := { program := "ytleajkacfhhemaq", sum := "8f3cb1255002894a9aa597152dbfdd14f62096ce89d57c2bc9dbf42a55a776e2", func := "loop.example/tuggers/laws.FnExactMapDel", spec := "fnExactMapDel", unfollowed := true, recurses := true, apart := false }
def FnExactMapDelSaid : Prop := fnExactMapDelRow.holds Try.pinned (OpenSpec.ofChange fnExactMapDelSpec)

/-- ITS FALSE NEIGHBOUR: 'it returns false'. Refute it at one input. -/
def fnExactMapDelWrong : ChangeSpec := { name := "fnExactMapDel", fn := fun _ => fun
  | [d1, d2] => { results := [.lit (.bool false)], args := [d1, d2] }
  | _ => none }
def FnExactMapDelWrongFalsely : Prop := fnExactMapDelRow.holds Try.pinned (OpenSpec.ofChange fnExactMapDelWrong)

/-- 'laws.FnExactListOk': WHATEVER THE INPUT: true; the input reads as it did. -/
def fnExactListOkSpec : ChangeSpec := { name := "fnExactListOk", fn := fun _ => fun
  | [d] => { results := [.lit (.bool true)], args := [d] }
  | _ => none }
def fnExactListOkRow : OpenClaim := { program := "ytleajkacfhhemaq", sum := "8f3cb1255002894a9aa597152dbfdd14f62096ce89d57c2bc9dbf42a55a776e2", func := "loop.example/tuggers/laws.FnExactListOk", spec := "fnExactListOk", apart := false }
def FnExactListOkSaid : Prop := fnExactListOkRow.holds Try.pinned (OpenSpec.ofChange fnExactListOkSpec)

/-- ITS FALSE NEIGHBOUR: 'it returns false'. Refute it at one input. -/
def fnExactListOkWrong : ChangeSpec := { name := "fnExactListOk", fn := fun _ => fun
  | [d] => { results := [.lit (.bool false)], args := [d] }
  | _ => none }
def FnExactListOkWrongFalsely : Prop := fnExactListOkRow.holds Try.pinned (OpenSpec.ofChange fnExactListOkWrong)

/-- 'laws.FnExactStkPush': WHATEVER THE INPUT: true; the input reads as it did. -/
def fnExactStkPushSpec : ChangeSpec := { name := "fnExactStkPush", fn := fun _ => fun
  | [d1, d2] => { results := [.lit (.bool true)], args := [d1, d2] }
  | _ => none }
def fnExactStkPushRow : OpenClaim := { program := "ytleajkacfhhemaq", sum := "8f3cb1255002894a9aa597152dbfdd14f62096ce89d57c2bc9dbf42a55a776e2", func := "loop.example/tuggers/laws.FnExactStkPush", spec := "fnExactStkPush", apart := false }
def FnExactStkPushSaid : Prop := fnExactStkPushRow.holds Try.pinned (OpenSpec.ofChange fnExactStkPushSpec)

/-- ITS FALSE NEIGHBOUR: 'it returns false'. Refute it at one input. -/
def fnExactStkPushWrong : ChangeSpec := { name := "fnExactStkPush", fn := fun _ => fun
  | [d1, d2] => { results := [.lit (.bool false)], args := [d1, d2] }
  | _ => none }
def FnExactStkPushWrongFalsely : Prop := fnExactStkPushRow.holds Try.pinned (OpenSpec.ofChange fnExactStkPushWrong)

/-- 'laws.FnExactQuePut': WHATEVER THE INPUT: true; the input reads as it did. -/
def fnExactQuePutSpec : ChangeSpec := { name := "fnExactQuePut", fn := fun _ => fun
  | [d1, d2] => { results := [.lit (.bool true)], args := [d1, d2] }
  | _ => none }
def fnExactQuePutRow : OpenClaim := { program := "ytleajkacfhhemaq", sum := "8f3cb1255002894a9aa597152dbfdd14f62096ce89d57c2bc9dbf42a55a776e2", func := "loop.example/tuggers/laws.FnExactQuePut", spec := "fnExactQuePut", apart := false }
def FnExactQuePutSaid : Prop := fnExactQuePutRow.holds Try.pinned (OpenSpec.ofChange fnExactQuePutSpec)

/-- ITS FALSE NEIGHBOUR: 'it returns false'. Refute it at one input. -/
def fnExactQuePutWrong : ChangeSpec := { name := "fnExactQuePut", fn := fun _ => fun
  | [d1, d2] => { results := [.lit (.bool false)], args := [d1, d2] }
  | _ => none }
def FnExactQuePutWrongFalsely : Prop := fnExactQuePutRow.holds Try.pinned (OpenSpec.ofChange fnExactQuePutWrong)

/-- 'laws.FnExactListTake': WHATEVER THE INPUT: true; the input reads as it did. -/
def fnExactListTakeSpec : ChangeSpec := { name := "fnExactListTake", fn := fun _ => fun
  | [d] => { results := [.lit (.bool true)], args := [d] }
  | _ => none }
def fnExactListTakeRow : OpenClaim := { program := "ytleajkacfhhemaq", sum := "8f3cb1255002894a9aa597152dbfdd14f62096ce89d57c2bc9dbf42a55a776e2", func := "loop.example/tuggers/laws.FnExactListTake", spec := "fnExactListTake", apart := false }
def FnExactListTakeSaid : Prop := fnExactListTakeRow.holds Try.pinned (OpenSpec.ofChange fnExactListTakeSpec)

/-- ITS FALSE NEIGHBOUR: 'it returns false'. Refute it at one input. -/
def fnExactListTakeWrong : ChangeSpec := { name := "fnExactListTake", fn := fun _ => fun
  | [d] => { results := [.lit (.bool false)], args := [d] }
  | _ => none }
def FnExactListTakeWrongFalsely : Prop := fnExactListTakeRow.holds Try.pinned (OpenSpec.ofChange fnExactListTakeWrong)

/-- 'laws.FnExactMapNext': WHATEVER THE INPUT: true; the input reads as it did. -/
def fnExactMapNextSpec : ChangeSpec := { name := "fnExactMapNext", fn := fun _ => fun
  | [d1, d2] => { results := [.lit (.bool true)], args := [d1, d2] }
  | _ => none }
def fnExactMapNextRow : OpenClaim := { program := "ytleajkacfhhemaq", sum := "8f3cb1255002894a9aa597152dbfdd14f62096ce89d57c2bc9dbf42a55a776e2", func := "loop.example/tuggers/laws.FnExactMapNext", spec := "fnExactMapNext", unfollowed := true, recurses := true, apart := false }
def FnExactMapNextSaid : Prop := fnExactMapNextRow.holds Try.pinned (OpenSpec.ofChange fnExactMapNextSpec)

/-- ITS FALSE NEIGHBOUR: 'it returns false'. Refute it at one input. -/
def fnExactMapNextWrong : ChangeSpec := { name := "fnExactMapNext", fn := fun _ => fun
  | [d1, d2] => { results := [.lit (.bool false)], args := [d1, d2] }
  | _ => none }
def FnExactMapNextWrongFalsely : Prop := fnExactMapNextRow.holds Try.pinned (OpenSpec.ofChange fnExactMapNextWrong)

/- THE SECOND FORM. 'bulk': how many values and letters a reading holds, each counted each time it is reached (what is shared counts as often as it is met; a slice's spare places count too). A statement '..UptoSaid' is the law's where the arguments, and the package variables that the reading takes, are together of bulk at most 1048576: NARROWER than '..Said'. Prove '..Said' where nothing that the law and all that it calls make is longer than what came in: it says more and counts as full. Else prove '..UptoSaid'. A law counts once. -/
mutual
def uptoBulk {H : Type} : DataW H → Nat
  | .lit (.string bytes) => bytes.length + 1
  | .lit _ => 1
  | .nil => 1
  | .ptr d => uptoBulk d + 1
  | .slice elems spare => uptoBulkAll elems + uptoBulkAll spare + 1
  | .agg parts => uptoBulkAll parts + 1
  | .iface _ d => uptoBulk d + 1
  | .map entries => uptoBulkEntries entries + 1
  | .held _ => 1
def uptoBulkAll {H : Type} : List (DataW H) → Nat
  | [] => 0
  | d :: r => uptoBulk d + uptoBulkAll r
def uptoBulkEntries {H : Type} : List (Lit × DataW H) → Nat
  | [] => 0
  | x :: r => uptoBulkEntry x + uptoBulkEntries r
def uptoBulkEntry {H : Type} : Lit × DataW H → Nat
  | (.string bytes, d) => bytes.length + uptoBulk d + 1
  | (_, d) => uptoBulk d + 1
 end
def uptoSmall : (H : Type) → List (DataW H) → Bool := fun _ ds => decide (uptoBulkAll ds ≤ 1048576)
def OpenSpec.upto (s : _root_.Go.ChangeSpec) : _root_.Go.OpenSpec := { _root_.Go.OpenSpec.ofChange s with cond := some uptoSmall }

/-- 'laws.FnExactMapDel', WHERE WHAT IT READS IS OF BULK AT MOST 1048576: true; the input reads as it did. -/
def fnExactMapDelUptoRow : OpenClaim := { program := "ytleajkacfhhemaq", sum := "8f3cb1255002894a9aa597152dbfdd14f62096ce89d57c2bc9dbf42a55a776e2", func := "loop.example/tuggers/laws.FnExactMapDel", spec := "fnExactMapDel", unfollowed := true, recurses := true, apart := false, narrowed := true }
def FnExactMapDelUptoSaid : Prop := fnExactMapDelUptoRow.holds Try.pinned (OpenSpec.upto fnExactMapDelSpec)

/-- 'laws.FnExactListOk', WHERE WHAT IT READS IS OF BULK AT MOST 1048576: true; the input reads as it did. -/
def fnExactListOkUptoRow : OpenClaim := { program := "ytleajkacfhhemaq", sum := "8f3cb1255002894a9aa597152dbfdd14f62096ce89d57c2bc9dbf42a55a776e2", func := "loop.example/tuggers/laws.FnExactListOk", spec := "fnExactListOk", apart := false, narrowed := true }
def FnExactListOkUptoSaid : Prop := fnExactListOkUptoRow.holds Try.pinned (OpenSpec.upto fnExactListOkSpec)

/-- 'laws.FnExactStkPush', WHERE WHAT IT READS IS OF BULK AT MOST 1048576: true; the input reads as it did. -/
def fnExactStkPushUptoRow : OpenClaim := { program := "ytleajkacfhhemaq", sum := "8f3cb1255002894a9aa597152dbfdd14f62096ce89d57c2bc9dbf42a55a776e2", func := "loop.example/tuggers/laws.FnExactStkPush", spec := "fnExactStkPush", apart := false, narrowed := true }
def FnExactStkPushUptoSaid : Prop := fnExactStkPushUptoRow.holds Try.pinned (OpenSpec.upto fnExactStkPushSpec)

/-- 'laws.FnExactQuePut', WHERE WHAT IT READS IS OF BULK AT MOST 1048576: true; the input reads as it did. -/
def fnExactQuePutUptoRow : OpenClaim := { program := "ytleajkacfhhemaq", sum := "8f3cb1255002894a9aa597152dbfdd14f62096ce89d57c2bc9dbf42a55a776e2", func := "loop.example/tuggers/laws.FnExactQuePut", spec := "fnExactQuePut", apart := false, narrowed := true }
def FnExactQuePutUptoSaid : Prop := fnExactQuePutUptoRow.holds Try.pinned (OpenSpec.upto fnExactQuePutSpec)

/-- 'laws.FnExactListTake', WHERE WHAT IT READS IS OF BULK AT MOST 1048576: true; the input reads as it did. -/
def fnExactListTakeUptoRow : OpenClaim := { program := "ytleajkacfhhemaq", sum := "8f3cb1255002894a9aa597152dbfdd14f62096ce89d57c2bc9dbf42a55a776e2", func := "loop.example/tuggers/laws.FnExactListTake", spec := "fnExactListTake", apart := false, narrowed := true }
def FnExactListTakeUptoSaid : Prop := fnExactListTakeUptoRow.holds Try.pinned (OpenSpec.upto fnExactListTakeSpec)

/-- 'laws.FnExactMapNext', WHERE WHAT IT READS IS OF BULK AT MOST 1048576: true; the input reads as it did. -/
def fnExactMapNextUptoRow : OpenClaim := { program := "ytleajkacfhhemaq", sum := "8f3cb1255002894a9aa597152dbfdd14f62096ce89d57c2bc9dbf42a55a776e2", func := "loop.example/tuggers/laws.FnExactMapNext", spec := "fnExactMapNext", unfollowed := true, recurses := true, apart := false, narrowed := true }
def FnExactMapNextUptoSaid : Prop := fnExactMapNextUptoRow.holds Try.pinned (OpenSpec.upto fnExactMapNextSpec)

end Rows
end Go.Proofs.Ytleajkacfhhemaq
