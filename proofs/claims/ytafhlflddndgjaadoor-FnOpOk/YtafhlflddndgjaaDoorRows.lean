/-
  NARROWER THAN 'FOR EVERY INPUT', by the rows' own cells (each row's printed sentence says how): FnHndBegin: laid · FnHndTouch: laid · FnOpOk: laid · FnExactOpOk: laid.
  DERIVED. THE GIVEN ROWS OF THIS SEAT. 4 by the template 'for every input the law returns true; each argument reads behind the call as it read before'; 0 by the template 'total and deterministic' (their statements: YtafhlflddndgjaaDoorTotals.lean).
  GIVEN WITH THE SEED: the statements are not yours to turn. If you find one false, say at which input.
  Laid BY PROGRAM, IN A SANDBOX (cutbox-rows.mjs): the forced cells as the released guide's own fill.sh prints them over the translation cfe874246c0d521a… (all of the seat's roots in one cut). By AI agents, Wed Nov 11 2026. No macro, syntax, notation, axiom, sorry.
-/
import Derived.Test.YtafhlflddndgjaaDoorChecked
import GoSem.Claim
import GoSem.ClaimJoined
import GoSem.ClaimMapViews
import Derived.JoinedTies
import Derived.KernelRfl
namespace Go.Proofs.YtafhlflddndgjaaDoor
/- THE CELL 'sum', in the pinned program and in every row, IS THE sha256 OF THE DUMP (.gsa) THAT YtafhlflddndgjaaDoorProg.lean LOADS. Nothing in Lean hashes anything: it is a label: what it is worth is what the hold of that sum in a sandbox is worth. -/
noncomputable def Tryd.pinned : Pinned := { name := "ytafhlflddndgjaadoor", sum := "cfe874246c0d521a8c1642df09e88109104ffcc54572e4bb848dac55b702dacf", checked := Tryd.checked }
namespace Rows
def none {H : Type} : Left H := { results := [], args := [] }

/- WHAT THE LISTED PACKAGE-LEVEL VARIABLES READ AS WHEN THE CALL BEGINS. Each datum BY PROGRAM (the guide's laid-datum.mjs) off the statement by which the dump's own 'gosem.cut.vars' lays the variable. In a bare row this is a premise. The card (YtafhlflddndgjaaDoorCards.lean) ties it to the program's text. -/
def laid_loop_example_tuggers_impl_askedMost {H : Type} : DataW H := .agg [.agg [.lit (.int .i64 0), .lit (.int .i64 0), .lit (.int .i64 0)], .agg [.lit (.int .i64 0), .lit (.int .i64 99), .lit (.int .i64 0)], .agg [.lit (.int .i64 0), .lit (.int .i64 99), .lit (.int .i64 999)], .agg [.lit (.int .i64 0), .lit (.int .i64 99), .lit (.int .i64 0)], .agg [.lit (.int .i64 0), .lit (.int .i64 0), .lit (.int .i64 0)], .agg [.lit (.int .i64 0), .lit (.int .i64 0), .lit (.int .i64 999)], .agg [.lit (.int .i64 0), .lit (.int .i64 0), .lit (.int .i64 0)], .agg [.lit (.int .i64 0), .lit (.int .i64 0), .lit (.int .i64 999)], .agg [.lit (.int .i64 0), .lit (.int .i64 0), .lit (.int .i64 0)], .agg [.lit (.int .i64 0), .lit (.int .i64 99), .lit (.int .i64 0)], .agg [.lit (.int .i64 0), .lit (.int .i64 99), .lit (.int .i64 0)], .agg [.lit (.int .i64 0), .lit (.int .i64 0), .lit (.int .i64 0)], .agg [.lit (.int .i64 0), .lit (.int .i64 0), .lit (.int .i64 0)]]
def laid_loop_example_tuggers_impl_touchedAt {H : Type} : DataW H := .agg [.lit (.int .i64 0), .lit (.int .i64 0), .lit (.int .i64 0), .lit (.int .i64 0), .lit (.int .i64 1), .lit (.int .i64 3), .lit (.int .i64 2), .lit (.int .i64 0), .lit (.int .i64 3), .lit (.int .i64 0), .lit (.int .i64 4), .lit (.int .i64 2), .lit (.int .i64 3), .lit (.int .i64 2), .lit (.int .i64 4), .lit (.int .i64 0), .lit (.int .i64 0), .lit (.int .i64 0), .lit (.int .i64 0), .lit (.int .i64 0), .lit (.int .i64 0), .lit (.int .i64 0), .lit (.int .i64 0), .lit (.int .i64 4), .lit (.int .i64 0), .lit (.int .i64 3), .lit (.int .i64 0), .lit (.int .i64 0), .lit (.int .i64 3), .lit (.int .i64 0), .lit (.int .i64 3), .lit (.int .i64 0), .lit (.int .i64 0), .lit (.int .i64 3), .lit (.int .i64 0), .lit (.int .i64 2), .lit (.int .i64 0), .lit (.int .i64 1), .lit (.int .i64 3), .lit (.int .i64 0), .lit (.int .i64 0)]

/-- 'laws.FnHndBegin': WHATEVER THE INPUT: true; the input reads as it did. -/
def fnHndBeginSpec : ChangeSpec := { name := "fnHndBegin", vars := ["loop.example/tuggers/impl.askedMost"], fn := fun _ => fun
  | [d, g1] => { results := [.lit (.bool true)], args := [d], vars := [g1] }
  | _ => none }
def fnHndBeginRow : OpenClaim := { program := "ytafhlflddndgjaadoor", sum := "cfe874246c0d521a8c1642df09e88109104ffcc54572e4bb848dac55b702dacf", func := "loop.example/tuggers/laws.FnHndBegin", spec := "fnHndBegin", named := ["loop.example/tuggers/impl.askedMost"], apart := false, laid := [("loop.example/tuggers/impl.askedMost", laid_loop_example_tuggers_impl_askedMost)] }
def FnHndBeginSaid : Prop := fnHndBeginRow.holds Tryd.pinned (OpenSpec.ofChange fnHndBeginSpec)

/-- ITS FALSE NEIGHBOUR: 'it returns false'. Refute it at one input. -/
def fnHndBeginWrong : ChangeSpec := { name := "fnHndBegin", vars := ["loop.example/tuggers/impl.askedMost"], fn := fun _ => fun
  | [d, g1] => { results := [.lit (.bool false)], args := [d], vars := [g1] }
  | _ => none }
def FnHndBeginWrongFalsely : Prop := fnHndBeginRow.holds Tryd.pinned (OpenSpec.ofChange fnHndBeginWrong)

/-- 'laws.FnHndTouch': WHATEVER THE INPUT: true; the input reads as it did. -/
def fnHndTouchSpec : ChangeSpec := { name := "fnHndTouch", vars := ["loop.example/tuggers/impl.touchedAt"], fn := fun _ => fun
  | [d, g1] => { results := [.lit (.bool true)], args := [d], vars := [g1] }
  | _ => none }
def fnHndTouchRow : OpenClaim := { program := "ytafhlflddndgjaadoor", sum := "cfe874246c0d521a8c1642df09e88109104ffcc54572e4bb848dac55b702dacf", func := "loop.example/tuggers/laws.FnHndTouch", spec := "fnHndTouch", named := ["loop.example/tuggers/impl.touchedAt"], apart := false, laid := [("loop.example/tuggers/impl.touchedAt", laid_loop_example_tuggers_impl_touchedAt)] }
def FnHndTouchSaid : Prop := fnHndTouchRow.holds Tryd.pinned (OpenSpec.ofChange fnHndTouchSpec)

/-- ITS FALSE NEIGHBOUR: 'it returns false'. Refute it at one input. -/
def fnHndTouchWrong : ChangeSpec := { name := "fnHndTouch", vars := ["loop.example/tuggers/impl.touchedAt"], fn := fun _ => fun
  | [d, g1] => { results := [.lit (.bool false)], args := [d], vars := [g1] }
  | _ => none }
def FnHndTouchWrongFalsely : Prop := fnHndTouchRow.holds Tryd.pinned (OpenSpec.ofChange fnHndTouchWrong)

/-- 'laws.FnOpOk': WHATEVER THE INPUT: true; the input reads as it did. -/
def fnOpOkSpec : ChangeSpec := { name := "fnOpOk", vars := ["loop.example/tuggers/impl.askedMost"], fn := fun _ => fun
  | [d, g1] => { results := [.lit (.bool true)], args := [d], vars := [g1] }
  | _ => none }
def fnOpOkRow : OpenClaim := { program := "ytafhlflddndgjaadoor", sum := "cfe874246c0d521a8c1642df09e88109104ffcc54572e4bb848dac55b702dacf", func := "loop.example/tuggers/laws.FnOpOk", spec := "fnOpOk", named := ["loop.example/tuggers/impl.askedMost"], apart := false, laid := [("loop.example/tuggers/impl.askedMost", laid_loop_example_tuggers_impl_askedMost)] }
def FnOpOkSaid : Prop := fnOpOkRow.holds Tryd.pinned (OpenSpec.ofChange fnOpOkSpec)

/-- ITS FALSE NEIGHBOUR: 'it returns false'. Refute it at one input. -/
def fnOpOkWrong : ChangeSpec := { name := "fnOpOk", vars := ["loop.example/tuggers/impl.askedMost"], fn := fun _ => fun
  | [d, g1] => { results := [.lit (.bool false)], args := [d], vars := [g1] }
  | _ => none }
def FnOpOkWrongFalsely : Prop := fnOpOkRow.holds Tryd.pinned (OpenSpec.ofChange fnOpOkWrong)

/-- 'laws.FnExactOpOk': WHATEVER THE INPUT: true; the input reads as it did. -/
def fnExactOpOkSpec : ChangeSpec := { name := "fnExactOpOk", vars := ["loop.example/tuggers/impl.askedMost"], fn := fun _ => fun
  | [d, g1] => { results := [.lit (.bool true)], args := [d], vars := [g1] }
  | _ => none }
def fnExactOpOkRow : OpenClaim := { program := "ytafhlflddndgjaadoor", sum := "cfe874246c0d521a8c1642df09e88109104ffcc54572e4bb848dac55b702dacf", func := "loop.example/tuggers/laws.FnExactOpOk", spec := "fnExactOpOk", named := ["loop.example/tuggers/impl.askedMost"], apart := false, laid := [("loop.example/tuggers/impl.askedMost", laid_loop_example_tuggers_impl_askedMost)] }
def FnExactOpOkSaid : Prop := fnExactOpOkRow.holds Tryd.pinned (OpenSpec.ofChange fnExactOpOkSpec)

/-- ITS FALSE NEIGHBOUR: 'it returns false'. Refute it at one input. -/
def fnExactOpOkWrong : ChangeSpec := { name := "fnExactOpOk", vars := ["loop.example/tuggers/impl.askedMost"], fn := fun _ => fun
  | [d, g1] => { results := [.lit (.bool false)], args := [d], vars := [g1] }
  | _ => none }
def FnExactOpOkWrongFalsely : Prop := fnExactOpOkRow.holds Tryd.pinned (OpenSpec.ofChange fnExactOpOkWrong)

/- THE SECOND FORM. 'bulk': how many values and letters a reading holds, each counted each time it is reached (what is shared counts as often as it is met; a slice's spare places count too). A statement '..UptoSaid' is the law's where the arguments, and the package variables that the reading takes, are together of bulk at most 1048576: NARROWER than '..Said'. Prove '..Said' where nothing that the law and all that it calls make is longer than what came in: it says more and counts as full. Else prove '..UptoSaid'. A law counts once. -/
mutual
def uptoBulk {H : Type} : DataW H → Nat
  | .lit (.string bytes) => bytes.length + 1
  | .lit _ => 1
  | .nil => 1
  | .ptr d => uptoBulk d + 1
  | .slice elems spare => uptoBulkAll elems + uptoBulkAll spare + 1
  | .agg parts => uptoBulkAll parts + 1
  | .iface _ d => uptoBulk d + 1
  | .map entries => uptoBulkEntries entries + 1
  | .held _ => 1
def uptoBulkAll {H : Type} : List (DataW H) → Nat
  | [] => 0
  | d :: r => uptoBulk d + uptoBulkAll r
def uptoBulkEntries {H : Type} : List (Lit × DataW H) → Nat
  | [] => 0
  | x :: r => uptoBulkEntry x + uptoBulkEntries r
def uptoBulkEntry {H : Type} : Lit × DataW H → Nat
  | (.string bytes, d) => bytes.length + uptoBulk d + 1
  | (_, d) => uptoBulk d + 1
 end
def uptoSmall : (H : Type) → List (DataW H) → Bool := fun _ ds => decide (uptoBulkAll ds ≤ 1048576)
def OpenSpec.upto (s : _root_.Go.ChangeSpec) : _root_.Go.OpenSpec := { _root_.Go.OpenSpec.ofChange s with cond := some uptoSmall }

/-- 'laws.FnHndBegin', WHERE WHAT IT READS IS OF BULK AT MOST 1048576: true; the input reads as it did. -/
def fnHndBeginUptoRow : OpenClaim := { program := "ytafhlflddndgjaadoor", sum := "cfe874246c0d521a8c1642df09e88109104ffcc54572e4bb848dac55b702dacf", func := "loop.example/tuggers/laws.FnHndBegin", spec := "fnHndBegin", named := ["loop.example/tuggers/impl.askedMost"], apart := false, laid := [("loop.example/tuggers/impl.askedMost", laid_loop_example_tuggers_impl_askedMost)], narrowed := true }
def FnHndBeginUptoSaid : Prop := fnHndBeginUptoRow.holds Tryd.pinned (OpenSpec.upto fnHndBeginSpec)

/-- 'laws.FnHndTouch', WHERE WHAT IT READS IS OF BULK AT MOST 1048576: true; the input reads as it did. -/
def fnHndTouchUptoRow : OpenClaim := { program := "ytafhlflddndgjaadoor", sum := "cfe874246c0d521a8c1642df09e88109104ffcc54572e4bb848dac55b702dacf", func := "loop.example/tuggers/laws.FnHndTouch", spec := "fnHndTouch", named := ["loop.example/tuggers/impl.touchedAt"], apart := false, laid := [("loop.example/tuggers/impl.touchedAt", laid_loop_example_tuggers_impl_touchedAt)], narrowed := true }
def FnHndTouchUptoSaid : Prop := fnHndTouchUptoRow.holds Tryd.pinned (OpenSpec.upto fnHndTouchSpec)

/-- 'laws.FnOpOk', WHERE WHAT IT READS IS OF BULK AT MOST 1048576: true; the input reads as it did. -/
def fnOpOkUptoRow : OpenClaim := { program := "ytafhlflddndgjaadoor", sum := "cfe874246c0d521a8c1642df09e88109104ffcc54572e4bb848dac55b702dacf", func := "loop.example/tuggers/laws.FnOpOk", spec := "fnOpOk", named := ["loop.example/tuggers/impl.askedMost"], apart := false, laid := [("loop.example/tuggers/impl.askedMost", laid_loop_example_tuggers_impl_askedMost)], narrowed := true }
def FnOpOkUptoSaid : Prop := fnOpOkUptoRow.holds Tryd.pinned (OpenSpec.upto fnOpOkSpec)

/-- 'laws.FnExactOpOk', WHERE WHAT IT READS IS OF BULK AT MOST 1048576: true; the input reads as it did. -/
def fnExactOpOkUptoRow : OpenClaim := { program := "ytafhlflddndgjaadoor", sum := "cfe874246c0d521a8c1642df09e88109104ffcc54572e4bb848dac55b702dacf", func := "loop.example/tuggers/laws.FnExactOpOk", spec := "fnExactOpOk", named := ["loop.example/tuggers/impl.askedMost"], apart := false, laid := [("loop.example/tuggers/impl.askedMost", laid_loop_example_tuggers_impl_askedMost)], narrowed := true }
def FnExactOpOkUptoSaid : Prop := fnExactOpOkUptoRow.holds Tryd.pinned (OpenSpec.upto fnExactOpOkSpec)

end Rows
end Go.Proofs.YtafhlflddndgjaaDoor
