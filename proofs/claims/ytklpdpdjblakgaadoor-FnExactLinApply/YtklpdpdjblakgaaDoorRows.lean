/-
  NARROWER THAN 'FOR EVERY INPUT', by the rows' own cells (each row's printed sentence says how): FnExactLinApply: laid · FnLinApply: laid · FnLinSwap: laid · FnLinLooks: laid · FnLinBack: laid.
  DERIVED. THE GIVEN ROWS OF THIS SEAT. 5 by the template 'for every input the law returns true; each argument reads behind the call as it read before'; 0 by the template 'total and deterministic' (their statements: YtklpdpdjblakgaaDoorTotals.lean).
  GIVEN WITH THE SEED: the statements are not yours to turn. If you find one false, say at which input.
  Laid BY PROGRAM, IN A SANDBOX (cutbox-rows.mjs): the forced cells as the released guide's own fill.sh prints them over the translation b94f4ee415465eb5… (all of the seat's roots in one cut). By AI agents, Wed Nov 11 2026. No macro, syntax, notation, axiom, sorry.
-/
import Derived.Test.YtklpdpdjblakgaaDoorChecked
import GoSem.Claim
import GoSem.ClaimJoined
import GoSem.ClaimMapViews
import Derived.JoinedTies
import Derived.KernelRfl
namespace Go.Proofs.YtklpdpdjblakgaaDoor
/- THE CELL 'sum', in the pinned program and in every row, IS THE sha256 OF THE DUMP (.gsa) THAT YtklpdpdjblakgaaDoorProg.lean LOADS. Nothing in Lean hashes anything: it is a label: what it is worth is what the hold of that sum in a sandbox is worth. -/
noncomputable def Tryd.pinned : Pinned := { name := "ytklpdpdjblakgaadoor", sum := "b94f4ee415465eb53709f2f22626b8b170fb329cd14d60e889b086743c7ac030", checked := Tryd.checked }
namespace Rows
def none {H : Type} : Left H := { results := [], args := [] }

/- WHAT THE LISTED PACKAGE-LEVEL VARIABLES READ AS WHEN THE CALL BEGINS. Each datum BY PROGRAM (the guide's laid-datum.mjs) off the statement by which the dump's own 'gosem.cut.vars' lays the variable. In a bare row this is a premise. The card (YtklpdpdjblakgaaDoorCards.lean) ties it to the program's text. -/
def laid_loop_example_tuggers_impl_askedMost {H : Type} : DataW H := .agg [.agg [.lit (.int .i64 0), .lit (.int .i64 0), .lit (.int .i64 0)], .agg [.lit (.int .i64 0), .lit (.int .i64 99), .lit (.int .i64 0)], .agg [.lit (.int .i64 0), .lit (.int .i64 99), .lit (.int .i64 999)], .agg [.lit (.int .i64 0), .lit (.int .i64 99), .lit (.int .i64 0)], .agg [.lit (.int .i64 0), .lit (.int .i64 0), .lit (.int .i64 0)], .agg [.lit (.int .i64 0), .lit (.int .i64 0), .lit (.int .i64 999)], .agg [.lit (.int .i64 0), .lit (.int .i64 0), .lit (.int .i64 0)], .agg [.lit (.int .i64 0), .lit (.int .i64 0), .lit (.int .i64 999)], .agg [.lit (.int .i64 0), .lit (.int .i64 0), .lit (.int .i64 0)], .agg [.lit (.int .i64 0), .lit (.int .i64 99), .lit (.int .i64 0)], .agg [.lit (.int .i64 0), .lit (.int .i64 99), .lit (.int .i64 0)], .agg [.lit (.int .i64 0), .lit (.int .i64 0), .lit (.int .i64 0)], .agg [.lit (.int .i64 0), .lit (.int .i64 0), .lit (.int .i64 0)]]

/-- 'laws.FnExactLinApply': WHATEVER THE INPUT: true; the input reads as it did. -/
def fnExactLinApplySpec : ChangeSpec := { name := "fnExactLinApply", vars := ["loop.example/tuggers/impl.askedMost"], fn := fun _ => fun
  | [d1, d2, g1] => { results := [.lit (.bool true)], args := [d1, d2], vars := [g1] }
  | _ => none }
def fnExactLinApplyRow : OpenClaim := { program := "ytklpdpdjblakgaadoor", sum := "b94f4ee415465eb53709f2f22626b8b170fb329cd14d60e889b086743c7ac030", func := "loop.example/tuggers/laws.FnExactLinApply", spec := "fnExactLinApply", unfollowed := true, recurses := true, named := ["loop.example/tuggers/impl.askedMost"], apart := false, laid := [("loop.example/tuggers/impl.askedMost", laid_loop_example_tuggers_impl_askedMost)] }
def FnExactLinApplySaid : Prop := fnExactLinApplyRow.holds Tryd.pinned (OpenSpec.ofChange fnExactLinApplySpec)

/-- ITS FALSE NEIGHBOUR: 'it returns false'. Refute it at one input. -/
def fnExactLinApplyWrong : ChangeSpec := { name := "fnExactLinApply", vars := ["loop.example/tuggers/impl.askedMost"], fn := fun _ => fun
  | [d1, d2, g1] => { results := [.lit (.bool false)], args := [d1, d2], vars := [g1] }
  | _ => none }
def FnExactLinApplyWrongFalsely : Prop := fnExactLinApplyRow.holds Tryd.pinned (OpenSpec.ofChange fnExactLinApplyWrong)

/-- 'laws.FnLinApply': WHATEVER THE INPUT: true; the input reads as it did. -/
def fnLinApplySpec : ChangeSpec := { name := "fnLinApply", vars := ["loop.example/tuggers/impl.askedMost"], fn := fun _ => fun
  | [d, g1] => { results := [.lit (.bool true)], args := [d], vars := [g1] }
  | _ => none }
def fnLinApplyRow : OpenClaim := { program := "ytklpdpdjblakgaadoor", sum := "b94f4ee415465eb53709f2f22626b8b170fb329cd14d60e889b086743c7ac030", func := "loop.example/tuggers/laws.FnLinApply", spec := "fnLinApply", unfollowed := true, recurses := true, named := ["loop.example/tuggers/impl.askedMost"], apart := false, laid := [("loop.example/tuggers/impl.askedMost", laid_loop_example_tuggers_impl_askedMost)] }
def FnLinApplySaid : Prop := fnLinApplyRow.holds Tryd.pinned (OpenSpec.ofChange fnLinApplySpec)

/-- ITS FALSE NEIGHBOUR: 'it returns false'. Refute it at one input. -/
def fnLinApplyWrong : ChangeSpec := { name := "fnLinApply", vars := ["loop.example/tuggers/impl.askedMost"], fn := fun _ => fun
  | [d, g1] => { results := [.lit (.bool false)], args := [d], vars := [g1] }
  | _ => none }
def FnLinApplyWrongFalsely : Prop := fnLinApplyRow.holds Tryd.pinned (OpenSpec.ofChange fnLinApplyWrong)

/-- 'laws.FnLinSwap': WHATEVER THE INPUT: true; the input reads as it did. -/
def fnLinSwapSpec : ChangeSpec := { name := "fnLinSwap", vars := ["loop.example/tuggers/impl.askedMost"], fn := fun _ => fun
  | [d1, d2, g1] => { results := [.lit (.bool true)], args := [d1, d2], vars := [g1] }
  | _ => none }
def fnLinSwapRow : OpenClaim := { program := "ytklpdpdjblakgaadoor", sum := "b94f4ee415465eb53709f2f22626b8b170fb329cd14d60e889b086743c7ac030", func := "loop.example/tuggers/laws.FnLinSwap", spec := "fnLinSwap", unfollowed := true, recurses := true, named := ["loop.example/tuggers/impl.askedMost"], apart := false, laid := [("loop.example/tuggers/impl.askedMost", laid_loop_example_tuggers_impl_askedMost)] }
def FnLinSwapSaid : Prop := fnLinSwapRow.holds Tryd.pinned (OpenSpec.ofChange fnLinSwapSpec)

/-- ITS FALSE NEIGHBOUR: 'it returns false'. Refute it at one input. -/
def fnLinSwapWrong : ChangeSpec := { name := "fnLinSwap", vars := ["loop.example/tuggers/impl.askedMost"], fn := fun _ => fun
  | [d1, d2, g1] => { results := [.lit (.bool false)], args := [d1, d2], vars := [g1] }
  | _ => none }
def FnLinSwapWrongFalsely : Prop := fnLinSwapRow.holds Tryd.pinned (OpenSpec.ofChange fnLinSwapWrong)

/-- 'laws.FnLinLooks': WHATEVER THE INPUT: true; the input reads as it did. -/
def fnLinLooksSpec : ChangeSpec := { name := "fnLinLooks", vars := ["loop.example/tuggers/impl.askedMost"], fn := fun _ => fun
  | [d, g1] => { results := [.lit (.bool true)], args := [d], vars := [g1] }
  | _ => none }
def fnLinLooksRow : OpenClaim := { program := "ytklpdpdjblakgaadoor", sum := "b94f4ee415465eb53709f2f22626b8b170fb329cd14d60e889b086743c7ac030", func := "loop.example/tuggers/laws.FnLinLooks", spec := "fnLinLooks", unfollowed := true, recurses := true, named := ["loop.example/tuggers/impl.askedMost"], apart := false, laid := [("loop.example/tuggers/impl.askedMost", laid_loop_example_tuggers_impl_askedMost)] }
def FnLinLooksSaid : Prop := fnLinLooksRow.holds Tryd.pinned (OpenSpec.ofChange fnLinLooksSpec)

/-- ITS FALSE NEIGHBOUR: 'it returns false'. Refute it at one input. -/
def fnLinLooksWrong : ChangeSpec := { name := "fnLinLooks", vars := ["loop.example/tuggers/impl.askedMost"], fn := fun _ => fun
  | [d, g1] => { results := [.lit (.bool false)], args := [d], vars := [g1] }
  | _ => none }
def FnLinLooksWrongFalsely : Prop := fnLinLooksRow.holds Tryd.pinned (OpenSpec.ofChange fnLinLooksWrong)

/-- 'laws.FnLinBack': WHATEVER THE INPUT: true; the input reads as it did. -/
def fnLinBackSpec : ChangeSpec := { name := "fnLinBack", vars := ["loop.example/tuggers/impl.askedMost"], fn := fun _ => fun
  | [d, g1] => { results := [.lit (.bool true)], args := [d], vars := [g1] }
  | _ => none }
def fnLinBackRow : OpenClaim := { program := "ytklpdpdjblakgaadoor", sum := "b94f4ee415465eb53709f2f22626b8b170fb329cd14d60e889b086743c7ac030", func := "loop.example/tuggers/laws.FnLinBack", spec := "fnLinBack", unfollowed := true, recurses := true, named := ["loop.example/tuggers/impl.askedMost"], apart := false, laid := [("loop.example/tuggers/impl.askedMost", laid_loop_example_tuggers_impl_askedMost)] }
def FnLinBackSaid : Prop := fnLinBackRow.holds Tryd.pinned (OpenSpec.ofChange fnLinBackSpec)

/-- ITS FALSE NEIGHBOUR: 'it returns false'. Refute it at one input. -/
def fnLinBackWrong : ChangeSpec := { name := "fnLinBack", vars := ["loop.example/tuggers/impl.askedMost"], fn := fun _ => fun
  | [d, g1] => { results := [.lit (.bool false)], args := [d], vars := [g1] }
  | _ => none }
def FnLinBackWrongFalsely : Prop := fnLinBackRow.holds Tryd.pinned (OpenSpec.ofChange fnLinBackWrong)

/- THE SECOND FORM. 'bulk': how many values and letters a reading holds, each counted each time it is reached (what is shared counts as often as it is met; a slice's spare places count too). A statement '..UptoSaid' is the law's where the arguments, and the package variables that the reading takes, are together of bulk at most 1048576: NARROWER than '..Said'. Prove '..Said' where nothing that the law and all that it calls make is longer than what came in: it says more and counts as full. Else prove '..UptoSaid'. A law counts once. -/
mutual
def uptoBulk {H : Type} : DataW H → Nat
  | .lit (.string bytes) => bytes.length + 1
  | .lit _ => 1
  | .nil => 1
  | .ptr d => uptoBulk d + 1
  | .slice elems spare => uptoBulkAll elems + uptoBulkAll spare + 1
  | .agg parts => uptoBulkAll parts + 1
  | .iface _ d => uptoBulk d + 1
  | .map entries => uptoBulkEntries entries + 1
  | .held _ => 1
def uptoBulkAll {H : Type} : List (DataW H) → Nat
  | [] => 0
  | d :: r => uptoBulk d + uptoBulkAll r
def uptoBulkEntries {H : Type} : List (Lit × DataW H) → Nat
  | [] => 0
  | x :: r => uptoBulkEntry x + uptoBulkEntries r
def uptoBulkEntry {H : Type} : Lit × DataW H → Nat
  | (.string bytes, d) => bytes.length + uptoBulk d + 1
  | (_, d) => uptoBulk d + 1
 end
def uptoSmall : (H : Type) → List (DataW H) → Bool := fun _ ds => decide (uptoBulkAll ds ≤ 1048576)
def OpenSpec.upto (s : _root_.Go.ChangeSpec) : _root_.Go.OpenSpec := { _root_.Go.OpenSpec.ofChange s with cond := some uptoSmall }

/-- 'laws.FnExactLinApply', WHERE WHAT IT READS IS OF BULK AT MOST 1048576: true; the input reads as it did. -/
def fnExactLinApplyUptoRow : OpenClaim := { program := "ytklpdpdjblakgaadoor", sum := "b94f4ee415465eb53709f2f22626b8b170fb329cd14d60e889b086743c7ac030", func := "loop.example/tuggers/laws.FnExactLinApply", spec := "fnExactLinApply", unfollowed := true, recurses := true, named := ["loop.example/tuggers/impl.askedMost"], apart := false, laid := [("loop.example/tuggers/impl.askedMost", laid_loop_example_tuggers_impl_askedMost)], narrowed := true }
def FnExactLinApplyUptoSaid : Prop := fnExactLinApplyUptoRow.holds Tryd.pinned (OpenSpec.upto fnExactLinApplySpec)

/-- 'laws.FnLinApply', WHERE WHAT IT READS IS OF BULK AT MOST 1048576: true; the input reads as it did. -/
def fnLinApplyUptoRow : OpenClaim := { program := "ytklpdpdjblakgaadoor", sum := "b94f4ee415465eb53709f2f22626b8b170fb329cd14d60e889b086743c7ac030", func := "loop.example/tuggers/laws.FnLinApply", spec := "fnLinApply", unfollowed := true, recurses := true, named := ["loop.example/tuggers/impl.askedMost"], apart := false, laid := [("loop.example/tuggers/impl.askedMost", laid_loop_example_tuggers_impl_askedMost)], narrowed := true }
def FnLinApplyUptoSaid : Prop := fnLinApplyUptoRow.holds Tryd.pinned (OpenSpec.upto fnLinApplySpec)

/-- 'laws.FnLinSwap', WHERE WHAT IT READS IS OF BULK AT MOST 1048576: true; the input reads as it did. -/
def fnLinSwapUptoRow : OpenClaim := { program := "ytklpdpdjblakgaadoor", sum := "b94f4ee415465eb53709f2f22626b8b170fb329cd14d60e889b086743c7ac030", func := "loop.example/tuggers/laws.FnLinSwap", spec := "fnLinSwap", unfollowed := true, recurses := true, named := ["loop.example/tuggers/impl.askedMost"], apart := false, laid := [("loop.example/tuggers/impl.askedMost", laid_loop_example_tuggers_impl_askedMost)], narrowed := true }
def FnLinSwapUptoSaid : Prop := fnLinSwapUptoRow.holds Tryd.pinned (OpenSpec.upto fnLinSwapSpec)

/-- 'laws.FnLinLooks', WHERE WHAT IT READS IS OF BULK AT MOST 1048576: true; the input reads as it did. -/
def fnLinLooksUptoRow : OpenClaim := { program := "ytklpdpdjblakgaadoor", sum := "b94f4ee415465eb53709f2f22626b8b170fb329cd14d60e889b086743c7ac030", func := "loop.example/tuggers/laws.FnLinLooks", spec := "fnLinLooks", unfollowed := true, recurses := true, named := ["loop.example/tuggers/impl.askedMost"], apart := false, laid := [("loop.example/tuggers/impl.askedMost", laid_loop_example_tuggers_impl_askedMost)], narrowed := true }
def FnLinLooksUptoSaid : Prop := fnLinLooksUptoRow.holds Tryd.pinned (OpenSpec.upto fnLinLooksSpec)

/-- 'laws.FnLinBack', WHERE WHAT IT READS IS OF BULK AT MOST 1048576: true; the input reads as it did. -/
def fnLinBackUptoRow : OpenClaim := { program := "ytklpdpdjblakgaadoor", sum := "b94f4ee415465eb53709f2f22626b8b170fb329cd14d60e889b086743c7ac030", func := "loop.example/tuggers/laws.FnLinBack", spec := "fnLinBack", unfollowed := true, recurses := true, named := ["loop.example/tuggers/impl.askedMost"], apart := false, laid := [("loop.example/tuggers/impl.askedMost", laid_loop_example_tuggers_impl_askedMost)], narrowed := true }
def FnLinBackUptoSaid : Prop := fnLinBackUptoRow.holds Tryd.pinned (OpenSpec.upto fnLinBackSpec)

end Rows
end Go.Proofs.YtklpdpdjblakgaaDoor
