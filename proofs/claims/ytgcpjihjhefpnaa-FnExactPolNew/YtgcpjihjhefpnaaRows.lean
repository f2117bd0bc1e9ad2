/-
  No cell of these rows narrows 'for every input' (looked for: loops, veiled, ifaces, maps, wideKeys, modest, calm, conditions, laid).
  DERIVED. THE GIVEN ROWS OF THIS SEAT. 4 by the template 'for every input the law returns true; each argument reads behind the call as it read before'; 0 by the template 'total and deterministic' (their statements: YtgcpjihjhefpnaaTotals.lean).
  GIVEN WITH THE SEED: the statements are not yours to turn. If you find one false, say at which input.
  Laid BY PROGRAM, IN A SANDBOX (cutbox-rows.mjs): the forced cells as the released guide's own fill.sh prints them over the translation b9112bc6f8346561… (all of the seat's roots in one cut). By AI agents, Wed Nov 11 2026. No macro, syntax, notation, axiom, sorry.
-/
import Derived.Test.YtgcpjihjhefpnaaChecked
import GoSem.Claim
import GoSem.ClaimJoined
import GoSem.ClaimMapViews
import Derived.JoinedTies
import Derived.KernelRfl
namespace Go.Proofs.Ytgcpjihjhefpnaa
/- THE CELL 'sum', in the pinned program and in every row, IS THE sha256 OF THE DUMP (.gsa) THAT YtgcpjihjhefpnaaProg.lean LOADS. Nothing in Lean hashes anything: it is a label: what it is worth is what the hold of that sum in a sandbox is worth. -/
noncomputable def Try.pinned : Pinned := { name := "ytgcpjihjhefpnaa", sum := "b9112bc6f8346561d88e5113e5830607e86ecd4ea425347467ab84e81b3f61fb", checked := Try.checked }
namespace Rows
def none {H : Type} : Left H := { results := [], args := [] }

/-- 'laws.FnExactPolNew': WHATEVER THE INPUT: true; the input reads as it did. -/
def fnExactPolNewSpec : ChangeSpec := { name := "fnExactPolNew", fn := fun _ => fun
  | [] => { results := [.lit (.bool true)], args := [] }
  | _ => none }
def fnExactPolNewRow : OpenClaim := { program := "ytgcpjihjhefpnaa", sum := "b9112bc6f8346561d88e5113e5830607e86ecd4ea425347467ab84e81b3f61fb", func := "loop.example/tuggers/laws.FnExactPolNew", spec := "fnExactPolNew", apart := false }
def FnExactPolNewSaid : Prop := fnExactPolNewRow.holds Try.pinned (OpenSpec.ofChange fnExactPolNewSpec)

/-- ITS FALSE NEIGHBOUR: 'it returns false'. Refute it at one input. -/
def fnExactPolNewWrong : ChangeSpec := { name := "fnExactPolNew", fn := fun _ => fun
  | [] => { results := [.lit (.bool false)], args := [] }
  | _ => none }
def FnExactPolNewWrongFalsely : Prop := fnExactPolNewRow.holds Try.pinned (OpenSpec.ofChange fnExactPolNewWrong)

/-- 'laws.FnExactPolOk': WHATEVER THE INPUT: true; the input reads as it did. -/
def fnExactPolOkSpec : ChangeSpec := { name := "fnExactPolOk", fn := fun _ => fun
  | [d] => { results := [.lit (.bool true)], args := [d] }
  | _ => none }
def fnExactPolOkRow : OpenClaim := { program := "ytgcpjihjhefpnaa", sum := "b9112bc6f8346561d88e5113e5830607e86ecd4ea425347467ab84e81b3f61fb", func := "loop.example/tuggers/laws.FnExactPolOk", spec := "fnExactPolOk", apart := false }
def FnExactPolOkSaid : Prop := fnExactPolOkRow.holds Try.pinned (OpenSpec.ofChange fnExactPolOkSpec)

/-- ITS FALSE NEIGHBOUR: 'it returns false'. Refute it at one input. -/
def fnExactPolOkWrong : ChangeSpec := { name := "fnExactPolOk", fn := fun _ => fun
  | [d] => { results := [.lit (.bool false)], args := [d] }
  | _ => none }
def FnExactPolOkWrongFalsely : Prop := fnExactPolOkRow.holds Try.pinned (OpenSpec.ofChange fnExactPolOkWrong)

/-- 'laws.FnExactPolOut': WHATEVER THE INPUT: true; the input reads as it did. -/
def fnExactPolOutSpec : ChangeSpec := { name := "fnExactPolOut", fn := fun _ => fun
  | [d] => { results := [.lit (.bool true)], args := [d] }
  | _ => none }
def fnExactPolOutRow : OpenClaim := { program := "ytgcpjihjhefpnaa", sum := "b9112bc6f8346561d88e5113e5830607e86ecd4ea425347467ab84e81b3f61fb", func := "loop.example/tuggers/laws.FnExactPolOut", spec := "fnExactPolOut", apart := false }
def FnExactPolOutSaid : Prop := fnExactPolOutRow.holds Try.pinned (OpenSpec.ofChange fnExactPolOutSpec)

/-- ITS FALSE NEIGHBOUR: 'it returns false'. Refute it at one input. -/
def fnExactPolOutWrong : ChangeSpec := { name := "fnExactPolOut", fn := fun _ => fun
  | [d] => { results := [.lit (.bool false)], args := [d] }
  | _ => none }
def FnExactPolOutWrongFalsely : Prop := fnExactPolOutRow.holds Try.pinned (OpenSpec.ofChange fnExactPolOutWrong)

/-- 'laws.FnExactPolFree': WHATEVER THE INPUT: true; the input reads as it did. -/
def fnExactPolFreeSpec : ChangeSpec := { name := "fnExactPolFree", fn := fun _ => fun
  | [d1, d2, d3] => { results := [.lit (.bool true)], args := [d1, d2, d3] }
  | _ => none }
def fnExactPolFreeRow : OpenClaim := { program := "ytgcpjihjhefpnaa", sum := "b9112bc6f8346561d88e5113e5830607e86ecd4ea425347467ab84e81b3f61fb", func := "loop.example/tuggers/laws.FnExactPolFree", spec := "fnExactPolFree", apart := false }
def FnExactPolFreeSaid : Prop := fnExactPolFreeRow.holds Try.pinned (OpenSpec.ofChange fnExactPolFreeSpec)

/-- ITS FALSE NEIGHBOUR: 'it returns false'. Refute it at one input. -/
def fnExactPolFreeWrong : ChangeSpec := { name := "fnExactPolFree", fn := fun _ => fun
  | [d1, d2, d3] => { results := [.lit (.bool false)], args := [d1, d2, d3] }
  | _ => none }
def FnExactPolFreeWrongFalsely : Prop := fnExactPolFreeRow.holds Try.pinned (OpenSpec.ofChange fnExactPolFreeWrong)

/- THE SECOND FORM. 'bulk': how many values and letters a reading holds, each counted each time it is reached (what is shared counts as often as it is met; a slice's spare places count too). A statement '..UptoSaid' is the law's where the arguments, and the package variables that the reading takes, are together of bulk at most 1048576: NARROWER than '..Said'. Prove '..Said' where nothing that the law and all that it calls make is longer than what came in: it says more and counts as full. Else prove '..UptoSaid'. A law counts once. -/
mutual
def uptoBulk {H : Type} : DataW H → Nat
  | .lit (.string bytes) => bytes.length + 1
  | .lit _ => 1
  | .nil => 1
  | .ptr d => uptoBulk d + 1
  | .slice elems spare => uptoBulkAll elems + uptoBulkAll spare + 1
  | .agg parts => uptoBulkAll parts + 1
  | .iface _ d => uptoBulk d + 1
  | .map entries => uptoBulkEntries entries + 1
  | .held _ => 1
def uptoBulkAll {H : Type} : List (DataW H) → Nat
  | [] => 0
  | d :: r => uptoBulk d + uptoBulkAll r
def uptoBulkEntries {H : Type} : List (Lit × DataW H) → Nat
  | [] => 0
  | x :: r => uptoBulkEntry x + uptoBulkEntries r
def uptoBulkEntry {H : Type} : Lit × DataW H → Nat
  | (.string bytes, d) => bytes.length + uptoBulk d + 1
  | (_, d) => uptoBulk d + 1
 end
def uptoSmall : (H : Type) → List (DataW H) → Bool := fun _ ds => decide (uptoBulkAll ds ≤ 1048576)
def OpenSpec.upto (s : _root_.Go.ChangeSpec) : _root_.Go.OpenSpec := { _root_.Go.OpenSpec.ofChange s with cond := some uptoSmall }

/-- 'laws.FnExactPolNew', WHERE WHAT IT READS IS OF BULK AT MOST 1048576: true; the input reads as it did. -/
def fnExactPolNewUptoRow : OpenClaim := { program := "ytgcpjihjhefpnaa", sum := "b9112bc6f8346561d88e5113e5830607e86ecd4ea425347467ab84e81b3f61fb", func := "loop.example/tuggers/laws.FnExactPolNew", spec := "fnExactPolNew", apart := false, narrowed := true }
def FnExactPolNewUptoSaid : Prop := fnExactPolNewUptoRow.holds Try.pinned (OpenSpec.upto fnExactPolNewSpec)

/-- 'laws.FnExactPolOk', WHERE WHAT IT READS IS OF BULK AT MOST 1048576: true; the input reads as it did. -/
def fnExactPolOkUptoRow : OpenClaim := { program := "ytgcpjihjhefpnaa", sum := "b9112bc6f8346561d88e5113e5830607e86ecd4ea425347467ab84e81b3f61fb", func := "loop.example/tuggers/laws.FnExactPolOk", spec := "fnExactPolOk", apart := false, narrowed := true }
def FnExactPolOkUptoSaid : Prop := fnExactPolOkUptoRow.holds Try.pinned (OpenSpec.upto fnExactPolOkSpec)

/-- 'laws.FnExactPolOut', WHERE WHAT IT READS IS OF BULK AT MOST 1048576: true; the input reads as it did. -/
def fnExactPolOutUptoRow : OpenClaim := { program := "ytgcpjihjhefpnaa", sum := "b9112bc6f8346561d88e5113e5830607e86ecd4ea425347467ab84e81b3f61fb", func := "loop.example/tuggers/laws.FnExactPolOut", spec := "fnExactPolOut", apart := false, narrowed := true }
def FnExactPolOutUptoSaid : Prop := fnExactPolOutUptoRow.holds Try.pinned (OpenSpec.upto fnExactPolOutSpec)

/-- 'laws.FnExactPolFree', WHERE WHAT IT READS IS OF BULK AT MOST 1048576: true; the input reads as it did. -/
def fnExactPolFreeUptoRow : OpenClaim := { program := "ytgcpjihjhefpnaa", sum := "b9112bc6f8346561d88e5113e5830607e86ecd4ea425347467ab84e81b3f61fb", func := "loop.example/tuggers/laws.FnExactPolFree", spec := "fnExactPolFree", apart := false, narrowed := true }
def FnExactPolFreeUptoSaid : Prop := fnExactPolFreeUptoRow.holds Try.pinned (OpenSpec.upto fnExactPolFreeSpec)

end Rows
end Go.Proofs.Ytgcpjihjhefpnaa
