/-
  No cell of these rows narrows 'for every input' (looked for: loops, veiled, ifaces, maps, wideKeys, modest, calm, conditions, laid).
  DERIVED. THE GIVEN ROWS OF THIS SEAT. 4 by the template 'for every input the law returns true; each argument reads behind the call as it read before'; 0 by the template 'total and deterministic' (their statements: YtmkgdnoadhnllaaTotals.lean).
  GIVEN WITH THE SEED: the statements are not yours to turn. If you find one false, say at which input.
  Laid BY PROGRAM, IN A SANDBOX (cutbox-rows.mjs): the forced cells as the released guide's own fill.sh prints them over the translation 236d226be517759b… (all of the seat's roots in one cut). By AI agents, Wed Nov 11 2026. No macro, syntax, notation, axiom, sorry.
-/
import Derived.Test.YtmkgdnoadhnllaaChecked
import GoSem.Claim
import GoSem.ClaimJoined
import GoSem.ClaimMapViews
import Derived.JoinedTies
import Derived.KernelRfl
namespace Go.Proofs.Ytmkgdnoadhnllaa
/- THE CELL 'sum', in the pinned program and in every row, IS THE sha256 OF THE DUMP (.gsa) THAT YtmkgdnoadhnllaaProg.lean LOADS. Nothing in Lean hashes anything: it is a label: what it is worth is what the hold of that sum in a sandbox is worth. -/
noncomputable def Try.pinned : Pinned := { name := "ytmkgdnoadhnllaa", sum := "236d226be517759bea6223924d2d23b258eb543b010f201663e323abc62c5050", checked := Try.checked }
namespace Rows
def none {H : Type} : Left H := { results := [], args := [] }

/-- 'laws.FnWrdMake': WHATEVER THE INPUT: true; the input reads as it did. -/
def fnWrdMakeSpec : ChangeSpec := { name := "fnWrdMake", fn := fun _ => fun
  | [d1, d2] => { results := [.lit (.bool true)], args := [d1, d2] }
  | _ => none }
def fnWrdMakeRow : OpenClaim := { program := "ytmkgdnoadhnllaa", sum := "236d226be517759bea6223924d2d23b258eb543b010f201663e323abc62c5050", func := "loop.example/tuggers/laws.FnWrdMake", spec := "fnWrdMake", apart := false }
def FnWrdMakeSaid : Prop := fnWrdMakeRow.holds Try.pinned (OpenSpec.ofChange fnWrdMakeSpec)

/-- ITS FALSE NEIGHBOUR: 'it returns false'. Refute it at one input. -/
def fnWrdMakeWrong : ChangeSpec := { name := "fnWrdMake", fn := fun _ => fun
  | [d1, d2] => { results := [.lit (.bool false)], args := [d1, d2] }
  | _ => none }
def FnWrdMakeWrongFalsely : Prop := fnWrdMakeRow.holds Try.pinned (OpenSpec.ofChange fnWrdMakeWrong)

/-- 'laws.FnExactWrdMake': WHATEVER THE INPUT: true; the input reads as it did. -/
def fnExactWrdMakeSpec : ChangeSpec := { name := "fnExactWrdMake", fn := fun _ => fun
  | [d1, d2] => { results := [.lit (.bool true)], args := [d1, d2] }
  | _ => none }
def fnExactWrdMakeRow : OpenClaim := { program := "ytmkgdnoadhnllaa", sum := "236d226be517759bea6223924d2d23b258eb543b010f201663e323abc62c5050", func := "loop.example/tuggers/laws.FnExactWrdMake", spec := "fnExactWrdMake", apart := false }
def FnExactWrdMakeSaid : Prop := fnExactWrdMakeRow.holds Try.pinned (OpenSpec.ofChange fnExactWrdMakeSpec)

/-- ITS FALSE NEIGHBOUR: 'it returns false'. Refute it at one input. -/
def fnExactWrdMakeWrong : ChangeSpec := { name := "fnExactWrdMake", fn := fun _ => fun
  | [d1, d2] => { results := [.lit (.bool false)], args := [d1, d2] }
  | _ => none }
def FnExactWrdMakeWrongFalsely : Prop := fnExactWrdMakeRow.holds Try.pinned (OpenSpec.ofChange fnExactWrdMakeWrong)

/-- 'laws.FnExactWrdTo': WHATEVER THE INPUT: true; the input reads as it did. -/
def fnExactWrdToSpec : ChangeSpec := { name := "fnExactWrdTo", fn := fun _ => fun
  | [d] => { results := [.lit (.bool true)], args := [d] }
  | _ => none }
def fnExactWrdToRow : OpenClaim := { program := "ytmkgdnoadhnllaa", sum := "236d226be517759bea6223924d2d23b258eb543b010f201663e323abc62c5050", func := "loop.example/tuggers/laws.FnExactWrdTo", spec := "fnExactWrdTo", apart := false }
def FnExactWrdToSaid : Prop := fnExactWrdToRow.holds Try.pinned (OpenSpec.ofChange fnExactWrdToSpec)

/-- ITS FALSE NEIGHBOUR: 'it returns false'. Refute it at one input. -/
def fnExactWrdToWrong : ChangeSpec := { name := "fnExactWrdTo", fn := fun _ => fun
  | [d] => { results := [.lit (.bool false)], args := [d] }
  | _ => none }
def FnExactWrdToWrongFalsely : Prop := fnExactWrdToRow.holds Try.pinned (OpenSpec.ofChange fnExactWrdToWrong)

/-- 'laws.FnExactWrdMark': WHATEVER THE INPUT: true; the input reads as it did. -/
def fnExactWrdMarkSpec : ChangeSpec := { name := "fnExactWrdMark", fn := fun _ => fun
  | [d] => { results := [.lit (.bool true)], args := [d] }
  | _ => none }
def fnExactWrdMarkRow : OpenClaim := { program := "ytmkgdnoadhnllaa", sum := "236d226be517759bea6223924d2d23b258eb543b010f201663e323abc62c5050", func := "loop.example/tuggers/laws.FnExactWrdMark", spec := "fnExactWrdMark", apart := false }
def FnExactWrdMarkSaid : Prop := fnExactWrdMarkRow.holds Try.pinned (OpenSpec.ofChange fnExactWrdMarkSpec)

/-- ITS FALSE NEIGHBOUR: 'it returns false'. Refute it at one input. -/
def fnExactWrdMarkWrong : ChangeSpec := { name := "fnExactWrdMark", fn := fun _ => fun
  | [d] => { results := [.lit (.bool false)], args := [d] }
  | _ => none }
def FnExactWrdMarkWrongFalsely : Prop := fnExactWrdMarkRow.holds Try.pinned (OpenSpec.ofChange fnExactWrdMarkWrong)

/- THE SECOND FORM. 'bulk': how many values and letters a reading holds, each counted each time it is reached (what is shared counts as often as it is met; a slice's spare places count too). A statement '..UptoSaid' is the law's where the arguments, and the package variables that the reading takes, are together of bulk at most 1048576: NARROWER than '..Said'. Prove '..Said' where nothing that the law and all that it calls make is longer than what came in: it says more and counts as full. Else prove '..UptoSaid'. A law counts once. -/
mutual
def uptoBulk {H : Type} : DataW H → Nat
  | .lit (.string bytes) => bytes.length + 1
  | .lit _ => 1
  | .nil => 1
  | .ptr d => uptoBulk d + 1
  | .slice elems spare => uptoBulkAll elems + uptoBulkAll spare + 1
  | .agg parts => uptoBulkAll parts + 1
  | .iface _ d => uptoBulk d + 1
  | .map entries => uptoBulkEntries entries + 1
  | .held _ => 1
def uptoBulkAll {H : Type} : List (DataW H) → Nat
  | [] => 0
  | d :: r => uptoBulk d + uptoBulkAll r
def uptoBulkEntries {H : Type} : List (Lit × DataW H) → Nat
  | [] => 0
  | x :: r => uptoBulkEntry x + uptoBulkEntries r
def uptoBulkEntry {H : Type} : Lit × DataW H → Nat
  | (.string bytes, d) => bytes.length + uptoBulk d + 1
  | (_, d) => uptoBulk d + 1
 end
def uptoSmall : (H : Type) → List (DataW H) → Bool := fun _ ds => decide (uptoBulkAll ds ≤ 1048576)
def OpenSpec.upto (s : _root_.Go.ChangeSpec) : _root_.Go.OpenSpec := { _root_.Go.OpenSpec.ofChange s with cond := some uptoSmall }

/-- 'laws.FnWrdMake', WHERE WHAT IT READS IS OF BULK AT MOST 1048576: true; the input reads as it did. -/
def fnWrdMakeUptoRow : OpenClaim := { program := "ytmkgdnoadhnllaa", sum := "236d226be517759bea6223924d2d23b258eb543b010f201663e323abc62c5050", func := "loop.example/tuggers/laws.FnWrdMake", spec := "fnWrdMake", apart := false, narrowed := true }
def FnWrdMakeUptoSaid : Prop := fnWrdMakeUptoRow.holds Try.pinned (OpenSpec.upto fnWrdMakeSpec)

/-- 'laws.FnExactWrdMake', WHERE WHAT IT READS IS OF BULK AT MOST 1048576: true; the input reads as it did. -/
def fnExactWrdMakeUptoRow : OpenClaim := { program := "ytmkgdnoadhnllaa", sum := "236d226be517759bea6223924d2d23b258eb543b010f201663e323abc62c5050", func := "loop.example/tuggers/laws.FnExactWrdMake", spec := "fnExactWrdMake", apart := false, narrowed := true }
def FnExactWrdMakeUptoSaid : Prop := fnExactWrdMakeUptoRow.holds Try.pinned (OpenSpec.upto fnExactWrdMakeSpec)

/-- 'laws.FnExactWrdTo', WHERE WHAT IT READS IS OF BULK AT MOST 1048576: true; the input reads as it did. -/
def fnExactWrdToUptoRow : OpenClaim := { program := "ytmkgdnoadhnllaa", sum := "236d226be517759bea6223924d2d23b258eb543b010f201663e323abc62c5050", func := "loop.example/tuggers/laws.FnExactWrdTo", spec := "fnExactWrdTo", apart := false, narrowed := true }
def FnExactWrdToUptoSaid : Prop := fnExactWrdToUptoRow.holds Try.pinned (OpenSpec.upto fnExactWrdToSpec)

/-- 'laws.FnExactWrdMark', WHERE WHAT IT READS IS OF BULK AT MOST 1048576: true; the input reads as it did. -/
def fnExactWrdMarkUptoRow : OpenClaim := { program := "ytmkgdnoadhnllaa", sum := "236d226be517759bea6223924d2d23b258eb543b010f201663e323abc62c5050", func := "loop.example/tuggers/laws.FnExactWrdMark", spec := "fnExactWrdMark", apart := false, narrowed := true }
def FnExactWrdMarkUptoSaid : Prop := fnExactWrdMarkUptoRow.holds Try.pinned (OpenSpec.upto fnExactWrdMarkSpec)

end Rows
end Go.Proofs.Ytmkgdnoadhnllaa
