/-
  DERIVED. GIVEN WITH THE SEED: THE CARDS: each row of YtklpdpdjblakgaaDoorRows.lean that lists a variable, with what it lists TIED to the program's text (the seventh form; the later family's looks); each row that meets fmt, with fmt's text TOLD by the authors' own Lean function (tested against real Go, not proved from fmt's source: count such statements apart). THE CARD IS WHAT COUNTS. Prove the row's statement (the work); the ties are given (YtklpdpdjblakgaaDoorTie.lean); close each card by the builder's one call (the guide's Derived/Test/ToyasCard.lean, 'card_holds'). Laid BY PROGRAM, IN A SANDBOX (cutbox-door.mjs). By AI agents, Wed Nov 11 2026. No macro, syntax, notation, axiom, sorry.
-/
import Derived.Test.YtklpdpdjblakgaaDoorRows
import GoSem.ClaimSeven
namespace Go.Proofs.YtklpdpdjblakgaaDoor
namespace Rows

/-- THE TIED CARD OF 'laws.FnExactLinApply'. -/
def fnExactLinApplyCard : Claim7 := { stood := { row := fnExactLinApplyRow, standIns := [], harness := (true, "0895f57191a4b0cc4ece07b0d2b22b4cd8bfa79ce60b643e201eb2e634eaa9a2"), looks := false }, kinds := [], alts := [], laidByText := true, laidKinds := [.data], laidTests := true, laidLooks := .later }
def FnExactLinApplyCardSaid : Prop := Claim7.holds Tryd.pinned (.plain (OpenSpec.ofChange fnExactLinApplySpec)) fnExactLinApplyCard

/-- THE TIED CARD OF 'laws.FnLinApply'. -/
def fnLinApplyCard : Claim7 := { stood := { row := fnLinApplyRow, standIns := [], harness := (true, "0895f57191a4b0cc4ece07b0d2b22b4cd8bfa79ce60b643e201eb2e634eaa9a2"), looks := false }, kinds := [], alts := [], laidByText := true, laidKinds := [.data], laidTests := true, laidLooks := .later }
def FnLinApplyCardSaid : Prop := Claim7.holds Tryd.pinned (.plain (OpenSpec.ofChange fnLinApplySpec)) fnLinApplyCard

/-- THE TIED CARD OF 'laws.FnLinSwap'. -/
def fnLinSwapCard : Claim7 := { stood := { row := fnLinSwapRow, standIns := [], harness := (true, "0895f57191a4b0cc4ece07b0d2b22b4cd8bfa79ce60b643e201eb2e634eaa9a2"), looks := false }, kinds := [], alts := [], laidByText := true, laidKinds := [.data], laidTests := true, laidLooks := .later }
def FnLinSwapCardSaid : Prop := Claim7.holds Tryd.pinned (.plain (OpenSpec.ofChange fnLinSwapSpec)) fnLinSwapCard

/-- THE TIED CARD OF 'laws.FnLinLooks'. -/
def fnLinLooksCard : Claim7 := { stood := { row := fnLinLooksRow, standIns := [], harness := (true, "0895f57191a4b0cc4ece07b0d2b22b4cd8bfa79ce60b643e201eb2e634eaa9a2"), looks := false }, kinds := [], alts := [], laidByText := true, laidKinds := [.data], laidTests := true, laidLooks := .later }
def FnLinLooksCardSaid : Prop := Claim7.holds Tryd.pinned (.plain (OpenSpec.ofChange fnLinLooksSpec)) fnLinLooksCard

/-- THE TIED CARD OF 'laws.FnLinBack'. -/
def fnLinBackCard : Claim7 := { stood := { row := fnLinBackRow, standIns := [], harness := (true, "0895f57191a4b0cc4ece07b0d2b22b4cd8bfa79ce60b643e201eb2e634eaa9a2"), looks := false }, kinds := [], alts := [], laidByText := true, laidKinds := [.data], laidTests := true, laidLooks := .later }
def FnLinBackCardSaid : Prop := Claim7.holds Tryd.pinned (.plain (OpenSpec.ofChange fnLinBackSpec)) fnLinBackCard

/-- THE SECOND FORM's CARD OF 'laws.FnExactLinApply'. -/
def fnExactLinApplyUptoCard : Claim7 := { stood := { row := fnExactLinApplyUptoRow, standIns := [], harness := (true, "0895f57191a4b0cc4ece07b0d2b22b4cd8bfa79ce60b643e201eb2e634eaa9a2"), looks := false }, kinds := [], alts := [], laidByText := true, laidKinds := [.data], laidTests := true, laidLooks := .later }
def FnExactLinApplyUptoCardSaid : Prop := Claim7.holds Tryd.pinned (.plain (OpenSpec.upto fnExactLinApplySpec)) fnExactLinApplyUptoCard

/-- THE SECOND FORM's CARD OF 'laws.FnLinApply'. -/
def fnLinApplyUptoCard : Claim7 := { stood := { row := fnLinApplyUptoRow, standIns := [], harness := (true, "0895f57191a4b0cc4ece07b0d2b22b4cd8bfa79ce60b643e201eb2e634eaa9a2"), looks := false }, kinds := [], alts := [], laidByText := true, laidKinds := [.data], laidTests := true, laidLooks := .later }
def FnLinApplyUptoCardSaid : Prop := Claim7.holds Tryd.pinned (.plain (OpenSpec.upto fnLinApplySpec)) fnLinApplyUptoCard

/-- THE SECOND FORM's CARD OF 'laws.FnLinSwap'. -/
def fnLinSwapUptoCard : Claim7 := { stood := { row := fnLinSwapUptoRow, standIns := [], harness := (true, "0895f57191a4b0cc4ece07b0d2b22b4cd8bfa79ce60b643e201eb2e634eaa9a2"), looks := false }, kinds := [], alts := [], laidByText := true, laidKinds := [.data], laidTests := true, laidLooks := .later }
def FnLinSwapUptoCardSaid : Prop := Claim7.holds Tryd.pinned (.plain (OpenSpec.upto fnLinSwapSpec)) fnLinSwapUptoCard

/-- THE SECOND FORM's CARD OF 'laws.FnLinLooks'. -/
def fnLinLooksUptoCard : Claim7 := { stood := { row := fnLinLooksUptoRow, standIns := [], harness := (true, "0895f57191a4b0cc4ece07b0d2b22b4cd8bfa79ce60b643e201eb2e634eaa9a2"), looks := false }, kinds := [], alts := [], laidByText := true, laidKinds := [.data], laidTests := true, laidLooks := .later }
def FnLinLooksUptoCardSaid : Prop := Claim7.holds Tryd.pinned (.plain (OpenSpec.upto fnLinLooksSpec)) fnLinLooksUptoCard

/-- THE SECOND FORM's CARD OF 'laws.FnLinBack'. -/
def fnLinBackUptoCard : Claim7 := { stood := { row := fnLinBackUptoRow, standIns := [], harness := (true, "0895f57191a4b0cc4ece07b0d2b22b4cd8bfa79ce60b643e201eb2e634eaa9a2"), looks := false }, kinds := [], alts := [], laidByText := true, laidKinds := [.data], laidTests := true, laidLooks := .later }
def FnLinBackUptoCardSaid : Prop := Claim7.holds Tryd.pinned (.plain (OpenSpec.upto fnLinBackSpec)) fnLinBackUptoCard
end Rows
end Go.Proofs.YtklpdpdjblakgaaDoor
