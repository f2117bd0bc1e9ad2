/-
  DERIVED. GIVEN WITH THE SEED: THE CARDS: each row of YtafhlflddndgjaaDoorRows.lean that lists a variable, with what it lists TIED to the program's text (the seventh form; the later family's looks); each row that meets fmt, with fmt's text TOLD by the authors' own Lean function (tested against real Go, not proved from fmt's source: count such statements apart). THE CARD IS WHAT COUNTS. Prove the row's statement (the work); the ties are given (YtafhlflddndgjaaDoorTie.lean); close each card by the builder's one call (the guide's Derived/Test/ToyasCard.lean, 'card_holds'). Laid BY PROGRAM, IN A SANDBOX (cutbox-door.mjs). By AI agents, Wed Nov 11 2026. No macro, syntax, notation, axiom, sorry.
-/
import Derived.Test.YtafhlflddndgjaaDoorRows
import GoSem.ClaimSeven
namespace Go.Proofs.YtafhlflddndgjaaDoor
namespace Rows

/-- THE TIED CARD OF 'laws.FnHndBegin'. -/
def fnHndBeginCard : Claim7 := { stood := { row := fnHndBeginRow, standIns := [], harness := (true, "0af08fa4255ccecc8197f8ce2f23474d3a0d6e2d22f1a7b96ef653e0e766170c"), looks := false }, kinds := [], alts := [], laidByText := true, laidKinds := [.data], laidTests := true, laidLooks := .later }
def FnHndBeginCardSaid : Prop := Claim7.holds Tryd.pinned (.plain (OpenSpec.ofChange fnHndBeginSpec)) fnHndBeginCard

/-- THE TIED CARD OF 'laws.FnHndTouch'. -/
def fnHndTouchCard : Claim7 := { stood := { row := fnHndTouchRow, standIns := [], harness := (true, "0af08fa4255ccecc8197f8ce2f23474d3a0d6e2d22f1a7b96ef653e0e766170c"), looks := false }, kinds := [], alts := [], laidByText := true, laidKinds := [.data], laidTests := true, laidLooks := .later }
def FnHndTouchCardSaid : Prop := Claim7.holds Tryd.pinned (.plain (OpenSpec.ofChange fnHndTouchSpec)) fnHndTouchCard

/-- THE TIED CARD OF 'laws.FnOpOk'. -/
def fnOpOkCard : Claim7 := { stood := { row := fnOpOkRow, standIns := [], harness := (true, "0af08fa4255ccecc8197f8ce2f23474d3a0d6e2d22f1a7b96ef653e0e766170c"), looks := false }, kinds := [], alts := [], laidByText := true, laidKinds := [.data], laidTests := true, laidLooks := .later }
def FnOpOkCardSaid : Prop := Claim7.holds Tryd.pinned (.plain (OpenSpec.ofChange fnOpOkSpec)) fnOpOkCard

/-- THE TIED CARD OF 'laws.FnExactOpOk'. -/
def fnExactOpOkCard : Claim7 := { stood := { row := fnExactOpOkRow, standIns := [], harness := (true, "0af08fa4255ccecc8197f8ce2f23474d3a0d6e2d22f1a7b96ef653e0e766170c"), looks := false }, kinds := [], alts := [], laidByText := true, laidKinds := [.data], laidTests := true, laidLooks := .later }
def FnExactOpOkCardSaid : Prop := Claim7.holds Tryd.pinned (.plain (OpenSpec.ofChange fnExactOpOkSpec)) fnExactOpOkCard

/-- THE SECOND FORM's CARD OF 'laws.FnHndBegin'. -/
def fnHndBeginUptoCard : Claim7 := { stood := { row := fnHndBeginUptoRow, standIns := [], harness := (true, "0af08fa4255ccecc8197f8ce2f23474d3a0d6e2d22f1a7b96ef653e0e766170c"), looks := false }, kinds := [], alts := [], laidByText := true, laidKinds := [.data], laidTests := true, laidLooks := .later }
def FnHndBeginUptoCardSaid : Prop := Claim7.holds Tryd.pinned (.plain (OpenSpec.upto fnHndBeginSpec)) fnHndBeginUptoCard

/-- THE SECOND FORM's CARD OF 'laws.FnHndTouch'. -/
def fnHndTouchUptoCard : Claim7 := { stood := { row := fnHndTouchUptoRow, standIns := [], harness := (true, "0af08fa4255ccecc8197f8ce2f23474d3a0d6e2d22f1a7b96ef653e0e766170c"), looks := false }, kinds := [], alts := [], laidByText := true, laidKinds := [.data], laidTests := true, laidLooks := .later }
def FnHndTouchUptoCardSaid : Prop := Claim7.holds Tryd.pinned (.plain (OpenSpec.upto fnHndTouchSpec)) fnHndTouchUptoCard

/-- THE SECOND FORM's CARD OF 'laws.FnOpOk'. -/
def fnOpOkUptoCard : Claim7 := { stood := { row := fnOpOkUptoRow, standIns := [], harness := (true, "0af08fa4255ccecc8197f8ce2f23474d3a0d6e2d22f1a7b96ef653e0e766170c"), looks := false }, kinds := [], alts := [], laidByText := true, laidKinds := [.data], laidTests := true, laidLooks := .later }
def FnOpOkUptoCardSaid : Prop := Claim7.holds Tryd.pinned (.plain (OpenSpec.upto fnOpOkSpec)) fnOpOkUptoCard

/-- THE SECOND FORM's CARD OF 'laws.FnExactOpOk'. -/
def fnExactOpOkUptoCard : Claim7 := { stood := { row := fnExactOpOkUptoRow, standIns := [], harness := (true, "0af08fa4255ccecc8197f8ce2f23474d3a0d6e2d22f1a7b96ef653e0e766170c"), looks := false }, kinds := [], alts := [], laidByText := true, laidKinds := [.data], laidTests := true, laidLooks := .later }
def FnExactOpOkUptoCardSaid : Prop := Claim7.holds Tryd.pinned (.plain (OpenSpec.upto fnExactOpOkSpec)) fnExactOpOkUptoCard
end Rows
end Go.Proofs.YtafhlflddndgjaaDoor
