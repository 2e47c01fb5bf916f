/-
  DERIVED. GIVEN WITH THE SEED: THE CARDS: each row of YtghckkameinicaaDoorRows.lean that lists a variable, with what it lists TIED to the program's text (the seventh form; the later family's looks); each row that meets fmt, with fmt's text TOLD by the authors' own Lean function (tested against real Go, not proved from fmt's source: count such statements apart). THE CARD IS WHAT COUNTS. Prove the row's statement (the work); the ties are given (YtghckkameinicaaDoorTie.lean); close each card by the builder's one call (the guide's Derived/Test/ToyasCard.lean, 'card_holds'). Laid BY PROGRAM, IN A SANDBOX (cutbox-door.mjs). By AI agents, Wed Nov 11 2026. No macro, syntax, notation, axiom, sorry.
-/
import Derived.Test.YtghckkameinicaaDoorRows
import GoSem.ClaimSeven
namespace Go.Proofs.YtghckkameinicaaDoor
namespace Rows

/-- THE TIED CARD OF 'laws.FnFrames'. -/
def fnFramesCard : Claim7 := { stood := { row := fnFramesRow, standIns := [], harness := (true, "bb979c458c0545eaca8661c04d8b885abb309f75b499554e87f6b0dda3499c37"), looks := true }, kinds := [], alts := [], laidByText := true, laidKinds := [.sentinel, .sentinel, .sentinel], laidTests := true, laidLooks := .later }
def FnFramesCardSaid : Prop := Claim7.holds Tryd.pinned (.plain (OpenSpec.ofChange fnFramesSpec)) fnFramesCard

/-- THE TIED CARD OF 'laws.FnScanned'. -/
def fnScannedCard : Claim7 := { stood := { row := fnScannedRow, standIns := [], harness := (true, "bb979c458c0545eaca8661c04d8b885abb309f75b499554e87f6b0dda3499c37"), looks := true }, kinds := [], alts := [], laidByText := true, laidKinds := [.sentinel, .sentinel, .sentinel], laidTests := true, laidLooks := .later }
def FnScannedCardSaid : Prop := Claim7.holds Tryd.pinned (.plain (OpenSpec.ofChange fnScannedSpec)) fnScannedCard

/-- THE TIED CARD OF 'laws.FnExactTakeNum'. -/
def fnExactTakeNumCard : Claim7 := { stood := { row := fnExactTakeNumRow, standIns := [], harness := (true, "bb979c458c0545eaca8661c04d8b885abb309f75b499554e87f6b0dda3499c37"), looks := true }, kinds := [], alts := [], laidByText := true, laidKinds := [.sentinel, .sentinel, .sentinel], laidTests := true, laidLooks := .later }
def FnExactTakeNumCardSaid : Prop := Claim7.holds Tryd.pinned (.plain (OpenSpec.ofChange fnExactTakeNumSpec)) fnExactTakeNumCard

/-- THE TIED CARD OF 'laws.FnExactTakeFrame'. -/
def fnExactTakeFrameCard : Claim7 := { stood := { row := fnExactTakeFrameRow, standIns := [], harness := (true, "bb979c458c0545eaca8661c04d8b885abb309f75b499554e87f6b0dda3499c37"), looks := true }, kinds := [], alts := [], laidByText := true, laidKinds := [.sentinel, .sentinel, .sentinel], laidTests := true, laidLooks := .later }
def FnExactTakeFrameCardSaid : Prop := Claim7.holds Tryd.pinned (.plain (OpenSpec.ofChange fnExactTakeFrameSpec)) fnExactTakeFrameCard

/-- THE TIED CARD OF 'laws.FnExactScanFrames'. -/
def fnExactScanFramesCard : Claim7 := { stood := { row := fnExactScanFramesRow, standIns := [], harness := (true, "bb979c458c0545eaca8661c04d8b885abb309f75b499554e87f6b0dda3499c37"), looks := true }, kinds := [], alts := [], laidByText := true, laidKinds := [.sentinel, .sentinel, .sentinel], laidTests := true, laidLooks := .later }
def FnExactScanFramesCardSaid : Prop := Claim7.holds Tryd.pinned (.plain (OpenSpec.ofChange fnExactScanFramesSpec)) fnExactScanFramesCard

/-- THE SECOND FORM's CARD OF 'laws.FnFrames'. -/
def fnFramesUptoCard : Claim7 := { stood := { row := fnFramesUptoRow, standIns := [], harness := (true, "bb979c458c0545eaca8661c04d8b885abb309f75b499554e87f6b0dda3499c37"), looks := true }, kinds := [], alts := [], laidByText := true, laidKinds := [.sentinel, .sentinel, .sentinel], laidTests := true, laidLooks := .later }
def FnFramesUptoCardSaid : Prop := Claim7.holds Tryd.pinned (.plain (OpenSpec.upto fnFramesSpec)) fnFramesUptoCard

/-- THE SECOND FORM's CARD OF 'laws.FnScanned'. -/
def fnScannedUptoCard : Claim7 := { stood := { row := fnScannedUptoRow, standIns := [], harness := (true, "bb979c458c0545eaca8661c04d8b885abb309f75b499554e87f6b0dda3499c37"), looks := true }, kinds := [], alts := [], laidByText := true, laidKinds := [.sentinel, .sentinel, .sentinel], laidTests := true, laidLooks := .later }
def FnScannedUptoCardSaid : Prop := Claim7.holds Tryd.pinned (.plain (OpenSpec.upto fnScannedSpec)) fnScannedUptoCard

/-- THE SECOND FORM's CARD OF 'laws.FnExactTakeNum'. -/
def fnExactTakeNumUptoCard : Claim7 := { stood := { row := fnExactTakeNumUptoRow, standIns := [], harness := (true, "bb979c458c0545eaca8661c04d8b885abb309f75b499554e87f6b0dda3499c37"), looks := true }, kinds := [], alts := [], laidByText := true, laidKinds := [.sentinel, .sentinel, .sentinel], laidTests := true, laidLooks := .later }
def FnExactTakeNumUptoCardSaid : Prop := Claim7.holds Tryd.pinned (.plain (OpenSpec.upto fnExactTakeNumSpec)) fnExactTakeNumUptoCard

/-- THE SECOND FORM's CARD OF 'laws.FnExactTakeFrame'. -/
def fnExactTakeFrameUptoCard : Claim7 := { stood := { row := fnExactTakeFrameUptoRow, standIns := [], harness := (true, "bb979c458c0545eaca8661c04d8b885abb309f75b499554e87f6b0dda3499c37"), looks := true }, kinds := [], alts := [], laidByText := true, laidKinds := [.sentinel, .sentinel, .sentinel], laidTests := true, laidLooks := .later }
def FnExactTakeFrameUptoCardSaid : Prop := Claim7.holds Tryd.pinned (.plain (OpenSpec.upto fnExactTakeFrameSpec)) fnExactTakeFrameUptoCard

/-- THE SECOND FORM's CARD OF 'laws.FnExactScanFrames'. -/
def fnExactScanFramesUptoCard : Claim7 := { stood := { row := fnExactScanFramesUptoRow, standIns := [], harness := (true, "bb979c458c0545eaca8661c04d8b885abb309f75b499554e87f6b0dda3499c37"), looks := true }, kinds := [], alts := [], laidByText := true, laidKinds := [.sentinel, .sentinel, .sentinel], laidTests := true, laidLooks := .later }
def FnExactScanFramesUptoCardSaid : Prop := Claim7.holds Tryd.pinned (.plain (OpenSpec.upto fnExactScanFramesSpec)) fnExactScanFramesUptoCard
end Rows
end Go.Proofs.YtghckkameinicaaDoor
