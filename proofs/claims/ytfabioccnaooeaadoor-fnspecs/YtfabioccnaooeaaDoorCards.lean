/-
  DERIVED. GIVEN WITH THE SEED: THE CARDS: each row of YtfabioccnaooeaaDoorRows.lean that lists a variable, with what it lists TIED to the program's text (the seventh form; the later family's looks); each row that meets fmt, with fmt's text TOLD by the authors' own Lean function (tested against real Go, not proved from fmt's source: count such statements apart). THE CARD IS WHAT COUNTS. Prove the row's statement (the work); the ties are given (YtfabioccnaooeaaDoorTie.lean); close each card by the builder's one call (the guide's Derived/Test/ToyasCard.lean, 'card_holds'). Laid BY PROGRAM, IN A SANDBOX (cutbox-door.mjs). By AI agents, Wed Nov 11 2026. No macro, syntax, notation, axiom, sorry.
-/
import Derived.Test.YtfabioccnaooeaaDoorRows
import GoSem.ClaimSeven
namespace Go.Proofs.YtfabioccnaooeaaDoor
namespace Rows

/-- THE TIED CARD OF 'laws.FnSpecs'. -/
def fnSpecsCard : Claim7 := { stood := { row := fnSpecsRow, standIns := [], harness := (true, "4bb1bd4e3b38e1c2af7f8735124f1b28f111c329ea5c92a7389a3cb7cff55bb1"), looks := true }, kinds := [], alts := [], laidByText := true, laidKinds := [.data, .data, .data, .data, .sentinel, .sentinel, .pinned], laidTests := true, laidLooks := .later }
def FnSpecsCardSaid : Prop := Claim7.holds Tryd.pinned (.plain (OpenSpec.ofChange fnSpecsSpec)) fnSpecsCard

/-- THE TIED CARD OF 'laws.FnExactSpecText'. -/
def fnExactSpecTextCard : Claim7 := { stood := { row := fnExactSpecTextRow, standIns := [], harness := (true, "4bb1bd4e3b38e1c2af7f8735124f1b28f111c329ea5c92a7389a3cb7cff55bb1"), looks := true }, kinds := [], alts := [], laidByText := true, laidKinds := [.data, .data, .data], laidTests := true, laidLooks := .later }
def FnExactSpecTextCardSaid : Prop := Claim7.holds Tryd.pinned (.plain (OpenSpec.ofChange fnExactSpecTextSpec)) fnExactSpecTextCard

/-- THE TIED CARD OF 'laws.FnExactParseSpec'. -/
def fnExactParseSpecCard : Claim7 := { stood := { row := fnExactParseSpecRow, standIns := [], harness := (true, "4bb1bd4e3b38e1c2af7f8735124f1b28f111c329ea5c92a7389a3cb7cff55bb1"), looks := true }, kinds := [], alts := [], laidByText := true, laidKinds := [.data, .data, .data, .data, .sentinel, .sentinel, .pinned], laidTests := true, laidLooks := .later }
def FnExactParseSpecCardSaid : Prop := Claim7.holds Tryd.pinned (.plain (OpenSpec.ofChange fnExactParseSpecSpec)) fnExactParseSpecCard

/-- THE SECOND FORM's CARD OF 'laws.FnSpecs'. -/
def fnSpecsUptoCard : Claim7 := { stood := { row := fnSpecsUptoRow, standIns := [], harness := (true, "4bb1bd4e3b38e1c2af7f8735124f1b28f111c329ea5c92a7389a3cb7cff55bb1"), looks := true }, kinds := [], alts := [], laidByText := true, laidKinds := [.data, .data, .data, .data, .sentinel, .sentinel, .pinned], laidTests := true, laidLooks := .later }
def FnSpecsUptoCardSaid : Prop := Claim7.holds Tryd.pinned (.plain (OpenSpec.upto fnSpecsSpec)) fnSpecsUptoCard

/-- THE SECOND FORM's CARD OF 'laws.FnExactSpecText'. -/
def fnExactSpecTextUptoCard : Claim7 := { stood := { row := fnExactSpecTextUptoRow, standIns := [], harness := (true, "4bb1bd4e3b38e1c2af7f8735124f1b28f111c329ea5c92a7389a3cb7cff55bb1"), looks := true }, kinds := [], alts := [], laidByText := true, laidKinds := [.data, .data, .data], laidTests := true, laidLooks := .later }
def FnExactSpecTextUptoCardSaid : Prop := Claim7.holds Tryd.pinned (.plain (OpenSpec.upto fnExactSpecTextSpec)) fnExactSpecTextUptoCard

/-- THE SECOND FORM's CARD OF 'laws.FnExactParseSpec'. -/
def fnExactParseSpecUptoCard : Claim7 := { stood := { row := fnExactParseSpecUptoRow, standIns := [], harness := (true, "4bb1bd4e3b38e1c2af7f8735124f1b28f111c329ea5c92a7389a3cb7cff55bb1"), looks := true }, kinds := [], alts := [], laidByText := true, laidKinds := [.data, .data, .data, .data, .sentinel, .sentinel, .pinned], laidTests := true, laidLooks := .later }
def FnExactParseSpecUptoCardSaid : Prop := Claim7.holds Tryd.pinned (.plain (OpenSpec.upto fnExactParseSpecSpec)) fnExactParseSpecUptoCard
end Rows
end Go.Proofs.YtfabioccnaooeaaDoor
