/-
  DERIVED. GIVEN WITH THE SEED: THE CARDS: each row of YtpnlnekgekfhgaaDoorRows.lean that lists a variable, with what it lists TIED to the program's text (the seventh form; the later family's looks); each row that meets fmt, with fmt's text TOLD by the authors' own Lean function (tested against real Go, not proved from fmt's source: count such statements apart). THE CARD IS WHAT COUNTS. Prove the row's statement (the work); the ties are given (YtpnlnekgekfhgaaDoorTie.lean); close each card by the builder's one call (the guide's Derived/Test/ToyasCard.lean, 'card_holds'). Laid BY PROGRAM, IN A SANDBOX (cutbox-door.mjs). By AI agents, Wed Nov 11 2026. No macro, syntax, notation, axiom, sorry.
-/
import Derived.Test.YtpnlnekgekfhgaaDoorRows
import GoSem.ClaimSeven
namespace Go.Proofs.YtpnlnekgekfhgaaDoor
namespace Rows

/-- THE TIED CARD OF 'laws.FnExactPodText'. -/
def fnExactPodTextCard : Claim7 := { stood := { row := fnExactPodTextRow, standIns := [], harness := (true, "b2b17b9fc1f7a9b635a1a9b751347b2e3d28cb255a6dd46999c4b2a0acfb87a1"), looks := false }, kinds := [], alts := [], laidByText := true, laidKinds := [.data, .data, .data], laidTests := true, laidLooks := .later }
def FnExactPodTextCardSaid : Prop := Claim7.holds Tryd.pinned (.plain (OpenSpec.ofChange fnExactPodTextSpec)) fnExactPodTextCard

/-- THE SECOND FORM's CARD OF 'laws.FnExactPodText'. -/
def fnExactPodTextUptoCard : Claim7 := { stood := { row := fnExactPodTextUptoRow, standIns := [], harness := (true, "b2b17b9fc1f7a9b635a1a9b751347b2e3d28cb255a6dd46999c4b2a0acfb87a1"), looks := false }, kinds := [], alts := [], laidByText := true, laidKinds := [.data, .data, .data], laidTests := true, laidLooks := .later }
def FnExactPodTextUptoCardSaid : Prop := Claim7.holds Tryd.pinned (.plain (OpenSpec.upto fnExactPodTextSpec)) fnExactPodTextUptoCard
end Rows
end Go.Proofs.YtpnlnekgekfhgaaDoor
