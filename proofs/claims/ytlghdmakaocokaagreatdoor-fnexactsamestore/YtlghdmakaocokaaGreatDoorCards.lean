/-
  DERIVED. GIVEN WITH THE SEED: THE CARDS: each row of YtlghdmakaocokaaGreatDoorRows.lean that lists a variable, with what it lists TIED to the program's text (the seventh form; the later family's looks); each row that meets fmt, with fmt's text TOLD by the authors' own Lean function (tested against real Go, not proved from fmt's source: count such statements apart). THE CARD IS WHAT COUNTS. Prove the row's statement (the work); the ties are given (YtlghdmakaocokaaGreatDoorTie.lean); close each card by the builder's one call (the guide's Derived/Test/ToyasCard.lean, 'card_holds'). Laid BY PROGRAM, IN A SANDBOX (cutbox-door.mjs). By AI agents, Wed Nov 11 2026. No macro, syntax, notation, axiom, sorry.
-/
import Derived.Test.YtlghdmakaocokaaGreatDoorRows
import GoSem.ClaimSeven
namespace Go.Proofs.YtlghdmakaocokaaGreatDoor
namespace Rows

/-- THE TIED CARD OF 'laws.FnExactSameStore'. -/
def fnExactSameStoreCard : Claim7 := { stood := { row := fnExactSameStoreRow, standIns := [], harness := (true, "621186a5e25d72c568f3c6aadc22c4255ae2b0257cdfa1dcd02d4c7912a941be"), looks := true }, kinds := [], alts := [], laidByText := true, laidKinds := [.data, .data, .data], laidTests := true, laidLooks := .later }
def FnExactSameStoreCardSaid : Prop := Claim7.holds Tryz.pinned (.plain (OpenSpec.ofChange fnExactSameStoreSpec)) fnExactSameStoreCard

/-- THE SECOND FORM's CARD OF 'laws.FnExactSameStore'. -/
def fnExactSameStoreUptoCard : Claim7 := { stood := { row := fnExactSameStoreUptoRow, standIns := [], harness := (true, "621186a5e25d72c568f3c6aadc22c4255ae2b0257cdfa1dcd02d4c7912a941be"), looks := true }, kinds := [], alts := [], laidByText := true, laidKinds := [.data, .data, .data], laidTests := true, laidLooks := .later }
def FnExactSameStoreUptoCardSaid : Prop := Claim7.holds Tryz.pinned (.plain (OpenSpec.upto fnExactSameStoreSpec)) fnExactSameStoreUptoCard
end Rows
end Go.Proofs.YtlghdmakaocokaaGreatDoor
