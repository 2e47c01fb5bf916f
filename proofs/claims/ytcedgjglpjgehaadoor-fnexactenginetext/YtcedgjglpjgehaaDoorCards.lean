/-
  DERIVED. GIVEN WITH THE SEED: THE CARDS: each row of YtcedgjglpjgehaaDoorRows.lean that lists a variable, with what it lists TIED to the program's text (the seventh form; the later family's looks); each row that meets fmt, with fmt's text TOLD by the authors' own Lean function (tested against real Go, not proved from fmt's source: count such statements apart). THE CARD IS WHAT COUNTS. Prove the row's statement (the work); the ties are given (YtcedgjglpjgehaaDoorTie.lean); close each card by the builder's one call (the guide's Derived/Test/ToyasCard.lean, 'card_holds'). Laid BY PROGRAM, IN A SANDBOX (cutbox-door.mjs). By AI agents, Wed Nov 11 2026. No macro, syntax, notation, axiom, sorry.
-/
import Derived.Test.YtcedgjglpjgehaaDoorRows
import GoSem.ClaimSeven
namespace Go.Proofs.YtcedgjglpjgehaaDoor
namespace Rows

/-- THE TIED CARD OF 'laws.FnExactEngineText'. -/
def fnExactEngineTextCard : Claim7 := { stood := { row := fnExactEngineTextRow, standIns := [], harness := (true, "7e9cccf45b08efe3ab5cecabb30331be8ca7ae49123e7f0e65db2e7a06c3b9bd"), looks := true }, kinds := [], alts := [], laidByText := true, laidKinds := [.data, .data, .data], laidTests := true, laidLooks := .later }
def FnExactEngineTextCardSaid : Prop := Claim7.holds Tryd.pinned (.plain (OpenSpec.ofChange fnExactEngineTextSpec)) fnExactEngineTextCard

/-- THE SECOND FORM's CARD OF 'laws.FnExactEngineText'. -/
def fnExactEngineTextUptoCard : Claim7 := { stood := { row := fnExactEngineTextUptoRow, standIns := [], harness := (true, "7e9cccf45b08efe3ab5cecabb30331be8ca7ae49123e7f0e65db2e7a06c3b9bd"), looks := true }, kinds := [], alts := [], laidByText := true, laidKinds := [.data, .data, .data], laidTests := true, laidLooks := .later }
def FnExactEngineTextUptoCardSaid : Prop := Claim7.holds Tryd.pinned (.plain (OpenSpec.upto fnExactEngineTextSpec)) fnExactEngineTextUptoCard
end Rows
end Go.Proofs.YtcedgjglpjgehaaDoor
