/-
  DERIVED. GIVEN WITH THE SEED: THE CARDS: each row of YtklgjjmcflgjeaaGreatDoorRows.lean that lists a variable, with what it lists TIED to the program's text (the seventh form; the later family's looks); each row that meets fmt, with fmt's text TOLD by the authors' own Lean function (tested against real Go, not proved from fmt's source: count such statements apart). THE CARD IS WHAT COUNTS. Prove the row's statement (the work); the ties are given (YtklgjjmcflgjeaaGreatDoorTie.lean); close each card by the builder's one call (the guide's Derived/Test/ToyasCard.lean, 'card_holds'). Laid BY PROGRAM, IN A SANDBOX (cutbox-door.mjs). By AI agents, Wed Nov 11 2026. No macro, syntax, notation, axiom, sorry.
-/
import Derived.Test.YtklgjjmcflgjeaaGreatDoorRows
import GoSem.ClaimSeven
namespace Go.Proofs.YtklgjjmcflgjeaaGreatDoor
namespace Rows

/-- THE TIED CARD OF 'laws.FnCrash'. -/
def fnCrashCard : Claim7 := { stood := { row := fnCrashRow, standIns := [], harness := (true, "54ab7f416a13d32f1f4dc034a83d451cd68e99f19c3976dfd331a6ec2534e7f2"), looks := true }, kinds := [], alts := [], laidByText := true, laidKinds := [.data, .data, .data, .handle, .sentinel, .sentinel, .sentinel], laidTests := true, laidLooks := .later }
def FnCrashCardSaid : Prop := Claim7.holds Tryz.pinned (.plain (OpenSpec.ofChange fnCrashSpec)) fnCrashCard

/-- THE TIED CARD OF 'laws.FnReopened'. -/
def fnReopenedCard : Claim7 := { stood := { row := fnReopenedRow, standIns := [], harness := (true, "54ab7f416a13d32f1f4dc034a83d451cd68e99f19c3976dfd331a6ec2534e7f2"), looks := true }, kinds := [], alts := [], laidByText := true, laidKinds := [.data, .data, .data, .sentinel, .sentinel, .sentinel], laidTests := true, laidLooks := .later }
def FnReopenedCardSaid : Prop := Claim7.holds Tryz.pinned (.plain (OpenSpec.ofChange fnReopenedSpec)) fnReopenedCard

/-- THE TIED CARD OF 'laws.FnExactStoreCompact'. -/
def fnExactStoreCompactCard : Claim7 := { stood := { row := fnExactStoreCompactRow, standIns := [], harness := (true, "54ab7f416a13d32f1f4dc034a83d451cd68e99f19c3976dfd331a6ec2534e7f2"), looks := true }, kinds := [], alts := [], laidByText := true, laidKinds := [.sentinel, .sentinel, .sentinel], laidTests := true, laidLooks := .later }
def FnExactStoreCompactCardSaid : Prop := Claim7.holds Tryz.pinned (.plain (OpenSpec.ofChange fnExactStoreCompactSpec)) fnExactStoreCompactCard

/-- THE TIED CARD OF 'laws.FnExactCrashStore'. -/
def fnExactCrashStoreCard : Claim7 := { stood := { row := fnExactCrashStoreRow, standIns := [], harness := (true, "54ab7f416a13d32f1f4dc034a83d451cd68e99f19c3976dfd331a6ec2534e7f2"), looks := true }, kinds := [], alts := [], laidByText := true, laidKinds := [.handle, .sentinel, .sentinel, .sentinel], laidTests := true, laidLooks := .later }
def FnExactCrashStoreCardSaid : Prop := Claim7.holds Tryz.pinned (.plain (OpenSpec.ofChange fnExactCrashStoreSpec)) fnExactCrashStoreCard

/-- THE TIED CARD OF 'laws.FnExactOpenStore'. -/
def fnExactOpenStoreCard : Claim7 := { stood := { row := fnExactOpenStoreRow, standIns := [], harness := (true, "54ab7f416a13d32f1f4dc034a83d451cd68e99f19c3976dfd331a6ec2534e7f2"), looks := true }, kinds := [], alts := [], laidByText := true, laidKinds := [.sentinel, .sentinel, .sentinel], laidTests := true, laidLooks := .later }
def FnExactOpenStoreCardSaid : Prop := Claim7.holds Tryz.pinned (.plain (OpenSpec.ofChange fnExactOpenStoreSpec)) fnExactOpenStoreCard

/-- THE SECOND FORM's CARD OF 'laws.FnCrash'. -/
def fnCrashUptoCard : Claim7 := { stood := { row := fnCrashUptoRow, standIns := [], harness := (true, "54ab7f416a13d32f1f4dc034a83d451cd68e99f19c3976dfd331a6ec2534e7f2"), looks := true }, kinds := [], alts := [], laidByText := true, laidKinds := [.data, .data, .data, .handle, .sentinel, .sentinel, .sentinel], laidTests := true, laidLooks := .later }
def FnCrashUptoCardSaid : Prop := Claim7.holds Tryz.pinned (.plain (OpenSpec.upto fnCrashSpec)) fnCrashUptoCard

/-- THE SECOND FORM's CARD OF 'laws.FnReopened'. -/
def fnReopenedUptoCard : Claim7 := { stood := { row := fnReopenedUptoRow, standIns := [], harness := (true, "54ab7f416a13d32f1f4dc034a83d451cd68e99f19c3976dfd331a6ec2534e7f2"), looks := true }, kinds := [], alts := [], laidByText := true, laidKinds := [.data, .data, .data, .sentinel, .sentinel, .sentinel], laidTests := true, laidLooks := .later }
def FnReopenedUptoCardSaid : Prop := Claim7.holds Tryz.pinned (.plain (OpenSpec.upto fnReopenedSpec)) fnReopenedUptoCard

/-- THE SECOND FORM's CARD OF 'laws.FnExactStoreCompact'. -/
def fnExactStoreCompactUptoCard : Claim7 := { stood := { row := fnExactStoreCompactUptoRow, standIns := [], harness := (true, "54ab7f416a13d32f1f4dc034a83d451cd68e99f19c3976dfd331a6ec2534e7f2"), looks := true }, kinds := [], alts := [], laidByText := true, laidKinds := [.sentinel, .sentinel, .sentinel], laidTests := true, laidLooks := .later }
def FnExactStoreCompactUptoCardSaid : Prop := Claim7.holds Tryz.pinned (.plain (OpenSpec.upto fnExactStoreCompactSpec)) fnExactStoreCompactUptoCard

/-- THE SECOND FORM's CARD OF 'laws.FnExactCrashStore'. -/
def fnExactCrashStoreUptoCard : Claim7 := { stood := { row := fnExactCrashStoreUptoRow, standIns := [], harness := (true, "54ab7f416a13d32f1f4dc034a83d451cd68e99f19c3976dfd331a6ec2534e7f2"), looks := true }, kinds := [], alts := [], laidByText := true, laidKinds := [.handle, .sentinel, .sentinel, .sentinel], laidTests := true, laidLooks := .later }
def FnExactCrashStoreUptoCardSaid : Prop := Claim7.holds Tryz.pinned (.plain (OpenSpec.upto fnExactCrashStoreSpec)) fnExactCrashStoreUptoCard

/-- THE SECOND FORM's CARD OF 'laws.FnExactOpenStore'. -/
def fnExactOpenStoreUptoCard : Claim7 := { stood := { row := fnExactOpenStoreUptoRow, standIns := [], harness := (true, "54ab7f416a13d32f1f4dc034a83d451cd68e99f19c3976dfd331a6ec2534e7f2"), looks := true }, kinds := [], alts := [], laidByText := true, laidKinds := [.sentinel, .sentinel, .sentinel], laidTests := true, laidLooks := .later }
def FnExactOpenStoreUptoCardSaid : Prop := Claim7.holds Tryz.pinned (.plain (OpenSpec.upto fnExactOpenStoreSpec)) fnExactOpenStoreUptoCard
end Rows
end Go.Proofs.YtklgjjmcflgjeaaGreatDoor
