/-
  No cell of these rows narrows 'for every input' (looked for: loops, veiled, ifaces, maps, wideKeys, modest, calm, conditions, laid).
  DERIVED. THE GIVEN ROWS OF THIS SEAT. 10 by the template 'for every input the law returns true; each argument reads behind the call as it read before'; 0 by the template 'total and deterministic' (their statements: YthaecnemalpliaaTotals.lean).
  GIVEN WITH THE SEED: the statements are not yours to turn. If you find one false, say at which input.
  Laid BY PROGRAM, IN A SANDBOX (cutbox-rows.mjs): the forced cells as the released guide's own fill.sh prints them over the translation 9ed61bbc11612600… (all of the seat's roots in one cut). By AI agents, Wed Nov 11 2026. No macro, syntax, notation, axiom, sorry.
-/
import Derived.Test.YthaecnemalpliaaChecked
import GoSem.Claim
import GoSem.ClaimJoined
import GoSem.ClaimMapViews
import Derived.JoinedTies
import Derived.KernelRfl
namespace Go.Proofs.Ythaecnemalpliaa
/- THE CELL 'sum', in the pinned program and in every row, IS THE sha256 OF THE DUMP (.gsa) THAT YthaecnemalpliaaProg.lean LOADS. Nothing in Lean hashes anything: it is a label: what it is worth is what the hold of that sum in a sandbox is worth. -/
noncomputable def Try.pinned : Pinned := { name := "ythaecnemalpliaa", sum := "9ed61bbc1161260019fd40a6c69481a93f8b04795ac0b6311d8e6624b016544a", checked := Try.checked }
namespace Rows
def none {H : Type} : Left H := { results := [], args := [] }

/-- 'laws.FnWheel': WHATEVER THE INPUT: true; the input reads as it did. -/
def fnWheelSpec : ChangeSpec := { name := "fnWheel", fn := fun _ => fun
  | [d] => { results := [.lit (.bool true)], args := [d] }
  | _ => none }
def fnWheelRow : OpenClaim := { program := "ythaecnemalpliaa", sum := "9ed61bbc1161260019fd40a6c69481a93f8b04795ac0b6311d8e6624b016544a", func := "loop.example/g00734/laws.FnWheel", spec := "fnWheel", unfollowed := true, recurses := true, apart := false }
def FnWheelSaid : Prop := fnWheelRow.holds Try.pinned (OpenSpec.ofChange fnWheelSpec)

/-- ITS FALSE NEIGHBOUR: 'it returns false'. Refute it at one input. -/
def fnWheelWrong : ChangeSpec := { name := "fnWheel", fn := fun _ => fun
  | [d] => { results := [.lit (.bool false)], args := [d] }
  | _ => none }
def FnWheelWrongFalsely : Prop := fnWheelRow.holds Try.pinned (OpenSpec.ofChange fnWheelWrong)

/-- 'laws.FnExactWheelOk': WHATEVER THE INPUT: true; the input reads as it did. -/
def fnExactWheelOkSpec : ChangeSpec := { name := "fnExactWheelOk", fn := fun _ => fun
  | [d] => { results := [.lit (.bool true)], args := [d] }
  | _ => none }
def fnExactWheelOkRow : OpenClaim := { program := "ythaecnemalpliaa", sum := "9ed61bbc1161260019fd40a6c69481a93f8b04795ac0b6311d8e6624b016544a", func := "loop.example/g00734/laws.FnExactWheelOk", spec := "fnExactWheelOk", apart := false }
def FnExactWheelOkSaid : Prop := fnExactWheelOkRow.holds Try.pinned (OpenSpec.ofChange fnExactWheelOkSpec)

/-- ITS FALSE NEIGHBOUR: 'it returns false'. Refute it at one input. -/
def fnExactWheelOkWrong : ChangeSpec := { name := "fnExactWheelOk", fn := fun _ => fun
  | [d] => { results := [.lit (.bool false)], args := [d] }
  | _ => none }
def FnExactWheelOkWrongFalsely : Prop := fnExactWheelOkRow.holds Try.pinned (OpenSpec.ofChange fnExactWheelOkWrong)

/-- 'laws.FnExactNewWheel': WHATEVER THE INPUT: true; the input reads as it did. -/
def fnExactNewWheelSpec : ChangeSpec := { name := "fnExactNewWheel", fn := fun _ => fun
  | [d] => { results := [.lit (.bool true)], args := [d] }
  | _ => none }
def fnExactNewWheelRow : OpenClaim := { program := "ythaecnemalpliaa", sum := "9ed61bbc1161260019fd40a6c69481a93f8b04795ac0b6311d8e6624b016544a", func := "loop.example/g00734/laws.FnExactNewWheel", spec := "fnExactNewWheel", apart := false }
def FnExactNewWheelSaid : Prop := fnExactNewWheelRow.holds Try.pinned (OpenSpec.ofChange fnExactNewWheelSpec)

/-- ITS FALSE NEIGHBOUR: 'it returns false'. Refute it at one input. -/
def fnExactNewWheelWrong : ChangeSpec := { name := "fnExactNewWheel", fn := fun _ => fun
  | [d] => { results := [.lit (.bool false)], args := [d] }
  | _ => none }
def FnExactNewWheelWrongFalsely : Prop := fnExactNewWheelRow.holds Try.pinned (OpenSpec.ofChange fnExactNewWheelWrong)

/-- 'laws.FnExactArmTimer': WHATEVER THE INPUT: true; the input reads as it did. -/
def fnExactArmTimerSpec : ChangeSpec := { name := "fnExactArmTimer", fn := fun _ => fun
  | [d1, d2, d3] => { results := [.lit (.bool true)], args := [d1, d2, d3] }
  | _ => none }
def fnExactArmTimerRow : OpenClaim := { program := "ythaecnemalpliaa", sum := "9ed61bbc1161260019fd40a6c69481a93f8b04795ac0b6311d8e6624b016544a", func := "loop.example/g00734/laws.FnExactArmTimer", spec := "fnExactArmTimer", unfollowed := true, recurses := true, apart := false }
def FnExactArmTimerSaid : Prop := fnExactArmTimerRow.holds Try.pinned (OpenSpec.ofChange fnExactArmTimerSpec)

/-- ITS FALSE NEIGHBOUR: 'it returns false'. Refute it at one input. -/
def fnExactArmTimerWrong : ChangeSpec := { name := "fnExactArmTimer", fn := fun _ => fun
  | [d1, d2, d3] => { results := [.lit (.bool false)], args := [d1, d2, d3] }
  | _ => none }
def FnExactArmTimerWrongFalsely : Prop := fnExactArmTimerRow.holds Try.pinned (OpenSpec.ofChange fnExactArmTimerWrong)

/-- 'laws.FnExactStopTimer': WHATEVER THE INPUT: true; the input reads as it did. -/
def fnExactStopTimerSpec : ChangeSpec := { name := "fnExactStopTimer", fn := fun _ => fun
  | [d1, d2] => { results := [.lit (.bool true)], args := [d1, d2] }
  | _ => none }
def fnExactStopTimerRow : OpenClaim := { program := "ythaecnemalpliaa", sum := "9ed61bbc1161260019fd40a6c69481a93f8b04795ac0b6311d8e6624b016544a", func := "loop.example/g00734/laws.FnExactStopTimer", spec := "fnExactStopTimer", unfollowed := true, recurses := true, apart := false }
def FnExactStopTimerSaid : Prop := fnExactStopTimerRow.holds Try.pinned (OpenSpec.ofChange fnExactStopTimerSpec)

/-- ITS FALSE NEIGHBOUR: 'it returns false'. Refute it at one input. -/
def fnExactStopTimerWrong : ChangeSpec := { name := "fnExactStopTimer", fn := fun _ => fun
  | [d1, d2] => { results := [.lit (.bool false)], args := [d1, d2] }
  | _ => none }
def FnExactStopTimerWrongFalsely : Prop := fnExactStopTimerRow.holds Try.pinned (OpenSpec.ofChange fnExactStopTimerWrong)

/-- 'laws.FnExactTurnWheel': WHATEVER THE INPUT: true; the input reads as it did. -/
def fnExactTurnWheelSpec : ChangeSpec := { name := "fnExactTurnWheel", fn := fun _ => fun
  | [d1, d2] => { results := [.lit (.bool true)], args := [d1, d2] }
  | _ => none }
def fnExactTurnWheelRow : OpenClaim := { program := "ythaecnemalpliaa", sum := "9ed61bbc1161260019fd40a6c69481a93f8b04795ac0b6311d8e6624b016544a", func := "loop.example/g00734/laws.FnExactTurnWheel", spec := "fnExactTurnWheel", unfollowed := true, recurses := true, apart := false }
def FnExactTurnWheelSaid : Prop := fnExactTurnWheelRow.holds Try.pinned (OpenSpec.ofChange fnExactTurnWheelSpec)

/-- ITS FALSE NEIGHBOUR: 'it returns false'. Refute it at one input. -/
def fnExactTurnWheelWrong : ChangeSpec := { name := "fnExactTurnWheel", fn := fun _ => fun
  | [d1, d2] => { results := [.lit (.bool false)], args := [d1, d2] }
  | _ => none }
def FnExactTurnWheelWrongFalsely : Prop := fnExactTurnWheelRow.holds Try.pinned (OpenSpec.ofChange fnExactTurnWheelWrong)

/-- 'laws.FnExactTimerOf': WHATEVER THE INPUT: true; the input reads as it did. -/
def fnExactTimerOfSpec : ChangeSpec := { name := "fnExactTimerOf", fn := fun _ => fun
  | [d1, d2] => { results := [.lit (.bool true)], args := [d1, d2] }
  | _ => none }
def fnExactTimerOfRow : OpenClaim := { program := "ythaecnemalpliaa", sum := "9ed61bbc1161260019fd40a6c69481a93f8b04795ac0b6311d8e6624b016544a", func := "loop.example/g00734/laws.FnExactTimerOf", spec := "fnExactTimerOf", unfollowed := true, recurses := true, apart := false }
def FnExactTimerOfSaid : Prop := fnExactTimerOfRow.holds Try.pinned (OpenSpec.ofChange fnExactTimerOfSpec)

/-- ITS FALSE NEIGHBOUR: 'it returns false'. Refute it at one input. -/
def fnExactTimerOfWrong : ChangeSpec := { name := "fnExactTimerOf", fn := fun _ => fun
  | [d1, d2] => { results := [.lit (.bool false)], args := [d1, d2] }
  | _ => none }
def FnExactTimerOfWrongFalsely : Prop := fnExactTimerOfRow.holds Try.pinned (OpenSpec.ofChange fnExactTimerOfWrong)

/-- 'laws.FnExactCountTimers': WHATEVER THE INPUT: true; the input reads as it did. -/
def fnExactCountTimersSpec : ChangeSpec := { name := "fnExactCountTimers", fn := fun _ => fun
  | [d] => { results := [.lit (.bool true)], args := [d] }
  | _ => none }
def fnExactCountTimersRow : OpenClaim := { program := "ythaecnemalpliaa", sum := "9ed61bbc1161260019fd40a6c69481a93f8b04795ac0b6311d8e6624b016544a", func := "loop.example/g00734/laws.FnExactCountTimers", spec := "fnExactCountTimers", unfollowed := true, recurses := true, apart := false }
def FnExactCountTimersSaid : Prop := fnExactCountTimersRow.holds Try.pinned (OpenSpec.ofChange fnExactCountTimersSpec)

/-- ITS FALSE NEIGHBOUR: 'it returns false'. Refute it at one input. -/
def fnExactCountTimersWrong : ChangeSpec := { name := "fnExactCountTimers", fn := fun _ => fun
  | [d] => { results := [.lit (.bool false)], args := [d] }
  | _ => none }
def FnExactCountTimersWrongFalsely : Prop := fnExactCountTimersRow.holds Try.pinned (OpenSpec.ofChange fnExactCountTimersWrong)

/-- 'laws.FnExactSoonestTimer': WHATEVER THE INPUT: true; the input reads as it did. -/
def fnExactSoonestTimerSpec : ChangeSpec := { name := "fnExactSoonestTimer", fn := fun _ => fun
  | [d] => { results := [.lit (.bool true)], args := [d] }
  | _ => none }
def fnExactSoonestTimerRow : OpenClaim := { program := "ythaecnemalpliaa", sum := "9ed61bbc1161260019fd40a6c69481a93f8b04795ac0b6311d8e6624b016544a", func := "loop.example/g00734/laws.FnExactSoonestTimer", spec := "fnExactSoonestTimer", unfollowed := true, recurses := true, apart := false }
def FnExactSoonestTimerSaid : Prop := fnExactSoonestTimerRow.holds Try.pinned (OpenSpec.ofChange fnExactSoonestTimerSpec)

/-- ITS FALSE NEIGHBOUR: 'it returns false'. Refute it at one input. -/
def fnExactSoonestTimerWrong : ChangeSpec := { name := "fnExactSoonestTimer", fn := fun _ => fun
  | [d] => { results := [.lit (.bool false)], args := [d] }
  | _ => none }
def FnExactSoonestTimerWrongFalsely : Prop := fnExactSoonestTimerRow.holds Try.pinned (OpenSpec.ofChange fnExactSoonestTimerWrong)

/-- 'laws.FnExactSpokeOf': WHATEVER THE INPUT: true; the input reads as it did. -/
def fnExactSpokeOfSpec : ChangeSpec := { name := "fnExactSpokeOf", fn := fun _ => fun
  | [d] => { results := [.lit (.bool true)], args := [d] }
  | _ => none }
def fnExactSpokeOfRow : OpenClaim := { program := "ythaecnemalpliaa", sum := "9ed61bbc1161260019fd40a6c69481a93f8b04795ac0b6311d8e6624b016544a", func := "loop.example/g00734/laws.FnExactSpokeOf", spec := "fnExactSpokeOf", apart := false }
def FnExactSpokeOfSaid : Prop := fnExactSpokeOfRow.holds Try.pinned (OpenSpec.ofChange fnExactSpokeOfSpec)

/-- ITS FALSE NEIGHBOUR: 'it returns false'. Refute it at one input. -/
def fnExactSpokeOfWrong : ChangeSpec := { name := "fnExactSpokeOf", fn := fun _ => fun
  | [d] => { results := [.lit (.bool false)], args := [d] }
  | _ => none }
def FnExactSpokeOfWrongFalsely : Prop := fnExactSpokeOfRow.holds Try.pinned (OpenSpec.ofChange fnExactSpokeOfWrong)

/- THE SECOND FORM. 'bulk': how many values and letters a reading holds, each counted each time it is reached (what is shared counts as often as it is met; a slice's spare places count too). A statement '..UptoSaid' is the law's where the arguments, and the package variables that the reading takes, are together of bulk at most 1048576: NARROWER than '..Said'. Prove '..Said' where nothing that the law and all that it calls make is longer than what came in: it says more and counts as full. Else prove '..UptoSaid'. A law counts once. -/
mutual
def uptoBulk {H : Type} : DataW H → Nat
  | .lit (.string bytes) => bytes.length + 1
  | .lit _ => 1
  | .nil => 1
  | .ptr d => uptoBulk d + 1
  | .slice elems spare => uptoBulkAll elems + uptoBulkAll spare + 1
  | .agg parts => uptoBulkAll parts + 1
  | .iface _ d => uptoBulk d + 1
  | .map entries => uptoBulkEntries entries + 1
  | .held _ => 1
def uptoBulkAll {H : Type} : List (DataW H) → Nat
  | [] => 0
  | d :: r => uptoBulk d + uptoBulkAll r
def uptoBulkEntries {H : Type} : List (Lit × DataW H) → Nat
  | [] => 0
  | x :: r => uptoBulkEntry x + uptoBulkEntries r
def uptoBulkEntry {H : Type} : Lit × DataW H → Nat
  | (.string bytes, d) => bytes.length + uptoBulk d + 1
  | (_, d) => uptoBulk d + 1
 end
def uptoSmall : (H : Type) → List (DataW H) → Bool := fun _ ds => decide (uptoBulkAll ds ≤ 1048576)
def OpenSpec.upto (s : _root_.Go.ChangeSpec) : _root_.Go.OpenSpec := { _root_.Go.OpenSpec.ofChange s with cond := some uptoSmall }

/-- 'laws.FnWheel', WHERE WHAT IT READS IS OF BULK AT MOST 1048576: true; the input reads as it did. -/
def fnWheelUptoRow : OpenClaim := { program := "ythaecnemalpliaa", sum := "9ed61bbc1161260019fd40a6c69481a93f8b04795ac0b6311d8e6624b016544a", func := "loop.example/g00734/laws.FnWheel", spec := "fnWheel", unfollowed := true, recurses := true, apart := false, narrowed := true }
def FnWheelUptoSaid : Prop := fnWheelUptoRow.holds Try.pinned (OpenSpec.upto fnWheelSpec)

/-- 'laws.FnExactWheelOk', WHERE WHAT IT READS IS OF BULK AT MOST 1048576: true; the input reads as it did. -/
def fnExactWheelOkUptoRow : OpenClaim := { program := "ythaecnemalpliaa", sum := "9ed61bbc1161260019fd40a6c69481a93f8b04795ac0b6311d8e6624b016544a", func := "loop.example/g00734/laws.FnExactWheelOk", spec := "fnExactWheelOk", apart := false, narrowed := true }
def FnExactWheelOkUptoSaid : Prop := fnExactWheelOkUptoRow.holds Try.pinned (OpenSpec.upto fnExactWheelOkSpec)

/-- 'laws.FnExactNewWheel', WHERE WHAT IT READS IS OF BULK AT MOST 1048576: true; the input reads as it did. -/
def fnExactNewWheelUptoRow : OpenClaim := { program := "ythaecnemalpliaa", sum := "9ed61bbc1161260019fd40a6c69481a93f8b04795ac0b6311d8e6624b016544a", func := "loop.example/g00734/laws.FnExactNewWheel", spec := "fnExactNewWheel", apart := false, narrowed := true }
def FnExactNewWheelUptoSaid : Prop := fnExactNewWheelUptoRow.holds Try.pinned (OpenSpec.upto fnExactNewWheelSpec)

/-- 'laws.FnExactArmTimer', WHERE WHAT IT READS IS OF BULK AT MOST 1048576: true; the input reads as it did. -/
def fnExactArmTimerUptoRow : OpenClaim := { program := "ythaecnemalpliaa", sum := "9ed61bbc1161260019fd40a6c69481a93f8b04795ac0b6311d8e6624b016544a", func := "loop.example/g00734/laws.FnExactArmTimer", spec := "fnExactArmTimer", unfollowed := true, recurses := true, apart := false, narrowed := true }
def FnExactArmTimerUptoSaid : Prop := fnExactArmTimerUptoRow.holds Try.pinned (OpenSpec.upto fnExactArmTimerSpec)

/-- 'laws.FnExactStopTimer', WHERE WHAT IT READS IS OF BULK AT MOST 1048576: true; the input reads as it did. -/
def fnExactStopTimerUptoRow : OpenClaim := { program := "ythaecnemalpliaa", sum := "9ed61bbc1161260019fd40a6c69481a93f8b04795ac0b6311d8e6624b016544a", func := "loop.example/g00734/laws.FnExactStopTimer", spec := "fnExactStopTimer", unfollowed := true, recurses := true, apart := false, narrowed := true }
def FnExactStopTimerUptoSaid : Prop := fnExactStopTimerUptoRow.holds Try.pinned (OpenSpec.upto fnExactStopTimerSpec)

/-- 'laws.FnExactTurnWheel', WHERE WHAT IT READS IS OF BULK AT MOST 1048576: true; the input reads as it did. -/
def fnExactTurnWheelUptoRow : OpenClaim := { program := "ythaecnemalpliaa", sum := "9ed61bbc1161260019fd40a6c69481a93f8b04795ac0b6311d8e6624b016544a", func := "loop.example/g00734/laws.FnExactTurnWheel", spec := "fnExactTurnWheel", unfollowed := true, recurses := true, apart := false, narrowed := true }
def FnExactTurnWheelUptoSaid : Prop := fnExactTurnWheelUptoRow.holds Try.pinned (OpenSpec.upto fnExactTurnWheelSpec)

/-- 'laws.FnExactTimerOf', WHERE WHAT IT READS IS OF BULK AT MOST 1048576: true; the input reads as it did. -/
def fnExactTimerOfUptoRow : OpenClaim := { program := "ythaecnemalpliaa", sum := "9ed61bbc1161260019fd40a6c69481a93f8b04795ac0b6311d8e6624b016544a", func := "loop.example/g00734/laws.FnExactTimerOf", spec := "fnExactTimerOf", unfollowed := true, recurses := true, apart := false, narrowed := true }
def FnExactTimerOfUptoSaid : Prop := fnExactTimerOfUptoRow.holds Try.pinned (OpenSpec.upto fnExactTimerOfSpec)

/-- 'laws.FnExactCountTimers', WHERE WHAT IT READS IS OF BULK AT MOST 1048576: true; the input reads as it did. -/
def fnExactCountTimersUptoRow : OpenClaim := { program := "ythaecnemalpliaa", sum := "9ed61bbc1161260019fd40a6c69481a93f8b04795ac0b6311d8e6624b016544a", func := "loop.example/g00734/laws.FnExactCountTimers", spec := "fnExactCountTimers", unfollowed := true, recurses := true, apart := false, narrowed := true }
def FnExactCountTimersUptoSaid : Prop := fnExactCountTimersUptoRow.holds Try.pinned (OpenSpec.upto fnExactCountTimersSpec)

/-- 'laws.FnExactSoonestTimer', WHERE WHAT IT READS IS OF BULK AT MOST 1048576: true; the input reads as it did. -/
def fnExactSoonestTimerUptoRow : OpenClaim := { program := "ythaecnemalpliaa", sum := "9ed61bbc1161260019fd40a6c69481a93f8b04795ac0b6311d8e6624b016544a", func := "loop.example/g00734/laws.FnExactSoonestTimer", spec := "fnExactSoonestTimer", unfollowed := true, recurses := true, apart := false, narrowed := true }
def FnExactSoonestTimerUptoSaid : Prop := fnExactSoonestTimerUptoRow.holds Try.pinned (OpenSpec.upto fnExactSoonestTimerSpec)

/-- 'laws.FnExactSpokeOf', WHERE WHAT IT READS IS OF BULK AT MOST 1048576: true; the input reads as it did. -/
def fnExactSpokeOfUptoRow : OpenClaim := { program := "ythaecnemalpliaa", sum := "9ed61bbc1161260019fd40a6c69481a93f8b04795ac0b6311d8e6624b016544a", func := "loop.example/g00734/laws.FnExactSpokeOf", spec := "fnExactSpokeOf", apart := false, narrowed := true }
def FnExactSpokeOfUptoSaid : Prop := fnExactSpokeOfUptoRow.holds Try.pinned (OpenSpec.upto fnExactSpokeOfSpec)

end Rows
end Go.Proofs.Ythaecnemalpliaa
