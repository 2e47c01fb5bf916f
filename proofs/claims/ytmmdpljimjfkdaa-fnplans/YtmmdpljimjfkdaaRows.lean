/-
  No cell of these rows narrows 'for every input' (looked for: loops, veiled, ifaces, maps, wideKeys, modest, calm, conditions, laid).
  DERIVED. THE GIVEN ROWS OF THIS SEAT. 11 by the template 'for every input the law returns true; each argument reads behind the call as it read before'; 0 by the template 'total and deterministic' (their statements: YtmmdpljimjfkdaaTotals.lean).
  GIVEN WITH THE SEED: the statements are not yours to turn. If you find one false, say at which input.
  Laid BY PROGRAM, IN A SANDBOX (cutbox-rows.mjs): the forced cells as the released guide's own fill.sh prints them over the translation 25d36ab3b4f07d76… (all of the seat's roots in one cut). By AI agents, Wed Nov 11 2026. No macro, syntax, notation, axiom, sorry.
-/
import Derived.Test.YtmmdpljimjfkdaaChecked
import GoSem.Claim
import GoSem.ClaimJoined
import GoSem.ClaimMapViews
import Derived.JoinedTies
import Derived.KernelRfl
namespace Go.Proofs.Ytmmdpljimjfkdaa
/- THE CELL 'sum', in the pinned program and in every row, IS THE sha256 OF THE DUMP (.gsa) THAT YtmmdpljimjfkdaaProg.lean LOADS. Nothing in Lean hashes anything: it is a label: what it is worth is what the hold of that sum in a sandbox is worth. -/
noncomputable def Try.pinned : Pinned := { name := "ytmmdpljimjfkdaa", sum := "25d36ab3b4f07d766c9165607cd34712f05dc90386c1c5bec4f02c611c78ba5e", checked := Try.checked }
namespace Rows
def none {H : Type} : Left H := { results := [], args := [] }

/-- 'laws.FnPlans': WHATEVER THE INPUT: true; the input reads as it did. -/
def fnPlansSpec : ChangeSpec := { name := "fnPlans", fn := fun _ => fun
  | [d] => { results := [.lit (.bool true)], args := [d] }
  | _ => none }
def fnPlansRow : OpenClaim := { program := "ytmmdpljimjfkdaa", sum := "25d36ab3b4f07d766c9165607cd34712f05dc90386c1c5bec4f02c611c78ba5e", func := "loop.example/g00734/laws.FnPlans", spec := "fnPlans", unfollowed := true, recurses := true, apart := false }
def FnPlansSaid : Prop := fnPlansRow.holds Try.pinned (OpenSpec.ofChange fnPlansSpec)

/-- ITS FALSE NEIGHBOUR: 'it returns false'. Refute it at one input. -/
def fnPlansWrong : ChangeSpec := { name := "fnPlans", fn := fun _ => fun
  | [d] => { results := [.lit (.bool false)], args := [d] }
  | _ => none }
def FnPlansWrongFalsely : Prop := fnPlansRow.holds Try.pinned (OpenSpec.ofChange fnPlansWrong)

/-- 'laws.FnPlanEnds': WHATEVER THE INPUT: true; the input reads as it did. -/
def fnPlanEndsSpec : ChangeSpec := { name := "fnPlanEnds", fn := fun _ => fun
  | [d] => { results := [.lit (.bool true)], args := [d] }
  | _ => none }
def fnPlanEndsRow : OpenClaim := { program := "ytmmdpljimjfkdaa", sum := "25d36ab3b4f07d766c9165607cd34712f05dc90386c1c5bec4f02c611c78ba5e", func := "loop.example/g00734/laws.FnPlanEnds", spec := "fnPlanEnds", unfollowed := true, recurses := true, apart := false }
def FnPlanEndsSaid : Prop := fnPlanEndsRow.holds Try.pinned (OpenSpec.ofChange fnPlanEndsSpec)

/-- ITS FALSE NEIGHBOUR: 'it returns false'. Refute it at one input. -/
def fnPlanEndsWrong : ChangeSpec := { name := "fnPlanEnds", fn := fun _ => fun
  | [d] => { results := [.lit (.bool false)], args := [d] }
  | _ => none }
def FnPlanEndsWrongFalsely : Prop := fnPlanEndsRow.holds Try.pinned (OpenSpec.ofChange fnPlanEndsWrong)

/-- 'laws.FnExactCountOk': WHATEVER THE INPUT: true; the input reads as it did. -/
def fnExactCountOkSpec : ChangeSpec := { name := "fnExactCountOk", fn := fun _ => fun
  | [d] => { results := [.lit (.bool true)], args := [d] }
  | _ => none }
def fnExactCountOkRow : OpenClaim := { program := "ytmmdpljimjfkdaa", sum := "25d36ab3b4f07d766c9165607cd34712f05dc90386c1c5bec4f02c611c78ba5e", func := "loop.example/g00734/laws.FnExactCountOk", spec := "fnExactCountOk", apart := false }
def FnExactCountOkSaid : Prop := fnExactCountOkRow.holds Try.pinned (OpenSpec.ofChange fnExactCountOkSpec)

/-- ITS FALSE NEIGHBOUR: 'it returns false'. Refute it at one input. -/
def fnExactCountOkWrong : ChangeSpec := { name := "fnExactCountOk", fn := fun _ => fun
  | [d] => { results := [.lit (.bool false)], args := [d] }
  | _ => none }
def FnExactCountOkWrongFalsely : Prop := fnExactCountOkRow.holds Try.pinned (OpenSpec.ofChange fnExactCountOkWrong)

/-- 'laws.FnExactCountOf': WHATEVER THE INPUT: true; the input reads as it did. -/
def fnExactCountOfSpec : ChangeSpec := { name := "fnExactCountOf", fn := fun _ => fun
  | [d1, d2, d3, d4] => { results := [.lit (.bool true)], args := [d1, d2, d3, d4] }
  | _ => none }
def fnExactCountOfRow : OpenClaim := { program := "ytmmdpljimjfkdaa", sum := "25d36ab3b4f07d766c9165607cd34712f05dc90386c1c5bec4f02c611c78ba5e", func := "loop.example/g00734/laws.FnExactCountOf", spec := "fnExactCountOf", unfollowed := true, recurses := true, apart := false }
def FnExactCountOfSaid : Prop := fnExactCountOfRow.holds Try.pinned (OpenSpec.ofChange fnExactCountOfSpec)

/-- ITS FALSE NEIGHBOUR: 'it returns false'. Refute it at one input. -/
def fnExactCountOfWrong : ChangeSpec := { name := "fnExactCountOf", fn := fun _ => fun
  | [d1, d2, d3, d4] => { results := [.lit (.bool false)], args := [d1, d2, d3, d4] }
  | _ => none }
def FnExactCountOfWrongFalsely : Prop := fnExactCountOfRow.holds Try.pinned (OpenSpec.ofChange fnExactCountOfWrong)

/-- 'laws.FnExactRestOf': WHATEVER THE INPUT: true; the input reads as it did. -/
def fnExactRestOfSpec : ChangeSpec := { name := "fnExactRestOf", fn := fun _ => fun
  | [d1, d2, d3, d4] => { results := [.lit (.bool true)], args := [d1, d2, d3, d4] }
  | _ => none }
def fnExactRestOfRow : OpenClaim := { program := "ytmmdpljimjfkdaa", sum := "25d36ab3b4f07d766c9165607cd34712f05dc90386c1c5bec4f02c611c78ba5e", func := "loop.example/g00734/laws.FnExactRestOf", spec := "fnExactRestOf", unfollowed := true, recurses := true, apart := false }
def FnExactRestOfSaid : Prop := fnExactRestOfRow.holds Try.pinned (OpenSpec.ofChange fnExactRestOfSpec)

/-- ITS FALSE NEIGHBOUR: 'it returns false'. Refute it at one input. -/
def fnExactRestOfWrong : ChangeSpec := { name := "fnExactRestOf", fn := fun _ => fun
  | [d1, d2, d3, d4] => { results := [.lit (.bool false)], args := [d1, d2, d3, d4] }
  | _ => none }
def FnExactRestOfWrongFalsely : Prop := fnExactRestOfRow.holds Try.pinned (OpenSpec.ofChange fnExactRestOfWrong)

/-- 'laws.FnExactPlanStep': WHATEVER THE INPUT: true; the input reads as it did. -/
def fnExactPlanStepSpec : ChangeSpec := { name := "fnExactPlanStep", fn := fun _ => fun
  | [d1, d2, d3, d4, d5] => { results := [.lit (.bool true)], args := [d1, d2, d3, d4, d5] }
  | _ => none }
def fnExactPlanStepRow : OpenClaim := { program := "ytmmdpljimjfkdaa", sum := "25d36ab3b4f07d766c9165607cd34712f05dc90386c1c5bec4f02c611c78ba5e", func := "loop.example/g00734/laws.FnExactPlanStep", spec := "fnExactPlanStep", unfollowed := true, recurses := true, apart := false }
def FnExactPlanStepSaid : Prop := fnExactPlanStepRow.holds Try.pinned (OpenSpec.ofChange fnExactPlanStepSpec)

/-- ITS FALSE NEIGHBOUR: 'it returns false'. Refute it at one input. -/
def fnExactPlanStepWrong : ChangeSpec := { name := "fnExactPlanStep", fn := fun _ => fun
  | [d1, d2, d3, d4, d5] => { results := [.lit (.bool false)], args := [d1, d2, d3, d4, d5] }
  | _ => none }
def FnExactPlanStepWrongFalsely : Prop := fnExactPlanStepRow.holds Try.pinned (OpenSpec.ofChange fnExactPlanStepWrong)

/-- 'laws.FnExactLimitOf': WHATEVER THE INPUT: true; the input reads as it did. -/
def fnExactLimitOfSpec : ChangeSpec := { name := "fnExactLimitOf", fn := fun _ => fun
  | [d1, d2] => { results := [.lit (.bool true)], args := [d1, d2] }
  | _ => none }
def fnExactLimitOfRow : OpenClaim := { program := "ytmmdpljimjfkdaa", sum := "25d36ab3b4f07d766c9165607cd34712f05dc90386c1c5bec4f02c611c78ba5e", func := "loop.example/g00734/laws.FnExactLimitOf", spec := "fnExactLimitOf", apart := false }
def FnExactLimitOfSaid : Prop := fnExactLimitOfRow.holds Try.pinned (OpenSpec.ofChange fnExactLimitOfSpec)

/-- ITS FALSE NEIGHBOUR: 'it returns false'. Refute it at one input. -/
def fnExactLimitOfWrong : ChangeSpec := { name := "fnExactLimitOf", fn := fun _ => fun
  | [d1, d2] => { results := [.lit (.bool false)], args := [d1, d2] }
  | _ => none }
def FnExactLimitOfWrongFalsely : Prop := fnExactLimitOfRow.holds Try.pinned (OpenSpec.ofChange fnExactLimitOfWrong)

/-- 'laws.FnExactBaked': WHATEVER THE INPUT: true; the input reads as it did. -/
def fnExactBakedSpec : ChangeSpec := { name := "fnExactBaked", fn := fun _ => fun
  | [d1, d2, d3, d4] => { results := [.lit (.bool true)], args := [d1, d2, d3, d4] }
  | _ => none }
def fnExactBakedRow : OpenClaim := { program := "ytmmdpljimjfkdaa", sum := "25d36ab3b4f07d766c9165607cd34712f05dc90386c1c5bec4f02c611c78ba5e", func := "loop.example/g00734/laws.FnExactBaked", spec := "fnExactBaked", unfollowed := true, recurses := true, apart := false }
def FnExactBakedSaid : Prop := fnExactBakedRow.holds Try.pinned (OpenSpec.ofChange fnExactBakedSpec)

/-- ITS FALSE NEIGHBOUR: 'it returns false'. Refute it at one input. -/
def fnExactBakedWrong : ChangeSpec := { name := "fnExactBaked", fn := fun _ => fun
  | [d1, d2, d3, d4] => { results := [.lit (.bool false)], args := [d1, d2, d3, d4] }
  | _ => none }
def FnExactBakedWrongFalsely : Prop := fnExactBakedRow.holds Try.pinned (OpenSpec.ofChange fnExactBakedWrong)

/-- 'laws.FnExactCeiling': WHATEVER THE INPUT: true; the input reads as it did. -/
def fnExactCeilingSpec : ChangeSpec := { name := "fnExactCeiling", fn := fun _ => fun
  | [d] => { results := [.lit (.bool true)], args := [d] }
  | _ => none }
def fnExactCeilingRow : OpenClaim := { program := "ytmmdpljimjfkdaa", sum := "25d36ab3b4f07d766c9165607cd34712f05dc90386c1c5bec4f02c611c78ba5e", func := "loop.example/g00734/laws.FnExactCeiling", spec := "fnExactCeiling", apart := false }
def FnExactCeilingSaid : Prop := fnExactCeilingRow.holds Try.pinned (OpenSpec.ofChange fnExactCeilingSpec)

/-- ITS FALSE NEIGHBOUR: 'it returns false'. Refute it at one input. -/
def fnExactCeilingWrong : ChangeSpec := { name := "fnExactCeiling", fn := fun _ => fun
  | [d] => { results := [.lit (.bool false)], args := [d] }
  | _ => none }
def FnExactCeilingWrongFalsely : Prop := fnExactCeilingRow.holds Try.pinned (OpenSpec.ofChange fnExactCeilingWrong)

/-- 'laws.FnExactFloor': WHATEVER THE INPUT: true; the input reads as it did. -/
def fnExactFloorSpec : ChangeSpec := { name := "fnExactFloor", fn := fun _ => fun
  | [d] => { results := [.lit (.bool true)], args := [d] }
  | _ => none }
def fnExactFloorRow : OpenClaim := { program := "ytmmdpljimjfkdaa", sum := "25d36ab3b4f07d766c9165607cd34712f05dc90386c1c5bec4f02c611c78ba5e", func := "loop.example/g00734/laws.FnExactFloor", spec := "fnExactFloor", apart := false }
def FnExactFloorSaid : Prop := fnExactFloorRow.holds Try.pinned (OpenSpec.ofChange fnExactFloorSpec)

/-- ITS FALSE NEIGHBOUR: 'it returns false'. Refute it at one input. -/
def fnExactFloorWrong : ChangeSpec := { name := "fnExactFloor", fn := fun _ => fun
  | [d] => { results := [.lit (.bool false)], args := [d] }
  | _ => none }
def FnExactFloorWrongFalsely : Prop := fnExactFloorRow.holds Try.pinned (OpenSpec.ofChange fnExactFloorWrong)

/-- 'laws.FnExactStepsNeeded': WHATEVER THE INPUT: true; the input reads as it did. -/
def fnExactStepsNeededSpec : ChangeSpec := { name := "fnExactStepsNeeded", fn := fun _ => fun
  | [d] => { results := [.lit (.bool true)], args := [d] }
  | _ => none }
def fnExactStepsNeededRow : OpenClaim := { program := "ytmmdpljimjfkdaa", sum := "25d36ab3b4f07d766c9165607cd34712f05dc90386c1c5bec4f02c611c78ba5e", func := "loop.example/g00734/laws.FnExactStepsNeeded", spec := "fnExactStepsNeeded", unfollowed := true, recurses := true, apart := false }
def FnExactStepsNeededSaid : Prop := fnExactStepsNeededRow.holds Try.pinned (OpenSpec.ofChange fnExactStepsNeededSpec)

/-- ITS FALSE NEIGHBOUR: 'it returns false'. Refute it at one input. -/
def fnExactStepsNeededWrong : ChangeSpec := { name := "fnExactStepsNeeded", fn := fun _ => fun
  | [d] => { results := [.lit (.bool false)], args := [d] }
  | _ => none }
def FnExactStepsNeededWrongFalsely : Prop := fnExactStepsNeededRow.holds Try.pinned (OpenSpec.ofChange fnExactStepsNeededWrong)

/- THE SECOND FORM. 'bulk': how many values and letters a reading holds, each counted each time it is reached (what is shared counts as often as it is met; a slice's spare places count too). A statement '..UptoSaid' is the law's where the arguments, and the package variables that the reading takes, are together of bulk at most 1048576: NARROWER than '..Said'. Prove '..Said' where nothing that the law and all that it calls make is longer than what came in: it says more and counts as full. Else prove '..UptoSaid'. A law counts once. -/
mutual
def uptoBulk {H : Type} : DataW H → Nat
  | .lit (.string bytes) => bytes.length + 1
  | .lit _ => 1
  | .nil => 1
  | .ptr d => uptoBulk d + 1
  | .slice elems spare => uptoBulkAll elems + uptoBulkAll spare + 1
  | .agg parts => uptoBulkAll parts + 1
  | .iface _ d => uptoBulk d + 1
  | .map entries => uptoBulkEntries entries + 1
  | .held _ => 1
def uptoBulkAll {H : Type} : List (DataW H) → Nat
  | [] => 0
  | d :: r => uptoBulk d + uptoBulkAll r
def uptoBulkEntries {H : Type} : List (Lit × DataW H) → Nat
  | [] => 0
  | x :: r => uptoBulkEntry x + uptoBulkEntries r
def uptoBulkEntry {H : Type} : Lit × DataW H → Nat
  | (.string bytes, d) => bytes.length + uptoBulk d + 1
  | (_, d) => uptoBulk d + 1
 end
def uptoSmall : (H : Type) → List (DataW H) → Bool := fun _ ds => decide (uptoBulkAll ds ≤ 1048576)
def OpenSpec.upto (s : _root_.Go.ChangeSpec) : _root_.Go.OpenSpec := { _root_.Go.OpenSpec.ofChange s with cond := some uptoSmall }

/-- 'laws.FnPlans', WHERE WHAT IT READS IS OF BULK AT MOST 1048576: true; the input reads as it did. -/
def fnPlansUptoRow : OpenClaim := { program := "ytmmdpljimjfkdaa", sum := "25d36ab3b4f07d766c9165607cd34712f05dc90386c1c5bec4f02c611c78ba5e", func := "loop.example/g00734/laws.FnPlans", spec := "fnPlans", unfollowed := true, recurses := true, apart := false, narrowed := true }
def FnPlansUptoSaid : Prop := fnPlansUptoRow.holds Try.pinned (OpenSpec.upto fnPlansSpec)

/-- 'laws.FnPlanEnds', WHERE WHAT IT READS IS OF BULK AT MOST 1048576: true; the input reads as it did. -/
def fnPlanEndsUptoRow : OpenClaim := { program := "ytmmdpljimjfkdaa", sum := "25d36ab3b4f07d766c9165607cd34712f05dc90386c1c5bec4f02c611c78ba5e", func := "loop.example/g00734/laws.FnPlanEnds", spec := "fnPlanEnds", unfollowed := true, recurses := true, apart := false, narrowed := true }
def FnPlanEndsUptoSaid : Prop := fnPlanEndsUptoRow.holds Try.pinned (OpenSpec.upto fnPlanEndsSpec)

/-- 'laws.FnExactCountOk', WHERE WHAT IT READS IS OF BULK AT MOST 1048576: true; the input reads as it did. -/
def fnExactCountOkUptoRow : OpenClaim := { program := "ytmmdpljimjfkdaa", sum := "25d36ab3b4f07d766c9165607cd34712f05dc90386c1c5bec4f02c611c78ba5e", func := "loop.example/g00734/laws.FnExactCountOk", spec := "fnExactCountOk", apart := false, narrowed := true }
def FnExactCountOkUptoSaid : Prop := fnExactCountOkUptoRow.holds Try.pinned (OpenSpec.upto fnExactCountOkSpec)

/-- 'laws.FnExactCountOf', WHERE WHAT IT READS IS OF BULK AT MOST 1048576: true; the input reads as it did. -/
def fnExactCountOfUptoRow : OpenClaim := { program := "ytmmdpljimjfkdaa", sum := "25d36ab3b4f07d766c9165607cd34712f05dc90386c1c5bec4f02c611c78ba5e", func := "loop.example/g00734/laws.FnExactCountOf", spec := "fnExactCountOf", unfollowed := true, recurses := true, apart := false, narrowed := true }
def FnExactCountOfUptoSaid : Prop := fnExactCountOfUptoRow.holds Try.pinned (OpenSpec.upto fnExactCountOfSpec)

/-- 'laws.FnExactRestOf', WHERE WHAT IT READS IS OF BULK AT MOST 1048576: true; the input reads as it did. -/
def fnExactRestOfUptoRow : OpenClaim := { program := "ytmmdpljimjfkdaa", sum := "25d36ab3b4f07d766c9165607cd34712f05dc90386c1c5bec4f02c611c78ba5e", func := "loop.example/g00734/laws.FnExactRestOf", spec := "fnExactRestOf", unfollowed := true, recurses := true, apart := false, narrowed := true }
def FnExactRestOfUptoSaid : Prop := fnExactRestOfUptoRow.holds Try.pinned (OpenSpec.upto fnExactRestOfSpec)

/-- 'laws.FnExactPlanStep', WHERE WHAT IT READS IS OF BULK AT MOST 1048576: true; the input reads as it did. -/
def fnExactPlanStepUptoRow : OpenClaim := { program := "ytmmdpljimjfkdaa", sum := "25d36ab3b4f07d766c9165607cd34712f05dc90386c1c5bec4f02c611c78ba5e", func := "loop.example/g00734/laws.FnExactPlanStep", spec := "fnExactPlanStep", unfollowed := true, recurses := true, apart := false, narrowed := true }
def FnExactPlanStepUptoSaid : Prop := fnExactPlanStepUptoRow.holds Try.pinned (OpenSpec.upto fnExactPlanStepSpec)

/-- 'laws.FnExactLimitOf', WHERE WHAT IT READS IS OF BULK AT MOST 1048576: true; the input reads as it did. -/
def fnExactLimitOfUptoRow : OpenClaim := { program := "ytmmdpljimjfkdaa", sum := "25d36ab3b4f07d766c9165607cd34712f05dc90386c1c5bec4f02c611c78ba5e", func := "loop.example/g00734/laws.FnExactLimitOf", spec := "fnExactLimitOf", apart := false, narrowed := true }
def FnExactLimitOfUptoSaid : Prop := fnExactLimitOfUptoRow.holds Try.pinned (OpenSpec.upto fnExactLimitOfSpec)

/-- 'laws.FnExactBaked', WHERE WHAT IT READS IS OF BULK AT MOST 1048576: true; the input reads as it did. -/
def fnExactBakedUptoRow : OpenClaim := { program := "ytmmdpljimjfkdaa", sum := "25d36ab3b4f07d766c9165607cd34712f05dc90386c1c5bec4f02c611c78ba5e", func := "loop.example/g00734/laws.FnExactBaked", spec := "fnExactBaked", unfollowed := true, recurses := true, apart := false, narrowed := true }
def FnExactBakedUptoSaid : Prop := fnExactBakedUptoRow.holds Try.pinned (OpenSpec.upto fnExactBakedSpec)

/-- 'laws.FnExactCeiling', WHERE WHAT IT READS IS OF BULK AT MOST 1048576: true; the input reads as it did. -/
def fnExactCeilingUptoRow : OpenClaim := { program := "ytmmdpljimjfkdaa", sum := "25d36ab3b4f07d766c9165607cd34712f05dc90386c1c5bec4f02c611c78ba5e", func := "loop.example/g00734/laws.FnExactCeiling", spec := "fnExactCeiling", apart := false, narrowed := true }
def FnExactCeilingUptoSaid : Prop := fnExactCeilingUptoRow.holds Try.pinned (OpenSpec.upto fnExactCeilingSpec)

/-- 'laws.FnExactFloor', WHERE WHAT IT READS IS OF BULK AT MOST 1048576: true; the input reads as it did. -/
def fnExactFloorUptoRow : OpenClaim := { program := "ytmmdpljimjfkdaa", sum := "25d36ab3b4f07d766c9165607cd34712f05dc90386c1c5bec4f02c611c78ba5e", func := "loop.example/g00734/laws.FnExactFloor", spec := "fnExactFloor", apart := false, narrowed := true }
def FnExactFloorUptoSaid : Prop := fnExactFloorUptoRow.holds Try.pinned (OpenSpec.upto fnExactFloorSpec)

/-- 'laws.FnExactStepsNeeded', WHERE WHAT IT READS IS OF BULK AT MOST 1048576: true; the input reads as it did. -/
def fnExactStepsNeededUptoRow : OpenClaim := { program := "ytmmdpljimjfkdaa", sum := "25d36ab3b4f07d766c9165607cd34712f05dc90386c1c5bec4f02c611c78ba5e", func := "loop.example/g00734/laws.FnExactStepsNeeded", spec := "fnExactStepsNeeded", unfollowed := true, recurses := true, apart := false, narrowed := true }
def FnExactStepsNeededUptoSaid : Prop := fnExactStepsNeededUptoRow.holds Try.pinned (OpenSpec.upto fnExactStepsNeededSpec)

end Rows
end Go.Proofs.Ytmmdpljimjfkdaa
