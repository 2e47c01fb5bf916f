/-
  NARROWER THAN 'FOR EVERY INPUT', by the rows' own cells (each row's printed sentence says how): FnFrames: ifaces, laid · FnScanned: ifaces, laid · FnExactTakeNum: ifaces, laid · FnExactTakeFrame: ifaces, laid · FnExactScanFrames: ifaces, laid.
  DERIVED. THE GIVEN ROWS OF THIS SEAT. 5 by the template 'for every input the law returns true; each argument reads behind the call as it read before'; 0 by the template 'total and deterministic' (their statements: YtghckkameinicaaDoorTotals.lean).
  GIVEN WITH THE SEED: the statements are not yours to turn. If you find one false, say at which input.
  Laid BY PROGRAM, IN A SANDBOX (cutbox-rows.mjs): the forced cells as the released guide's own fill.sh prints them over the translation 27b7563cf422a50e… (all of the seat's roots in one cut). By AI agents, Wed Nov 11 2026. No macro, syntax, notation, axiom, sorry.
-/
import Derived.Test.YtghckkameinicaaDoorChecked
import GoSem.Claim
import GoSem.ClaimJoined
import GoSem.ClaimMapViews
import Derived.JoinedTies
import Derived.KernelRfl
namespace Go.Proofs.YtghckkameinicaaDoor
/- THE CELL 'sum', in the pinned program and in every row, IS THE sha256 OF THE DUMP (.gsa) THAT YtghckkameinicaaDoorProg.lean LOADS. Nothing in Lean hashes anything: it is a label: what it is worth is what the hold of that sum in a sandbox is worth. -/
noncomputable def Tryd.pinned : Pinned := { name := "ytghckkameinicaadoor", sum := "27b7563cf422a50ea1219dd8c8824a72227db1fd39111408b448aabed88849ae", checked := Tryd.checked }
namespace Rows
def none {H : Type} : Left H := { results := [], args := [] }

/- WHAT THE LISTED PACKAGE-LEVEL VARIABLES READ AS WHEN THE CALL BEGINS. Each datum BY PROGRAM (the guide's laid-datum.mjs) off the statement by which the dump's own 'gosem.cut.vars' lays the variable. In a bare row this is a premise. The card (YtghckkameinicaaDoorCards.lean) ties it to the program's text. -/
def laid_loop_example_g00734_impl_errTorn {H : Type} : DataW H := .iface "*errors.errorString" (.ptr (.agg [.lit (.string [116, 104, 101, 32, 98, 121, 116, 101, 115, 32, 101, 110, 100, 32, 119, 105, 116, 104, 105, 110, 32, 119, 104, 97, 116, 32, 105, 115, 32, 114, 101, 97, 100])]))
def laid_loop_example_g00734_impl_errBent {H : Type} : DataW H := .iface "*errors.errorString" (.ptr (.agg [.lit (.string [110, 111, 32, 114, 101, 99, 111, 114, 100, 32, 119, 97, 115, 32, 119, 114, 105, 116, 116, 101, 110, 32, 115, 111])]))
def laid_loop_example_g00734_impl_errOutside {H : Type} : DataW H := .iface "*errors.errorString" (.ptr (.agg [.lit (.string [116, 104, 101, 32, 112, 108, 97, 99, 101, 32, 105, 115, 32, 110, 111, 116, 32, 105, 110, 32, 116, 104, 101, 32, 98, 121, 116, 101, 115])]))

/-- 'laws.FnFrames': WHATEVER THE INPUT: true; the input reads as it did. -/
def fnFramesSpec : ChangeSpec := { name := "fnFrames", vars := ["loop.example/g00734/impl.errOutside", "loop.example/g00734/impl.errBent", "loop.example/g00734/impl.errTorn"], fn := fun _ => fun
  | [d, g1, g2, g3] => { results := [.lit (.bool true)], args := [d], vars := [g1, g2, g3] }
  | _ => none }
def fnFramesRow : OpenClaim := { program := "ytghckkameinicaadoor", sum := "27b7563cf422a50ea1219dd8c8824a72227db1fd39111408b448aabed88849ae", func := "loop.example/g00734/laws.FnFrames", spec := "fnFrames", inPlace := ["internal/reflectlite.TypeOf"], unfollowed := true, recurses := true, named := ["loop.example/g00734/impl.errOutside", "loop.example/g00734/impl.errBent", "loop.example/g00734/impl.errTorn"], ifaces := true, apart := false, laid := [("loop.example/g00734/impl.errTorn", laid_loop_example_g00734_impl_errTorn), ("loop.example/g00734/impl.errBent", laid_loop_example_g00734_impl_errBent), ("loop.example/g00734/impl.errOutside", laid_loop_example_g00734_impl_errOutside)] }
def FnFramesSaid : Prop := fnFramesRow.holds Tryd.pinned (OpenSpec.ofChange fnFramesSpec)

/-- ITS FALSE NEIGHBOUR: 'it returns false'. Refute it at one input. -/
def fnFramesWrong : ChangeSpec := { name := "fnFrames", vars := ["loop.example/g00734/impl.errOutside", "loop.example/g00734/impl.errBent", "loop.example/g00734/impl.errTorn"], fn := fun _ => fun
  | [d, g1, g2, g3] => { results := [.lit (.bool false)], args := [d], vars := [g1, g2, g3] }
  | _ => none }
def FnFramesWrongFalsely : Prop := fnFramesRow.holds Tryd.pinned (OpenSpec.ofChange fnFramesWrong)

/-- 'laws.FnScanned': WHATEVER THE INPUT: true; the input reads as it did. -/
def fnScannedSpec : ChangeSpec := { name := "fnScanned", vars := ["loop.example/g00734/impl.errOutside", "loop.example/g00734/impl.errBent", "loop.example/g00734/impl.errTorn"], fn := fun _ => fun
  | [d, g1, g2, g3] => { results := [.lit (.bool true)], args := [d], vars := [g1, g2, g3] }
  | _ => none }
def fnScannedRow : OpenClaim := { program := "ytghckkameinicaadoor", sum := "27b7563cf422a50ea1219dd8c8824a72227db1fd39111408b448aabed88849ae", func := "loop.example/g00734/laws.FnScanned", spec := "fnScanned", inPlace := ["internal/reflectlite.TypeOf"], unfollowed := true, recurses := true, named := ["loop.example/g00734/impl.errOutside", "loop.example/g00734/impl.errBent", "loop.example/g00734/impl.errTorn"], ifaces := true, apart := false, laid := [("loop.example/g00734/impl.errTorn", laid_loop_example_g00734_impl_errTorn), ("loop.example/g00734/impl.errBent", laid_loop_example_g00734_impl_errBent), ("loop.example/g00734/impl.errOutside", laid_loop_example_g00734_impl_errOutside)] }
def FnScannedSaid : Prop := fnScannedRow.holds Tryd.pinned (OpenSpec.ofChange fnScannedSpec)

/-- ITS FALSE NEIGHBOUR: 'it returns false'. Refute it at one input. -/
def fnScannedWrong : ChangeSpec := { name := "fnScanned", vars := ["loop.example/g00734/impl.errOutside", "loop.example/g00734/impl.errBent", "loop.example/g00734/impl.errTorn"], fn := fun _ => fun
  | [d, g1, g2, g3] => { results := [.lit (.bool false)], args := [d], vars := [g1, g2, g3] }
  | _ => none }
def FnScannedWrongFalsely : Prop := fnScannedRow.holds Tryd.pinned (OpenSpec.ofChange fnScannedWrong)

/-- 'laws.FnExactTakeNum': WHATEVER THE INPUT: true; the input reads as it did. -/
def fnExactTakeNumSpec : ChangeSpec := { name := "fnExactTakeNum", vars := ["loop.example/g00734/impl.errOutside", "loop.example/g00734/impl.errBent", "loop.example/g00734/impl.errTorn"], fn := fun _ => fun
  | [d1, d2, g1, g2, g3] => { results := [.lit (.bool true)], args := [d1, d2], vars := [g1, g2, g3] }
  | _ => none }
def fnExactTakeNumRow : OpenClaim := { program := "ytghckkameinicaadoor", sum := "27b7563cf422a50ea1219dd8c8824a72227db1fd39111408b448aabed88849ae", func := "loop.example/g00734/laws.FnExactTakeNum", spec := "fnExactTakeNum", named := ["loop.example/g00734/impl.errOutside", "loop.example/g00734/impl.errBent", "loop.example/g00734/impl.errTorn"], ifaces := true, apart := false, laid := [("loop.example/g00734/impl.errTorn", laid_loop_example_g00734_impl_errTorn), ("loop.example/g00734/impl.errBent", laid_loop_example_g00734_impl_errBent), ("loop.example/g00734/impl.errOutside", laid_loop_example_g00734_impl_errOutside)] }
def FnExactTakeNumSaid : Prop := fnExactTakeNumRow.holds Tryd.pinned (OpenSpec.ofChange fnExactTakeNumSpec)

/-- ITS FALSE NEIGHBOUR: 'it returns false'. Refute it at one input. -/
def fnExactTakeNumWrong : ChangeSpec := { name := "fnExactTakeNum", vars := ["loop.example/g00734/impl.errOutside", "loop.example/g00734/impl.errBent", "loop.example/g00734/impl.errTorn"], fn := fun _ => fun
  | [d1, d2, g1, g2, g3] => { results := [.lit (.bool false)], args := [d1, d2], vars := [g1, g2, g3] }
  | _ => none }
def FnExactTakeNumWrongFalsely : Prop := fnExactTakeNumRow.holds Tryd.pinned (OpenSpec.ofChange fnExactTakeNumWrong)

/-- 'laws.FnExactTakeFrame': WHATEVER THE INPUT: true; the input reads as it did. -/
def fnExactTakeFrameSpec : ChangeSpec := { name := "fnExactTakeFrame", vars := ["loop.example/g00734/impl.errOutside", "loop.example/g00734/impl.errBent", "loop.example/g00734/impl.errTorn"], fn := fun _ => fun
  | [d1, d2, g1, g2, g3] => { results := [.lit (.bool true)], args := [d1, d2], vars := [g1, g2, g3] }
  | _ => none }
def fnExactTakeFrameRow : OpenClaim := { program := "ytghckkameinicaadoor", sum := "27b7563cf422a50ea1219dd8c8824a72227db1fd39111408b448aabed88849ae", func := "loop.example/g00734/laws.FnExactTakeFrame", spec := "fnExactTakeFrame", named := ["loop.example/g00734/impl.errOutside", "loop.example/g00734/impl.errBent", "loop.example/g00734/impl.errTorn"], ifaces := true, apart := false, laid := [("loop.example/g00734/impl.errTorn", laid_loop_example_g00734_impl_errTorn), ("loop.example/g00734/impl.errBent", laid_loop_example_g00734_impl_errBent), ("loop.example/g00734/impl.errOutside", laid_loop_example_g00734_impl_errOutside)] }
def FnExactTakeFrameSaid : Prop := fnExactTakeFrameRow.holds Tryd.pinned (OpenSpec.ofChange fnExactTakeFrameSpec)

/-- ITS FALSE NEIGHBOUR: 'it returns false'. Refute it at one input. -/
def fnExactTakeFrameWrong : ChangeSpec := { name := "fnExactTakeFrame", vars := ["loop.example/g00734/impl.errOutside", "loop.example/g00734/impl.errBent", "loop.example/g00734/impl.errTorn"], fn := fun _ => fun
  | [d1, d2, g1, g2, g3] => { results := [.lit (.bool false)], args := [d1, d2], vars := [g1, g2, g3] }
  | _ => none }
def FnExactTakeFrameWrongFalsely : Prop := fnExactTakeFrameRow.holds Tryd.pinned (OpenSpec.ofChange fnExactTakeFrameWrong)

/-- 'laws.FnExactScanFrames': WHATEVER THE INPUT: true; the input reads as it did. -/
def fnExactScanFramesSpec : ChangeSpec := { name := "fnExactScanFrames", vars := ["loop.example/g00734/impl.errOutside", "loop.example/g00734/impl.errBent", "loop.example/g00734/impl.errTorn"], fn := fun _ => fun
  | [d, g1, g2, g3] => { results := [.lit (.bool true)], args := [d], vars := [g1, g2, g3] }
  | _ => none }
def fnExactScanFramesRow : OpenClaim := { program := "ytghckkameinicaadoor", sum := "27b7563cf422a50ea1219dd8c8824a72227db1fd39111408b448aabed88849ae", func := "loop.example/g00734/laws.FnExactScanFrames", spec := "fnExactScanFrames", inPlace := ["internal/reflectlite.TypeOf"], unfollowed := true, recurses := true, named := ["loop.example/g00734/impl.errOutside", "loop.example/g00734/impl.errBent", "loop.example/g00734/impl.errTorn"], ifaces := true, apart := false, laid := [("loop.example/g00734/impl.errTorn", laid_loop_example_g00734_impl_errTorn), ("loop.example/g00734/impl.errBent", laid_loop_example_g00734_impl_errBent), ("loop.example/g00734/impl.errOutside", laid_loop_example_g00734_impl_errOutside)] }
def FnExactScanFramesSaid : Prop := fnExactScanFramesRow.holds Tryd.pinned (OpenSpec.ofChange fnExactScanFramesSpec)

/-- ITS FALSE NEIGHBOUR: 'it returns false'. Refute it at one input. -/
def fnExactScanFramesWrong : ChangeSpec := { name := "fnExactScanFrames", vars := ["loop.example/g00734/impl.errOutside", "loop.example/g00734/impl.errBent", "loop.example/g00734/impl.errTorn"], fn := fun _ => fun
  | [d, g1, g2, g3] => { results := [.lit (.bool false)], args := [d], vars := [g1, g2, g3] }
  | _ => none }
def FnExactScanFramesWrongFalsely : Prop := fnExactScanFramesRow.holds Tryd.pinned (OpenSpec.ofChange fnExactScanFramesWrong)

/- THE SECOND FORM. 'bulk': how many values and letters a reading holds, each counted each time it is reached (what is shared counts as often as it is met; a slice's spare places count too). A statement '..UptoSaid' is the law's where the arguments, and the package variables that the reading takes, are together of bulk at most 1048576: NARROWER than '..Said'. Prove '..Said' where nothing that the law and all that it calls make is longer than what came in: it says more and counts as full. Else prove '..UptoSaid'. A law counts once. -/
mutual
def uptoBulk {H : Type} : DataW H → Nat
  | .lit (.string bytes) => bytes.length + 1
  | .lit _ => 1
  | .nil => 1
  | .ptr d => uptoBulk d + 1
  | .slice elems spare => uptoBulkAll elems + uptoBulkAll spare + 1
  | .agg parts => uptoBulkAll parts + 1
  | .iface _ d => uptoBulk d + 1
  | .map entries => uptoBulkEntries entries + 1
  | .held _ => 1
def uptoBulkAll {H : Type} : List (DataW H) → Nat
  | [] => 0
  | d :: r => uptoBulk d + uptoBulkAll r
def uptoBulkEntries {H : Type} : List (Lit × DataW H) → Nat
  | [] => 0
  | x :: r => uptoBulkEntry x + uptoBulkEntries r
def uptoBulkEntry {H : Type} : Lit × DataW H → Nat
  | (.string bytes, d) => bytes.length + uptoBulk d + 1
  | (_, d) => uptoBulk d + 1
 end
def uptoSmall : (H : Type) → List (DataW H) → Bool := fun _ ds => decide (uptoBulkAll ds ≤ 1048576)
def OpenSpec.upto (s : _root_.Go.ChangeSpec) : _root_.Go.OpenSpec := { _root_.Go.OpenSpec.ofChange s with cond := some uptoSmall }

/-- 'laws.FnFrames', WHERE WHAT IT READS IS OF BULK AT MOST 1048576: true; the input reads as it did. -/
def fnFramesUptoRow : OpenClaim := { program := "ytghckkameinicaadoor", sum := "27b7563cf422a50ea1219dd8c8824a72227db1fd39111408b448aabed88849ae", func := "loop.example/g00734/laws.FnFrames", spec := "fnFrames", inPlace := ["internal/reflectlite.TypeOf"], unfollowed := true, recurses := true, named := ["loop.example/g00734/impl.errOutside", "loop.example/g00734/impl.errBent", "loop.example/g00734/impl.errTorn"], ifaces := true, apart := false, laid := [("loop.example/g00734/impl.errTorn", laid_loop_example_g00734_impl_errTorn), ("loop.example/g00734/impl.errBent", laid_loop_example_g00734_impl_errBent), ("loop.example/g00734/impl.errOutside", laid_loop_example_g00734_impl_errOutside)], narrowed := true }
def FnFramesUptoSaid : Prop := fnFramesUptoRow.holds Tryd.pinned (OpenSpec.upto fnFramesSpec)

/-- 'laws.FnScanned', WHERE WHAT IT READS IS OF BULK AT MOST 1048576: true; the input reads as it did. -/
def fnScannedUptoRow : OpenClaim := { program := "ytghckkameinicaadoor", sum := "27b7563cf422a50ea1219dd8c8824a72227db1fd39111408b448aabed88849ae", func := "loop.example/g00734/laws.FnScanned", spec := "fnScanned", inPlace := ["internal/reflectlite.TypeOf"], unfollowed := true, recurses := true, named := ["loop.example/g00734/impl.errOutside", "loop.example/g00734/impl.errBent", "loop.example/g00734/impl.errTorn"], ifaces := true, apart := false, laid := [("loop.example/g00734/impl.errTorn", laid_loop_example_g00734_impl_errTorn), ("loop.example/g00734/impl.errBent", laid_loop_example_g00734_impl_errBent), ("loop.example/g00734/impl.errOutside", laid_loop_example_g00734_impl_errOutside)], narrowed := true }
def FnScannedUptoSaid : Prop := fnScannedUptoRow.holds Tryd.pinned (OpenSpec.upto fnScannedSpec)

/-- 'laws.FnExactTakeNum', WHERE WHAT IT READS IS OF BULK AT MOST 1048576: true; the input reads as it did. -/
def fnExactTakeNumUptoRow : OpenClaim := { program := "ytghckkameinicaadoor", sum := "27b7563cf422a50ea1219dd8c8824a72227db1fd39111408b448aabed88849ae", func := "loop.example/g00734/laws.FnExactTakeNum", spec := "fnExactTakeNum", named := ["loop.example/g00734/impl.errOutside", "loop.example/g00734/impl.errBent", "loop.example/g00734/impl.errTorn"], ifaces := true, apart := false, laid := [("loop.example/g00734/impl.errTorn", laid_loop_example_g00734_impl_errTorn), ("loop.example/g00734/impl.errBent", laid_loop_example_g00734_impl_errBent), ("loop.example/g00734/impl.errOutside", laid_loop_example_g00734_impl_errOutside)], narrowed := true }
def FnExactTakeNumUptoSaid : Prop := fnExactTakeNumUptoRow.holds Tryd.pinned (OpenSpec.upto fnExactTakeNumSpec)

/-- 'laws.FnExactTakeFrame', WHERE WHAT IT READS IS OF BULK AT MOST 1048576: true; the input reads as it did. -/
def fnExactTakeFrameUptoRow : OpenClaim := { program := "ytghckkameinicaadoor", sum := "27b7563cf422a50ea1219dd8c8824a72227db1fd39111408b448aabed88849ae", func := "loop.example/g00734/laws.FnExactTakeFrame", spec := "fnExactTakeFrame", named := ["loop.example/g00734/impl.errOutside", "loop.example/g00734/impl.errBent", "loop.example/g00734/impl.errTorn"], ifaces := true, apart := false, laid := [("loop.example/g00734/impl.errTorn", laid_loop_example_g00734_impl_errTorn), ("loop.example/g00734/impl.errBent", laid_loop_example_g00734_impl_errBent), ("loop.example/g00734/impl.errOutside", laid_loop_example_g00734_impl_errOutside)], narrowed := true }
def FnExactTakeFrameUptoSaid : Prop := fnExactTakeFrameUptoRow.holds Tryd.pinned (OpenSpec.upto fnExactTakeFrameSpec)

/-- 'laws.FnExactScanFrames', WHERE WHAT IT READS IS OF BULK AT MOST 1048576: true; the input reads as it did. -/
def fnExactScanFramesUptoRow : OpenClaim := { program := "ytghckkameinicaadoor", sum := "27b7563cf422a50ea1219dd8c8824a72227db1fd39111408b448aabed88849ae", func := "loop.example/g00734/laws.FnExactScanFrames", spec := "fnExactScanFrames", inPlace := ["internal/reflectlite.TypeOf"], unfollowed := true, recurses := true, named := ["loop.example/g00734/impl.errOutside", "loop.example/g00734/impl.errBent", "loop.example/g00734/impl.errTorn"], ifaces := true, apart := false, laid := [("loop.example/g00734/impl.errTorn", laid_loop_example_g00734_impl_errTorn), ("loop.example/g00734/impl.errBent", laid_loop_example_g00734_impl_errBent), ("loop.example/g00734/impl.errOutside", laid_loop_example_g00734_impl_errOutside)], narrowed := true }
def FnExactScanFramesUptoSaid : Prop := fnExactScanFramesUptoRow.holds Tryd.pinned (OpenSpec.upto fnExactScanFramesSpec)

end Rows
end Go.Proofs.YtghckkameinicaaDoor
