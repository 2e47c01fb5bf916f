/-
  No cell of these rows narrows 'for every input' (looked for: loops, veiled, ifaces, maps, wideKeys, modest, calm, conditions, laid).
  DERIVED. THE GIVEN ROWS OF THIS SEAT. 10 by the template 'for every input the law returns true; each argument reads behind the call as it read before'; 0 by the template 'total and deterministic' (their statements: YtpnlnekgekfhgaaTotals.lean).
  GIVEN WITH THE SEED: the statements are not yours to turn. If you find one false, say at which input.
  Laid BY PROGRAM, IN A SANDBOX (cutbox-rows.mjs): the forced cells as the released guide's own fill.sh prints them over the translation 261d443f6f115c4c… (all of the seat's roots in one cut). By AI agents, Wed Nov 11 2026. No macro, syntax, notation, axiom, sorry.
-/
import Derived.Test.YtpnlnekgekfhgaaChecked
import GoSem.Claim
import GoSem.ClaimJoined
import GoSem.ClaimMapViews
import Derived.JoinedTies
import Derived.KernelRfl
namespace Go.Proofs.Ytpnlnekgekfhgaa
/- THE CELL 'sum', in the pinned program and in every row, IS THE sha256 OF THE DUMP (.gsa) THAT YtpnlnekgekfhgaaProg.lean LOADS. Nothing in Lean hashes anything: it is a label: what it is worth is what the hold of that sum in a sandbox is worth. -/
noncomputable def Try.pinned : Pinned := { name := "ytpnlnekgekfhgaa", sum := "261d443f6f115c4c010fd5a5c5bf292338ecdf2b473f52cb8c043a5809746341", checked := Try.checked }
namespace Rows
def none {H : Type} : Left H := { results := [], args := [] }

/-- 'laws.FnReports': WHATEVER THE INPUT: true; the input reads as it did. -/
def fnReportsSpec : ChangeSpec := { name := "fnReports", fn := fun _ => fun
  | [d] => { results := [.lit (.bool true)], args := [d] }
  | _ => none }
def fnReportsRow : OpenClaim := { program := "ytpnlnekgekfhgaa", sum := "261d443f6f115c4c010fd5a5c5bf292338ecdf2b473f52cb8c043a5809746341", func := "loop.example/g00734/laws.FnReports", spec := "fnReports", unfollowed := true, recurses := true, apart := false }
def FnReportsSaid : Prop := fnReportsRow.holds Try.pinned (OpenSpec.ofChange fnReportsSpec)

/-- ITS FALSE NEIGHBOUR: 'it returns false'. Refute it at one input. -/
def fnReportsWrong : ChangeSpec := { name := "fnReports", fn := fun _ => fun
  | [d] => { results := [.lit (.bool false)], args := [d] }
  | _ => none }
def FnReportsWrongFalsely : Prop := fnReportsRow.holds Try.pinned (OpenSpec.ofChange fnReportsWrong)

/-- 'laws.FnExactAppendRecord': WHATEVER THE INPUT: true; the input reads as it did. -/
def fnExactAppendRecordSpec : ChangeSpec := { name := "fnExactAppendRecord", fn := fun _ => fun
  | [d1, d2] => { results := [.lit (.bool true)], args := [d1, d2] }
  | _ => none }
def fnExactAppendRecordRow : OpenClaim := { program := "ytpnlnekgekfhgaa", sum := "261d443f6f115c4c010fd5a5c5bf292338ecdf2b473f52cb8c043a5809746341", func := "loop.example/g00734/laws.FnExactAppendRecord", spec := "fnExactAppendRecord", unfollowed := true, recurses := true, apart := false }
def FnExactAppendRecordSaid : Prop := fnExactAppendRecordRow.holds Try.pinned (OpenSpec.ofChange fnExactAppendRecordSpec)

/-- ITS FALSE NEIGHBOUR: 'it returns false'. Refute it at one input. -/
def fnExactAppendRecordWrong : ChangeSpec := { name := "fnExactAppendRecord", fn := fun _ => fun
  | [d1, d2] => { results := [.lit (.bool false)], args := [d1, d2] }
  | _ => none }
def FnExactAppendRecordWrongFalsely : Prop := fnExactAppendRecordRow.holds Try.pinned (OpenSpec.ofChange fnExactAppendRecordWrong)

/-- 'laws.FnExactFleetOk': WHATEVER THE INPUT: true; the input reads as it did. -/
def fnExactFleetOkSpec : ChangeSpec := { name := "fnExactFleetOk", fn := fun _ => fun
  | [d] => { results := [.lit (.bool true)], args := [d] }
  | _ => none }
def fnExactFleetOkRow : OpenClaim := { program := "ytpnlnekgekfhgaa", sum := "261d443f6f115c4c010fd5a5c5bf292338ecdf2b473f52cb8c043a5809746341", func := "loop.example/g00734/laws.FnExactFleetOk", spec := "fnExactFleetOk", unfollowed := true, recurses := true, apart := false }
def FnExactFleetOkSaid : Prop := fnExactFleetOkRow.holds Try.pinned (OpenSpec.ofChange fnExactFleetOkSpec)

/-- ITS FALSE NEIGHBOUR: 'it returns false'. Refute it at one input. -/
def fnExactFleetOkWrong : ChangeSpec := { name := "fnExactFleetOk", fn := fun _ => fun
  | [d] => { results := [.lit (.bool false)], args := [d] }
  | _ => none }
def FnExactFleetOkWrongFalsely : Prop := fnExactFleetOkRow.holds Try.pinned (OpenSpec.ofChange fnExactFleetOkWrong)

/-- 'laws.FnExactNewFleet': WHATEVER THE INPUT: true; the input reads as it did. -/
def fnExactNewFleetSpec : ChangeSpec := { name := "fnExactNewFleet", fn := fun _ => fun
  | [] => { results := [.lit (.bool true)], args := [] }
  | _ => none }
def fnExactNewFleetRow : OpenClaim := { program := "ytpnlnekgekfhgaa", sum := "261d443f6f115c4c010fd5a5c5bf292338ecdf2b473f52cb8c043a5809746341", func := "loop.example/g00734/laws.FnExactNewFleet", spec := "fnExactNewFleet", apart := false }
def FnExactNewFleetSaid : Prop := fnExactNewFleetRow.holds Try.pinned (OpenSpec.ofChange fnExactNewFleetSpec)

/-- ITS FALSE NEIGHBOUR: 'it returns false'. Refute it at one input. -/
def fnExactNewFleetWrong : ChangeSpec := { name := "fnExactNewFleet", fn := fun _ => fun
  | [] => { results := [.lit (.bool false)], args := [] }
  | _ => none }
def FnExactNewFleetWrongFalsely : Prop := fnExactNewFleetRow.holds Try.pinned (OpenSpec.ofChange fnExactNewFleetWrong)

/-- 'laws.FnExactAddPod': WHATEVER THE INPUT: true; the input reads as it did. -/
def fnExactAddPodSpec : ChangeSpec := { name := "fnExactAddPod", fn := fun _ => fun
  | [d1, d2, d3] => { results := [.lit (.bool true)], args := [d1, d2, d3] }
  | _ => none }
def fnExactAddPodRow : OpenClaim := { program := "ytpnlnekgekfhgaa", sum := "261d443f6f115c4c010fd5a5c5bf292338ecdf2b473f52cb8c043a5809746341", func := "loop.example/g00734/laws.FnExactAddPod", spec := "fnExactAddPod", unfollowed := true, recurses := true, apart := false }
def FnExactAddPodSaid : Prop := fnExactAddPodRow.holds Try.pinned (OpenSpec.ofChange fnExactAddPodSpec)

/-- ITS FALSE NEIGHBOUR: 'it returns false'. Refute it at one input. -/
def fnExactAddPodWrong : ChangeSpec := { name := "fnExactAddPod", fn := fun _ => fun
  | [d1, d2, d3] => { results := [.lit (.bool false)], args := [d1, d2, d3] }
  | _ => none }
def FnExactAddPodWrongFalsely : Prop := fnExactAddPodRow.holds Try.pinned (OpenSpec.ofChange fnExactAddPodWrong)

/-- 'laws.FnExactMarkGoing': WHATEVER THE INPUT: true; the input reads as it did. -/
def fnExactMarkGoingSpec : ChangeSpec := { name := "fnExactMarkGoing", fn := fun _ => fun
  | [d1, d2, d3] => { results := [.lit (.bool true)], args := [d1, d2, d3] }
  | _ => none }
def fnExactMarkGoingRow : OpenClaim := { program := "ytpnlnekgekfhgaa", sum := "261d443f6f115c4c010fd5a5c5bf292338ecdf2b473f52cb8c043a5809746341", func := "loop.example/g00734/laws.FnExactMarkGoing", spec := "fnExactMarkGoing", unfollowed := true, recurses := true, apart := false }
def FnExactMarkGoingSaid : Prop := fnExactMarkGoingRow.holds Try.pinned (OpenSpec.ofChange fnExactMarkGoingSpec)

/-- ITS FALSE NEIGHBOUR: 'it returns false'. Refute it at one input. -/
def fnExactMarkGoingWrong : ChangeSpec := { name := "fnExactMarkGoing", fn := fun _ => fun
  | [d1, d2, d3] => { results := [.lit (.bool false)], args := [d1, d2, d3] }
  | _ => none }
def FnExactMarkGoingWrongFalsely : Prop := fnExactMarkGoingRow.holds Try.pinned (OpenSpec.ofChange fnExactMarkGoingWrong)

/-- 'laws.FnExactTakeReport': WHATEVER THE INPUT: true; the input reads as it did. -/
def fnExactTakeReportSpec : ChangeSpec := { name := "fnExactTakeReport", fn := fun _ => fun
  | [d1, d2, d3] => { results := [.lit (.bool true)], args := [d1, d2, d3] }
  | _ => none }
def fnExactTakeReportRow : OpenClaim := { program := "ytpnlnekgekfhgaa", sum := "261d443f6f115c4c010fd5a5c5bf292338ecdf2b473f52cb8c043a5809746341", func := "loop.example/g00734/laws.FnExactTakeReport", spec := "fnExactTakeReport", unfollowed := true, recurses := true, apart := false }
def FnExactTakeReportSaid : Prop := fnExactTakeReportRow.holds Try.pinned (OpenSpec.ofChange fnExactTakeReportSpec)

/-- ITS FALSE NEIGHBOUR: 'it returns false'. Refute it at one input. -/
def fnExactTakeReportWrong : ChangeSpec := { name := "fnExactTakeReport", fn := fun _ => fun
  | [d1, d2, d3] => { results := [.lit (.bool false)], args := [d1, d2, d3] }
  | _ => none }
def FnExactTakeReportWrongFalsely : Prop := fnExactTakeReportRow.holds Try.pinned (OpenSpec.ofChange fnExactTakeReportWrong)

/-- 'laws.FnExactFindPod': WHATEVER THE INPUT: true; the input reads as it did. -/
def fnExactFindPodSpec : ChangeSpec := { name := "fnExactFindPod", fn := fun _ => fun
  | [d1, d2] => { results := [.lit (.bool true)], args := [d1, d2] }
  | _ => none }
def fnExactFindPodRow : OpenClaim := { program := "ytpnlnekgekfhgaa", sum := "261d443f6f115c4c010fd5a5c5bf292338ecdf2b473f52cb8c043a5809746341", func := "loop.example/g00734/laws.FnExactFindPod", spec := "fnExactFindPod", unfollowed := true, recurses := true, apart := false }
def FnExactFindPodSaid : Prop := fnExactFindPodRow.holds Try.pinned (OpenSpec.ofChange fnExactFindPodSpec)

/-- ITS FALSE NEIGHBOUR: 'it returns false'. Refute it at one input. -/
def fnExactFindPodWrong : ChangeSpec := { name := "fnExactFindPod", fn := fun _ => fun
  | [d1, d2] => { results := [.lit (.bool false)], args := [d1, d2] }
  | _ => none }
def FnExactFindPodWrongFalsely : Prop := fnExactFindPodRow.holds Try.pinned (OpenSpec.ofChange fnExactFindPodWrong)

/-- 'laws.FnExactCountPods': WHATEVER THE INPUT: true; the input reads as it did. -/
def fnExactCountPodsSpec : ChangeSpec := { name := "fnExactCountPods", fn := fun _ => fun
  | [d1, d2, d3] => { results := [.lit (.bool true)], args := [d1, d2, d3] }
  | _ => none }
def fnExactCountPodsRow : OpenClaim := { program := "ytpnlnekgekfhgaa", sum := "261d443f6f115c4c010fd5a5c5bf292338ecdf2b473f52cb8c043a5809746341", func := "loop.example/g00734/laws.FnExactCountPods", spec := "fnExactCountPods", unfollowed := true, recurses := true, apart := false }
def FnExactCountPodsSaid : Prop := fnExactCountPodsRow.holds Try.pinned (OpenSpec.ofChange fnExactCountPodsSpec)

/-- ITS FALSE NEIGHBOUR: 'it returns false'. Refute it at one input. -/
def fnExactCountPodsWrong : ChangeSpec := { name := "fnExactCountPods", fn := fun _ => fun
  | [d1, d2, d3] => { results := [.lit (.bool false)], args := [d1, d2, d3] }
  | _ => none }
def FnExactCountPodsWrongFalsely : Prop := fnExactCountPodsRow.holds Try.pinned (OpenSpec.ofChange fnExactCountPodsWrong)

/-- 'laws.FnExactRevsOf': WHATEVER THE INPUT: true; the input reads as it did. -/
def fnExactRevsOfSpec : ChangeSpec := { name := "fnExactRevsOf", fn := fun _ => fun
  | [d] => { results := [.lit (.bool true)], args := [d] }
  | _ => none }
def fnExactRevsOfRow : OpenClaim := { program := "ytpnlnekgekfhgaa", sum := "261d443f6f115c4c010fd5a5c5bf292338ecdf2b473f52cb8c043a5809746341", func := "loop.example/g00734/laws.FnExactRevsOf", spec := "fnExactRevsOf", unfollowed := true, recurses := true, apart := false }
def FnExactRevsOfSaid : Prop := fnExactRevsOfRow.holds Try.pinned (OpenSpec.ofChange fnExactRevsOfSpec)

/-- ITS FALSE NEIGHBOUR: 'it returns false'. Refute it at one input. -/
def fnExactRevsOfWrong : ChangeSpec := { name := "fnExactRevsOf", fn := fun _ => fun
  | [d] => { results := [.lit (.bool false)], args := [d] }
  | _ => none }
def FnExactRevsOfWrongFalsely : Prop := fnExactRevsOfRow.holds Try.pinned (OpenSpec.ofChange fnExactRevsOfWrong)

/- THE SECOND FORM. 'bulk': how many values and letters a reading holds, each counted each time it is reached (what is shared counts as often as it is met; a slice's spare places count too). A statement '..UptoSaid' is the law's where the arguments, and the package variables that the reading takes, are together of bulk at most 1048576: NARROWER than '..Said'. Prove '..Said' where nothing that the law and all that it calls make is longer than what came in: it says more and counts as full. Else prove '..UptoSaid'. A law counts once. -/
mutual
def uptoBulk {H : Type} : DataW H → Nat
  | .lit (.string bytes) => bytes.length + 1
  | .lit _ => 1
  | .nil => 1
  | .ptr d => uptoBulk d + 1
  | .slice elems spare => uptoBulkAll elems + uptoBulkAll spare + 1
  | .agg parts => uptoBulkAll parts + 1
  | .iface _ d => uptoBulk d + 1
  | .map entries => uptoBulkEntries entries + 1
  | .held _ => 1
def uptoBulkAll {H : Type} : List (DataW H) → Nat
  | [] => 0
  | d :: r => uptoBulk d + uptoBulkAll r
def uptoBulkEntries {H : Type} : List (Lit × DataW H) → Nat
  | [] => 0
  | x :: r => uptoBulkEntry x + uptoBulkEntries r
def uptoBulkEntry {H : Type} : Lit × DataW H → Nat
  | (.string bytes, d) => bytes.length + uptoBulk d + 1
  | (_, d) => uptoBulk d + 1
 end
def uptoSmall : (H : Type) → List (DataW H) → Bool := fun _ ds => decide (uptoBulkAll ds ≤ 1048576)
def OpenSpec.upto (s : _root_.Go.ChangeSpec) : _root_.Go.OpenSpec := { _root_.Go.OpenSpec.ofChange s with cond := some uptoSmall }

/-- 'laws.FnReports', WHERE WHAT IT READS IS OF BULK AT MOST 1048576: true; the input reads as it did. -/
def fnReportsUptoRow : OpenClaim := { program := "ytpnlnekgekfhgaa", sum := "261d443f6f115c4c010fd5a5c5bf292338ecdf2b473f52cb8c043a5809746341", func := "loop.example/g00734/laws.FnReports", spec := "fnReports", unfollowed := true, recurses := true, apart := false, narrowed := true }
def FnReportsUptoSaid : Prop := fnReportsUptoRow.holds Try.pinned (OpenSpec.upto fnReportsSpec)

/-- 'laws.FnExactAppendRecord', WHERE WHAT IT READS IS OF BULK AT MOST 1048576: true; the input reads as it did. -/
def fnExactAppendRecordUptoRow : OpenClaim := { program := "ytpnlnekgekfhgaa", sum := "261d443f6f115c4c010fd5a5c5bf292338ecdf2b473f52cb8c043a5809746341", func := "loop.example/g00734/laws.FnExactAppendRecord", spec := "fnExactAppendRecord", unfollowed := true, recurses := true, apart := false, narrowed := true }
def FnExactAppendRecordUptoSaid : Prop := fnExactAppendRecordUptoRow.holds Try.pinned (OpenSpec.upto fnExactAppendRecordSpec)

/-- 'laws.FnExactFleetOk', WHERE WHAT IT READS IS OF BULK AT MOST 1048576: true; the input reads as it did. -/
def fnExactFleetOkUptoRow : OpenClaim := { program := "ytpnlnekgekfhgaa", sum := "261d443f6f115c4c010fd5a5c5bf292338ecdf2b473f52cb8c043a5809746341", func := "loop.example/g00734/laws.FnExactFleetOk", spec := "fnExactFleetOk", unfollowed := true, recurses := true, apart := false, narrowed := true }
def FnExactFleetOkUptoSaid : Prop := fnExactFleetOkUptoRow.holds Try.pinned (OpenSpec.upto fnExactFleetOkSpec)

/-- 'laws.FnExactNewFleet', WHERE WHAT IT READS IS OF BULK AT MOST 1048576: true; the input reads as it did. -/
def fnExactNewFleetUptoRow : OpenClaim := { program := "ytpnlnekgekfhgaa", sum := "261d443f6f115c4c010fd5a5c5bf292338ecdf2b473f52cb8c043a5809746341", func := "loop.example/g00734/laws.FnExactNewFleet", spec := "fnExactNewFleet", apart := false, narrowed := true }
def FnExactNewFleetUptoSaid : Prop := fnExactNewFleetUptoRow.holds Try.pinned (OpenSpec.upto fnExactNewFleetSpec)

/-- 'laws.FnExactAddPod', WHERE WHAT IT READS IS OF BULK AT MOST 1048576: true; the input reads as it did. -/
def fnExactAddPodUptoRow : OpenClaim := { program := "ytpnlnekgekfhgaa", sum := "261d443f6f115c4c010fd5a5c5bf292338ecdf2b473f52cb8c043a5809746341", func := "loop.example/g00734/laws.FnExactAddPod", spec := "fnExactAddPod", unfollowed := true, recurses := true, apart := false, narrowed := true }
def FnExactAddPodUptoSaid : Prop := fnExactAddPodUptoRow.holds Try.pinned (OpenSpec.upto fnExactAddPodSpec)

/-- 'laws.FnExactMarkGoing', WHERE WHAT IT READS IS OF BULK AT MOST 1048576: true; the input reads as it did. -/
def fnExactMarkGoingUptoRow : OpenClaim := { program := "ytpnlnekgekfhgaa", sum := "261d443f6f115c4c010fd5a5c5bf292338ecdf2b473f52cb8c043a5809746341", func := "loop.example/g00734/laws.FnExactMarkGoing", spec := "fnExactMarkGoing", unfollowed := true, recurses := true, apart := false, narrowed := true }
def FnExactMarkGoingUptoSaid : Prop := fnExactMarkGoingUptoRow.holds Try.pinned (OpenSpec.upto fnExactMarkGoingSpec)

/-- 'laws.FnExactTakeReport', WHERE WHAT IT READS IS OF BULK AT MOST 1048576: true; the input reads as it did. -/
def fnExactTakeReportUptoRow : OpenClaim := { program := "ytpnlnekgekfhgaa", sum := "261d443f6f115c4c010fd5a5c5bf292338ecdf2b473f52cb8c043a5809746341", func := "loop.example/g00734/laws.FnExactTakeReport", spec := "fnExactTakeReport", unfollowed := true, recurses := true, apart := false, narrowed := true }
def FnExactTakeReportUptoSaid : Prop := fnExactTakeReportUptoRow.holds Try.pinned (OpenSpec.upto fnExactTakeReportSpec)

/-- 'laws.FnExactFindPod', WHERE WHAT IT READS IS OF BULK AT MOST 1048576: true; the input reads as it did. -/
def fnExactFindPodUptoRow : OpenClaim := { program := "ytpnlnekgekfhgaa", sum := "261d443f6f115c4c010fd5a5c5bf292338ecdf2b473f52cb8c043a5809746341", func := "loop.example/g00734/laws.FnExactFindPod", spec := "fnExactFindPod", unfollowed := true, recurses := true, apart := false, narrowed := true }
def FnExactFindPodUptoSaid : Prop := fnExactFindPodUptoRow.holds Try.pinned (OpenSpec.upto fnExactFindPodSpec)

/-- 'laws.FnExactCountPods', WHERE WHAT IT READS IS OF BULK AT MOST 1048576: true; the input reads as it did. -/
def fnExactCountPodsUptoRow : OpenClaim := { program := "ytpnlnekgekfhgaa", sum := "261d443f6f115c4c010fd5a5c5bf292338ecdf2b473f52cb8c043a5809746341", func := "loop.example/g00734/laws.FnExactCountPods", spec := "fnExactCountPods", unfollowed := true, recurses := true, apart := false, narrowed := true }
def FnExactCountPodsUptoSaid : Prop := fnExactCountPodsUptoRow.holds Try.pinned (OpenSpec.upto fnExactCountPodsSpec)

/-- 'laws.FnExactRevsOf', WHERE WHAT IT READS IS OF BULK AT MOST 1048576: true; the input reads as it did. -/
def fnExactRevsOfUptoRow : OpenClaim := { program := "ytpnlnekgekfhgaa", sum := "261d443f6f115c4c010fd5a5c5bf292338ecdf2b473f52cb8c043a5809746341", func := "loop.example/g00734/laws.FnExactRevsOf", spec := "fnExactRevsOf", unfollowed := true, recurses := true, apart := false, narrowed := true }
def FnExactRevsOfUptoSaid : Prop := fnExactRevsOfUptoRow.holds Try.pinned (OpenSpec.upto fnExactRevsOfSpec)

end Rows
end Go.Proofs.Ytpnlnekgekfhgaa
