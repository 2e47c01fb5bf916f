/-
  No cell of these rows narrows 'for every input' (looked for: loops, veiled, ifaces, maps, wideKeys, modest, calm, conditions, laid).
  DERIVED. THE GIVEN ROWS OF THIS SEAT. 7 by the template 'for every input the law returns true; each argument reads behind the call as it read before'; 0 by the template 'total and deterministic' (their statements: YtpgmcafefoggaaaTotals.lean).
  GIVEN WITH THE SEED: the statements are not yours to turn. If you find one false, say at which input.
  Laid BY PROGRAM, IN A SANDBOX (cutbox-rows.mjs): the forced cells as the released guide's own fill.sh prints them over the translation db1b724106fb5b9e… (all of the seat's roots in one cut). By AI agents, Wed Nov 11 2026. No macro, syntax, notation, axiom, sorry.
-/
import Derived.Test.YtpgmcafefoggaaaChecked
import GoSem.Claim
import GoSem.ClaimJoined
import GoSem.ClaimMapViews
import Derived.JoinedTies
import Derived.KernelRfl
namespace Go.Proofs.Ytpgmcafefoggaaa
/- THE CELL 'sum', in the pinned program and in every row, IS THE sha256 OF THE DUMP (.gsa) THAT YtpgmcafefoggaaaProg.lean LOADS. Nothing in Lean hashes anything: it is a label: what it is worth is what the hold of that sum in a sandbox is worth. -/
noncomputable def Try.pinned : Pinned := { name := "ytpgmcafefoggaaa", sum := "db1b724106fb5b9e787ada955fc165f52ed281e205d5618fd3d7135ebc636b87", checked := Try.checked }
namespace Rows
def none {H : Type} : Left H := { results := [], args := [] }

/-- 'laws.FnWheel': WHATEVER THE INPUT: true; the input reads as it did. -/
def fnWheelSpec : ChangeSpec := { name := "fnWheel", fn := fun _ => fun
  | [d] => { results := [.lit (.bool true)], args := [d] }
  | _ => none }
def fnWheelRow : OpenClaim := { program := "ytpgmcafefoggaaa", sum := "db1b724106fb5b9e787ada955fc165f52ed281e205d5618fd3d7135ebc636b87", func := "loop.example/g00734/laws.FnWheel", spec := "fnWheel", unfollowed := true, recurses := true, apart := false }
def FnWheelSaid : Prop := fnWheelRow.holds Try.pinned (OpenSpec.ofChange fnWheelSpec)

/-- ITS FALSE NEIGHBOUR: 'it returns false'. Refute it at one input. -/
def fnWheelWrong : ChangeSpec := { name := "fnWheel", fn := fun _ => fun
  | [d] => { results := [.lit (.bool false)], args := [d] }
  | _ => none }
def FnWheelWrongFalsely : Prop := fnWheelRow.holds Try.pinned (OpenSpec.ofChange fnWheelWrong)

/-- 'laws.FnExactJournalOk': WHATEVER THE INPUT: true; the input reads as it did. -/
def fnExactJournalOkSpec : ChangeSpec := { name := "fnExactJournalOk", fn := fun _ => fun
  | [d] => { results := [.lit (.bool true)], args := [d] }
  | _ => none }
def fnExactJournalOkRow : OpenClaim := { program := "ytpgmcafefoggaaa", sum := "db1b724106fb5b9e787ada955fc165f52ed281e205d5618fd3d7135ebc636b87", func := "loop.example/g00734/laws.FnExactJournalOk", spec := "fnExactJournalOk", apart := false }
def FnExactJournalOkSaid : Prop := fnExactJournalOkRow.holds Try.pinned (OpenSpec.ofChange fnExactJournalOkSpec)

/-- ITS FALSE NEIGHBOUR: 'it returns false'. Refute it at one input. -/
def fnExactJournalOkWrong : ChangeSpec := { name := "fnExactJournalOk", fn := fun _ => fun
  | [d] => { results := [.lit (.bool false)], args := [d] }
  | _ => none }
def FnExactJournalOkWrongFalsely : Prop := fnExactJournalOkRow.holds Try.pinned (OpenSpec.ofChange fnExactJournalOkWrong)

/-- 'laws.FnExactAppendRecord': WHATEVER THE INPUT: true; the input reads as it did. -/
def fnExactAppendRecordSpec : ChangeSpec := { name := "fnExactAppendRecord", fn := fun _ => fun
  | [d1, d2] => { results := [.lit (.bool true)], args := [d1, d2] }
  | _ => none }
def fnExactAppendRecordRow : OpenClaim := { program := "ytpgmcafefoggaaa", sum := "db1b724106fb5b9e787ada955fc165f52ed281e205d5618fd3d7135ebc636b87", func := "loop.example/g00734/laws.FnExactAppendRecord", spec := "fnExactAppendRecord", unfollowed := true, recurses := true, apart := false }
def FnExactAppendRecordSaid : Prop := fnExactAppendRecordRow.holds Try.pinned (OpenSpec.ofChange fnExactAppendRecordSpec)

/-- ITS FALSE NEIGHBOUR: 'it returns false'. Refute it at one input. -/
def fnExactAppendRecordWrong : ChangeSpec := { name := "fnExactAppendRecord", fn := fun _ => fun
  | [d1, d2] => { results := [.lit (.bool false)], args := [d1, d2] }
  | _ => none }
def FnExactAppendRecordWrongFalsely : Prop := fnExactAppendRecordRow.holds Try.pinned (OpenSpec.ofChange fnExactAppendRecordWrong)

/-- 'laws.FnExactSyncTail': WHATEVER THE INPUT: true; the input reads as it did. -/
def fnExactSyncTailSpec : ChangeSpec := { name := "fnExactSyncTail", fn := fun _ => fun
  | [d] => { results := [.lit (.bool true)], args := [d] }
  | _ => none }
def fnExactSyncTailRow : OpenClaim := { program := "ytpgmcafefoggaaa", sum := "db1b724106fb5b9e787ada955fc165f52ed281e205d5618fd3d7135ebc636b87", func := "loop.example/g00734/laws.FnExactSyncTail", spec := "fnExactSyncTail", unfollowed := true, recurses := true, apart := false }
def FnExactSyncTailSaid : Prop := fnExactSyncTailRow.holds Try.pinned (OpenSpec.ofChange fnExactSyncTailSpec)

/-- ITS FALSE NEIGHBOUR: 'it returns false'. Refute it at one input. -/
def fnExactSyncTailWrong : ChangeSpec := { name := "fnExactSyncTail", fn := fun _ => fun
  | [d] => { results := [.lit (.bool false)], args := [d] }
  | _ => none }
def FnExactSyncTailWrongFalsely : Prop := fnExactSyncTailRow.holds Try.pinned (OpenSpec.ofChange fnExactSyncTailWrong)

/-- 'laws.FnExactCrashTail': WHATEVER THE INPUT: true; the input reads as it did. -/
def fnExactCrashTailSpec : ChangeSpec := { name := "fnExactCrashTail", fn := fun _ => fun
  | [d1, d2] => { results := [.lit (.bool true)], args := [d1, d2] }
  | _ => none }
def fnExactCrashTailRow : OpenClaim := { program := "ytpgmcafefoggaaa", sum := "db1b724106fb5b9e787ada955fc165f52ed281e205d5618fd3d7135ebc636b87", func := "loop.example/g00734/laws.FnExactCrashTail", spec := "fnExactCrashTail", unfollowed := true, recurses := true, apart := false }
def FnExactCrashTailSaid : Prop := fnExactCrashTailRow.holds Try.pinned (OpenSpec.ofChange fnExactCrashTailSpec)

/-- ITS FALSE NEIGHBOUR: 'it returns false'. Refute it at one input. -/
def fnExactCrashTailWrong : ChangeSpec := { name := "fnExactCrashTail", fn := fun _ => fun
  | [d1, d2] => { results := [.lit (.bool false)], args := [d1, d2] }
  | _ => none }
def FnExactCrashTailWrongFalsely : Prop := fnExactCrashTailRow.holds Try.pinned (OpenSpec.ofChange fnExactCrashTailWrong)

/-- 'laws.FnExactCompactTo': WHATEVER THE INPUT: true; the input reads as it did. -/
def fnExactCompactToSpec : ChangeSpec := { name := "fnExactCompactTo", fn := fun _ => fun
  | [d1, d2] => { results := [.lit (.bool true)], args := [d1, d2] }
  | _ => none }
def fnExactCompactToRow : OpenClaim := { program := "ytpgmcafefoggaaa", sum := "db1b724106fb5b9e787ada955fc165f52ed281e205d5618fd3d7135ebc636b87", func := "loop.example/g00734/laws.FnExactCompactTo", spec := "fnExactCompactTo", unfollowed := true, recurses := true, apart := false }
def FnExactCompactToSaid : Prop := fnExactCompactToRow.holds Try.pinned (OpenSpec.ofChange fnExactCompactToSpec)

/-- ITS FALSE NEIGHBOUR: 'it returns false'. Refute it at one input. -/
def fnExactCompactToWrong : ChangeSpec := { name := "fnExactCompactTo", fn := fun _ => fun
  | [d1, d2] => { results := [.lit (.bool false)], args := [d1, d2] }
  | _ => none }
def FnExactCompactToWrongFalsely : Prop := fnExactCompactToRow.holds Try.pinned (OpenSpec.ofChange fnExactCompactToWrong)

/-- 'laws.FnExactRoomLeft': WHATEVER THE INPUT: true; the input reads as it did. -/
def fnExactRoomLeftSpec : ChangeSpec := { name := "fnExactRoomLeft", fn := fun _ => fun
  | [d] => { results := [.lit (.bool true)], args := [d] }
  | _ => none }
def fnExactRoomLeftRow : OpenClaim := { program := "ytpgmcafefoggaaa", sum := "db1b724106fb5b9e787ada955fc165f52ed281e205d5618fd3d7135ebc636b87", func := "loop.example/g00734/laws.FnExactRoomLeft", spec := "fnExactRoomLeft", unfollowed := true, recurses := true, apart := false }
def FnExactRoomLeftSaid : Prop := fnExactRoomLeftRow.holds Try.pinned (OpenSpec.ofChange fnExactRoomLeftSpec)

/-- ITS FALSE NEIGHBOUR: 'it returns false'. Refute it at one input. -/
def fnExactRoomLeftWrong : ChangeSpec := { name := "fnExactRoomLeft", fn := fun _ => fun
  | [d] => { results := [.lit (.bool false)], args := [d] }
  | _ => none }
def FnExactRoomLeftWrongFalsely : Prop := fnExactRoomLeftRow.holds Try.pinned (OpenSpec.ofChange fnExactRoomLeftWrong)

/- THE SECOND FORM. 'bulk': how many values and letters a reading holds, each counted each time it is reached (what is shared counts as often as it is met; a slice's spare places count too). A statement '..UptoSaid' is the law's where the arguments, and the package variables that the reading takes, are together of bulk at most 1048576: NARROWER than '..Said'. Prove '..Said' where nothing that the law and all that it calls make is longer than what came in: it says more and counts as full. Else prove '..UptoSaid'. A law counts once. -/
mutual
def uptoBulk {H : Type} : DataW H → Nat
  | .lit (.string bytes) => bytes.length + 1
  | .lit _ => 1
  | .nil => 1
  | .ptr d => uptoBulk d + 1
  | .slice elems spare => uptoBulkAll elems + uptoBulkAll spare + 1
  | .agg parts => uptoBulkAll parts + 1
  | .iface _ d => uptoBulk d + 1
  | .map entries => uptoBulkEntries entries + 1
  | .held _ => 1
def uptoBulkAll {H : Type} : List (DataW H) → Nat
  | [] => 0
  | d :: r => uptoBulk d + uptoBulkAll r
def uptoBulkEntries {H : Type} : List (Lit × DataW H) → Nat
  | [] => 0
  | x :: r => uptoBulkEntry x + uptoBulkEntries r
def uptoBulkEntry {H : Type} : Lit × DataW H → Nat
  | (.string bytes, d) => bytes.length + uptoBulk d + 1
  | (_, d) => uptoBulk d + 1
 end
def uptoSmall : (H : Type) → List (DataW H) → Bool := fun _ ds => decide (uptoBulkAll ds ≤ 1048576)
def OpenSpec.upto (s : _root_.Go.ChangeSpec) : _root_.Go.OpenSpec := { _root_.Go.OpenSpec.ofChange s with cond := some uptoSmall }

/-- 'laws.FnWheel', WHERE WHAT IT READS IS OF BULK AT MOST 1048576: true; the input reads as it did. -/
def fnWheelUptoRow : OpenClaim := { program := "ytpgmcafefoggaaa", sum := "db1b724106fb5b9e787ada955fc165f52ed281e205d5618fd3d7135ebc636b87", func := "loop.example/g00734/laws.FnWheel", spec := "fnWheel", unfollowed := true, recurses := true, apart := false, narrowed := true }
def FnWheelUptoSaid : Prop := fnWheelUptoRow.holds Try.pinned (OpenSpec.upto fnWheelSpec)

/-- 'laws.FnExactJournalOk', WHERE WHAT IT READS IS OF BULK AT MOST 1048576: true; the input reads as it did. -/
def fnExactJournalOkUptoRow : OpenClaim := { program := "ytpgmcafefoggaaa", sum := "db1b724106fb5b9e787ada955fc165f52ed281e205d5618fd3d7135ebc636b87", func := "loop.example/g00734/laws.FnExactJournalOk", spec := "fnExactJournalOk", apart := false, narrowed := true }
def FnExactJournalOkUptoSaid : Prop := fnExactJournalOkUptoRow.holds Try.pinned (OpenSpec.upto fnExactJournalOkSpec)

/-- 'laws.FnExactAppendRecord', WHERE WHAT IT READS IS OF BULK AT MOST 1048576: true; the input reads as it did. -/
def fnExactAppendRecordUptoRow : OpenClaim := { program := "ytpgmcafefoggaaa", sum := "db1b724106fb5b9e787ada955fc165f52ed281e205d5618fd3d7135ebc636b87", func := "loop.example/g00734/laws.FnExactAppendRecord", spec := "fnExactAppendRecord", unfollowed := true, recurses := true, apart := false, narrowed := true }
def FnExactAppendRecordUptoSaid : Prop := fnExactAppendRecordUptoRow.holds Try.pinned (OpenSpec.upto fnExactAppendRecordSpec)

/-- 'laws.FnExactSyncTail', WHERE WHAT IT READS IS OF BULK AT MOST 1048576: true; the input reads as it did. -/
def fnExactSyncTailUptoRow : OpenClaim := { program := "ytpgmcafefoggaaa", sum := "db1b724106fb5b9e787ada955fc165f52ed281e205d5618fd3d7135ebc636b87", func := "loop.example/g00734/laws.FnExactSyncTail", spec := "fnExactSyncTail", unfollowed := true, recurses := true, apart := false, narrowed := true }
def FnExactSyncTailUptoSaid : Prop := fnExactSyncTailUptoRow.holds Try.pinned (OpenSpec.upto fnExactSyncTailSpec)

/-- 'laws.FnExactCrashTail', WHERE WHAT IT READS IS OF BULK AT MOST 1048576: true; the input reads as it did. -/
def fnExactCrashTailUptoRow : OpenClaim := { program := "ytpgmcafefoggaaa", sum := "db1b724106fb5b9e787ada955fc165f52ed281e205d5618fd3d7135ebc636b87", func := "loop.example/g00734/laws.FnExactCrashTail", spec := "fnExactCrashTail", unfollowed := true, recurses := true, apart := false, narrowed := true }
def FnExactCrashTailUptoSaid : Prop := fnExactCrashTailUptoRow.holds Try.pinned (OpenSpec.upto fnExactCrashTailSpec)

/-- 'laws.FnExactCompactTo', WHERE WHAT IT READS IS OF BULK AT MOST 1048576: true; the input reads as it did. -/
def fnExactCompactToUptoRow : OpenClaim := { program := "ytpgmcafefoggaaa", sum := "db1b724106fb5b9e787ada955fc165f52ed281e205d5618fd3d7135ebc636b87", func := "loop.example/g00734/laws.FnExactCompactTo", spec := "fnExactCompactTo", unfollowed := true, recurses := true, apart := false, narrowed := true }
def FnExactCompactToUptoSaid : Prop := fnExactCompactToUptoRow.holds Try.pinned (OpenSpec.upto fnExactCompactToSpec)

/-- 'laws.FnExactRoomLeft', WHERE WHAT IT READS IS OF BULK AT MOST 1048576: true; the input reads as it did. -/
def fnExactRoomLeftUptoRow : OpenClaim := { program := "ytpgmcafefoggaaa", sum := "db1b724106fb5b9e787ada955fc165f52ed281e205d5618fd3d7135ebc636b87", func := "loop.example/g00734/laws.FnExactRoomLeft", spec := "fnExactRoomLeft", unfollowed := true, recurses := true, apart := false, narrowed := true }
def FnExactRoomLeftUptoSaid : Prop := fnExactRoomLeftUptoRow.holds Try.pinned (OpenSpec.upto fnExactRoomLeftSpec)

end Rows
end Go.Proofs.Ytpgmcafefoggaaa
