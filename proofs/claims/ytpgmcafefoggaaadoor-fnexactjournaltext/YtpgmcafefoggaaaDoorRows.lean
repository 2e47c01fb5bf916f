/-
  NARROWER THAN 'FOR EVERY INPUT', by the rows' own cells (each row's printed sentence says how): FnJournal: ifaces, laid · FnExactReadJournal: ifaces, laid · FnExactMendTail: ifaces, laid · FnExactJournalText: ifaces, laid.
  DERIVED. THE GIVEN ROWS OF THIS SEAT. 4 by the template 'for every input the law returns true; each argument reads behind the call as it read before'; 0 by the template 'total and deterministic' (their statements: YtpgmcafefoggaaaDoorTotals.lean).
  GIVEN WITH THE SEED: the statements are not yours to turn. If you find one false, say at which input.
  Laid BY PROGRAM, IN A SANDBOX (cutbox-rows.mjs): the forced cells as the released guide's own fill.sh prints them over the translation 201effa991f76f3d… (all of the seat's roots in one cut). By AI agents, Wed Nov 11 2026. No macro, syntax, notation, axiom, sorry.
-/
import Derived.Test.YtpgmcafefoggaaaDoorChecked
import GoSem.Claim
import GoSem.ClaimJoined
import GoSem.ClaimMapViews
import Derived.JoinedTies
import Derived.KernelRfl
namespace Go.Proofs.YtpgmcafefoggaaaDoor
/- THE CELL 'sum', in the pinned program and in every row, IS THE sha256 OF THE DUMP (.gsa) THAT YtpgmcafefoggaaaDoorProg.lean LOADS. Nothing in Lean hashes anything: it is a label: what it is worth is what the hold of that sum in a sandbox is worth. -/
noncomputable def Tryd.pinned : Pinned := { name := "ytpgmcafefoggaaadoor", sum := "201effa991f76f3d386035a97f2e138fb9d1b34ce41e41f8d2adf4cdf684c9fd", checked := Tryd.checked }
namespace Rows
def none {H : Type} : Left H := { results := [], args := [] }

/- WHAT THE LISTED PACKAGE-LEVEL VARIABLES READ AS WHEN THE CALL BEGINS. Each datum BY PROGRAM (the guide's laid-datum.mjs) off the statement by which the dump's own 'gosem.cut.vars' lays the variable. In a bare row this is a premise. The card (YtpgmcafefoggaaaDoorCards.lean) ties it to the program's text. -/
def laid_loop_example_g00734_impl_errTorn {H : Type} : DataW H := .iface "*errors.errorString" (.ptr (.agg [.lit (.string [116, 104, 101, 32, 98, 121, 116, 101, 115, 32, 101, 110, 100, 32, 119, 105, 116, 104, 105, 110, 32, 119, 104, 97, 116, 32, 105, 115, 32, 114, 101, 97, 100])]))
def laid_loop_example_g00734_impl_errBent {H : Type} : DataW H := .iface "*errors.errorString" (.ptr (.agg [.lit (.string [110, 111, 32, 114, 101, 99, 111, 114, 100, 32, 119, 97, 115, 32, 119, 114, 105, 116, 116, 101, 110, 32, 115, 111])]))
def laid_loop_example_g00734_impl_errOutside {H : Type} : DataW H := .iface "*errors.errorString" (.ptr (.agg [.lit (.string [116, 104, 101, 32, 112, 108, 97, 99, 101, 32, 105, 115, 32, 110, 111, 116, 32, 105, 110, 32, 116, 104, 101, 32, 98, 121, 116, 101, 115])]))
def laid_math_bits_deBruijn32tab {H : Type} : DataW H := .agg [.lit (.int .u8 0), .lit (.int .u8 1), .lit (.int .u8 28), .lit (.int .u8 2), .lit (.int .u8 29), .lit (.int .u8 14), .lit (.int .u8 24), .lit (.int .u8 3), .lit (.int .u8 30), .lit (.int .u8 22), .lit (.int .u8 20), .lit (.int .u8 15), .lit (.int .u8 25), .lit (.int .u8 17), .lit (.int .u8 4), .lit (.int .u8 8), .lit (.int .u8 31), .lit (.int .u8 27), .lit (.int .u8 13), .lit (.int .u8 23), .lit (.int .u8 21), .lit (.int .u8 19), .lit (.int .u8 16), .lit (.int .u8 7), .lit (.int .u8 26), .lit (.int .u8 12), .lit (.int .u8 18), .lit (.int .u8 6), .lit (.int .u8 11), .lit (.int .u8 5), .lit (.int .u8 10), .lit (.int .u8 9)]
def laid_math_bits_deBruijn64tab {H : Type} : DataW H := .agg [.lit (.int .u8 0), .lit (.int .u8 1), .lit (.int .u8 56), .lit (.int .u8 2), .lit (.int .u8 57), .lit (.int .u8 49), .lit (.int .u8 28), .lit (.int .u8 3), .lit (.int .u8 61), .lit (.int .u8 58), .lit (.int .u8 42), .lit (.int .u8 50), .lit (.int .u8 38), .lit (.int .u8 29), .lit (.int .u8 17), .lit (.int .u8 4), .lit (.int .u8 62), .lit (.int .u8 47), .lit (.int .u8 59), .lit (.int .u8 36), .lit (.int .u8 45), .lit (.int .u8 43), .lit (.int .u8 51), .lit (.int .u8 22), .lit (.int .u8 53), .lit (.int .u8 39), .lit (.int .u8 33), .lit (.int .u8 30), .lit (.int .u8 24), .lit (.int .u8 18), .lit (.int .u8 12), .lit (.int .u8 5), .lit (.int .u8 63), .lit (.int .u8 55), .lit (.int .u8 48), .lit (.int .u8 27), .lit (.int .u8 60), .lit (.int .u8 41), .lit (.int .u8 37), .lit (.int .u8 16), .lit (.int .u8 46), .lit (.int .u8 35), .lit (.int .u8 44), .lit (.int .u8 21), .lit (.int .u8 52), .lit (.int .u8 32), .lit (.int .u8 23), .lit (.int .u8 11), .lit (.int .u8 54), .lit (.int .u8 26), .lit (.int .u8 40), .lit (.int .u8 15), .lit (.int .u8 34), .lit (.int .u8 20), .lit (.int .u8 31), .lit (.int .u8 10), .lit (.int .u8 25), .lit (.int .u8 14), .lit (.int .u8 19), .lit (.int .u8 9), .lit (.int .u8 13), .lit (.int .u8 8), .lit (.int .u8 7), .lit (.int .u8 6)]
def laid_internal_strconv_uint64pow10 {H : Type} : DataW H := .agg [.lit (.int .u64 1), .lit (.int .u64 10), .lit (.int .u64 100), .lit (.int .u64 1000), .lit (.int .u64 10000), .lit (.int .u64 100000), .lit (.int .u64 1000000), .lit (.int .u64 10000000), .lit (.int .u64 100000000), .lit (.int .u64 1000000000), .lit (.int .u64 10000000000), .lit (.int .u64 100000000000), .lit (.int .u64 1000000000000), .lit (.int .u64 10000000000000), .lit (.int .u64 100000000000000), .lit (.int .u64 1000000000000000), .lit (.int .u64 10000000000000000), .lit (.int .u64 100000000000000000), .lit (.int .u64 1000000000000000000), .lit (.int .u64 10000000000000000000)]

/-- 'laws.FnJournal': WHATEVER THE INPUT: true; the input reads as it did. -/
def fnJournalSpec : ChangeSpec := { name := "fnJournal", vars := ["loop.example/g00734/impl.errOutside", "loop.example/g00734/impl.errBent", "loop.example/g00734/impl.errTorn"], fn := fun _ => fun
  | [d, g1, g2, g3] => { results := [.lit (.bool true)], args := [d], vars := [g1, g2, g3] }
  | _ => none }
def fnJournalRow : OpenClaim := { program := "ytpgmcafefoggaaadoor", sum := "201effa991f76f3d386035a97f2e138fb9d1b34ce41e41f8d2adf4cdf684c9fd", func := "loop.example/g00734/laws.FnJournal", spec := "fnJournal", inPlace := ["internal/reflectlite.TypeOf"], unfollowed := true, recurses := true, named := ["loop.example/g00734/impl.errOutside", "loop.example/g00734/impl.errBent", "loop.example/g00734/impl.errTorn"], ifaces := true, apart := false, laid := [("loop.example/g00734/impl.errTorn", laid_loop_example_g00734_impl_errTorn), ("loop.example/g00734/impl.errBent", laid_loop_example_g00734_impl_errBent), ("loop.example/g00734/impl.errOutside", laid_loop_example_g00734_impl_errOutside)] }
def FnJournalSaid : Prop := fnJournalRow.holds Tryd.pinned (OpenSpec.ofChange fnJournalSpec)

/-- ITS FALSE NEIGHBOUR: 'it returns false'. Refute it at one input. -/
def fnJournalWrong : ChangeSpec := { name := "fnJournal", vars := ["loop.example/g00734/impl.errOutside", "loop.example/g00734/impl.errBent", "loop.example/g00734/impl.errTorn"], fn := fun _ => fun
  | [d, g1, g2, g3] => { results := [.lit (.bool false)], args := [d], vars := [g1, g2, g3] }
  | _ => none }
def FnJournalWrongFalsely : Prop := fnJournalRow.holds Tryd.pinned (OpenSpec.ofChange fnJournalWrong)

/-- 'laws.FnExactReadJournal': WHATEVER THE INPUT: true; the input reads as it did. -/
def fnExactReadJournalSpec : ChangeSpec := { name := "fnExactReadJournal", vars := ["loop.example/g00734/impl.errOutside", "loop.example/g00734/impl.errBent", "loop.example/g00734/impl.errTorn"], fn := fun _ => fun
  | [d, g1, g2, g3] => { results := [.lit (.bool true)], args := [d], vars := [g1, g2, g3] }
  | _ => none }
def fnExactReadJournalRow : OpenClaim := { program := "ytpgmcafefoggaaadoor", sum := "201effa991f76f3d386035a97f2e138fb9d1b34ce41e41f8d2adf4cdf684c9fd", func := "loop.example/g00734/laws.FnExactReadJournal", spec := "fnExactReadJournal", inPlace := ["internal/reflectlite.TypeOf"], unfollowed := true, recurses := true, named := ["loop.example/g00734/impl.errOutside", "loop.example/g00734/impl.errBent", "loop.example/g00734/impl.errTorn"], ifaces := true, apart := false, laid := [("loop.example/g00734/impl.errTorn", laid_loop_example_g00734_impl_errTorn), ("loop.example/g00734/impl.errBent", laid_loop_example_g00734_impl_errBent), ("loop.example/g00734/impl.errOutside", laid_loop_example_g00734_impl_errOutside)] }
def FnExactReadJournalSaid : Prop := fnExactReadJournalRow.holds Tryd.pinned (OpenSpec.ofChange fnExactReadJournalSpec)

/-- ITS FALSE NEIGHBOUR: 'it returns false'. Refute it at one input. -/
def fnExactReadJournalWrong : ChangeSpec := { name := "fnExactReadJournal", vars := ["loop.example/g00734/impl.errOutside", "loop.example/g00734/impl.errBent", "loop.example/g00734/impl.errTorn"], fn := fun _ => fun
  | [d, g1, g2, g3] => { results := [.lit (.bool false)], args := [d], vars := [g1, g2, g3] }
  | _ => none }
def FnExactReadJournalWrongFalsely : Prop := fnExactReadJournalRow.holds Tryd.pinned (OpenSpec.ofChange fnExactReadJournalWrong)

/-- 'laws.FnExactMendTail': WHATEVER THE INPUT: true; the input reads as it did. -/
def fnExactMendTailSpec : ChangeSpec := { name := "fnExactMendTail", vars := ["loop.example/g00734/impl.errOutside", "loop.example/g00734/impl.errBent", "loop.example/g00734/impl.errTorn"], fn := fun _ => fun
  | [d, g1, g2, g3] => { results := [.lit (.bool true)], args := [d], vars := [g1, g2, g3] }
  | _ => none }
def fnExactMendTailRow : OpenClaim := { program := "ytpgmcafefoggaaadoor", sum := "201effa991f76f3d386035a97f2e138fb9d1b34ce41e41f8d2adf4cdf684c9fd", func := "loop.example/g00734/laws.FnExactMendTail", spec := "fnExactMendTail", inPlace := ["internal/reflectlite.TypeOf"], unfollowed := true, recurses := true, named := ["loop.example/g00734/impl.errOutside", "loop.example/g00734/impl.errBent", "loop.example/g00734/impl.errTorn"], ifaces := true, apart := false, laid := [("loop.example/g00734/impl.errTorn", laid_loop_example_g00734_impl_errTorn), ("loop.example/g00734/impl.errBent", laid_loop_example_g00734_impl_errBent), ("loop.example/g00734/impl.errOutside", laid_loop_example_g00734_impl_errOutside)] }
def FnExactMendTailSaid : Prop := fnExactMendTailRow.holds Tryd.pinned (OpenSpec.ofChange fnExactMendTailSpec)

/-- ITS FALSE NEIGHBOUR: 'it returns false'. Refute it at one input. -/
def fnExactMendTailWrong : ChangeSpec := { name := "fnExactMendTail", vars := ["loop.example/g00734/impl.errOutside", "loop.example/g00734/impl.errBent", "loop.example/g00734/impl.errTorn"], fn := fun _ => fun
  | [d, g1, g2, g3] => { results := [.lit (.bool false)], args := [d], vars := [g1, g2, g3] }
  | _ => none }
def FnExactMendTailWrongFalsely : Prop := fnExactMendTailRow.holds Tryd.pinned (OpenSpec.ofChange fnExactMendTailWrong)

/-- 'laws.FnExactJournalText': WHATEVER THE INPUT: true; the input reads as it did. -/
def fnExactJournalTextSpec : ChangeSpec := { name := "fnExactJournalText", vars := ["loop.example/g00734/impl.errOutside", "loop.example/g00734/impl.errBent", "loop.example/g00734/impl.errTorn"], fn := fun _ => fun
  | [d, g1, g2, g3] => { results := [.lit (.bool true)], args := [d], vars := [g1, g2, g3] }
  | _ => none }
def fnExactJournalTextRow : OpenClaim := { program := "ytpgmcafefoggaaadoor", sum := "201effa991f76f3d386035a97f2e138fb9d1b34ce41e41f8d2adf4cdf684c9fd", func := "loop.example/g00734/laws.FnExactJournalText", spec := "fnExactJournalText", inPlace := ["internal/reflectlite.TypeOf"], unfollowed := true, recurses := true, named := ["loop.example/g00734/impl.errOutside", "loop.example/g00734/impl.errBent", "loop.example/g00734/impl.errTorn", "internal/strconv.uint64pow10", "math/bits.deBruijn32tab", "math/bits.deBruijn64tab"], ifaces := true, apart := false, laid := [("math/bits.deBruijn32tab", laid_math_bits_deBruijn32tab), ("math/bits.deBruijn64tab", laid_math_bits_deBruijn64tab), ("internal/strconv.uint64pow10", laid_internal_strconv_uint64pow10), ("loop.example/g00734/impl.errTorn", laid_loop_example_g00734_impl_errTorn), ("loop.example/g00734/impl.errBent", laid_loop_example_g00734_impl_errBent), ("loop.example/g00734/impl.errOutside", laid_loop_example_g00734_impl_errOutside)] }
def FnExactJournalTextSaid : Prop := fnExactJournalTextRow.holds Tryd.pinned (OpenSpec.ofChange fnExactJournalTextSpec)

/-- ITS FALSE NEIGHBOUR: 'it returns false'. Refute it at one input. -/
def fnExactJournalTextWrong : ChangeSpec := { name := "fnExactJournalText", vars := ["loop.example/g00734/impl.errOutside", "loop.example/g00734/impl.errBent", "loop.example/g00734/impl.errTorn"], fn := fun _ => fun
  | [d, g1, g2, g3] => { results := [.lit (.bool false)], args := [d], vars := [g1, g2, g3] }
  | _ => none }
def FnExactJournalTextWrongFalsely : Prop := fnExactJournalTextRow.holds Tryd.pinned (OpenSpec.ofChange fnExactJournalTextWrong)

/- THE SECOND FORM. 'bulk': how many values and letters a reading holds, each counted each time it is reached (what is shared counts as often as it is met; a slice's spare places count too). A statement '..UptoSaid' is the law's where the arguments, and the package variables that the reading takes, are together of bulk at most 1048576: NARROWER than '..Said'. Prove '..Said' where nothing that the law and all that it calls make is longer than what came in: it says more and counts as full. Else prove '..UptoSaid'. A law counts once. -/
mutual
def uptoBulk {H : Type} : DataW H → Nat
  | .lit (.string bytes) => bytes.length + 1
  | .lit _ => 1
  | .nil => 1
  | .ptr d => uptoBulk d + 1
  | .slice elems spare => uptoBulkAll elems + uptoBulkAll spare + 1
  | .agg parts => uptoBulkAll parts + 1
  | .iface _ d => uptoBulk d + 1
  | .map entries => uptoBulkEntries entries + 1
  | .held _ => 1
def uptoBulkAll {H : Type} : List (DataW H) → Nat
  | [] => 0
  | d :: r => uptoBulk d + uptoBulkAll r
def uptoBulkEntries {H : Type} : List (Lit × DataW H) → Nat
  | [] => 0
  | x :: r => uptoBulkEntry x + uptoBulkEntries r
def uptoBulkEntry {H : Type} : Lit × DataW H → Nat
  | (.string bytes, d) => bytes.length + uptoBulk d + 1
  | (_, d) => uptoBulk d + 1
 end
def uptoSmall : (H : Type) → List (DataW H) → Bool := fun _ ds => decide (uptoBulkAll ds ≤ 1048576)
def OpenSpec.upto (s : _root_.Go.ChangeSpec) : _root_.Go.OpenSpec := { _root_.Go.OpenSpec.ofChange s with cond := some uptoSmall }

/-- 'laws.FnJournal', WHERE WHAT IT READS IS OF BULK AT MOST 1048576: true; the input reads as it did. -/
def fnJournalUptoRow : OpenClaim := { program := "ytpgmcafefoggaaadoor", sum := "201effa991f76f3d386035a97f2e138fb9d1b34ce41e41f8d2adf4cdf684c9fd", func := "loop.example/g00734/laws.FnJournal", spec := "fnJournal", inPlace := ["internal/reflectlite.TypeOf"], unfollowed := true, recurses := true, named := ["loop.example/g00734/impl.errOutside", "loop.example/g00734/impl.errBent", "loop.example/g00734/impl.errTorn"], ifaces := true, apart := false, laid := [("loop.example/g00734/impl.errTorn", laid_loop_example_g00734_impl_errTorn), ("loop.example/g00734/impl.errBent", laid_loop_example_g00734_impl_errBent), ("loop.example/g00734/impl.errOutside", laid_loop_example_g00734_impl_errOutside)], narrowed := true }
def FnJournalUptoSaid : Prop := fnJournalUptoRow.holds Tryd.pinned (OpenSpec.upto fnJournalSpec)

/-- 'laws.FnExactReadJournal', WHERE WHAT IT READS IS OF BULK AT MOST 1048576: true; the input reads as it did. -/
def fnExactReadJournalUptoRow : OpenClaim := { program := "ytpgmcafefoggaaadoor", sum := "201effa991f76f3d386035a97f2e138fb9d1b34ce41e41f8d2adf4cdf684c9fd", func := "loop.example/g00734/laws.FnExactReadJournal", spec := "fnExactReadJournal", inPlace := ["internal/reflectlite.TypeOf"], unfollowed := true, recurses := true, named := ["loop.example/g00734/impl.errOutside", "loop.example/g00734/impl.errBent", "loop.example/g00734/impl.errTorn"], ifaces := true, apart := false, laid := [("loop.example/g00734/impl.errTorn", laid_loop_example_g00734_impl_errTorn), ("loop.example/g00734/impl.errBent", laid_loop_example_g00734_impl_errBent), ("loop.example/g00734/impl.errOutside", laid_loop_example_g00734_impl_errOutside)], narrowed := true }
def FnExactReadJournalUptoSaid : Prop := fnExactReadJournalUptoRow.holds Tryd.pinned (OpenSpec.upto fnExactReadJournalSpec)

/-- 'laws.FnExactMendTail', WHERE WHAT IT READS IS OF BULK AT MOST 1048576: true; the input reads as it did. -/
def fnExactMendTailUptoRow : OpenClaim := { program := "ytpgmcafefoggaaadoor", sum := "201effa991f76f3d386035a97f2e138fb9d1b34ce41e41f8d2adf4cdf684c9fd", func := "loop.example/g00734/laws.FnExactMendTail", spec := "fnExactMendTail", inPlace := ["internal/reflectlite.TypeOf"], unfollowed := true, recurses := true, named := ["loop.example/g00734/impl.errOutside", "loop.example/g00734/impl.errBent", "loop.example/g00734/impl.errTorn"], ifaces := true, apart := false, laid := [("loop.example/g00734/impl.errTorn", laid_loop_example_g00734_impl_errTorn), ("loop.example/g00734/impl.errBent", laid_loop_example_g00734_impl_errBent), ("loop.example/g00734/impl.errOutside", laid_loop_example_g00734_impl_errOutside)], narrowed := true }
def FnExactMendTailUptoSaid : Prop := fnExactMendTailUptoRow.holds Tryd.pinned (OpenSpec.upto fnExactMendTailSpec)

/-- 'laws.FnExactJournalText', WHERE WHAT IT READS IS OF BULK AT MOST 1048576: true; the input reads as it did. -/
def fnExactJournalTextUptoRow : OpenClaim := { program := "ytpgmcafefoggaaadoor", sum := "201effa991f76f3d386035a97f2e138fb9d1b34ce41e41f8d2adf4cdf684c9fd", func := "loop.example/g00734/laws.FnExactJournalText", spec := "fnExactJournalText", inPlace := ["internal/reflectlite.TypeOf"], unfollowed := true, recurses := true, named := ["loop.example/g00734/impl.errOutside", "loop.example/g00734/impl.errBent", "loop.example/g00734/impl.errTorn", "internal/strconv.uint64pow10", "math/bits.deBruijn32tab", "math/bits.deBruijn64tab"], ifaces := true, apart := false, laid := [("math/bits.deBruijn32tab", laid_math_bits_deBruijn32tab), ("math/bits.deBruijn64tab", laid_math_bits_deBruijn64tab), ("internal/strconv.uint64pow10", laid_internal_strconv_uint64pow10), ("loop.example/g00734/impl.errTorn", laid_loop_example_g00734_impl_errTorn), ("loop.example/g00734/impl.errBent", laid_loop_example_g00734_impl_errBent), ("loop.example/g00734/impl.errOutside", laid_loop_example_g00734_impl_errOutside)], narrowed := true }
def FnExactJournalTextUptoSaid : Prop := fnExactJournalTextUptoRow.holds Tryd.pinned (OpenSpec.upto fnExactJournalTextSpec)

end Rows
end Go.Proofs.YtpgmcafefoggaaaDoor
