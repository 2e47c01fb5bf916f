/-
  NARROWER THAN 'FOR EVERY INPUT', by the rows' own cells (each row's printed sentence says how): FnCrash: ifaces, laid · FnReopened: ifaces, laid · FnExactStoreCompact: ifaces, laid · FnExactCrashStore: ifaces, laid · FnExactOpenStore: ifaces, laid.
  DERIVED. THE GIVEN ROWS OF THIS SEAT. 5 by the template 'for every input the law returns true; each argument reads behind the call as it read before'; 0 by the template 'total and deterministic' (their statements: YtklgjjmcflgjeaaGreatDoorTotals.lean).
  GIVEN WITH THE SEED: the statements are not yours to turn. If you find one false, say at which input.
  Laid BY PROGRAM, IN A SANDBOX (cutbox-rows.mjs): the forced cells as the released guide's own fill.sh prints them over the translation e46d351458df3f57… (all of the seat's roots in one cut). By AI agents, Wed Nov 11 2026. No macro, syntax, notation, axiom, sorry.
-/
import Derived.Test.YtklgjjmcflgjeaaGreatDoorChecked
import GoSem.Claim
import GoSem.ClaimJoined
import GoSem.ClaimMapViews
import Derived.JoinedTies
import Derived.KernelRfl
namespace Go.Proofs.YtklgjjmcflgjeaaGreatDoor
/- THE CELL 'sum', in the pinned program and in every row, IS THE sha256 OF THE DUMP (.gsa) THAT YtklgjjmcflgjeaaGreatDoorProg.lean LOADS. Nothing in Lean hashes anything: it is a label: what it is worth is what the hold of that sum in a sandbox is worth. -/
noncomputable def Tryz.pinned : Pinned := { name := "ytklgjjmcflgjeaagreatdoor", sum := "e46d351458df3f57d511f3439351076bea15428b9ebd10503b8da015dde69da9", checked := Tryz.checked }
namespace Rows
def none {H : Type} : Left H := { results := [], args := [] }

/- WHAT THE LISTED PACKAGE-LEVEL VARIABLES READ AS WHEN THE CALL BEGINS. Each datum BY PROGRAM (the guide's laid-datum.mjs) off the statement by which the dump's own 'gosem.cut.vars' lays the variable. In a bare row this is a premise. The card (YtklgjjmcflgjeaaGreatDoorCards.lean) ties it to the program's text. -/
def laid_math_bits_deBruijn32tab {H : Type} : DataW H := .agg [.lit (.int .u8 0), .lit (.int .u8 1), .lit (.int .u8 28), .lit (.int .u8 2), .lit (.int .u8 29), .lit (.int .u8 14), .lit (.int .u8 24), .lit (.int .u8 3), .lit (.int .u8 30), .lit (.int .u8 22), .lit (.int .u8 20), .lit (.int .u8 15), .lit (.int .u8 25), .lit (.int .u8 17), .lit (.int .u8 4), .lit (.int .u8 8), .lit (.int .u8 31), .lit (.int .u8 27), .lit (.int .u8 13), .lit (.int .u8 23), .lit (.int .u8 21), .lit (.int .u8 19), .lit (.int .u8 16), .lit (.int .u8 7), .lit (.int .u8 26), .lit (.int .u8 12), .lit (.int .u8 18), .lit (.int .u8 6), .lit (.int .u8 11), .lit (.int .u8 5), .lit (.int .u8 10), .lit (.int .u8 9)]
def laid_math_bits_deBruijn64tab {H : Type} : DataW H := .agg [.lit (.int .u8 0), .lit (.int .u8 1), .lit (.int .u8 56), .lit (.int .u8 2), .lit (.int .u8 57), .lit (.int .u8 49), .lit (.int .u8 28), .lit (.int .u8 3), .lit (.int .u8 61), .lit (.int .u8 58), .lit (.int .u8 42), .lit (.int .u8 50), .lit (.int .u8 38), .lit (.int .u8 29), .lit (.int .u8 17), .lit (.int .u8 4), .lit (.int .u8 62), .lit (.int .u8 47), .lit (.int .u8 59), .lit (.int .u8 36), .lit (.int .u8 45), .lit (.int .u8 43), .lit (.int .u8 51), .lit (.int .u8 22), .lit (.int .u8 53), .lit (.int .u8 39), .lit (.int .u8 33), .lit (.int .u8 30), .lit (.int .u8 24), .lit (.int .u8 18), .lit (.int .u8 12), .lit (.int .u8 5), .lit (.int .u8 63), .lit (.int .u8 55), .lit (.int .u8 48), .lit (.int .u8 27), .lit (.int .u8 60), .lit (.int .u8 41), .lit (.int .u8 37), .lit (.int .u8 16), .lit (.int .u8 46), .lit (.int .u8 35), .lit (.int .u8 44), .lit (.int .u8 21), .lit (.int .u8 52), .lit (.int .u8 32), .lit (.int .u8 23), .lit (.int .u8 11), .lit (.int .u8 54), .lit (.int .u8 26), .lit (.int .u8 40), .lit (.int .u8 15), .lit (.int .u8 34), .lit (.int .u8 20), .lit (.int .u8 31), .lit (.int .u8 10), .lit (.int .u8 25), .lit (.int .u8 14), .lit (.int .u8 19), .lit (.int .u8 9), .lit (.int .u8 13), .lit (.int .u8 8), .lit (.int .u8 7), .lit (.int .u8 6)]
def laid_internal_strconv_uint64pow10 {H : Type} : DataW H := .agg [.lit (.int .u64 1), .lit (.int .u64 10), .lit (.int .u64 100), .lit (.int .u64 1000), .lit (.int .u64 10000), .lit (.int .u64 100000), .lit (.int .u64 1000000), .lit (.int .u64 10000000), .lit (.int .u64 100000000), .lit (.int .u64 1000000000), .lit (.int .u64 10000000000), .lit (.int .u64 100000000000), .lit (.int .u64 1000000000000), .lit (.int .u64 10000000000000), .lit (.int .u64 100000000000000), .lit (.int .u64 1000000000000000), .lit (.int .u64 10000000000000000), .lit (.int .u64 100000000000000000), .lit (.int .u64 1000000000000000000), .lit (.int .u64 10000000000000000000)]
def laid_errors_errorType {H : Type} : DataW H := .iface "internal/reflectlite.rtype" (.agg [.ptr (.lit (.string [101, 114, 114, 111, 114]))])
def laid_loop_example_g00734_impl_errTorn {H : Type} : DataW H := .iface "*errors.errorString" (.ptr (.agg [.lit (.string [116, 104, 101, 32, 98, 121, 116, 101, 115, 32, 101, 110, 100, 32, 119, 105, 116, 104, 105, 110, 32, 119, 104, 97, 116, 32, 105, 115, 32, 114, 101, 97, 100])]))
def laid_loop_example_g00734_impl_errBent {H : Type} : DataW H := .iface "*errors.errorString" (.ptr (.agg [.lit (.string [110, 111, 32, 114, 101, 99, 111, 114, 100, 32, 119, 97, 115, 32, 119, 114, 105, 116, 116, 101, 110, 32, 115, 111])]))
def laid_loop_example_g00734_impl_errOutside {H : Type} : DataW H := .iface "*errors.errorString" (.ptr (.agg [.lit (.string [116, 104, 101, 32, 112, 108, 97, 99, 101, 32, 105, 115, 32, 110, 111, 116, 32, 105, 110, 32, 116, 104, 101, 32, 98, 121, 116, 101, 115])]))

/-- 'laws.FnCrash': WHATEVER THE INPUT: true; the input reads as it did. -/
def fnCrashSpec : ChangeSpec := { name := "fnCrash", vars := ["loop.example/g00734/impl.errOutside", "loop.example/g00734/impl.errBent", "loop.example/g00734/impl.errTorn"], fn := fun _ => fun
  | [d, g1, g2, g3] => { results := [.lit (.bool true)], args := [d], vars := [g1, g2, g3] }
  | _ => none }
def fnCrashRow : OpenClaim := { program := "ytklgjjmcflgjeaagreatdoor", sum := "e46d351458df3f57d511f3439351076bea15428b9ebd10503b8da015dde69da9", func := "loop.example/g00734/laws.FnCrash", spec := "fnCrash", inPlace := ["sync/atomic.StoreInt64", "(*internal/sync.Mutex).Lock", "internal/race.Disable", "sync/atomic.CompareAndSwapInt32", "internal/race.Enable", "internal/race.Acquire", "(*internal/sync.Mutex).lockSlow", "internal/sync.runtime_canSpin", "internal/sync.runtime_doSpin", "internal/sync.throw", "internal/sync.runtime_nanotime", "internal/sync.runtime_SemacquireMutex", "sync/atomic.AddInt32", "(*internal/sync.Mutex).Unlock", "internal/race.ReleaseMerge", "(*internal/sync.Mutex).unlockSlow", "internal/sync.fatal", "internal/sync.runtime_Semrelease", "sync/atomic.AddInt64", "sync/atomic.LoadInt64", "internal/reflectlite.ValueOf", "(internal/reflectlite.Value).Type", "(internal/reflectlite.Value).IsNil", "internal/reflectlite.TypeOf", "(internal/reflectlite.Value).Elem", "(internal/reflectlite.Value).Set"], unfollowed := true, recurses := true, named := ["errors.errorType", "loop.example/g00734/impl.errOutside", "loop.example/g00734/impl.errBent", "loop.example/g00734/impl.errTorn", "internal/strconv.uint64pow10", "math/bits.deBruijn32tab", "math/bits.deBruijn64tab"], ifaces := true, apart := false, laid := [("math/bits.deBruijn32tab", laid_math_bits_deBruijn32tab), ("math/bits.deBruijn64tab", laid_math_bits_deBruijn64tab), ("internal/strconv.uint64pow10", laid_internal_strconv_uint64pow10), ("errors.errorType", laid_errors_errorType), ("loop.example/g00734/impl.errTorn", laid_loop_example_g00734_impl_errTorn), ("loop.example/g00734/impl.errBent", laid_loop_example_g00734_impl_errBent), ("loop.example/g00734/impl.errOutside", laid_loop_example_g00734_impl_errOutside)] }
def FnCrashSaid : Prop := fnCrashRow.holds Tryz.pinned (OpenSpec.ofChange fnCrashSpec)

/-- ITS FALSE NEIGHBOUR: 'it returns false'. Refute it at one input. -/
def fnCrashWrong : ChangeSpec := { name := "fnCrash", vars := ["loop.example/g00734/impl.errOutside", "loop.example/g00734/impl.errBent", "loop.example/g00734/impl.errTorn"], fn := fun _ => fun
  | [d, g1, g2, g3] => { results := [.lit (.bool false)], args := [d], vars := [g1, g2, g3] }
  | _ => none }
def FnCrashWrongFalsely : Prop := fnCrashRow.holds Tryz.pinned (OpenSpec.ofChange fnCrashWrong)

/-- 'laws.FnReopened': WHATEVER THE INPUT: true; the input reads as it did. -/
def fnReopenedSpec : ChangeSpec := { name := "fnReopened", vars := ["loop.example/g00734/impl.errOutside", "loop.example/g00734/impl.errBent", "loop.example/g00734/impl.errTorn"], fn := fun _ => fun
  | [d, g1, g2, g3] => { results := [.lit (.bool true)], args := [d], vars := [g1, g2, g3] }
  | _ => none }
def fnReopenedRow : OpenClaim := { program := "ytklgjjmcflgjeaagreatdoor", sum := "e46d351458df3f57d511f3439351076bea15428b9ebd10503b8da015dde69da9", func := "loop.example/g00734/laws.FnReopened", spec := "fnReopened", inPlace := ["sync/atomic.StoreInt64", "(*internal/sync.Mutex).Lock", "internal/race.Disable", "sync/atomic.CompareAndSwapInt32", "internal/race.Enable", "internal/race.Acquire", "(*internal/sync.Mutex).lockSlow", "internal/sync.runtime_canSpin", "internal/sync.runtime_doSpin", "internal/sync.throw", "internal/sync.runtime_nanotime", "internal/sync.runtime_SemacquireMutex", "sync/atomic.AddInt32", "(*internal/sync.Mutex).Unlock", "internal/race.ReleaseMerge", "(*internal/sync.Mutex).unlockSlow", "internal/sync.fatal", "internal/sync.runtime_Semrelease", "sync/atomic.AddInt64", "sync/atomic.LoadInt64", "internal/reflectlite.TypeOf"], unfollowed := true, recurses := true, named := ["loop.example/g00734/impl.errOutside", "loop.example/g00734/impl.errBent", "loop.example/g00734/impl.errTorn", "internal/strconv.uint64pow10", "math/bits.deBruijn32tab", "math/bits.deBruijn64tab"], ifaces := true, apart := false, laid := [("math/bits.deBruijn32tab", laid_math_bits_deBruijn32tab), ("math/bits.deBruijn64tab", laid_math_bits_deBruijn64tab), ("internal/strconv.uint64pow10", laid_internal_strconv_uint64pow10), ("loop.example/g00734/impl.errTorn", laid_loop_example_g00734_impl_errTorn), ("loop.example/g00734/impl.errBent", laid_loop_example_g00734_impl_errBent), ("loop.example/g00734/impl.errOutside", laid_loop_example_g00734_impl_errOutside)] }
def FnReopenedSaid : Prop := fnReopenedRow.holds Tryz.pinned (OpenSpec.ofChange fnReopenedSpec)

/-- ITS FALSE NEIGHBOUR: 'it returns false'. Refute it at one input. -/
def fnReopenedWrong : ChangeSpec := { name := "fnReopened", vars := ["loop.example/g00734/impl.errOutside", "loop.example/g00734/impl.errBent", "loop.example/g00734/impl.errTorn"], fn := fun _ => fun
  | [d, g1, g2, g3] => { results := [.lit (.bool false)], args := [d], vars := [g1, g2, g3] }
  | _ => none }
def FnReopenedWrongFalsely : Prop := fnReopenedRow.holds Tryz.pinned (OpenSpec.ofChange fnReopenedWrong)

/-- 'laws.FnExactStoreCompact': WHATEVER THE INPUT: true; the input reads as it did. -/
def fnExactStoreCompactSpec : ChangeSpec := { name := "fnExactStoreCompact", vars := ["loop.example/g00734/impl.errOutside", "loop.example/g00734/impl.errBent", "loop.example/g00734/impl.errTorn"], fn := fun _ => fun
  | [d, g1, g2, g3] => { results := [.lit (.bool true)], args := [d], vars := [g1, g2, g3] }
  | _ => none }
def fnExactStoreCompactRow : OpenClaim := { program := "ytklgjjmcflgjeaagreatdoor", sum := "e46d351458df3f57d511f3439351076bea15428b9ebd10503b8da015dde69da9", func := "loop.example/g00734/laws.FnExactStoreCompact", spec := "fnExactStoreCompact", inPlace := ["internal/reflectlite.TypeOf"], unfollowed := true, recurses := true, named := ["loop.example/g00734/impl.errOutside", "loop.example/g00734/impl.errBent", "loop.example/g00734/impl.errTorn"], ifaces := true, apart := false, laid := [("loop.example/g00734/impl.errTorn", laid_loop_example_g00734_impl_errTorn), ("loop.example/g00734/impl.errBent", laid_loop_example_g00734_impl_errBent), ("loop.example/g00734/impl.errOutside", laid_loop_example_g00734_impl_errOutside)] }
def FnExactStoreCompactSaid : Prop := fnExactStoreCompactRow.holds Tryz.pinned (OpenSpec.ofChange fnExactStoreCompactSpec)

/-- ITS FALSE NEIGHBOUR: 'it returns false'. Refute it at one input. -/
def fnExactStoreCompactWrong : ChangeSpec := { name := "fnExactStoreCompact", vars := ["loop.example/g00734/impl.errOutside", "loop.example/g00734/impl.errBent", "loop.example/g00734/impl.errTorn"], fn := fun _ => fun
  | [d, g1, g2, g3] => { results := [.lit (.bool false)], args := [d], vars := [g1, g2, g3] }
  | _ => none }
def FnExactStoreCompactWrongFalsely : Prop := fnExactStoreCompactRow.holds Tryz.pinned (OpenSpec.ofChange fnExactStoreCompactWrong)

/-- 'laws.FnExactCrashStore': WHATEVER THE INPUT: true; the input reads as it did. -/
def fnExactCrashStoreSpec : ChangeSpec := { name := "fnExactCrashStore", vars := ["loop.example/g00734/impl.errOutside", "loop.example/g00734/impl.errBent", "loop.example/g00734/impl.errTorn"], fn := fun _ => fun
  | [d1, d2, d3, g1, g2, g3] => { results := [.lit (.bool true)], args := [d1, d2, d3], vars := [g1, g2, g3] }
  | _ => none }
def fnExactCrashStoreRow : OpenClaim := { program := "ytklgjjmcflgjeaagreatdoor", sum := "e46d351458df3f57d511f3439351076bea15428b9ebd10503b8da015dde69da9", func := "loop.example/g00734/laws.FnExactCrashStore", spec := "fnExactCrashStore", inPlace := ["internal/reflectlite.ValueOf", "(internal/reflectlite.Value).Type", "(internal/reflectlite.Value).IsNil", "internal/reflectlite.TypeOf", "(internal/reflectlite.Value).Elem", "(internal/reflectlite.Value).Set", "sync/atomic.StoreInt64", "(*internal/sync.Mutex).Lock", "internal/race.Disable", "sync/atomic.CompareAndSwapInt32", "internal/race.Enable", "internal/race.Acquire", "(*internal/sync.Mutex).lockSlow", "internal/sync.runtime_canSpin", "internal/sync.runtime_doSpin", "internal/sync.throw", "internal/sync.runtime_nanotime", "internal/sync.runtime_SemacquireMutex", "sync/atomic.AddInt32", "(*internal/sync.Mutex).Unlock", "internal/race.ReleaseMerge", "(*internal/sync.Mutex).unlockSlow", "internal/sync.fatal", "internal/sync.runtime_Semrelease", "sync/atomic.AddInt64", "sync/atomic.LoadInt64"], unfollowed := true, recurses := true, named := ["errors.errorType", "loop.example/g00734/impl.errOutside", "loop.example/g00734/impl.errBent", "loop.example/g00734/impl.errTorn"], ifaces := true, apart := false, laid := [("errors.errorType", laid_errors_errorType), ("loop.example/g00734/impl.errTorn", laid_loop_example_g00734_impl_errTorn), ("loop.example/g00734/impl.errBent", laid_loop_example_g00734_impl_errBent), ("loop.example/g00734/impl.errOutside", laid_loop_example_g00734_impl_errOutside)] }
def FnExactCrashStoreSaid : Prop := fnExactCrashStoreRow.holds Tryz.pinned (OpenSpec.ofChange fnExactCrashStoreSpec)

/-- ITS FALSE NEIGHBOUR: 'it returns false'. Refute it at one input. -/
def fnExactCrashStoreWrong : ChangeSpec := { name := "fnExactCrashStore", vars := ["loop.example/g00734/impl.errOutside", "loop.example/g00734/impl.errBent", "loop.example/g00734/impl.errTorn"], fn := fun _ => fun
  | [d1, d2, d3, g1, g2, g3] => { results := [.lit (.bool false)], args := [d1, d2, d3], vars := [g1, g2, g3] }
  | _ => none }
def FnExactCrashStoreWrongFalsely : Prop := fnExactCrashStoreRow.holds Tryz.pinned (OpenSpec.ofChange fnExactCrashStoreWrong)

/-- 'laws.FnExactOpenStore': WHATEVER THE INPUT: true; the input reads as it did. -/
def fnExactOpenStoreSpec : ChangeSpec := { name := "fnExactOpenStore", vars := ["loop.example/g00734/impl.errOutside", "loop.example/g00734/impl.errBent", "loop.example/g00734/impl.errTorn"], fn := fun _ => fun
  | [d1, d2, d3, g1, g2, g3] => { results := [.lit (.bool true)], args := [d1, d2, d3], vars := [g1, g2, g3] }
  | _ => none }
def fnExactOpenStoreRow : OpenClaim := { program := "ytklgjjmcflgjeaagreatdoor", sum := "e46d351458df3f57d511f3439351076bea15428b9ebd10503b8da015dde69da9", func := "loop.example/g00734/laws.FnExactOpenStore", spec := "fnExactOpenStore", inPlace := ["internal/reflectlite.TypeOf", "sync/atomic.StoreInt64", "(*internal/sync.Mutex).Lock", "internal/race.Disable", "sync/atomic.CompareAndSwapInt32", "internal/race.Enable", "internal/race.Acquire", "(*internal/sync.Mutex).lockSlow", "internal/sync.runtime_canSpin", "internal/sync.runtime_doSpin", "internal/sync.throw", "internal/sync.runtime_nanotime", "internal/sync.runtime_SemacquireMutex", "sync/atomic.AddInt32", "(*internal/sync.Mutex).Unlock", "internal/race.ReleaseMerge", "(*internal/sync.Mutex).unlockSlow", "internal/sync.fatal", "internal/sync.runtime_Semrelease", "sync/atomic.AddInt64", "sync/atomic.LoadInt64"], unfollowed := true, recurses := true, named := ["loop.example/g00734/impl.errOutside", "loop.example/g00734/impl.errBent", "loop.example/g00734/impl.errTorn"], ifaces := true, apart := false, laid := [("loop.example/g00734/impl.errTorn", laid_loop_example_g00734_impl_errTorn), ("loop.example/g00734/impl.errBent", laid_loop_example_g00734_impl_errBent), ("loop.example/g00734/impl.errOutside", laid_loop_example_g00734_impl_errOutside)] }
def FnExactOpenStoreSaid : Prop := fnExactOpenStoreRow.holds Tryz.pinned (OpenSpec.ofChange fnExactOpenStoreSpec)

/-- ITS FALSE NEIGHBOUR: 'it returns false'. Refute it at one input. -/
def fnExactOpenStoreWrong : ChangeSpec := { name := "fnExactOpenStore", vars := ["loop.example/g00734/impl.errOutside", "loop.example/g00734/impl.errBent", "loop.example/g00734/impl.errTorn"], fn := fun _ => fun
  | [d1, d2, d3, g1, g2, g3] => { results := [.lit (.bool false)], args := [d1, d2, d3], vars := [g1, g2, g3] }
  | _ => none }
def FnExactOpenStoreWrongFalsely : Prop := fnExactOpenStoreRow.holds Tryz.pinned (OpenSpec.ofChange fnExactOpenStoreWrong)

/- THE SECOND FORM. 'bulk': how many values and letters a reading holds, each counted each time it is reached (what is shared counts as often as it is met; a slice's spare places count too). A statement '..UptoSaid' is the law's where the arguments, and the package variables that the reading takes, are together of bulk at most 1048576: NARROWER than '..Said'. Prove '..Said' where nothing that the law and all that it calls make is longer than what came in: it says more and counts as full. Else prove '..UptoSaid'. A law counts once. -/
mutual
def uptoBulk {H : Type} : DataW H → Nat
  | .lit (.string bytes) => bytes.length + 1
  | .lit _ => 1
  | .nil => 1
  | .ptr d => uptoBulk d + 1
  | .slice elems spare => uptoBulkAll elems + uptoBulkAll spare + 1
  | .agg parts => uptoBulkAll parts + 1
  | .iface _ d => uptoBulk d + 1
  | .map entries => uptoBulkEntries entries + 1
  | .held _ => 1
def uptoBulkAll {H : Type} : List (DataW H) → Nat
  | [] => 0
  | d :: r => uptoBulk d + uptoBulkAll r
def uptoBulkEntries {H : Type} : List (Lit × DataW H) → Nat
  | [] => 0
  | x :: r => uptoBulkEntry x + uptoBulkEntries r
def uptoBulkEntry {H : Type} : Lit × DataW H → Nat
  | (.string bytes, d) => bytes.length + uptoBulk d + 1
  | (_, d) => uptoBulk d + 1
 end
def uptoSmall : (H : Type) → List (DataW H) → Bool := fun _ ds => decide (uptoBulkAll ds ≤ 1048576)
def OpenSpec.upto (s : _root_.Go.ChangeSpec) : _root_.Go.OpenSpec := { _root_.Go.OpenSpec.ofChange s with cond := some uptoSmall }

/-- 'laws.FnCrash', WHERE WHAT IT READS IS OF BULK AT MOST 1048576: true; the input reads as it did. -/
def fnCrashUptoRow : OpenClaim := { program := "ytklgjjmcflgjeaagreatdoor", sum := "e46d351458df3f57d511f3439351076bea15428b9ebd10503b8da015dde69da9", func := "loop.example/g00734/laws.FnCrash", spec := "fnCrash", inPlace := ["sync/atomic.StoreInt64", "(*internal/sync.Mutex).Lock", "internal/race.Disable", "sync/atomic.CompareAndSwapInt32", "internal/race.Enable", "internal/race.Acquire", "(*internal/sync.Mutex).lockSlow", "internal/sync.runtime_canSpin", "internal/sync.runtime_doSpin", "internal/sync.throw", "internal/sync.runtime_nanotime", "internal/sync.runtime_SemacquireMutex", "sync/atomic.AddInt32", "(*internal/sync.Mutex).Unlock", "internal/race.ReleaseMerge", "(*internal/sync.Mutex).unlockSlow", "internal/sync.fatal", "internal/sync.runtime_Semrelease", "sync/atomic.AddInt64", "sync/atomic.LoadInt64", "internal/reflectlite.ValueOf", "(internal/reflectlite.Value).Type", "(internal/reflectlite.Value).IsNil", "internal/reflectlite.TypeOf", "(internal/reflectlite.Value).Elem", "(internal/reflectlite.Value).Set"], unfollowed := true, recurses := true, named := ["errors.errorType", "loop.example/g00734/impl.errOutside", "loop.example/g00734/impl.errBent", "loop.example/g00734/impl.errTorn", "internal/strconv.uint64pow10", "math/bits.deBruijn32tab", "math/bits.deBruijn64tab"], ifaces := true, apart := false, laid := [("math/bits.deBruijn32tab", laid_math_bits_deBruijn32tab), ("math/bits.deBruijn64tab", laid_math_bits_deBruijn64tab), ("internal/strconv.uint64pow10", laid_internal_strconv_uint64pow10), ("errors.errorType", laid_errors_errorType), ("loop.example/g00734/impl.errTorn", laid_loop_example_g00734_impl_errTorn), ("loop.example/g00734/impl.errBent", laid_loop_example_g00734_impl_errBent), ("loop.example/g00734/impl.errOutside", laid_loop_example_g00734_impl_errOutside)], narrowed := true }
def FnCrashUptoSaid : Prop := fnCrashUptoRow.holds Tryz.pinned (OpenSpec.upto fnCrashSpec)

/-- 'laws.FnReopened', WHERE WHAT IT READS IS OF BULK AT MOST 1048576: true; the input reads as it did. -/
def fnReopenedUptoRow : OpenClaim := { program := "ytklgjjmcflgjeaagreatdoor", sum := "e46d351458df3f57d511f3439351076bea15428b9ebd10503b8da015dde69da9", func := "loop.example/g00734/laws.FnReopened", spec := "fnReopened", inPlace := ["sync/atomic.StoreInt64", "(*internal/sync.Mutex).Lock", "internal/race.Disable", "sync/atomic.CompareAndSwapInt32", "internal/race.Enable", "internal/race.Acquire", "(*internal/sync.Mutex).lockSlow", "internal/sync.runtime_canSpin", "internal/sync.runtime_doSpin", "internal/sync.throw", "internal/sync.runtime_nanotime", "internal/sync.runtime_SemacquireMutex", "sync/atomic.AddInt32", "(*internal/sync.Mutex).Unlock", "internal/race.ReleaseMerge", "(*internal/sync.Mutex).unlockSlow", "internal/sync.fatal", "internal/sync.runtime_Semrelease", "sync/atomic.AddInt64", "sync/atomic.LoadInt64", "internal/reflectlite.TypeOf"], unfollowed := true, recurses := true, named := ["loop.example/g00734/impl.errOutside", "loop.example/g00734/impl.errBent", "loop.example/g00734/impl.errTorn", "internal/strconv.uint64pow10", "math/bits.deBruijn32tab", "math/bits.deBruijn64tab"], ifaces := true, apart := false, laid := [("math/bits.deBruijn32tab", laid_math_bits_deBruijn32tab), ("math/bits.deBruijn64tab", laid_math_bits_deBruijn64tab), ("internal/strconv.uint64pow10", laid_internal_strconv_uint64pow10), ("loop.example/g00734/impl.errTorn", laid_loop_example_g00734_impl_errTorn), ("loop.example/g00734/impl.errBent", laid_loop_example_g00734_impl_errBent), ("loop.example/g00734/impl.errOutside", laid_loop_example_g00734_impl_errOutside)], narrowed := true }
def FnReopenedUptoSaid : Prop := fnReopenedUptoRow.holds Tryz.pinned (OpenSpec.upto fnReopenedSpec)

/-- 'laws.FnExactStoreCompact', WHERE WHAT IT READS IS OF BULK AT MOST 1048576: true; the input reads as it did. -/
def fnExactStoreCompactUptoRow : OpenClaim := { program := "ytklgjjmcflgjeaagreatdoor", sum := "e46d351458df3f57d511f3439351076bea15428b9ebd10503b8da015dde69da9", func := "loop.example/g00734/laws.FnExactStoreCompact", spec := "fnExactStoreCompact", inPlace := ["internal/reflectlite.TypeOf"], unfollowed := true, recurses := true, named := ["loop.example/g00734/impl.errOutside", "loop.example/g00734/impl.errBent", "loop.example/g00734/impl.errTorn"], ifaces := true, apart := false, laid := [("loop.example/g00734/impl.errTorn", laid_loop_example_g00734_impl_errTorn), ("loop.example/g00734/impl.errBent", laid_loop_example_g00734_impl_errBent), ("loop.example/g00734/impl.errOutside", laid_loop_example_g00734_impl_errOutside)], narrowed := true }
def FnExactStoreCompactUptoSaid : Prop := fnExactStoreCompactUptoRow.holds Tryz.pinned (OpenSpec.upto fnExactStoreCompactSpec)

/-- 'laws.FnExactCrashStore', WHERE WHAT IT READS IS OF BULK AT MOST 1048576: true; the input reads as it did. -/
def fnExactCrashStoreUptoRow : OpenClaim := { program := "ytklgjjmcflgjeaagreatdoor", sum := "e46d351458df3f57d511f3439351076bea15428b9ebd10503b8da015dde69da9", func := "loop.example/g00734/laws.FnExactCrashStore", spec := "fnExactCrashStore", inPlace := ["internal/reflectlite.ValueOf", "(internal/reflectlite.Value).Type", "(internal/reflectlite.Value).IsNil", "internal/reflectlite.TypeOf", "(internal/reflectlite.Value).Elem", "(internal/reflectlite.Value).Set", "sync/atomic.StoreInt64", "(*internal/sync.Mutex).Lock", "internal/race.Disable", "sync/atomic.CompareAndSwapInt32", "internal/race.Enable", "internal/race.Acquire", "(*internal/sync.Mutex).lockSlow", "internal/sync.runtime_canSpin", "internal/sync.runtime_doSpin", "internal/sync.throw", "internal/sync.runtime_nanotime", "internal/sync.runtime_SemacquireMutex", "sync/atomic.AddInt32", "(*internal/sync.Mutex).Unlock", "internal/race.ReleaseMerge", "(*internal/sync.Mutex).unlockSlow", "internal/sync.fatal", "internal/sync.runtime_Semrelease", "sync/atomic.AddInt64", "sync/atomic.LoadInt64"], unfollowed := true, recurses := true, named := ["errors.errorType", "loop.example/g00734/impl.errOutside", "loop.example/g00734/impl.errBent", "loop.example/g00734/impl.errTorn"], ifaces := true, apart := false, laid := [("errors.errorType", laid_errors_errorType), ("loop.example/g00734/impl.errTorn", laid_loop_example_g00734_impl_errTorn), ("loop.example/g00734/impl.errBent", laid_loop_example_g00734_impl_errBent), ("loop.example/g00734/impl.errOutside", laid_loop_example_g00734_impl_errOutside)], narrowed := true }
def FnExactCrashStoreUptoSaid : Prop := fnExactCrashStoreUptoRow.holds Tryz.pinned (OpenSpec.upto fnExactCrashStoreSpec)

/-- 'laws.FnExactOpenStore', WHERE WHAT IT READS IS OF BULK AT MOST 1048576: true; the input reads as it did. -/
def fnExactOpenStoreUptoRow : OpenClaim := { program := "ytklgjjmcflgjeaagreatdoor", sum := "e46d351458df3f57d511f3439351076bea15428b9ebd10503b8da015dde69da9", func := "loop.example/g00734/laws.FnExactOpenStore", spec := "fnExactOpenStore", inPlace := ["internal/reflectlite.TypeOf", "sync/atomic.StoreInt64", "(*internal/sync.Mutex).Lock", "internal/race.Disable", "sync/atomic.CompareAndSwapInt32", "internal/race.Enable", "internal/race.Acquire", "(*internal/sync.Mutex).lockSlow", "internal/sync.runtime_canSpin", "internal/sync.runtime_doSpin", "internal/sync.throw", "internal/sync.runtime_nanotime", "internal/sync.runtime_SemacquireMutex", "sync/atomic.AddInt32", "(*internal/sync.Mutex).Unlock", "internal/race.ReleaseMerge", "(*internal/sync.Mutex).unlockSlow", "internal/sync.fatal", "internal/sync.runtime_Semrelease", "sync/atomic.AddInt64", "sync/atomic.LoadInt64"], unfollowed := true, recurses := true, named := ["loop.example/g00734/impl.errOutside", "loop.example/g00734/impl.errBent", "loop.example/g00734/impl.errTorn"], ifaces := true, apart := false, laid := [("loop.example/g00734/impl.errTorn", laid_loop_example_g00734_impl_errTorn), ("loop.example/g00734/impl.errBent", laid_loop_example_g00734_impl_errBent), ("loop.example/g00734/impl.errOutside", laid_loop_example_g00734_impl_errOutside)], narrowed := true }
def FnExactOpenStoreUptoSaid : Prop := fnExactOpenStoreUptoRow.holds Tryz.pinned (OpenSpec.upto fnExactOpenStoreSpec)

end Rows
end Go.Proofs.YtklgjjmcflgjeaaGreatDoor
