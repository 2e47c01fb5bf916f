/-
  DERIVED. GIVEN WITH THE SEED: THE PROGRAM's TIES (one call each: nine closed facts by the kernel) AND EACH ROW's TIE, after the 31st guide's Derived/Test/Toyas{Tie, Card}.lean. No idea stands in it: it is a product of the set-up. Laid BY PROGRAM, IN A SANDBOX (cutbox-door.mjs). By AI agents, Wed Nov 11 2026. No macro, syntax, notation, axiom, sorry.
-/
import Derived.Test.YtklgjjmcflgjeaaGreatDoorRows
import Derived.LaidByTextLater
import Derived.SevenTiedAt
import Derived.LaidSub
import Derived.LaidOnce
namespace Go.Proofs.YtklgjjmcflgjeaaGreatDoor
open Go
set_option maxRecDepth 100000
theorem seatTie1 : Tryz.prog.laidByTextLater [("math/bits.deBruijn32tab", Rows.laid_math_bits_deBruijn32tab), ("math/bits.deBruijn64tab", Rows.laid_math_bits_deBruijn64tab), ("internal/strconv.uint64pow10", Rows.laid_internal_strconv_uint64pow10), ("errors.errorType", Rows.laid_errors_errorType), ("loop.example/g00734/impl.errTorn", Rows.laid_loop_example_g00734_impl_errTorn), ("loop.example/g00734/impl.errBent", Rows.laid_loop_example_g00734_impl_errBent), ("loop.example/g00734/impl.errOutside", Rows.laid_loop_example_g00734_impl_errOutside)] [.data, .data, .data, .handle, .sentinel, .sentinel, .sentinel] true :=
  Program.laidByTextLater_by_one 88 8 65 (by kernel_rfl) (by kernel_rfl) (by kernel_rfl) (by kernel_rfl) (by kernel_rfl) (by kernel_rfl) (fun _ _ => by kernel_rfl)
theorem noOwnUnsafe : Tryz.pinned.checked.prog.headLifts.contains "ownunsafe" = false := by kernel_rfl
theorem tie : Tryz.prog.laidByTextLater [("math/bits.deBruijn32tab", Rows.laid_math_bits_deBruijn32tab), ("math/bits.deBruijn64tab", Rows.laid_math_bits_deBruijn64tab), ("internal/strconv.uint64pow10", Rows.laid_internal_strconv_uint64pow10), ("errors.errorType", Rows.laid_errors_errorType), ("loop.example/g00734/impl.errTorn", Rows.laid_loop_example_g00734_impl_errTorn), ("loop.example/g00734/impl.errBent", Rows.laid_loop_example_g00734_impl_errBent), ("loop.example/g00734/impl.errOutside", Rows.laid_loop_example_g00734_impl_errOutside)] [.data, .data, .data, .handle, .sentinel, .sentinel, .sentinel] true :=
  Program.laidByTextLater.sub seatTie1 ["math/bits.deBruijn32tab", "math/bits.deBruijn64tab", "internal/strconv.uint64pow10", "errors.errorType", "loop.example/g00734/impl.errTorn", "loop.example/g00734/impl.errBent", "loop.example/g00734/impl.errOutside"] (by kernel_rfl) (by kernel_rfl)
theorem fnCrash_row_tie : Rows.fnCrashRow.laidByTextAt .later Tryz.pinned [.data, .data, .data, .handle, .sentinel, .sentinel, .sentinel] true :=
  OpenClaim.laidByTextAt_later rfl rfl tie noOwnUnsafe
theorem tie2 : Tryz.prog.laidByTextLater [("math/bits.deBruijn32tab", Rows.laid_math_bits_deBruijn32tab), ("math/bits.deBruijn64tab", Rows.laid_math_bits_deBruijn64tab), ("internal/strconv.uint64pow10", Rows.laid_internal_strconv_uint64pow10), ("loop.example/g00734/impl.errTorn", Rows.laid_loop_example_g00734_impl_errTorn), ("loop.example/g00734/impl.errBent", Rows.laid_loop_example_g00734_impl_errBent), ("loop.example/g00734/impl.errOutside", Rows.laid_loop_example_g00734_impl_errOutside)] [.data, .data, .data, .sentinel, .sentinel, .sentinel] true :=
  Program.laidByTextLater.sub seatTie1 ["math/bits.deBruijn32tab", "math/bits.deBruijn64tab", "internal/strconv.uint64pow10", "loop.example/g00734/impl.errTorn", "loop.example/g00734/impl.errBent", "loop.example/g00734/impl.errOutside"] (by kernel_rfl) (by kernel_rfl)
theorem fnReopened_row_tie : Rows.fnReopenedRow.laidByTextAt .later Tryz.pinned [.data, .data, .data, .sentinel, .sentinel, .sentinel] true :=
  OpenClaim.laidByTextAt_later rfl rfl tie2 noOwnUnsafe
theorem tie3 : Tryz.prog.laidByTextLater [("loop.example/g00734/impl.errTorn", Rows.laid_loop_example_g00734_impl_errTorn), ("loop.example/g00734/impl.errBent", Rows.laid_loop_example_g00734_impl_errBent), ("loop.example/g00734/impl.errOutside", Rows.laid_loop_example_g00734_impl_errOutside)] [.sentinel, .sentinel, .sentinel] true :=
  Program.laidByTextLater.sub seatTie1 ["loop.example/g00734/impl.errTorn", "loop.example/g00734/impl.errBent", "loop.example/g00734/impl.errOutside"] (by kernel_rfl) (by kernel_rfl)
theorem fnExactStoreCompact_row_tie : Rows.fnExactStoreCompactRow.laidByTextAt .later Tryz.pinned [.sentinel, .sentinel, .sentinel] true :=
  OpenClaim.laidByTextAt_later rfl rfl tie3 noOwnUnsafe
theorem fnExactOpenStore_row_tie : Rows.fnExactOpenStoreRow.laidByTextAt .later Tryz.pinned [.sentinel, .sentinel, .sentinel] true :=
  OpenClaim.laidByTextAt_later rfl rfl tie3 noOwnUnsafe
theorem tie4 : Tryz.prog.laidByTextLater [("errors.errorType", Rows.laid_errors_errorType), ("loop.example/g00734/impl.errTorn", Rows.laid_loop_example_g00734_impl_errTorn), ("loop.example/g00734/impl.errBent", Rows.laid_loop_example_g00734_impl_errBent), ("loop.example/g00734/impl.errOutside", Rows.laid_loop_example_g00734_impl_errOutside)] [.handle, .sentinel, .sentinel, .sentinel] true :=
  Program.laidByTextLater.sub seatTie1 ["errors.errorType", "loop.example/g00734/impl.errTorn", "loop.example/g00734/impl.errBent", "loop.example/g00734/impl.errOutside"] (by kernel_rfl) (by kernel_rfl)
theorem fnExactCrashStore_row_tie : Rows.fnExactCrashStoreRow.laidByTextAt .later Tryz.pinned [.handle, .sentinel, .sentinel, .sentinel] true :=
  OpenClaim.laidByTextAt_later rfl rfl tie4 noOwnUnsafe
theorem fnCrashUpto_row_tie : Rows.fnCrashUptoRow.laidByTextAt .later Tryz.pinned [.data, .data, .data, .handle, .sentinel, .sentinel, .sentinel] true :=
  OpenClaim.laidByTextAt_later rfl rfl tie noOwnUnsafe
theorem fnReopenedUpto_row_tie : Rows.fnReopenedUptoRow.laidByTextAt .later Tryz.pinned [.data, .data, .data, .sentinel, .sentinel, .sentinel] true :=
  OpenClaim.laidByTextAt_later rfl rfl tie2 noOwnUnsafe
theorem fnExactStoreCompactUpto_row_tie : Rows.fnExactStoreCompactUptoRow.laidByTextAt .later Tryz.pinned [.sentinel, .sentinel, .sentinel] true :=
  OpenClaim.laidByTextAt_later rfl rfl tie3 noOwnUnsafe
theorem fnExactCrashStoreUpto_row_tie : Rows.fnExactCrashStoreUptoRow.laidByTextAt .later Tryz.pinned [.handle, .sentinel, .sentinel, .sentinel] true :=
  OpenClaim.laidByTextAt_later rfl rfl tie4 noOwnUnsafe
theorem fnExactOpenStoreUpto_row_tie : Rows.fnExactOpenStoreUptoRow.laidByTextAt .later Tryz.pinned [.sentinel, .sentinel, .sentinel] true :=
  OpenClaim.laidByTextAt_later rfl rfl tie3 noOwnUnsafe
end Go.Proofs.YtklgjjmcflgjeaaGreatDoor
