/-
  A POD as an argument: laws.toPod and how a pod comes in, over this seat's translation.
-/
import Derived.Test.YtfabioccnaooeaaLawKit
import Derived.Test.YtfabioccnaooeaaPodIn
namespace Go.Proofs.Ytfabioccnaooeaa.PodArg
open Go.ChangeShapes Go.WideShapes Go.ChangeAt Go.RowKit
open Go.Proofs.Ytfabioccnaooeaa.LK
set_option linter.unusedVariables false
set_option maxHeartbeats 800000 in
theorem toPod_any (x0 x1 x2 x3 x4 : Int) (w : World) :
    Calls Try.prog 27 #[.agg #[.int .i64 x0, .int .i64 x1, .int .i64 x2, .int .i64 x3, .int .i64 x4]] w (Says (.agg #[.int .i64 x0, .int .i64 x1, .int .i64 x2, .int .i64 x3, .int .i64 x4]) w) := by
  go_enter Try.func27, Try.ntmps27
  go_wp2
  exact bodyPost_ret (v := .agg #[.int .i64 x0, .int .i64 x1, .int .i64 x2, .int .i64 x3, .int .i64 x4]) (by simp [results, Try.results27, go_sem]) rfl ⟨rfl, bel3 _ _ _ _⟩
end Go.Proofs.Ytfabioccnaooeaa.PodArg
