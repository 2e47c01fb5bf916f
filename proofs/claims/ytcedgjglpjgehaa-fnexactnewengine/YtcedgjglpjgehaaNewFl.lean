/-
  A NEW FLEET, the program's and the model's.
-/
import Derived.Test.YtcedgjglpjgehaaFleetTy
namespace Go.Proofs.Ytcedgjglpjgehaa.NewFl
open Go.ChangeShapes Go.WideShapes Go.ChangeAt Go.RowKit
open Go.Proofs.Ytcedgjglpjgehaa.LK Go.Proofs.Ytcedgjglpjgehaa.Pods
set_option linter.unusedVariables false
theorem newFleet_any (w : World) : Calls Try.prog 26 #[] w (Made FleetTy.fty ([], 1) w) := by
  go_enter Try.func26, Try.ntmps26
  go_wp2
  refine bodyPost_ret (v := .agg #[.slice none 0 0, .int .i64 1]) (by simp [results, Try.results26, go_sem]) rfl ?_
  exact FleetTy.made_of (lo := w.heap.size) (Below.refl _ _) (OwnP.nil w w.heap.size) (Nat.le_refl _) (S := fun _ => False) (fun _ h => h.elim) (Turned.of_below (bel1 _ _))
theorem specNewFleet_any (w : World) : Calls Try.prog 23 #[] w (Made FleetTy.fty ([], 1) w) := by
  go_enter Try.func23, Try.ntmps23
  go_wp2
  refine bodyPost_ret (v := .agg #[.slice none 0 0, .int .i64 1]) (by simp [results, Try.results23, go_sem]) rfl ?_
  exact FleetTy.made_of (lo := w.heap.size) (Below.refl _ _) (OwnP.nil w w.heap.size) (Nat.le_refl _) (S := fun _ => False) (fun _ h => h.elim) (Turned.of_below (bel1 _ _))
end Go.Proofs.Ytcedgjglpjgehaa.NewFl
