/-
  A NEW FLEET, the program's and the model's.
-/
import Derived.Test.YtklgjjmcflgjeaaFleetTy
namespace Go.Proofs.Ytklgjjmcflgjeaa.NewFl
open Go.ChangeShapes Go.WideShapes Go.ChangeAt Go.RowKit
open Go.Proofs.Ytklgjjmcflgjeaa.LK Go.Proofs.Ytklgjjmcflgjeaa.Pods
set_option linter.unusedVariables false
theorem newFleet_any (w : World) : Calls Try.prog 44 #[] w (Made FleetTy.fty ([], 1) w) := by
  go_enter Try.func44, Try.ntmps44
  go_wp2
  refine bodyPost_ret (v := .agg #[.slice none 0 0, .int .i64 1]) (by simp [results, Try.results44, go_sem]) rfl ?_
  exact FleetTy.made_of (lo := w.heap.size) (Below.refl _ _) (OwnP.nil w w.heap.size) (Nat.le_refl _) (S := fun _ => False) (fun _ h => h.elim) (Turned.of_below (bel1 _ _))
theorem specNewFleet_any (w : World) : Calls Try.prog 41 #[] w (Made FleetTy.fty ([], 1) w) := by
  go_enter Try.func41, Try.ntmps41
  go_wp2
  refine bodyPost_ret (v := .agg #[.slice none 0 0, .int .i64 1]) (by simp [results, Try.results41, go_sem]) rfl ?_
  exact FleetTy.made_of (lo := w.heap.size) (Below.refl _ _) (OwnP.nil w w.heap.size) (Nat.le_refl _) (S := fun _ => False) (fun _ h => h.elim) (Turned.of_below (bel1 _ _))
end Go.Proofs.Ytklgjjmcflgjeaa.NewFl
