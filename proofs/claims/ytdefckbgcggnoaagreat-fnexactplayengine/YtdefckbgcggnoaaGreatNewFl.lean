/-
  A NEW FLEET, the program's and the model's.
-/
import Derived.Test.YtdefckbgcggnoaaGreatFleetTy
namespace Go.Proofs.YtdefckbgcggnoaaGreat.NewFl
open Go.ChangeShapes Go.WideShapes Go.ChangeAt Go.RowKit
open Go.Proofs.YtdefckbgcggnoaaGreat.LK Go.Proofs.YtdefckbgcggnoaaGreat.Pods
set_option linter.unusedVariables false
theorem newFleet_any (w : World) : Calls Tryz.prog 104 #[] w (Made FleetTy.fty ([], 1) w) := by
  go_enter Tryz.func104, Tryz.ntmps104
  go_wp2
  refine bodyPost_ret (v := .agg #[.slice none 0 0, .int .i64 1]) (by simp [results, Tryz.results104, go_sem]) rfl ?_
  exact FleetTy.made_of (lo := w.heap.size) (Below.refl _ _) (OwnP.nil w w.heap.size) (Nat.le_refl _) (S := fun _ => False) (fun _ h => h.elim) (Turned.of_below (bel1 _ _))
theorem specNewFleet_any (w : World) : Calls Tryz.prog 87 #[] w (Made FleetTy.fty ([], 1) w) := by
  go_enter Tryz.func87, Tryz.ntmps87
  go_wp2
  refine bodyPost_ret (v := .agg #[.slice none 0 0, .int .i64 1]) (by simp [results, Tryz.results87, go_sem]) rfl ?_
  exact FleetTy.made_of (lo := w.heap.size) (Below.refl _ _) (OwnP.nil w w.heap.size) (Nat.le_refl _) (S := fun _ => False) (fun _ h => h.elim) (Turned.of_below (bel1 _ _))
end Go.Proofs.YtdefckbgcggnoaaGreat.NewFl
