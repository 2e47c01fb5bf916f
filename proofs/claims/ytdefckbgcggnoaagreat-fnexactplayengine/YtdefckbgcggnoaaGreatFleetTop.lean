/-
  THE PROGRAM'S FleetOk and CountPods .. over this seat's translation, by the list of a fleet's pods.
-/
import Derived.Test.YtdefckbgcggnoaaGreatCrewOk
namespace Go.Proofs.YtdefckbgcggnoaaGreat.Crew
open Go.ChangeShapes Go.WideShapes Go.ChangeAt Go.RowKit Go.Maps Go.Sort Go.Shelf
open Go.Proofs.YtdefckbgcggnoaaGreat.LK Go.Proofs.YtdefckbgcggnoaaGreat.Pods Go.Proofs.YtdefckbgcggnoaaGreat.FleetV Go.Proofs.YtdefckbgcggnoaaGreat.Has Go.Proofs.YtdefckbgcggnoaaGreat.Ints
open Go.Proofs.YtdefckbgcggnoaaGreat.Tick (inB in_t in_f tokB tok_t tok_f tickOk_any)
set_option linter.unusedVariables false

theorem fleetOk_any (A : Option Addr) (n c : Nat) (nx : Int) (ps : PList) (B : Nat) (w : World) (hr : IsPods w B A n ps) (hB : B ≤ w.heap.size) (hn : n ≤ 1048576) :
    Calls Tryz.prog 77 #[.agg #[.slice A n c, .int .i64 nx]] w (Says (.bool (decide (FGood ps nx))) w) := by
  have HR := Lib.hid hr
  clear hr
  go_enter Tryz.func77, Tryz.ntmps77
  go_wp2_with fail
  refine (crewOf_any A n c nx ps B _ (HR.out.below (bel1 _ _) hB) (by simp; omega) hn).mono ?_
  rintro e w2 ⟨r, o, rfl, hb, hg, _⟩
  have HB := Lib.hid (bel_then (bel1 w _) hb (by simp))
  have HG := Lib.hid hg
  clear hb hg
  go_wp2
  go_ret
  refine ⟨?_, HB.out⟩
  have e : r = decide (FGood ps nx) := by rw [Bool.eq_iff_iff, HG.out]; simp
  rw [e]
  rfl
end Go.Proofs.YtdefckbgcggnoaaGreat.Crew
