/-
  THE PROGRAM'S FleetOk and CountPods .. over this seat's translation, by the list of a fleet's pods.
-/
import Derived.Test.YtlghdmakaocokaaGreatDoorCrewOk
namespace Go.Proofs.YtlghdmakaocokaaGreatDoor.Crew
open Go.ChangeShapes Go.WideShapes Go.ChangeAt Go.RowKit Go.Maps Go.Sort Go.Shelf
open Go.Proofs.YtlghdmakaocokaaGreatDoor.LK Go.Proofs.YtlghdmakaocokaaGreatDoor.Pods Go.Proofs.YtlghdmakaocokaaGreatDoor.FleetV Go.Proofs.YtlghdmakaocokaaGreatDoor.Has Go.Proofs.YtlghdmakaocokaaGreatDoor.Ints
open Go.Proofs.YtlghdmakaocokaaGreatDoor.Tick (inB in_t in_f tokB tok_t tok_f tickOk_any)
set_option linter.unusedVariables false

theorem fleetOk_any (A : Option Addr) (n c : Nat) (nx : Int) (ps : PList) (B : Nat) (w : World) (hr : IsPods w B A n ps) (hB : B ≤ w.heap.size) (hn : n ≤ 1048576) :
    Calls Tryz.prog 42 #[.agg #[.slice A n c, .int .i64 nx]] w (Says (.bool (decide (FGood ps nx))) w) := by
  have HR := Lib.hid hr
  clear hr
  go_enter Tryz.func42, Tryz.ntmps42
  go_wp2_with fail
  refine (crewOf_any A n c nx ps B _ (HR.out.below (bel1 _ _) hB) (by simp; omega) hn).mono ?_
  rintro e w2 ⟨r, o, rfl, hb, hg, _⟩
  have HB := Lib.hid (bel_then (bel1 w _) hb (by simp))
  have HG := Lib.hid hg
  clear hb hg
  go_wp2
  go_ret
  refine ⟨?_, HB.out⟩
  have e : r = decide (FGood ps nx) := by rw [Bool.eq_iff_iff, HG.out]; simp
  rw [e]
  rfl
end Go.Proofs.YtlghdmakaocokaaGreatDoor.Crew
