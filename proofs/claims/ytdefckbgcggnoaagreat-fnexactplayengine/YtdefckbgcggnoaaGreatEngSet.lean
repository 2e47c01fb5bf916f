/-
  THE PROGRAM'S AND THE MODEL'S Settled over this seat's translation; the small questions on a phase and on who goes.
-/
import Derived.Test.YtdefckbgcggnoaaGreatEngOk
import Derived.Test.YtdefckbgcggnoaaGreatEngCnt
import Derived.Test.YtdefckbgcggnoaaGreatCountS
namespace Go.Proofs.YtdefckbgcggnoaaGreat.EngSet
open Go.ChangeShapes Go.WideShapes Go.ChangeAt Go.RowKit
open Go.Proofs.YtdefckbgcggnoaaGreat.LK Go.Proofs.YtdefckbgcggnoaaGreat.Pods Go.Proofs.YtdefckbgcggnoaaGreat.EngV Go.Proofs.YtdefckbgcggnoaaGreat.EngCnt Go.Proofs.YtdefckbgcggnoaaGreat.Seg Go.Proofs.YtdefckbgcggnoaaGreat.EngOk
open Go.Proofs.YtdefckbgcggnoaaGreat.FleetV hiding goodB
set_option linter.unusedVariables false
set_option linter.unusedSimpArgs false

theorem underWay_any (x : Int) (w : World) : Calls Tryz.prog 195 #[.int .i64 x] w fun e w' => e = .returned (.bool (mvB x)) ∧ w = w' := by
  by_cases h1 : x = 1 <;> by_cases h2 : x = 2
  all_goals
    go_enter Tryz.func195, Tryz.ntmps195
    go_wp2
    go_ret
    simp [mvB, h1, h2]
set_option maxRecDepth 100000 in
theorem l08Moves_any (A : Option Addr) (n c : Nat) (d : Eng) (w : World) : Calls Tryz.prog 45 #[.agg (enL d A n c).toArray] w (Says (.bool (mvB d.ph)) w) := by
  obtain ⟨V, hV⟩ : ∃ V, V = w.alloc (.cells (enL d A n c).toArray 36) := ⟨_, rfl⟩
  have HB : Hid (Below w.heap.size w V) := by rw [hV]; exact bel1 _ _
  have c12 : V.cell? ⟨w.heap.size, 12, none⟩ = some (.int .i64 d.ph) := by rw [hV]; exact box_cell (box_new w _) 12 _ rfl
  obtain ⟨r, hr⟩ : ∃ r, r = mvB d.ph := ⟨_, rfl⟩
  rw [← hr]
  generalize d.ph = x at c12 hr
  by_cases h1 : x = 1
  · have HF : Hid (r = true) := by show _ = _; rw [hr]; simp [mvB, h1]
    clear hr
    subst h1
    go_enter Tryz.func45, Tryz.ntmps45
    go_upto_region 1 with fail
    rw [← hV]
    clear hV
    go_wp2
    go_ret
    exact ⟨by rw [HF.out]; rfl, HB.out⟩
  · have HF : Hid (r = decide (x = 2)) := by show _ = _; rw [hr]; simp [mvB, h1]
    have hx : (x == 1) = false := by simp [h1]
    clear hr h1
    go_enter Tryz.func45, Tryz.ntmps45
    go_upto_region 1 with fail
    rw [← hV]
    clear hV
    go_wp2
    go_ret
    refine ⟨?_, HB.out⟩
    rw [HF.out]
    by_cases h2 : x = 2 <;> simp [h2]
theorem l08Going_any (A : Option Addr) (n c : Nat) (nx : Int) (ps : PList) (B : Nat) (w : World) (hr : IsPods w B A n ps) (hB : B ≤ w.heap.size) (hn : n ≤ 1048576) :
    Calls Tryz.prog 56 #[.agg #[.slice A n c, .int .i64 nx]] w (Says (.int .i64 (Crew.countV (ps, nx) 0 4)) w) := by
  have HR := Lib.hid hr
  clear hr
  go_enter Tryz.func56, Tryz.ntmps56
  go_wp2_with fail
  refine (Crew.specCountPods_any A n c nx 0 4 ps B _ (HR.out.below (bel1 _ _) hB) (by simp; omega) hn).mono ?_
  rintro e w1 ⟨rfl, hb⟩
  have HB := Lib.hid (bel_then (bel1 w _) hb (by simp))
  clear hb
  go_wp2
  go_ret
  exact ⟨rfl, HB.out⟩
end Go.Proofs.YtdefckbgcggnoaaGreat.EngSet
