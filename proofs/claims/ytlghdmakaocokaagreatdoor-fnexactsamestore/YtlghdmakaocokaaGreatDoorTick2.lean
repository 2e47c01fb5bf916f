/-
  CONTRACTS of the model's Since and DueAt over this seat's translation: what each answers, at every argument; the world is left as it was.
-/
import Derived.Test.YtlghdmakaocokaaGreatDoorTick
namespace Go.Proofs.YtlghdmakaocokaaGreatDoor.Tick
open Go.ChangeShapes Go.WideShapes Go.ChangeAt Go.RowKit
set_option linter.unusedVariables false

set_option maxHeartbeats 800000 in
theorem specSince_any (a b : Int) (w : World) :
    Calls Tryz.prog 57 #[.int .i64 a, .int .i64 b] w fun e w' => e = .returned (.int .i64 (sinceV a b)) ∧ w = w' := by
  cases h0 : tokB a <;> cases h1 : tokB b
  · have HV : Hid (sinceV a b = -1) := (by simp [sinceV, h0] : sinceV a b = -1)
    go_enter Tryz.func57, Tryz.ntmps57
    go_wp2_with (go_at_call 37; refine (specTickOk_any _ _).mono ?_; rintro e w' ⟨rfl, rfl⟩)
    go_ret
    exact ⟨ret_int HV.out.symm, rfl⟩
  · have HV : Hid (sinceV a b = -1) := (by simp [sinceV, h0] : sinceV a b = -1)
    go_enter Tryz.func57, Tryz.ntmps57
    go_wp2_with (go_at_call 37; refine (specTickOk_any _ _).mono ?_; rintro e w' ⟨rfl, rfl⟩)
    go_ret
    exact ⟨ret_int HV.out.symm, rfl⟩
  · have HV : Hid (sinceV a b = -1) := (by simp [sinceV, h1] : sinceV a b = -1)
    go_enter Tryz.func57, Tryz.ntmps57
    go_wp2_with (go_at_call 37; refine (specTickOk_any _ _).mono ?_; rintro e w' ⟨rfl, rfl⟩)
    go_ret
    exact ⟨ret_int HV.out.symm, rfl⟩
  · have HV : Hid (sinceV a b = max 0 (b - a)) := (by simp [sinceV, h0, h1] : sinceV a b = max 0 (b - a))
    have b0 := tok_t h0
    have b1 := tok_t h1
    by_cases c : b < a
    all_goals
      go_enter Tryz.func57, Tryz.ntmps57
      go_wp2_with (go_at_call 37; refine (specTickOk_any _ _).mono ?_; rintro e w' ⟨rfl, rfl⟩)
      go_ret
      exact ⟨ret_int (by rw [HV.out]; omega), rfl⟩


end Go.Proofs.YtlghdmakaocokaaGreatDoor.Tick
