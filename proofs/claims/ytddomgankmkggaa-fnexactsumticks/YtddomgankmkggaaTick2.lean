/-
  CONTRACTS of the model's Since and DueAt over this seat's translation: what each answers, at every argument; the world is left as it was.
-/
import Derived.Test.YtddomgankmkggaaTick
namespace Go.Proofs.Ytddomgankmkggaa.Tick
open Go.ChangeShapes Go.WideShapes Go.ChangeAt Go.RowKit
set_option linter.unusedVariables false

set_option maxHeartbeats 800000 in
theorem specSince_any (a b : Int) (w : World) :
    Calls Try.prog 13 #[.int .i64 a, .int .i64 b] w fun e w' => e = .returned (.int .i64 (sinceV a b)) ∧ w = w' := by
  cases h0 : tokB a <;> cases h1 : tokB b
  · have HV : Hid (sinceV a b = -1) := (by simp [sinceV, h0] : sinceV a b = -1)
    go_enter Try.func13, Try.ntmps13
    go_wp2_with (go_at_call 9; refine (specTickOk_any _ _).mono ?_; rintro e w' ⟨rfl, rfl⟩)
    go_ret
    exact ⟨ret_int HV.out.symm, rfl⟩
  · have HV : Hid (sinceV a b = -1) := (by simp [sinceV, h0] : sinceV a b = -1)
    go_enter Try.func13, Try.ntmps13
    go_wp2_with (go_at_call 9; refine (specTickOk_any _ _).mono ?_; rintro e w' ⟨rfl, rfl⟩)
    go_ret
    exact ⟨ret_int HV.out.symm, rfl⟩
  · have HV : Hid (sinceV a b = -1) := (by simp [sinceV, h1] : sinceV a b = -1)
    go_enter Try.func13, Try.ntmps13
    go_wp2_with (go_at_call 9; refine (specTickOk_any _ _).mono ?_; rintro e w' ⟨rfl, rfl⟩)
    go_ret
    exact ⟨ret_int HV.out.symm, rfl⟩
  · have HV : Hid (sinceV a b = max 0 (b - a)) := (by simp [sinceV, h0, h1] : sinceV a b = max 0 (b - a))
    have b0 := tok_t h0
    have b1 := tok_t h1
    by_cases c : b < a
    all_goals
      go_enter Try.func13, Try.ntmps13
      go_wp2_with (go_at_call 9; refine (specTickOk_any _ _).mono ?_; rintro e w' ⟨rfl, rfl⟩)
      go_ret
      exact ⟨ret_int (by rw [HV.out]; omega), rfl⟩

set_option maxHeartbeats 800000 in
theorem specDueAt_any (a d n : Int) (w : World) :
    Calls Try.prog 15 #[.int .i64 a, .int .i64 d, .int .i64 n] w fun e w' => e = .returned (.bool (dueB a d n)) ∧ w = w' := by
  cases h0 : tokB a
  · have HV : Hid (dueB a d n = false) := (by simp [dueB, h0] : dueB a d n = false)
    go_enter Try.func15, Try.ntmps15
    go_wp2_with (first | (go_at_call 9; refine (specTickOk_any _ _).mono ?_; rintro e w' ⟨rfl, rfl⟩) | (go_at_call 11; refine (specAddTick_any _ _ _).mono ?_; rintro e w' ⟨rfl, rfl⟩))
    go_ret
    exact ⟨ret_bool HV.out.symm, rfl⟩
  · cases h1 : tokB d
    · have HV : Hid (dueB a d n = false) := (by simp [dueB, h1] : dueB a d n = false)
      go_enter Try.func15, Try.ntmps15
      go_wp2_with (first | (go_at_call 9; refine (specTickOk_any _ _).mono ?_; rintro e w' ⟨rfl, rfl⟩) | (go_at_call 11; refine (specAddTick_any _ _ _).mono ?_; rintro e w' ⟨rfl, rfl⟩))
      go_ret
      exact ⟨ret_bool HV.out.symm, rfl⟩
    · cases h2 : tokB n
      · have HV : Hid (dueB a d n = false) := (by simp [dueB, h2] : dueB a d n = false)
        go_enter Try.func15, Try.ntmps15
        go_wp2_with (first | (go_at_call 9; refine (specTickOk_any _ _).mono ?_; rintro e w' ⟨rfl, rfl⟩) | (go_at_call 11; refine (specAddTick_any _ _ _).mono ?_; rintro e w' ⟨rfl, rfl⟩))
        go_ret
        exact ⟨ret_bool HV.out.symm, rfl⟩
      · have b1 := tok_t h1
        by_cases h3 : 0 < d
        · have HV : Hid (dueB a d n = decide (addV a d ≤ n)) := (by simp [dueB, h0, h1, h2, h3] : dueB a d n = decide (addV a d ≤ n))
          go_enter Try.func15, Try.ntmps15
          go_wp2_with (first | (go_at_call 9; refine (specTickOk_any _ _).mono ?_; rintro e w' ⟨rfl, rfl⟩) | (go_at_call 11; refine (specAddTick_any _ _ _).mono ?_; rintro e w' ⟨rfl, rfl⟩))
          go_ret
          exact ⟨ret_bool HV.out.symm, rfl⟩
        · have HV : Hid (dueB a d n = false) := (by simp [dueB, h3] : dueB a d n = false)
          go_enter Try.func15, Try.ntmps15
          go_wp2_with (first | (go_at_call 9; refine (specTickOk_any _ _).mono ?_; rintro e w' ⟨rfl, rfl⟩) | (go_at_call 11; refine (specAddTick_any _ _ _).mono ?_; rintro e w' ⟨rfl, rfl⟩))
          go_ret
          exact ⟨ret_bool HV.out.symm, rfl⟩

end Go.Proofs.Ytddomgankmkggaa.Tick
