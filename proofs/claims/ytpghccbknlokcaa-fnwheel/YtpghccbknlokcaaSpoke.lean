/-
  CONTRACTS of SpokeOf, the program's and the model's, over this seat's translation: what each answers, at every int; the world is left as it was.
-/
import Derived.Test.YtpghccbknlokcaaTick
namespace Go.Proofs.Ytpghccbknlokcaa.Spoke
open Go.ChangeShapes Go.WideShapes Go.ChangeAt Go.RowKit
open Go.Proofs.Ytpghccbknlokcaa.Tick
set_option linter.unusedVariables false

def spokeV (t : Int) : Int := if tokB t then t % 8 else -1
theorem spoke_t {t : Int} (h : tokB t = true) : spokeV t = t % 8 := by simp [spokeV, h]
theorem spoke_f {t : Int} (h : tokB t = false) : spokeV t = -1 := by simp [spokeV, h]
theorem spoke_bd (t : Int) : -1 ≤ spokeV t ∧ spokeV t < 8 := by unfold spokeV; split <;> omega

set_option maxHeartbeats 400000 in
theorem spokeOf_any (t : Int) (w : World) :
    Calls Try.prog 99 #[.int .i64 t] w fun e w' => e = .returned (.int .i64 (spokeV t)) ∧ w = w' := by
  cases h0 : tokB t
  · have HV : Hid (spokeV t = -1) := spoke_f h0
    go_enter Try.func99, Try.ntmps99
    go_wp2_with (go_at_call 44; refine (tickOk_any _ _).mono ?_; rintro e w' ⟨rfl, rfl⟩)
    go_ret
    exact ⟨ret_int HV.out.symm, rfl⟩
  · have HV : Hid (spokeV t = t % 8) := spoke_t h0
    have b := tok_t h0
    go_enter Try.func99, Try.ntmps99
    go_wp2_with (go_at_call 44; refine (tickOk_any _ _).mono ?_; rintro e w' ⟨rfl, rfl⟩)
    go_ret
    exact ⟨ret_int HV.out.symm, rfl⟩

set_option maxHeartbeats 400000 in
theorem specSpokeOf_any (t : Int) (w : World) :
    Calls Try.prog 55 #[.int .i64 t] w fun e w' => e = .returned (.int .i64 (spokeV t)) ∧ w = w' := by
  cases h0 : tokB t
  · have HV : Hid (spokeV t = -1) := spoke_f h0
    go_enter Try.func55, Try.ntmps55
    go_wp2_with (go_at_call 53; refine (specTickOk_any _ _).mono ?_; rintro e w' ⟨rfl, rfl⟩)
    go_ret
    exact ⟨ret_int HV.out.symm, rfl⟩
  · have HV : Hid (spokeV t = t % 8) := spoke_t h0
    have b := tok_t h0
    go_enter Try.func55, Try.ntmps55
    go_wp2_with (go_at_call 53; refine (specTickOk_any _ _).mono ?_; rintro e w' ⟨rfl, rfl⟩)
    go_ret
    exact ⟨ret_int HV.out.symm, rfl⟩

end Go.Proofs.Ytpghccbknlokcaa.Spoke
