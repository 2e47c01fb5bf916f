/-
  CONTRACTS of chapter 1's functions, the program's and the model's, over this seat's translation: what each answers, at every argument; the world is left as it was.
-/
import Derived.Test.YtlghdmakaocokaaGreatDoorRows
import Derived.WalkKit
import Derived.ProofKit
import Derived.OpenShut
namespace Go.Proofs.YtlghdmakaocokaaGreatDoor.Tick
open Go.ChangeShapes Go.WideShapes Go.ChangeAt Go.RowKit
set_option linter.unusedVariables false

def inB (x lo hi : Int) : Bool := decide (lo ≤ x) && decide (x ≤ hi)
def tokB (t : Int) : Bool := decide (0 ≤ t) && decide (t ≤ 1000000000)
def addV (t d : Int) : Int := if tokB t && inB d (-1000000000) 1000000000 then max 0 (min 1000000000 (t + d)) else -1
def sinceV (a b : Int) : Int := if tokB a && tokB b then max 0 (b - a) else -1
def dueB (a d n : Int) : Bool := tokB a && tokB d && tokB n && decide (0 < d) && decide (addV a d ≤ n)

theorem tok_t {t : Int} (h : tokB t = true) : 0 ≤ t ∧ t ≤ 1000000000 := by simpa [tokB] using h
theorem tok_f {t : Int} (h : tokB t = false) : t < 0 ∨ 1000000000 < t := by
  have h' : ¬ (0 ≤ t ∧ t ≤ 1000000000) := by intro c; simp [tokB, c] at h
  omega
theorem in_t {x lo hi : Int} (h : inB x lo hi = true) : lo ≤ x ∧ x ≤ hi := by simpa [inB] using h
theorem in_f {x lo hi : Int} (h : inB x lo hi = false) : x < lo ∨ hi < x := by
  have h' : ¬ (lo ≤ x ∧ x ≤ hi) := by intro c; simp [inB, c] at h
  omega
theorem addV_bd (t d : Int) : -1 ≤ addV t d ∧ addV t d ≤ 1000000000 := by unfold addV; split <;> omega
theorem addV_ok {t d : Int} (h : tokB t = true) (h2 : inB d (-1000000000) 1000000000 = true) : addV t d = max 0 (min 1000000000 (t + d)) := by simp [addV, h, h2]

set_option maxHeartbeats 400000 in
theorem l01In_any (x lo hi : Int) (w : World) :
    Calls Tryz.prog 38 #[.int .i64 x, .int .i64 lo, .int .i64 hi] w fun e w' => e = .returned (.bool (inB x lo hi)) ∧ w = w' := by
  by_cases h0 : lo ≤ x <;> by_cases h1 : x ≤ hi
  all_goals
    go_enter Tryz.func38, Tryz.ntmps38
    go_wp2
    go_ret
    exact ⟨by simp [inB, h0, h1], rfl⟩

theorem specTickOk_any (t : Int) (w : World) :
    Calls Tryz.prog 37 #[.int .i64 t] w fun e w' => e = .returned (.bool (tokB t)) ∧ w = w' := by
  go_enter Tryz.func37, Tryz.ntmps37
  go_wp2_with (go_at_call 38; refine (l01In_any _ _ _ _).mono ?_; rintro e w' ⟨rfl, rfl⟩)
  go_ret
  exact ⟨rfl, rfl⟩

theorem ok_any (t : Int) (w : World) :
    Calls Tryz.prog 53 #[.int .i64 t] w fun e w' => e = .returned (.bool (tokB t)) ∧ w = w' := by
  by_cases h0 : 0 ≤ t <;> by_cases h1 : t ≤ 1000000000
  all_goals
    go_enter Tryz.func53, Tryz.ntmps53
    go_wp2
    go_ret
    exact ⟨by simp [tokB, h0, h1], rfl⟩

theorem tickOk_any (t : Int) (w : World) :
    Calls Tryz.prog 43 #[.int .i64 t] w fun e w' => e = .returned (.bool (tokB t)) ∧ w = w' := by
  go_enter Tryz.func43, Tryz.ntmps43
  go_wp2_with (go_at_call 53; refine (ok_any _ _).mono ?_; rintro e w' ⟨rfl, rfl⟩)
  go_ret
  exact ⟨rfl, rfl⟩

theorem ret_bool {a b : Bool} (h : a = b) : Ending.returned (.bool a) = .returned (.bool b) := by rw [h]
theorem ret_int {k : IntKind} {a b : Int} (h : a = b) : Ending.returned (.int k a) = .returned (.int k b) := by rw [h]




set_option maxHeartbeats 800000 in
theorem since_any (t from0 : Int) (w : World) :
    Calls Tryz.prog 73 #[.int .i64 t, .int .i64 from0] w fun e w' => e = .returned (.int .i64 (sinceV from0 t)) ∧ w = w' := by
  cases h0 : tokB t <;> cases h1 : tokB from0
  · have HV : Hid (sinceV from0 t = -1) := (by simp [sinceV, h1] : sinceV from0 t = -1)
    go_enter Tryz.func73, Tryz.ntmps73
    go_wp2_with (go_at_call 53; refine (ok_any _ _).mono ?_; rintro e w' ⟨rfl, rfl⟩)
    go_ret
    exact ⟨ret_int HV.out.symm, rfl⟩
  · have HV : Hid (sinceV from0 t = -1) := (by simp [sinceV, h0] : sinceV from0 t = -1)
    go_enter Tryz.func73, Tryz.ntmps73
    go_wp2_with (go_at_call 53; refine (ok_any _ _).mono ?_; rintro e w' ⟨rfl, rfl⟩)
    go_ret
    exact ⟨ret_int HV.out.symm, rfl⟩
  · have HV : Hid (sinceV from0 t = -1) := (by simp [sinceV, h1] : sinceV from0 t = -1)
    go_enter Tryz.func73, Tryz.ntmps73
    go_wp2_with (go_at_call 53; refine (ok_any _ _).mono ?_; rintro e w' ⟨rfl, rfl⟩)
    go_ret
    exact ⟨ret_int HV.out.symm, rfl⟩
  · have HV : Hid (sinceV from0 t = max 0 (t - from0)) := (by simp [sinceV, h0, h1] : sinceV from0 t = max 0 (t - from0))
    have b0 := tok_t h0
    have b1 := tok_t h1
    go_enter Tryz.func73, Tryz.ntmps73
    go_wp2_with (go_at_call 53; refine (ok_any _ _).mono ?_; rintro e w' ⟨rfl, rfl⟩)
    all_goals
      go_ret
      exact ⟨ret_int (by rw [HV.out]; omega), rfl⟩

theorem sinceI_any (a b : Int) (w : World) :
    Calls Tryz.prog 64 #[.int .i64 a, .int .i64 b] w fun e w' => e = .returned (.int .i64 (sinceV a b)) ∧ w = w' := by
  go_enter Tryz.func64, Tryz.ntmps64
  go_wp2_with (go_at_call 73; refine (since_any _ _ _).mono ?_; rintro e w' ⟨rfl, rfl⟩)
  go_ret
  exact ⟨rfl, rfl⟩


end Go.Proofs.YtlghdmakaocokaaGreatDoor.Tick
