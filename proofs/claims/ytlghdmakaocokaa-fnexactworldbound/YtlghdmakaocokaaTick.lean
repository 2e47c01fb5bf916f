/-
  CONTRACTS of chapter 1's functions, the program's and the model's, over this seat's translation: what each answers, at every argument; the world is left as it was.
-/
import Derived.Test.YtlghdmakaocokaaRows
import Derived.WalkKit
import Derived.ProofKit
import Derived.OpenShut
namespace Go.Proofs.Ytlghdmakaocokaa.Tick
open Go.ChangeShapes Go.WideShapes Go.ChangeAt Go.RowKit
set_option linter.unusedVariables false

def inB (x lo hi : Int) : Bool := decide (lo ≤ x) && decide (x ≤ hi)
def tokB (t : Int) : Bool := decide (0 ≤ t) && decide (t ≤ 1000000000)
def addV (t d : Int) : Int := if tokB t && inB d (-1000000000) 1000000000 then max 0 (min 1000000000 (t + d)) else -1
def sinceV (a b : Int) : Int := if tokB a && tokB b then max 0 (b - a) else -1
def dueB (a d n : Int) : Bool := tokB a && tokB d && tokB n && decide (0 < d) && decide (addV a d ≤ n)

theorem tok_t {t : Int} (h : tokB t = true) : 0 ≤ t ∧ t ≤ 1000000000 := by simpa [tokB] using h
theorem tok_f {t : Int} (h : tokB t = false) : t < 0 ∨ 1000000000 < t := by
  have h' : ¬ (0 ≤ t ∧ t ≤ 1000000000) := by intro c; simp [tokB, c] at h
  omega
theorem in_t {x lo hi : Int} (h : inB x lo hi = true) : lo ≤ x ∧ x ≤ hi := by simpa [inB] using h
theorem in_f {x lo hi : Int} (h : inB x lo hi = false) : x < lo ∨ hi < x := by
  have h' : ¬ (lo ≤ x ∧ x ≤ hi) := by intro c; simp [inB, c] at h
  omega
theorem addV_bd (t d : Int) : -1 ≤ addV t d ∧ addV t d ≤ 1000000000 := by unfold addV; split <;> omega
theorem addV_ok {t d : Int} (h : tokB t = true) (h2 : inB d (-1000000000) 1000000000 = true) : addV t d = max 0 (min 1000000000 (t + d)) := by simp [addV, h, h2]

set_option maxHeartbeats 400000 in
theorem l01In_any (x lo hi : Int) (w : World) :
    Calls Try.prog 17 #[.int .i64 x, .int .i64 lo, .int .i64 hi] w fun e w' => e = .returned (.bool (inB x lo hi)) ∧ w = w' := by
  by_cases h0 : lo ≤ x <;> by_cases h1 : x ≤ hi
  all_goals
    go_enter Try.func17, Try.ntmps17
    go_wp2
    go_ret
    exact ⟨by simp [inB, h0, h1], rfl⟩




theorem ret_bool {a b : Bool} (h : a = b) : Ending.returned (.bool a) = .returned (.bool b) := by rw [h]
theorem ret_int {k : IntKind} {a b : Int} (h : a = b) : Ending.returned (.int k a) = .returned (.int k b) := by rw [h]







end Go.Proofs.Ytlghdmakaocokaa.Tick
