/-
  THE SOONEST TICK does not hang on the order of the list.
-/
import Derived.Test.YtpghccbknlokcaaPairs
namespace Go.Proofs.Ytpghccbknlokcaa.WheelOk
open Go.ChangeShapes Go.WideShapes Go.ChangeAt Go.RowKit Go.Shelf
open Go.Proofs.Ytpghccbknlokcaa.Timers Go.Proofs.Ytpghccbknlokcaa.Ring Go.Proofs.Ytpghccbknlokcaa.Has
open Go.Proofs.Ytpghccbknlokcaa.Tick (tokB tok_t inB)
open Go.Proofs.Ytpghccbknlokcaa.TickList (soonF stepV)
set_option linter.unusedVariables false
set_option linter.unusedSimpArgs false

theorem step_no {b x : Int} (h : tokB x = false) : stepV b x = b := by unfold stepV; rw [h]; rfl
theorem step_yes {b x : Int} (h : tokB x = true) : stepV b x = if b < 0 ∨ x < b then x else b := by
  unfold stepV
  rw [h, Bool.true_and]
  by_cases h1 : b < 0
  · simp [h1]
  · by_cases h2 : x < b <;> simp [h1, h2]
theorem step_swap (b x y : Int) : stepV (stepV b x) y = stepV (stepV b y) x := by
  cases hx : tokB x
  · rw [step_no hx, step_no hx]
  · cases hy : tokB y
    · rw [step_no hy, step_no hy]
    · have h1 := tok_t hx
      have h2 := tok_t hy
      rw [step_yes hx, step_yes hy, step_yes hy, step_yes hx]
      repeat' split
      all_goals omega
theorem soon_fold {l1 l2 : List Int} (h : l1.Perm l2) : ∀ b : Int, l1.foldl stepV b = l2.foldl stepV b := by
  induction h with
  | nil => intro b; rfl
  | cons x _ ih => intro b; exact ih _
  | swap x y l => intro b; simp only [List.foldl_cons]; rw [step_swap]
  | trans _ _ ih1 ih2 => intro b; rw [ih1, ih2]
theorem soon_held {ss : List TList} {ps : TList} (h : Held ss ps) : soonF (ss.flatten.map Prod.snd) = soonF (ps.map Prod.snd) := soon_fold ((held_flat h).map _) _
end Go.Proofs.Ytpghccbknlokcaa.WheelOk
