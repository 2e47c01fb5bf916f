/-
  WHAT A PLAN KEEPS TO, on numbers: never more than the ceiling where there were not ahead, nor fewer available than the floor.
-/
import Derived.Test.YtlghdmakaocokaaCnt
namespace Go.Proofs.Ytlghdmakaocokaa.Cnt
open Go.Proofs.Ytlghdmakaocokaa.Sp
open Go.Proofs.Ytlghdmakaocokaa.Tick (inB in_t)
set_option linter.unusedVariables false
theorem planB_t {x0 x1 x2 x3 x4 x5 x6 x7 x8 x9 x10 fl fa ol oa go li : Int} (h : planB x0 x1 x2 x3 x4 x5 x6 x7 x8 x9 x10 fl fa ol oa go li = true) :
    specB x0 x1 x2 x3 x4 x5 x6 x7 x8 x9 x10 = true ∧ (0 ≤ fl ∧ fl ≤ 30 ∧ 0 ≤ fa ∧ fa ≤ fl) ∧ (0 ≤ ol ∧ ol ≤ 30 ∧ 0 ≤ oa ∧ oa ≤ ol) ∧ (0 ≤ go ∧ go ≤ 30) ∧ (0 ≤ li ∧ li ≤ x0) := by
  simp only [planB, Bool.and_eq_true] at h
  obtain ⟨⟨⟨⟨h1, h2⟩, h3⟩, h4⟩, h5⟩ := h
  have a2 := countB_t h2
  have a3 := countB_t h3
  have a4 := in_t h4
  have a5 := in_t h5
  exact ⟨h1, by omega, by omega, by omega, by omega⟩
theorem plan_bd {x0 x1 x2 x3 x4 x5 x6 x7 x8 x9 x10 fl fa ol oa go li : Int} (h : planB x0 x1 x2 x3 x4 x5 x6 x7 x8 x9 x10 fl fa ol oa go li = true) :
    (0 ≤ crV x0 x1 fl ol go li ∧ crV x0 x1 fl ol go li ≤ 30) ∧ (0 ≤ drV x0 ol oa li ∧ drV x0 ol oa li ≤ ol - oa) ∧ (0 ≤ daV x0 x2 fa ol oa li ∧ daV x0 x2 fa ol oa li ≤ oa) ∧ (0 ≤ dfV x0 fl ∧ dfV x0 fl ≤ fl) := by
  obtain ⟨hs, h1, h2, h3, h4⟩ := planB_t h
  have hb := specB_t hs
  have hr : 0 ≤ roV x0 ol li ∧ roV x0 ol li ≤ ol := by unfold roV; split <;> omega
  unfold crV daV drV spV dfV
  omega
theorem plan_ceil {x0 x1 x2 x3 x4 x5 x6 x7 x8 x9 x10 fl fa ol oa go li : Int} (h : planB x0 x1 x2 x3 x4 x5 x6 x7 x8 x9 x10 fl fa ol oa go li = true) (hc : fl + ol + go ≤ x0 + x1) : fl + ol + go + crV x0 x1 fl ol go li ≤ x0 + x1 := by
  obtain ⟨hs, h1, h2, h3, h4⟩ := planB_t h
  unfold crV
  omega
/-- How many available ones a plan costs. -/
def lossV (x0 x2 fl fa ol oa li : Int) : Int := if fl - fa < dfV x0 fl then daV x0 x2 fa ol oa li + dfV x0 fl - (fl - fa) else daV x0 x2 fa ol oa li
theorem plan_floor {x0 x1 x2 x3 x4 x5 x6 x7 x8 x9 x10 fl fa ol oa go li : Int} (h : planB x0 x1 x2 x3 x4 x5 x6 x7 x8 x9 x10 fl fa ol oa go li = true) : fa + oa < x0 - x2 ∨ x0 - x2 ≤ fa + oa - lossV x0 x2 fl fa ol oa li := by
  obtain ⟨hs, h1, h2, h3, h4⟩ := planB_t h
  have hb := specB_t hs
  have hr : 0 ≤ roV x0 ol li ∧ roV x0 ol li ≤ ol := by unfold roV; split <;> omega
  unfold lossV daV drV spV dfV
  split <;> omega
end Go.Proofs.Ytlghdmakaocokaa.Cnt
