/-
  COUNTS OF AN ENGINE's PODS, as values: of the Target and of others, available and going; what they add up to; Settled.
-/
import Derived.Test.YtdefckbgcggnoaaGreatEngV
import Derived.Test.YtdefckbgcggnoaaGreatCountP
import Derived.Test.YtdefckbgcggnoaaGreatFleetCount
import Derived.Test.YtdefckbgcggnoaaGreatAv
namespace Go.Proofs.YtdefckbgcggnoaaGreat.EngCnt
open Go.Proofs.YtdefckbgcggnoaaGreat.Tick (inB tokB sinceV in_t tok_t)
open Go.Proofs.YtdefckbgcggnoaaGreat.Pods
open Go.Proofs.YtdefckbgcggnoaaGreat.FleetV hiding goodB
open Go.Proofs.YtdefckbgcggnoaaGreat.EngV
open Go.Proofs.YtdefckbgcggnoaaGreat.CountI (cntF selB liveB goodB)
set_option linter.unusedVariables false

theorem cnt_cons (f : Pd → Bool) (p : Pd) (ps : PList) : cntF f (p :: ps) = (if f p then 1 else 0) + cntF f ps := by
  simp only [cntF, List.filter_cons]
  split <;> simp <;> omega
theorem cnt_le {f g : Pd → Bool} (h : ∀ p, f p = true → g p = true) (ps : PList) : cntF f ps ≤ cntF g ps := by
  induction ps with
  | nil => exact Nat.le_refl _
  | cons p ps ih =>
    rw [cnt_cons, cnt_cons]
    have := h p
    cases hf : f p <;> cases hg : g p <;> simp_all <;> omega
theorem cnt_all (f : Pd → Bool) (ps : PList) : cntF f ps ≤ ps.length := List.length_filter_le _ _
theorem cnt_same {f g : Pd → Bool} {ps : PList} (h : ∀ p ∈ ps, f p = g p) : cntF f ps = cntF g ps := by
  have e : ps.filter f = ps.filter g := List.filter_congr h
  simp only [cntF]
  rw [e]
def goB (p : Pd) : Bool := p.2.2.1 == 4
def live (e : Eng) (oth : Bool) : Nat := cntF (liveB oth e.tg) e.ps
def good (e : Eng) (oth : Bool) : Nat := cntF (goodB e.sp.x0 e.sp.x1 e.sp.x2 e.sp.x3 e.sp.x4 e.sp.x5 e.sp.x6 e.sp.x7 e.sp.x8 e.sp.x9 e.sp.x10 oth e.tg e.now) e.ps
def going (e : Eng) : Nat := cntF goB e.ps
theorem part_any (tg : Int) : ∀ ps : PList, cntF (liveB false tg) ps + cntF (liveB true tg) ps + cntF goB ps = ps.length
  | [] => rfl
  | p :: ps => by
    have ih := part_any tg ps
    simp only [cnt_cons, List.length_cons]
    have h : (if liveB false tg p then 1 else 0) + (if liveB true tg p then 1 else 0) + (if goB p then 1 else 0) = (1 : Nat) := by
      simp only [liveB, selB, goB]
      by_cases h1 : p.2.1 = tg <;> by_cases h2 : p.2.2.1 = 4 <;> simp [h1, h2]
    omega
theorem part (e : Eng) : live e false + live e true + going e = e.ps.length := part_any e.tg e.ps
theorem good_le (e : Eng) (oth : Bool) : good e oth ≤ live e oth := cnt_le (fun p h => by simp only [goodB, Bool.and_eq_true] at h; exact h.1) e.ps
theorem live_le (e : Eng) (oth : Bool) : live e oth ≤ e.ps.length := cnt_all _ _
theorem going_eq {e : Eng} (h : FGood e.ps e.nx) : Crew.countV (e.ps, e.nx) 0 4 = going e := by
  simp only [Crew.countV]
  rw [if_pos h]
  have hm : Crew.matB 0 4 = goB := by funext p; simp [Crew.matB, goB]
  simp only [Crew.cntV, going, cntF, hm]
theorem okB_t {e : Eng} (h : e.okB = true) : e.sp.ok = true ∧ FGood e.ps e.nx ∧ tokB e.now = true ∧ tokB e.st = true ∧ tokB e.wt = true ∧ (0 ≤ e.ph ∧ e.ph ≤ 3) ∧ (1 ≤ e.tg ∧ e.tg ≤ 1000) ∧ (1 ≤ e.gd ∧ e.gd ≤ 1000) ∧ 0 ≤ e.tr ∧ e.tr ≤ 200 := by
  simp only [Eng.okB, Bool.and_eq_true, decide_eq_true_eq] at h
  obtain ⟨⟨⟨⟨⟨⟨⟨⟨h1, h2⟩, h3⟩, h4⟩, h5⟩, h6⟩, h7⟩, h8⟩, h9⟩ := h
  exact ⟨h1, h2, h3, h4, h5, in_t h6, in_t h7, in_t h8, in_t h9⟩
theorem avail_eq {e : Eng} (h : e.okB = true) : Av.availV e.sp.x0 e.sp.x1 e.sp.x2 e.sp.x3 e.sp.x4 e.sp.x5 e.sp.x6 e.sp.x7 e.sp.x8 e.sp.x9 e.sp.x10 e.tg e.now (e.ps, e.nx) = good e false := by
  obtain ⟨_, hg, _, _, _, _, htg, _⟩ := okB_t h
  simp only [Av.availV]
  rw [if_pos hg]
  have hc : ∀ p, Av.avB e.sp.x0 e.sp.x1 e.sp.x2 e.sp.x3 e.sp.x4 e.sp.x5 e.sp.x6 e.sp.x7 e.sp.x8 e.sp.x9 e.sp.x10 e.tg e.now p = goodB e.sp.x0 e.sp.x1 e.sp.x2 e.sp.x3 e.sp.x4 e.sp.x5 e.sp.x6 e.sp.x7 e.sp.x8 e.sp.x9 e.sp.x10 false e.tg e.now p := by
    intro p
    have h0 : (e.tg == 0) = false := by simp; omega
    simp only [Av.avB, goodB, liveB, selB, Hl.availB, h0]
    by_cases h1 : p.2.1 = e.tg <;> by_cases h2 : p.2.2.1 = 2 <;> simp [h1, h2]
  have e1 : e.ps.filter (Av.avB e.sp.x0 e.sp.x1 e.sp.x2 e.sp.x3 e.sp.x4 e.sp.x5 e.sp.x6 e.sp.x7 e.sp.x8 e.sp.x9 e.sp.x10 e.tg e.now) = e.ps.filter (goodB e.sp.x0 e.sp.x1 e.sp.x2 e.sp.x3 e.sp.x4 e.sp.x5 e.sp.x6 e.sp.x7 e.sp.x8 e.sp.x9 e.sp.x10 false e.tg e.now) := List.filter_congr fun p _ => hc p
  simp only [Av.cntF, good, cntF, e1]
/-- Settled. -/
def setB (e : Eng) : Bool := e.okB && !mvB e.ph && (decide ((e.ps.length : Int) = e.sp.x0) && decide ((good e false : Int) = e.sp.x0))
theorem cab_ok {e : Eng} (h : e.okB = true) : CountP.cabB e.sp.x0 e.sp.x1 e.sp.x2 e.sp.x3 e.sp.x4 e.sp.x5 e.sp.x6 e.sp.x7 e.sp.x8 e.sp.x9 e.sp.x10 e.tg e.now e.ps e.nx = true := by
  obtain ⟨h1, h2, h3, _, _, _, htg, _⟩ := okB_t h
  have h1' : Sp.specB e.sp.x0 e.sp.x1 e.sp.x2 e.sp.x3 e.sp.x4 e.sp.x5 e.sp.x6 e.sp.x7 e.sp.x8 e.sp.x9 e.sp.x10 = true := h1
  simp [CountP.cabB, h1', h2, h3, inB, htg]
theorem over_eq {e : Eng} (h : e.okB = true) : Cnt.overB e.sp.x0 e.sp.x1 e.sp.x2 e.sp.x3 e.sp.x4 e.sp.x5 e.sp.x6 e.sp.x7 e.sp.x8 e.sp.x9 e.sp.x10 (live e false) (good e false) (live e true) (good e true) (going e) = (decide ((e.ps.length : Int) = e.sp.x0) && decide ((good e false : Int) = e.sp.x0)) := by
  obtain ⟨h1, h2, _⟩ := okB_t h
  have h1' : Sp.specB e.sp.x0 e.sp.x1 e.sp.x2 e.sp.x3 e.sp.x4 e.sp.x5 e.sp.x6 e.sp.x7 e.sp.x8 e.sp.x9 e.sp.x10 = true := h1
  have hp := part e
  have g0 := good_le e false
  have g1 := good_le e true
  have hl := h2.1
  have c0 : Cnt.countB (live e false) (good e false) = true := by simp [Cnt.countB, inB]; omega
  have c1 : Cnt.countB (live e true) (good e true) = true := by simp [Cnt.countB, inB]; omega
  simp only [Cnt.overB, h1', c0, c1, Bool.true_and]
  rw [Bool.eq_iff_iff]
  simp only [Bool.and_eq_true, decide_eq_true_eq]
  omega
end Go.Proofs.YtdefckbgcggnoaaGreat.EngCnt
