/-
  THE MODEL'S l05At and l05Copy over this seat's translation.
-/
import Derived.Test.YtcedgjglpjgehaaFleetSpec
import Derived.StillTailTactics
import Derived.Deep.RegionLaw
namespace Go.Proofs.Ytcedgjglpjgehaa.FleetSpec
open Go.ChangeShapes Go.WideShapes Go.ChangeAt Go.RowKit
open Go.Proofs.Ytcedgjglpjgehaa.LK Go.Proofs.Ytcedgjglpjgehaa.Pods Go.Proofs.Ytcedgjglpjgehaa.FleetV
open Go.Proofs.Ytcedgjglpjgehaa.Ints (below_drewN)
set_option linter.unusedVariables false

/-- The place of the pod of that number, or -1. -/
def atP (ps : PList) (k : Int) : Int := match ps.findIdx? (fun p => decide (p.1 = k)) with | some j => j | none => -1
theorem at_none {ps : PList} {k : Int} (h : ∀ j, j < ps.length → (ps.getD j z5).1 ≠ k) : atP ps k = -1 := by
  have e : ps.findIdx? (fun p => decide (p.1 = k)) = none := by
    rw [List.findIdx?_eq_none_iff]
    intro p hp
    obtain ⟨j, hj, rfl⟩ := List.mem_iff_getElem.1 hp
    have := h j hj
    simpa [List.getD, hj] using this
  simp [atP, e]
theorem at_some {ps : PList} {k : Int} {j : Nat} (hj : j < ps.length) (he : (ps.getD j z5).1 = k) (h : ∀ i, i < j → (ps.getD i z5).1 ≠ k) : atP ps k = j := by
  have e : ps.findIdx? (fun p => decide (p.1 = k)) = some j := by
    rw [List.findIdx?_eq_some_iff_getElem]
    refine ⟨hj, by simpa [List.getD, hj] using he, fun i hi => ?_⟩
    have := h i hi
    simpa [List.getD, show i < ps.length by omega] using this
  simp [atP, e]
theorem at_cases (ps : PList) (k : Int) : (atP ps k = -1 ∧ fndP ps k = none) ∨ ∃ j, j < ps.length ∧ atP ps k = j ∧ fndP ps k = some (ps.getD j z5) ∧ (ps.getD j z5).1 = k := by
  cases e : ps.findIdx? (fun p => decide (p.1 = k)) with
  | none =>
    refine .inl ⟨by simp [atP, e], ?_⟩
    unfold fndP
    rw [List.find?_eq_none]
    rw [List.findIdx?_eq_none_iff] at e
    intro p hp
    have := e p hp
    simpa using this
  | some j =>
    have e2 := e
    rw [List.findIdx?_eq_some_iff_getElem] at e
    obtain ⟨hj, h1, h2⟩ := e
    have hg : ps.getD j z5 = ps[j] := by simp [List.getD, hj]
    refine .inr ⟨j, hj, by simp [atP, e2], ?_, by rw [hg]; simpa using h1⟩
    unfold fndP
    rw [List.find?_eq_some_iff_getElem, hg]
    exact ⟨h1, j, hj, rfl, fun i hi => by have := h2 i hi; simpa using this⟩
end Go.Proofs.Ytcedgjglpjgehaa.FleetSpec
