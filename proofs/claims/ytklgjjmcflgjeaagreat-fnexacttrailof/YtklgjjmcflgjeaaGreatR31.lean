import Derived.Test.YtklgjjmcflgjeaaGreatR29
import Derived.Test.YtklgjjmcflgjeaaGreatR30
set_option linter.unusedVariables false
set_option linter.unusedSimpArgs false
namespace Go.Proofs.YtklgjjmcflgjeaaGreat.Play
open Go.ChangeShapes Go.WideShapes Go.ChangeAt Go.RowKit
open LK Pods EngV EngTy Eng EngInv
open Tick (inB in_t tokB)
def run0 (s : Spc) (rev : Int) : Run := { e := newE s rev, ev := [] }
theorem gd_run0 {s : Spc} {rev : Int} (h : newB s rev = true) : Gd (run0 s rev) (run0 s rev).e.sp.x4 := by
  simp only [newB, Bool.and_eq_true] at h
  have hr := in_t h.2
  have hs := sp4 h.1
  exact ⟨h.1, ⟨Nat.zero_le _, ⟨show (1 : Int) ≤ 1 by decide, show (1 : Int) ≤ 1000000000 by decide⟩, (fun p hp => absurd hp (List.not_mem_nil (a := p))), (show FleetV.Asc [] by decide)⟩, (show tokB 0 = true from rfl), (show tokB 0 = true from rfl), (show tokB 0 = true from rfl), by show (0 : Int) ≤ 0 ∧ (0 : Int) ≤ 3; omega, hr, hr, by show (0 : Int) ≤ 0 ∧ (0 : Int) ≤ 200; omega, fun _ => by show (0 : Int) ≤ _; exact hs.1⟩
theorem play_snoc (l : List Op4) (o : Op4) (r : Run) : r.play (l ++ [o]) = (((r.play l).1.step o).1, (r.play l).2 ++ [((r.play l).1.step o).2]) := by
  induction l generalizing r with
  | nil => rfl
  | cons x l ih => simp only [List.cons_append, Run.play, ih]
theorem play_keep (l : List Op4) (r : Run) (h : Gd r r.e.sp.x4) (hn : r.ev.length + 1400 * l.length ≤ 600000) : Gd (r.play l).1 (r.play l).1.e.sp.x4 ∧ (r.play l).1.ev.length ≤ r.ev.length + 1400 * l.length ∧ (r.play l).2.length = l.length := by
  induction l generalizing r with
  | nil => exact ⟨h, Nat.le_refl _, rfl⟩
  | cons o l ih =>
    simp only [List.length_cons] at hn
    obtain ⟨g, k⟩ := step_all h (by omega) o
    obtain ⟨h1, h2, h3⟩ := ih (r.step o).1 g (by omega)
    refine ⟨h1, ?_, ?_⟩
    · show ((r.step o).1.play l).1.ev.length ≤ _
      simp only [List.length_cons]
      omega
    · show (((r.step o).1.play l).2).length + 1 = _
      rw [h3]; rfl
theorem take_get {l : List Op4} {k : Nat} (h : k < l.length) : l.take (k + 1) = l.take k ++ [l.getD k Ops.z] := by
  rw [List.take_succ_eq_append_getElem h]; simp [List.getD, h]
def runK (s : Spc) (rev : Int) (ops : Ops.L) (k : Nat) : Run := ((run0 s rev).play (ops.take k)).1
def codeK (s : Spc) (rev : Int) (ops : Ops.L) (k : Nat) : List Int := ((run0 s rev).play (ops.take k)).2
section
variable {s : Spc} {rev : Int} {ops : Ops.L} {k : Nat}
theorem runK_zero : runK s rev ops 0 = run0 s rev := by simp [runK, Run.play]
theorem runK_succ (h : k < ops.length) : runK s rev ops (k + 1) = ((runK s rev ops k).step (ops.getD k Ops.z)).1 := by
  unfold runK; rw [take_get h, play_snoc]
theorem runK_keep (hb : newB s rev = true) (hk : k ≤ 200) (hl : k ≤ ops.length) : Gd (runK s rev ops k) (runK s rev ops k).e.sp.x4 ∧ (runK s rev ops k).ev.length ≤ 280000 ∧ (codeK s rev ops k).length = k := by
  have ht : (ops.take k).length = k := by rw [List.length_take]; omega
  obtain ⟨a, b, c⟩ := play_keep (ops.take k) (run0 s rev) (gd_run0 hb) (by rw [ht]; show 0 + _ ≤ _; omega)
  rw [ht] at b c
  exact ⟨a, by show ((run0 s rev).play (ops.take k)).1.ev.length ≤ _; have : (run0 s rev).ev.length = 0 := rfl; omega, c⟩
end
def okP (s : Spc) (rev : Int) (ops : Ops.L) : Bool := newB s rev && decide (ops.length ≤ 200)
end Go.Proofs.YtklgjjmcflgjeaaGreat.Play
