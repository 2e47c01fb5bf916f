/-
  WHAT A PLAY KEEPS, as values: a good engine stays good through an act and through an op; how many events there are.
-/
import Derived.Test.YtdefckbgcggnoaaGreatMachY
import Derived.Test.YtdefckbgcggnoaaGreatEngKeep
namespace Go.Proofs.YtdefckbgcggnoaaGreat.EngInv
open Go.Proofs.YtdefckbgcggnoaaGreat.Tick (inB in_t tokB tok_t sinceV)
open Go.Proofs.YtdefckbgcggnoaaGreat.Pods
open Go.Proofs.YtdefckbgcggnoaaGreat.FleetV hiding goodB
open Go.Proofs.YtdefckbgcggnoaaGreat.EngV Go.Proofs.YtdefckbgcggnoaaGreat.Eng
open Go.Proofs.YtdefckbgcggnoaaGreat.EngCnt (live good going okB_t)
open Go.Proofs.YtdefckbgcggnoaaGreat.Crew (goD goP addD takeD takeV)
open Go.Proofs.YtdefckbgcggnoaaGreat.Mach (IdsOk ActOk)
set_option linter.unusedVariables false

theorem ids_of {ps : PList} {nx : Int} (h : FGood ps nx) : IdsOk ps := fun p hp => Crew.id_wf (by have := (h.2.2.1 p hp).1.1; omega)
theorem sp4 {s : Spc} (h : s.ok = true) : 0 ≤ s.x4 ∧ s.x4 ≤ 20 := (Sp.specB_t h).2.2.2.2.2.1
theorem act_all {r : Run} (h : Gd r r.e.sp.x4) (hn : r.ev.length ≤ 700000) : (r.e.ph ≠ 3 → ActOk r) ∧ Gd r.act r.act.e.sp.x4 ∧ r.act.ev.length ≤ r.ev.length + 1300 ∧ r.act.e.sp = r.e.sp := by
  have hs := sp4 h.sp
  have hl := h.fl.1
  obtain ⟨a1, b1, c1⟩ := loseAll_all r.e.ps r
  have g1 : Gd r.giveUp (r.e.sp.x4 + r.e.ps.length) := c1 r.e.sp.x4 (by omega) h
  have a1 : Kp r r.giveUp r.e.ps.length := a1
  have b1 : r.giveUp.e.ps.length = r.e.ps.length := b1
  have a2 := stuck_kp r.giveUp
  have g2 := stuck_gd g1
  have b2 := stuck_ps r.giveUp
  obtain ⟨g3, l3, p3, s3⟩ := judge_all g2
  have l1 := a1.ev
  have l2 := a2.ev
  have hsp : r.giveUp.tellStuck.judge.e.sp = r.e.sp := s3.trans (a2.sp.trans a1.sp)
  have hpl : r.giveUp.tellStuck.judge.e.ps.length = r.e.ps.length := by rw [p3, b2, b1]
  have pb := Mach.plan_bd g3.ok
  obtain ⟨a4, t4, o4⟩ := carry_all r.giveUp.tellStuck.judge (plCr r.giveUp.tellStuck.judge.e) (plDr r.giveUp.tellStuck.judge.e) (plDa r.giveUp.tellStuck.judge.e) (plDf r.giveUp.tellStuck.judge.e) pb.1.2 (by omega)
  have a4 : Kp r.giveUp.tellStuck.judge r.giveUp.tellStuck.judge.plan 1120 := a4
  have t4 : r.giveUp.tellStuck.judge.plan.e.tr = r.giveUp.tellStuck.judge.e.tr := t4
  have o4 : r.giveUp.tellStuck.judge.plan.e.okB = true := o4 g3.ok
  have l4 := a4.ev
  have g4 : Gd r.giveUp.tellStuck.judge.plan r.e.sp.x4 := gd_of o4 (fun hm => by rw [t4, ← hsp]; exact g3.t1 (by rw [← a4.ph]; exact hm))
  obtain ⟨g5, l5⟩ := over_all g4
  have s5 : r.giveUp.tellStuck.judge.plan.over.e.sp = r.giveUp.tellStuck.judge.plan.e.sp := by
    unfold Run.over Run.makeGood
    split
    · split
      · split <;> rfl
      · split <;> rfl
    · rfl
  refine ⟨fun _ => ⟨hn, by omega, ⟨h.t0.1, by have := h.t0.2; omega⟩, ids_of h.fl, by omega, by omega, by omega, by omega, fun _ => g3.ok, by omega, ids_of g3.fl, fun _ => by omega, fun _ => o4⟩, ?_⟩
  unfold Run.act
  split
  · exact ⟨h, by omega, rfl⟩
  · simp only []
    split
    · exact ⟨g3, by omega, hsp⟩
    · have e : r.giveUp.tellStuck.judge.plan.over.e.sp = r.e.sp := s5.trans (a4.sp.trans hsp)
      refine ⟨?_, by omega, e⟩
      rw [e]; exact g5
/-- What an op leaves. -/
theorem step_all {r : Run} (h : Gd r r.e.sp.x4) (hn : r.ev.length ≤ 600000) (o : Op4) : Gd (r.step o).1 (r.step o).1.e.sp.x4 ∧ (r.step o).1.ev.length ≤ r.ev.length + 1400 := by
  unfold Run.step
  split
  · split
    · rename_i hb
      have hb := in_t hb
      obtain ⟨_, g, l, _⟩ := act_all (r := ({ r with e := { r.e with now := Tick.addV r.e.now o.2.1 } } : Run)) ⟨h.sp, h.fl, addV_tok h.now (by omega), h.st, h.wt, h.ph, h.tg, h.gd, h.t0, h.t1⟩ (by show r.ev.length ≤ _; omega)
      exact ⟨g, by have l : _ ≤ r.ev.length + 1300 := l; show (Run.act _).ev.length ≤ _; omega⟩
    · exact ⟨h, by show r.ev.length ≤ _; omega⟩
  · split
    · split
      · rename_i hb
        simp only [Bool.and_eq_true] at hb
        have ht := in_t hb.1
        have hs := sp4 hb.2
        have g0 : Gd (({ r with e := { r.e with sp := reps r.e.sp o.2.2.1 } } : Run).start 1 o.2.1) (reps r.e.sp o.2.2.1).x4 :=
          ⟨hb.2, h.fl, h.now, h.now, (show tokB 0 = true from rfl), by show (0 : Int) ≤ 1 ∧ (1 : Int) ≤ 3; omega, ht, h.gd, by show (0 : Int) ≤ 0 ∧ (0 : Int) ≤ 200; omega, fun _ => by show (0 : Int) ≤ _; omega⟩
        have hl : (({ r with e := { r.e with sp := reps r.e.sp o.2.2.1 } } : Run).start 1 o.2.1).ev.length = r.ev.length + 1 := by simp [Run.start, Run.enter, Run.tell]
        obtain ⟨_, g, l, _⟩ := act_all g0 (by omega)
        exact ⟨g, by show (Run.act _).ev.length ≤ _; omega⟩
      · exact ⟨h, by show r.ev.length ≤ _; omega⟩
    · split
      · split
        · obtain ⟨_, g, l, _⟩ := act_all (r := r.setFl (takeD r.fl o.2.1 o.2.2.1 o.2.2.2 r.e.now)) ⟨h.sp, good_takeD h.fl, h.now, h.st, h.wt, h.ph, h.tg, h.gd, h.t0, h.t1⟩ (by show r.ev.length ≤ _; omega)
          exact ⟨g, by have l : _ ≤ r.ev.length + 1300 := l; show (Run.act _).ev.length ≤ _; omega⟩
        · exact ⟨h, by show r.ev.length ≤ _; omega⟩
      · exact ⟨h, by show r.ev.length ≤ _; omega⟩
theorem gd_tick {r : Run} {k A : Int} (h : Gd r k) (hA : inB A 0 2000 = true) : Gd ({ r with e := { r.e with now := Tick.addV r.e.now A } } : Run) k :=
  ⟨h.sp, h.fl, addV_tok h.now (by have := in_t hA; omega), h.st, h.wt, h.ph, h.tg, h.gd, h.t0, h.t1⟩
theorem gd_edit {r : Run} {k A B : Int} (h : Gd r k) (hA : inB A 1 1000 = true) (hs : (reps r.e.sp B).ok = true) : Gd (({ r with e := { r.e with sp := reps r.e.sp B } } : Run).start 1 A) (reps r.e.sp B).x4 :=
  ⟨hs, h.fl, h.now, h.now, (show tokB 0 = true from rfl), by show (0 : Int) ≤ 1 ∧ (1 : Int) ≤ 3; omega, in_t hA, h.gd, by show (0 : Int) ≤ 0 ∧ (0 : Int) ≤ 200; omega, fun _ => by show (0 : Int) ≤ _; exact (sp4 hs).1⟩
theorem gd_take {r : Run} {k a b c : Int} (h : Gd r k) : Gd (r.setFl (takeD r.fl a b c r.e.now)) k :=
  ⟨h.sp, good_takeD h.fl, h.now, h.st, h.wt, h.ph, h.tg, h.gd, h.t0, h.t1⟩
end Go.Proofs.YtdefckbgcggnoaaGreat.EngInv
