/-
  THE MODEL's PLAN AND ACT, as values, are the machine's.
-/
import Derived.Test.YtdefckbgcggnoaaGreatModQ
import Derived.Test.YtdefckbgcggnoaaGreatEngInv
import Derived.Test.YtdefckbgcggnoaaGreatModF
namespace Go.Proofs.YtdefckbgcggnoaaGreat.ModV
open Go.Proofs.YtdefckbgcggnoaaGreat.Tick (inB in_t tokB tok_t sinceV)
open Go.Proofs.YtdefckbgcggnoaaGreat.Pods
open Go.Proofs.YtdefckbgcggnoaaGreat.FleetV hiding goodB
open Go.Proofs.YtdefckbgcggnoaaGreat.EngV Go.Proofs.YtdefckbgcggnoaaGreat.Eng Go.Proofs.YtdefckbgcggnoaaGreat.EngInv
open Go.Proofs.YtdefckbgcggnoaaGreat.EngCnt (live good going okB_t)
open Go.Proofs.YtdefckbgcggnoaaGreat.Mod (selB planM failB)
set_option linter.unusedVariables false

theorem dropN_none (f : Pd → Bool) : ∀ (l : PList) (r : Run) (n : Int), (∀ p ∈ l, p.2.2.1 ≠ 4 → f p = false) → r.dropN f n l = (r, n)
  | [], r, n, _ => rfl
  | p :: l, r, n, h => by
    unfold Run.dropN
    rw [if_neg]
    · exact dropN_none f l r n (fun q hq => h q (by simp [hq]))
    · intro hc
      simp only [Bool.and_eq_true, Bool.not_eq_true', decide_eq_true_eq, decide_eq_false_iff_not] at hc
      rw [h p (by simp) hc.2.1] at hc
      exact absurd hc.2.2 (by decide)
theorem dropN_stop (f : Pd → Bool) : ∀ (l : PList) (r : Run) (n : Int), n ≤ 0 → r.dropN f n l = (r, n)
  | [], r, n, _ => rfl
  | p :: l, r, n, h => by
    unfold Run.dropN
    rw [if_neg]
    · exact dropN_stop f l r n h
    · intro hc
      simp only [Bool.and_eq_true, decide_eq_true_eq] at hc
      omega
theorem dropN_same (f g : Pd → Bool) : ∀ (l : PList) (r : Run) (n : Int), (∀ p ∈ l, p.2.2.1 ≠ 4 → f p = g p) → r.dropN f n l = r.dropN g n l
  | [], r, n, _ => rfl
  | p :: l, r, n, h => by
    unfold Run.dropN
    have e : (decide (0 < n) && (!decide (p.2.2.1 = 4) && f p)) = (decide (0 < n) && (!decide (p.2.2.1 = 4) && g p)) := by
      by_cases h4 : p.2.2.1 = 4
      · simp [h4]
      · rw [h p (by simp) h4]
    rw [e]
    split
    · exact dropN_same f g l (r.drop p) (n - 1) (fun q hq => h q (by simp [hq]))
    · exact dropN_same f g l r n (fun q hq => h q (by simp [hq]))
theorem mdropN_stop (f : Pd → Bool) : ∀ (l : PList) (r : Run) (n : Int), n ≤ 0 → mdropN r f n l = (r, n)
  | [], r, n, _ => rfl
  | p :: l, r, n, h => by
    unfold mdropN
    rw [if_neg]
    · exact mdropN_stop f l r n h
    · intro hc
      simp only [Bool.and_eq_true, decide_eq_true_eq] at hc
      omega
theorem dropN_kp (f : Pd → Bool) (l : PList) (r : Run) (n : Int) : Kp r (r.dropN f n l).1 l.length := (dropN_all f l r n).1
/-- One pass: the model's by the list as it stood, the machine's by the list as it stands. -/
theorem pass {r q : Run} {ps0 : PList} {c : Pd → Bool} (f g : Pd → Bool) (n : Int) (ha0 : Asc ps0) (h : Fa (Rl c) ps0 q.e.ps) (hg : FGood q.e.ps q.e.nx) (hn : tokB q.e.now = true) (hfg : ∀ p, p.2.2.1 ≠ 4 → f p = g p) (hc : ∀ p, c p = true → f p = false) :
    mdropN q f n ps0 = q.dropN g n q.e.ps ∧ Fa (Rl (fun p => c p || g p)) ps0 (q.dropN g n q.e.ps).1.e.ps ∧ FGood (q.dropN g n q.e.ps).1.e.ps (q.dropN g n q.e.ps).1.e.nx ∧ (0 < (q.dropN g n q.e.ps).2 → ∀ x ∈ (q.dropN g n q.e.ps).1.e.ps, x.2.2.1 ≠ 4 → g x = false) := by
  have h1 := mdropN_eq f g c hfg hc ps0 q.e.ps q n h hg hn hg.2.2.2 (fun _ hp => hp)
  have h2 : Fa (Rl (fun p => c p || g p)) ps0 q.e.ps := forall2_imp (fun a b hab => hab.more (fun p hp => by simp [hp])) h
  obtain ⟨a, b, d⟩ := dropN_rl g (fun p => c p || g p) ps0 ha0 q.e.ps q n h2 hg hn hg.2.2.2 (fun _ hp => hp) (fun p hp => by simp [hp])
  refine ⟨h1, a, b, fun hpos x hx h4 => ?_⟩
  have hxx : x ∈ q.e.ps := rl_ids (dropN_self g q.e.ps q n hg.2.2.2 (fun _ hp => hp) hg hn) x hx h4
  exact d hpos x hx hxx h4
theorem bool_eq_false (b : Bool) : (b == false) = !b := by cases b <;> rfl
theorem bool_eq_true (b : Bool) : (b == true) = b := by cases b <;> rfl
theorem plan_eq {r : Run} (h : r.e.okB = true) : planM r = r.plan := by
  obtain ⟨hsp, hg, hnow, hst, hwt, hph, htg, hgd, htr⟩ := okB_t h
  have ha0 := hg.2.2.2
  unfold planM Run.plan Run.carry
  simp only []
  -- the first
  obtain ⟨e1, f1, g1, _⟩ := pass (r := r) (q := r) (ps0 := r.e.ps) (c := fun _ => false) (selB r.e false false) (fun p => !decide (p.2.1 = r.e.tg) && !avP r.e.sp r.e.now p) (plDr r.e) ha0 (rl_refl _ _) hg hnow (fun p _ => by simp only [selB, bool_eq_false]) (fun p hp => by simp at hp)
  have k1 := dropN_kp (fun p => !decide (p.2.1 = r.e.tg) && !avP r.e.sp r.e.now p) r.e.ps r (plDr r.e)
  have w1 := (dropN_all (fun p => !decide (p.2.1 = r.e.tg) && !avP r.e.sp r.e.now p) r.e.ps r (plDr r.e)).2.2.1
  rw [e1]
  unfold Run.dropF
  generalize r.dropN (fun p => !decide (p.2.1 = r.e.tg) && !avP r.e.sp r.e.now p) (plDr r.e) r.e.ps = q1 at *
  -- the second
  obtain ⟨e2, f2, g2, _⟩ := pass (r := r) (q := q1.1) (ps0 := r.e.ps) (selB r.e false true) (fun p => !decide (p.2.1 = r.e.tg) && avP r.e.sp r.e.now p) (plDa r.e) ha0 f1 g1 (by rw [k1.now]; exact hnow) (fun p _ => by simp only [selB, bool_eq_false, bool_eq_true]) (fun p hp => by
    simp only [Bool.false_or, Bool.and_eq_true, Bool.not_eq_true'] at hp
    simp [selB, hp.2])
  have k2 := dropN_kp (fun p => !decide (p.2.1 = r.e.tg) && avP r.e.sp r.e.now p) q1.1.e.ps q1.1 (plDa r.e)
  have w2 := (dropN_all (fun p => !decide (p.2.1 = r.e.tg) && avP r.e.sp r.e.now p) q1.1.e.ps q1.1 (plDa r.e)).2.2.1
  rw [e2]
  generalize q1.1.dropN (fun p => !decide (p.2.1 = r.e.tg) && avP r.e.sp r.e.now p) (plDa r.e) q1.1.e.ps = q2 at *
  -- the third
  obtain ⟨e3, f3, g3, d3⟩ := pass (r := r) (q := q2.1) (ps0 := r.e.ps) (selB r.e true false) (fun p => decide (p.2.1 = r.e.tg) && !avP r.e.sp r.e.now p) (plDf r.e) ha0 f2 g2 (by rw [k2.now, k1.now]; exact hnow) (fun p _ => by simp only [selB, bool_eq_false, bool_eq_true]) (fun p hp => by
    simp only [Bool.false_or, Bool.or_eq_true, Bool.and_eq_true, Bool.not_eq_true', decide_eq_false_iff_not] at hp
    have hne : ¬ p.2.1 = r.e.tg := by rcases hp with hp | hp <;> exact hp.1
    simp [selB, hne])
  have k3 := dropN_kp (fun p => decide (p.2.1 = r.e.tg) && !avP r.e.sp r.e.now p) q2.1.e.ps q2.1 (plDf r.e)
  have w3 := (dropN_all (fun p => decide (p.2.1 = r.e.tg) && !avP r.e.sp r.e.now p) q2.1.e.ps q2.1 (plDf r.e)).2.2.1
  rw [e3]
  generalize q2.1.dropN (fun p => decide (p.2.1 = r.e.tg) && !avP r.e.sp r.e.now p) (plDf r.e) q2.1.e.ps = q3 at *
  -- the fourth
  have e4 : (mdropN q3.1 (selB r.e true true) q3.2 r.e.ps).1 = (q3.1.dropN (fun p => decide (p.2.1 = r.e.tg)) q3.2 q3.1.e.ps).1 := by
    by_cases hpos : 0 < q3.2
    · obtain ⟨e4, _, _, _⟩ := pass (r := r) (q := q3.1) (ps0 := r.e.ps) (selB r.e true true) (fun p => decide (p.2.1 = r.e.tg) && avP r.e.sp r.e.now p) q3.2 ha0 f3 g3 (by rw [k3.now, k2.now, k1.now]; exact hnow) (fun p _ => by simp only [selB, bool_eq_true]) (fun p hp => by
        simp only [Bool.false_or, Bool.or_eq_true, Bool.and_eq_true, Bool.not_eq_true', decide_eq_false_iff_not, decide_eq_true_eq] at hp
        rcases hp with (hp | hp) | hp
        · simp [selB, hp.1]
        · simp [selB, hp.1]
        · simp [selB, hp.2])
      rw [e4, dropN_same _ (fun p => decide (p.2.1 = r.e.tg)) q3.1.e.ps q3.1 q3.2 (fun p hp h4 => ?_)]
      have := d3 hpos p hp h4
      cases ht : decide (p.2.1 = r.e.tg)
      · rfl
      · rw [ht] at this
        simpa using this
    · rw [mdropN_stop _ _ _ _ (by omega), dropN_stop _ _ _ _ (by omega)]
  rw [e4]
  have k4 := dropN_kp (fun p => decide (p.2.1 = r.e.tg)) q3.1.e.ps q3.1 q3.2
  have w4 := (dropN_all (fun p => decide (p.2.1 = r.e.tg)) q3.1.e.ps q3.1 q3.2).2.2.1
  generalize (q3.1.dropN (fun p => decide (p.2.1 = r.e.tg)) q3.2 q3.1.e.ps).1 = q4 at *
  have hw : q4.e.wt = r.e.wt := by rw [w4, w3, w2, w1]
  have hn : q4.e.now = r.e.now := by rw [k4.now, k3.now, k2.now, k1.now]
  rw [hw, hn]
  by_cases hlt : r.e.now < r.e.wt
  · rw [if_pos hlt, if_neg (by omega)]
  · rw [if_neg hlt, if_pos (by omega)]
/-- The model's act, as a value. -/
def actM (r : Run) : Run :=
  if r.e.ph = 3 then r else
    let q := r.giveUp.tellStuck
    if failB q then q.judge else (if mvB (planM q.judge).e.ph then (planM q.judge).over else planM q.judge)
theorem judge_ph {r : Run} (h : r.e.ph ≠ 3) : (r.judge.e.ph = 3) = (failB r = true) := by
  unfold Run.judge failB
  by_cases h1 : mvB r.e.ph = true <;> by_cases h2 : faultV r.e = 0
  · simp [h1, h2, h]
  · by_cases h3 : r.e.ph = 1
    · simp [h2, h3, mvB, Run.start, Run.enter, Run.tell]
    · have h4 : r.e.ph = 2 := by
        simp only [mvB, Bool.or_eq_true, decide_eq_true_eq] at h1
        omega
      simp [h2, h4, Run.enter, Run.tell, mvB]
  · simp [h1, h2, h]
  · simp [h1, h2, h]
theorem act_eq {r : Run} (h : Gd r r.e.sp.x4) : actM r = r.act := by
  unfold actM Run.act
  by_cases h3 : r.e.ph = 3
  · rw [if_pos h3, if_pos h3]
  rw [if_neg h3, if_neg h3]
  simp only []
  have hs := sp4 h.sp
  have hl := h.fl.1
  obtain ⟨a1, b1, c1⟩ := loseAll_all r.e.ps r
  have g1 : Gd r.giveUp (r.e.sp.x4 + r.e.ps.length) := c1 r.e.sp.x4 (by omega) h
  have a1 : Kp r r.giveUp r.e.ps.length := a1
  have a2 := stuck_kp r.giveUp
  have g2 := stuck_gd g1
  obtain ⟨g3, _, _, _⟩ := judge_all g2
  have hp : r.giveUp.tellStuck.e.ph ≠ 3 := by rw [a2.ph, a1.ph]; exact h3
  have hj := judge_ph hp
  by_cases hf : failB r.giveUp.tellStuck = true
  · rw [if_pos hf, if_pos (hj.mpr hf)]
  rw [if_neg hf, if_neg (fun h => hf (hj.mp h)), plan_eq g3.ok]
  split
  · rfl
  · rename_i hm
    unfold Run.over
    split
    · rw [if_neg, if_neg]
      · intro h; exact hm (by simp [mvB, h])
      · intro h; exact hm (by simp [mvB, h])
    · rfl
end Go.Proofs.YtdefckbgcggnoaaGreat.ModV
