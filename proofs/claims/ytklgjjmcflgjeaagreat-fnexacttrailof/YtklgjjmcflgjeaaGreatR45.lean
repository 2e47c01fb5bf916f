import Derived.Test.YtklgjjmcflgjeaaGreatR11
import Derived.Test.YtklgjjmcflgjeaaGreatR29
import Derived.Test.YtklgjjmcflgjeaaGreatR41
import Derived.Test.YtklgjjmcflgjeaaGreatR44
set_option linter.unusedVariables false
set_option linter.unusedSimpArgs false
namespace Go.Proofs.YtklgjjmcflgjeaaGreat.ModV
open Tick (inB in_t tokB tok_t sinceV)
open Pods
open FleetV hiding goodB
open EngV Eng EngInv
open EngCnt (live good going okB_t)
open Go.Proofs.YtklgjjmcflgjeaaGreat.Mod (selB planM failB)
theorem dropN_stop (f : Pd → Bool) : ∀ (l : PList) (r : Run) (n : Int), n ≤ 0 → r.dropN f n l = (r, n)
  | [], r, n, _ => rfl
  | p :: l, r, n, h => by
    unfold Run.dropN
    rw [if_neg]
    · exact dropN_stop f l r n h
    · intro hc
      simp only [Bool.and_eq_true, decide_eq_true_eq] at hc
      omega
theorem dropN_same (f g : Pd → Bool) : ∀ (l : PList) (r : Run) (n : Int), (∀ p ∈ l, p.2.2.1 ≠ 4 → f p = g p) → r.dropN f n l = r.dropN g n l
  | [], r, n, _ => rfl
  | p :: l, r, n, h => by
    unfold Run.dropN
    have e : (decide (0 < n) && (!decide (p.2.2.1 = 4) && f p)) = (decide (0 < n) && (!decide (p.2.2.1 = 4) && g p)) := by
      by_cases h4 : p.2.2.1 = 4
      · simp [h4]
      · rw [h p (by simp) h4]
    rw [e]
    split
    · exact dropN_same f g l (r.drop p) (n - 1) (fun q hq => h q (by simp [hq]))
    · exact dropN_same f g l r n (fun q hq => h q (by simp [hq]))
theorem mdropN_stop (f : Pd → Bool) : ∀ (l : PList) (r : Run) (n : Int), n ≤ 0 → mdropN r f n l = (r, n)
  | [], r, n, _ => rfl
  | p :: l, r, n, h => by
    unfold mdropN
    rw [if_neg]
    · exact mdropN_stop f l r n h
    · intro hc
      simp only [Bool.and_eq_true, decide_eq_true_eq] at hc
      omega
theorem dropN_kp (f : Pd → Bool) (l : PList) (r : Run) (n : Int) : Kp r (r.dropN f n l).1 l.length := (dropN_all f l r n).1
theorem pass {r q : Run} {ps0 : PList} {c : Pd → Bool} (f g : Pd → Bool) (n : Int) (ha0 : Asc ps0) (h : Fa (Rl c) ps0 q.e.ps) (hg : FGood q.e.ps q.e.nx) (hn : tokB q.e.now = true) (hfg : ∀ p, p.2.2.1 ≠ 4 → f p = g p) (hc : ∀ p, c p = true → f p = false) :
    mdropN q f n ps0 = q.dropN g n q.e.ps ∧ Fa (Rl (fun p => c p || g p)) ps0 (q.dropN g n q.e.ps).1.e.ps ∧ FGood (q.dropN g n q.e.ps).1.e.ps (q.dropN g n q.e.ps).1.e.nx ∧ (0 < (q.dropN g n q.e.ps).2 → ∀ x ∈ (q.dropN g n q.e.ps).1.e.ps, x.2.2.1 ≠ 4 → g x = false) := by
  have h1 := mdropN_eq f g c hfg hc ps0 q.e.ps q n h hg hn hg.2.2.2 (fun _ hp => hp)
  have h2 : Fa (Rl (fun p => c p || g p)) ps0 q.e.ps := forall2_imp (fun a b hab => hab.more (fun p hp => by simp [hp])) h
  obtain ⟨a, b, d⟩ := dropN_rl g (fun p => c p || g p) ps0 ha0 q.e.ps q n h2 hg hn hg.2.2.2 (fun _ hp => hp) (fun p hp => by simp [hp])
  refine ⟨h1, a, b, fun hpos x hx h4 => ?_⟩
  have hxx : x ∈ q.e.ps := rl_ids (dropN_self g q.e.ps q n hg.2.2.2 (fun _ hp => hp) hg hn) x hx h4
  exact d hpos x hx hxx h4
theorem bool_eq_false (b : Bool) : (b == false) = !b := by cases b <;> rfl
theorem bool_eq_true (b : Bool) : (b == true) = b := by cases b <;> rfl
theorem plan_eq {r : Run} (h : r.e.okB = true) : planM r = r.plan := by
  obtain ⟨hsp, hg, hnow, hst, hwt, hph, htg, hgd, htr⟩ := okB_t h
  have ha0 := hg.2.2.2
  unfold planM Run.plan Run.carry
  simp only []
  -- the first
  obtain ⟨e1, f1, g1, _⟩ := pass (r := r) (q := r) (ps0 := r.e.ps) (c := fun _ => false) (selB r.e false false) (fun p => !decide (p.2.1 = r.e.tg) && !avP r.e.sp r.e.now p) (plDr r.e) ha0 (rl_refl _ _) hg hnow (fun p _ => by simp only [selB, bool_eq_false]) (fun p hp => by simp at hp)
  have k1 := dropN_kp (fun p => !decide (p.2.1 = r.e.tg) && !avP r.e.sp r.e.now p) r.e.ps r (plDr r.e)
  have w1 := (dropN_all (fun p => !decide (p.2.1 = r.e.tg) && !avP r.e.sp r.e.now p) r.e.ps r (plDr r.e)).2.2.1
  rw [e1]
  unfold Run.dropF
  generalize r.dropN (fun p => !decide (p.2.1 = r.e.tg) && !avP r.e.sp r.e.now p) (plDr r.e) r.e.ps = q1 at *
  -- the second
  obtain ⟨e2, f2, g2, _⟩ := pass (r := r) (q := q1.1) (ps0 := r.e.ps) (selB r.e false true) (fun p => !decide (p.2.1 = r.e.tg) && avP r.e.sp r.e.now p) (plDa r.e) ha0 f1 g1 (by rw [k1.now]; exact hnow) (fun p _ => by simp only [selB, bool_eq_false, bool_eq_true]) (fun p hp => by
    simp only [Bool.false_or, Bool.and_eq_true, Bool.not_eq_true'] at hp
    simp [selB, hp.2])
  have k2 := dropN_kp (fun p => !decide (p.2.1 = r.e.tg) && avP r.e.sp r.e.now p) q1.1.e.ps q1.1 (plDa r.e)
  have w2 := (dropN_all (fun p => !decide (p.2.1 = r.e.tg) && avP r.e.sp r.e.now p) q1.1.e.ps q1.1 (plDa r.e)).2.2.1
  rw [e2]
  generalize q1.1.dropN (fun p => !decide (p.2.1 = r.e.tg) && avP r.e.sp r.e.now p) (plDa r.e) q1.1.e.ps = q2 at *
  -- the third
  obtain ⟨e3, f3, g3, d3⟩ := pass (r := r) (q := q2.1) (ps0 := r.e.ps) (selB r.e true false) (fun p => decide (p.2.1 = r.e.tg) && !avP r.e.sp r.e.now p) (plDf r.e) ha0 f2 g2 (by rw [k2.now, k1.now]; exact hnow) (fun p _ => by simp only [selB, bool_eq_false, bool_eq_true]) (fun p hp => by
    simp only [Bool.false_or, Bool.or_eq_true, Bool.and_eq_true, Bool.not_eq_true', decide_eq_false_iff_not] at hp
    have hne : ¬ p.2.1 = r.e.tg := by rcases hp with hp | hp <;> exact hp.1
    simp [selB, hne])
  have k3 := dropN_kp (fun p => decide (p.2.1 = r.e.tg) && !avP r.e.sp r.e.now p) q2.1.e.ps q2.1 (plDf r.e)
  have w3 := (dropN_all (fun p => decide (p.2.1 = r.e.tg) && !avP r.e.sp r.e.now p) q2.1.e.ps q2.1 (plDf r.e)).2.2.1
  rw [e3]
  generalize q2.1.dropN (fun p => decide (p.2.1 = r.e.tg) && !avP r.e.sp r.e.now p) (plDf r.e) q2.1.e.ps = q3 at *
  -- the fourth
  have e4 : (mdropN q3.1 (selB r.e true true) q3.2 r.e.ps).1 = (q3.1.dropN (fun p => decide (p.2.1 = r.e.tg)) q3.2 q3.1.e.ps).1 := by
    by_cases hpos : 0 < q3.2
    · obtain ⟨e4, _, _, _⟩ := pass (r := r) (q := q3.1) (ps0 := r.e.ps) (selB r.e true true) (fun p => decide (p.2.1 = r.e.tg) && avP r.e.sp r.e.now p) q3.2 ha0 f3 g3 (by rw [k3.now, k2.now, k1.now]; exact hnow) (fun p _ => by simp only [selB, bool_eq_true]) (fun p hp => by
        simp only [Bool.false_or, Bool.or_eq_true, Bool.and_eq_true, Bool.not_eq_true', decide_eq_false_iff_not, decide_eq_true_eq] at hp
        rcases hp with (hp | hp) | hp
        · simp [selB, hp.1]
        · simp [selB, hp.1]
        · simp [selB, hp.2])
      rw [e4, dropN_same _ (fun p => decide (p.2.1 = r.e.tg)) q3.1.e.ps q3.1 q3.2 (fun p hp h4 => ?_)]
      have := d3 hpos p hp h4
      cases ht : decide (p.2.1 = r.e.tg)
      · rfl
      · rw [ht] at this
        simpa using this
    · rw [mdropN_stop _ _ _ _ (by omega), dropN_stop _ _ _ _ (by omega)]
  rw [e4]
  have k4 := dropN_kp (fun p => decide (p.2.1 = r.e.tg)) q3.1.e.ps q3.1 q3.2
  have w4 := (dropN_all (fun p => decide (p.2.1 = r.e.tg)) q3.1.e.ps q3.1 q3.2).2.2.1
  generalize (q3.1.dropN (fun p => decide (p.2.1 = r.e.tg)) q3.2 q3.1.e.ps).1 = q4 at *
  have hw : q4.e.wt = r.e.wt := by rw [w4, w3, w2, w1]
  have hn : q4.e.now = r.e.now := by rw [k4.now, k3.now, k2.now, k1.now]
  rw [hw, hn]
  by_cases hlt : r.e.now < r.e.wt
  · rw [if_pos hlt, if_neg (by omega)]
  · rw [if_neg hlt, if_pos (by omega)]
def actM (r : Run) : Run :=
  if r.e.ph = 3 then r else
    let q := r.giveUp.tellStuck
    if failB q then q.judge else (if mvB (planM q.judge).e.ph then (planM q.judge).over else planM q.judge)
theorem judge_ph {r : Run} (h : r.e.ph ≠ 3) : (r.judge.e.ph = 3) = (failB r = true) := by
  unfold Run.judge failB
  by_cases h1 : mvB r.e.ph = true <;> by_cases h2 : faultV r.e = 0
  · simp [h1, h2, h]
  · by_cases h3 : r.e.ph = 1
    · simp [h2, h3, mvB, Run.start, Run.enter, Run.tell]
    · have h4 : r.e.ph = 2 := by
        simp only [mvB, Bool.or_eq_true, decide_eq_true_eq] at h1
        omega
      simp [h2, h4, Run.enter, Run.tell, mvB]
  · simp [h1, h2, h]
  · simp [h1, h2, h]
theorem act_eq {r : Run} (h : Gd r r.e.sp.x4) : actM r = r.act := by
  unfold actM Run.act
  by_cases h3 : r.e.ph = 3
  · rw [if_pos h3, if_pos h3]
  rw [if_neg h3, if_neg h3]
  simp only []
  have hs := sp4 h.sp
  have hl := h.fl.1
  obtain ⟨a1, b1, c1⟩ := loseAll_all r.e.ps r
  have g1 : Gd r.giveUp (r.e.sp.x4 + r.e.ps.length) := c1 r.e.sp.x4 (by omega) h
  have a1 : Kp r r.giveUp r.e.ps.length := a1
  have a2 := stuck_kp r.giveUp
  have g2 := stuck_gd g1
  obtain ⟨g3, _, _, _⟩ := judge_all g2
  have hp : r.giveUp.tellStuck.e.ph ≠ 3 := by rw [a2.ph, a1.ph]; exact h3
  have hj := judge_ph hp
  by_cases hf : failB r.giveUp.tellStuck = true
  · rw [if_pos hf, if_pos (hj.mpr hf)]
  rw [if_neg hf, if_neg (fun h => hf (hj.mp h)), plan_eq g3.ok]
  split
  · rfl
  · rename_i hm
    unfold Run.over
    split
    · rw [if_neg, if_neg]
      · intro h; exact hm (by simp [mvB, h])
      · intro h; exact hm (by simp [mvB, h])
    · rfl
end Go.Proofs.YtklgjjmcflgjeaaGreat.ModV
namespace Go.Proofs.YtklgjjmcflgjeaaGreat.Crew
open Go.ChangeShapes Go.WideShapes Go.ChangeAt Go.RowKit Go.Maps Go.Sort Go.Shelf
open LK Pods FleetV Has Ints
open Tick (inB in_t in_f tokB tok_t l01In_any specTickOk_any)
open FleetSpec (atP at_cases at_any copy_any specFleetOk_any)
theorem flat_set1 (ps : PList) (j : Nat) (a : Int) (hj : j < ps.length) : (flat ps).set (j * 5 + 3) (.int .i64 a) = flat (ps.set j ((ps.getD j z5).1, (ps.getD j z5).2.1, (ps.getD j z5).2.2.1, a, (ps.getD j z5).2.2.2.2)) := by
  induction ps generalizing j with
  | nil => simp at hj
  | cons x l ih =>
    cases j with
    | zero => simp [flat_cons, cells5]
    | succ j =>
      have e2 : (j + 1) * 5 + 3 = j * 5 + 3 + 1 + 1 + 1 + 1 + 1 := by omega
      have e : (x :: l).getD (j + 1) z5 = l.getD j z5 := by simp [List.getD]
      rw [e2, e, List.set_cons_succ, flat_cons, flat_cons, ← ih j (by simpa using hj)]
      simp only [cells5, List.cons_append, List.nil_append, List.set_cons_succ]
theorem own_set1 {w : World} {base g n cap j : Nat} {ps : PList} (h : OwnP w base (some ⟨g, 0, none⟩) n cap ps) (hj : j < n) (a : Int) :
    OwnP (w.setCell ⟨g, j * 5 + 3, none⟩ (.int .i64 a)) base (some ⟨g, 0, none⟩) n cap (ps.set j ((ps.getD j z5).1, (ps.getD j z5).2.1, (ps.getD j z5).2.2.1, a, (ps.getD j z5).2.2.2.2)) := by
  refine ⟨by simpa using h.1, ?_⟩
  rw [← flat_set1 ps j a (by rw [h.1]; exact hj)]
  exact (h.2.stored (j * 5 + 3) (.int .i64 a)).1
theorem set_get {ps : PList} {j : Nat} (p : Pd) (hj : j < ps.length) : (ps.set j p).getD j z5 = p := by simp [List.getD, hj]
theorem get_set_ne {ps : PList} {i j : Nat} (p : Pd) (h : i ≠ j) : (ps.set j p).getD i z5 = ps.getD i z5 := by simp [List.getD, Ne.symm h]
def butJ (ps : PList) (j k : Nat) : PList := (ps.take k).eraseIdx j
theorem but_zero (ps : PList) (j : Nat) : butJ ps j 0 = [] := by simp [butJ]
theorem but_at (ps : PList) (j : Nat) (h : j < ps.length) : butJ ps j (j + 1) = butJ ps j j := by
  unfold butJ
  rw [take_get h, List.eraseIdx_append_of_length_le (by simp; omega), List.eraseIdx_of_length_le (l := ps.take j) (by simp; omega)]
  have e : j - (ps.take j).length = 0 := by simp; omega
  rw [e]
  simp
theorem turned_drewN {S : Nat → Prop} {a b : World} (h : Turned S a b) (q : Nat) : Turned S a (b.drewN q) := ⟨h.os, h.tape, h.output, h.size, h.block⟩
theorem turned_of_drewN {S : Nat → Prop} {a b : World} {q : Nat} (h : Turned S (a.drewN q) b) : Turned S a b := ⟨h.os, h.tape, h.output, h.size, h.block⟩
theorem but_succ (ps : PList) (j k : Nat) (hk : k < ps.length) (hne : k ≠ j) : butJ ps j (k + 1) = butJ ps j k ++ [ps.getD k z5] := by
  unfold butJ
  rw [take_get hk]
  rcases Nat.lt_or_ge j k with h | h
  · rw [List.eraseIdx_append_of_lt_length (by simp; omega)]
  · rw [List.eraseIdx_of_length_le (by simp; omega), List.eraseIdx_of_length_le (by simp; omega)]
theorem but_all {ps : PList} {j : Nat} {k : Int} (ha : Asc ps) (hj : j < ps.length) (he : (ps.getD j z5).1 = k) : butJ ps j ps.length = offP k ps := by
  unfold butJ
  rw [List.take_length]
  induction ps generalizing j with
  | nil => simp at hj
  | cons a l ih =>
    obtain ⟨h1, h2⟩ := asc_cons.1 ha
    cases j with
    | zero =>
      have he : a.1 = k := he
      have hl : offP k l = l := off_id (fun q hq => by have := h1 q hq; omega)
      unfold offP at hl ⊢
      rw [List.filter_cons_of_neg (by simpa using he), hl]
      rfl
    | succ j =>
      have hj' : j < l.length := by simpa using hj
      have he' : (l.getD j z5).1 = k := by simpa [List.getD] using he
      have hm : l.getD j z5 ∈ l := get_mem hj'
      have := h1 _ hm
      have hi := ih h2 hj' he'
      unfold offP at hi ⊢
      rw [List.filter_cons_of_pos (by simp; omega), ← hi]
      rfl
set_option maxRecDepth 100000 in
set_option maxHeartbeats 12800000 in
theorem specTakeReport_any (A : Option Addr) (n c : Nat) (nx rp gen st now : Int) (ps : PList) (B : Nat) (w : World) (hr : IsPods w B A n ps) (hB : B ≤ w.heap.size) (hn : n ≤ 1048576) :
    Calls Tryz.prog 103 #[.agg #[.slice A n c, .int .i64 nx], .agg #[.int .i64 rp, .int .i64 gen, .int .i64 st], .int .i64 now] w (Made1 FleetTy.fty (takeD (ps, nx) rp gen st now) (.int .i64 (takeV (ps, nx) rp gen st now)) w) := by
  obtain ⟨i0, hi0, hz0, hz1, hz2⟩ := info_parts infoP
  have HL : Hid (ps.length = n) := hr.1
  have HR := Lib.hid hr
  clear hr
  have k0 : (((w.alloc (.cells #[.slice A n c, .int .i64 nx] 34)).alloc (.cells #[.int .i64 rp, .int .i64 gen, .int .i64 st] 148)).alloc (.cells #[.slice none 0 0, .int .i64 0] 34)).heap[w.heap.size]? = some (.cells #[.slice A n c, .int .i64 nx] 34) := box_alloc (box_alloc (box_new _ _) _) _
  have k1 : (((w.alloc (.cells #[.slice A n c, .int .i64 nx] 34)).alloc (.cells #[.int .i64 rp, .int .i64 gen, .int .i64 st] 148)).alloc (.cells #[.slice none 0 0, .int .i64 0] 34)).heap[w.heap.size + 1]? = some (.cells #[.int .i64 rp, .int .i64 gen, .int .i64 st] 148) := by
    have h := box_alloc (box_new (w.alloc (.cells #[.slice A n c, .int .i64 nx] 34)) (.cells #[.int .i64 rp, .int .i64 gen, .int .i64 st] 148)) (.cells #[.slice none 0 0, .int .i64 0] 34)
    simp only [World.size_alloc] at h
    exact h
  have k2 : (((w.alloc (.cells #[.slice A n c, .int .i64 nx] 34)).alloc (.cells #[.int .i64 rp, .int .i64 gen, .int .i64 st] 148)).alloc (.cells #[.slice none 0 0, .int .i64 0] 34)).heap[w.heap.size + 1 + 1]? = some (.cells #[.slice none 0 0, .int .i64 0] 34) := by
    have h := box_new ((w.alloc (.cells #[.slice A n c, .int .i64 nx] 34)).alloc (.cells #[.int .i64 rp, .int .i64 gen, .int .i64 st] 148)) (.cells #[.slice none 0 0, .int .i64 0] 34)
    simp only [World.size_alloc] at h
    exact h
  have K0 := Lib.hid k0
  have K1 := Lib.hid k1
  have K2 := Lib.hid k2
  clear k0 k1 k2
  go_enter Tryz.func103, Tryz.ntmps103
  go_wp2_with fail
  refine (copy_any A n c nx ps B _ (HR.out.below (bel3 _ _ _ _) hB) (by simp; omega) hn).mono ?_
  intro e w2 hM
  obtain ⟨A2, c2, rfl, hO, hb⟩ := made_own hM
  simp only [World.size_alloc] at hO
  rw [HL.out] at hO ⊢
  have hbw : Below w.heap.size w w2 := bel_then (bel3 w _ _ _) hb (by simp; omega)
  have hs2 : w.heap.size + 1 + 1 + 1 ≤ w2.heap.size := by have := hb.size; simp at this; omega
  have E0 : Hid ((w2.alloc (.cells #[.slice A2 n c2, .int .i64 nx] 34)).heap[w.heap.size]? = some (.cells #[.slice A n c, .int .i64 nx] 34)) := box_alloc (box_below K0.out hb) _
  have E1 : Hid ((w2.alloc (.cells #[.slice A2 n c2, .int .i64 nx] 34)).heap[w.heap.size + 1]? = some (.cells #[.int .i64 rp, .int .i64 gen, .int .i64 st] 148)) := box_alloc (box_below K1.out hb) _
  have E2 : Hid ((w2.alloc (.cells #[.slice A2 n c2, .int .i64 nx] 34)).heap[w.heap.size + 1 + 1]? = some (.cells #[.slice none 0 0, .int .i64 0] 34)) := box_alloc (box_below K2.out hb) _
  have E3 : Hid ((w2.alloc (.cells #[.slice A2 n c2, .int .i64 nx] 34)).heap[w2.heap.size]? = some (.cells #[.slice A2 n c2, .int .i64 nx] 34)) := box_new _ _
  have HO := Lib.hid (hO.below (bel1 w2 (.cells #[.slice A2 n c2, .int .i64 nx] 34)))
  have HB := Lib.hid (hbw.alloc hbw.size (.cells #[.slice A2 n c2, .int .i64 nx] 34))
  have a0 : w2.cell? ⟨w.heap.size, 0, none⟩ = some (.slice A n c) := box_cell (box_below K0.out hb) 0 _ rfl
  have a1 : w2.cell? ⟨w.heap.size, 1, none⟩ = some (.int .i64 nx) := box_cell (box_below K0.out hb) 1 _ rfl
  have hl0 : w.heap.size < w2.heap.size := by omega
  clear hM hO hb hbw K0 K1 K2
  go_wp2_with fail
  refine (specFleetOk_any A n c nx ps B _ (HR.out.below HB.out hB) (by have := HB.out.size; simp at this ⊢; omega) hn).mono ?_
  rintro e w4 ⟨rfl, hb4⟩
  have F0 := box_below E0.out hb4
  have F1 := box_below E1.out hb4
  have F2 := box_below E2.out hb4
  have F3 := box_below E3.out hb4
  have HO4 := Lib.hid (HO.out.below hb4)
  have HB4 := Lib.hid (bel_then HB.out hb4 HB.out.size)
  have hs4 : w2.heap.size < w4.heap.size := box_lt F3
  clear hb4 E0 E1 E2 E3 HO HB a0 a1
  have f00 := box_cell F0 0 _ rfl
  have f01 := box_cell F0 1 _ rfl
  have f10 := box_cell F1 0 _ rfl
  have f11 := box_cell F1 1 _ rfl
  have f12 := box_cell F1 2 _ rfl
  have f20 := box_cell F2 0 _ rfl
  have f21 := box_cell F2 1 _ rfl
  have f30 := box_cell F3 0 _ rfl
  have f31 := box_cell F3 1 _ rfl
  have g20 := box_frozen F2 0
  have g21 := box_frozen F2 1
  have hw32 : w.heap.size + 1 + 1 ≠ w2.heap.size := by omega
  have hO : takeO (ps, nx) rp gen st now = (decide (FGood ps nx) && (inB gen 1 1000000000 && inB st 1 4) && tokB now) := rfl
  have X0 := Lib.hid F0
  have X1 := Lib.hid F1
  have X2 := Lib.hid F2
  have X3 := Lib.hid F3
  clear F0 F1 F2 F3
  by_cases hg : FGood ps nx
  · rw [decide_eq_true hg] at hO ⊢
    cases h1 : inB gen 1 1000000000
    · have HN := Lib.hid (take_bad (d := (ps, nx)) (rp := rp) (gen := gen) (st := st) (now := now) (by rw [hO, h1]; simp))
      clear hg hO
      go_wp2_with (first | (go_at_call_of 39 gen; refine (l01In_any _ _ _ _).mono ?_; rintro e w' ⟨rfl, rfl⟩; rw [h1]) | (go_at_call_of 39 st; refine (l01In_any _ _ _ _).mono ?_; rintro e w' ⟨rfl, rfl⟩; rw [h2]) | (go_at_call 52; refine (specTickOk_any _ _).mono ?_; rintro e w' ⟨rfl, rfl⟩; rw [h3]))
      refine bodyPost_ret (v := .tuple #[.agg #[.slice A2 n c2, .int .i64 nx], .int .i64 3]) (by simp [results, Tryz.results103, go_sem, f20, f21]) rfl ?_
      rw [HN.out.1, HN.out.2]
      exact made1_of HB4.out HO4.out (by omega) (S := fun k => k = w.heap.size + 1 + 1) (fun k hk => by omega) (((Turned.set (S := fun k => k = w.heap.size + 1 + 1) _ ⟨w.heap.size + 1 + 1, 0, none⟩ _ rfl).trans (Turned.set (S := fun k => k = w.heap.size + 1 + 1) _ ⟨w.heap.size + 1 + 1, 1, none⟩ _ rfl)))
    cases h2 : inB st 1 4
    · have HN := Lib.hid (take_bad (d := (ps, nx)) (rp := rp) (gen := gen) (st := st) (now := now) (by rw [hO, h2]; simp))
      clear hg hO
      go_wp2_with (first | (go_at_call_of 39 gen; refine (l01In_any _ _ _ _).mono ?_; rintro e w' ⟨rfl, rfl⟩; rw [h1]) | (go_at_call_of 39 st; refine (l01In_any _ _ _ _).mono ?_; rintro e w' ⟨rfl, rfl⟩; rw [h2]) | (go_at_call 52; refine (specTickOk_any _ _).mono ?_; rintro e w' ⟨rfl, rfl⟩; rw [h3]))
      refine bodyPost_ret (v := .tuple #[.agg #[.slice A2 n c2, .int .i64 nx], .int .i64 3]) (by simp [results, Tryz.results103, go_sem, f20, f21]) rfl ?_
      rw [HN.out.1, HN.out.2]
      exact made1_of HB4.out HO4.out (by omega) (S := fun k => k = w.heap.size + 1 + 1) (fun k hk => by omega) (((Turned.set (S := fun k => k = w.heap.size + 1 + 1) _ ⟨w.heap.size + 1 + 1, 0, none⟩ _ rfl).trans (Turned.set (S := fun k => k = w.heap.size + 1 + 1) _ ⟨w.heap.size + 1 + 1, 1, none⟩ _ rfl)))
    cases h3 : tokB now
    · have HN := Lib.hid (take_bad (d := (ps, nx)) (rp := rp) (gen := gen) (st := st) (now := now) (by rw [hO, h3]; simp))
      clear hg hO
      go_wp2_with (first | (go_at_call_of 39 gen; refine (l01In_any _ _ _ _).mono ?_; rintro e w' ⟨rfl, rfl⟩; rw [h1]) | (go_at_call_of 39 st; refine (l01In_any _ _ _ _).mono ?_; rintro e w' ⟨rfl, rfl⟩; rw [h2]) | (go_at_call 52; refine (specTickOk_any _ _).mono ?_; rintro e w' ⟨rfl, rfl⟩; rw [h3]))
      refine bodyPost_ret (v := .tuple #[.agg #[.slice A2 n c2, .int .i64 nx], .int .i64 3]) (by simp [results, Tryz.results103, go_sem, f20, f21]) rfl ?_
      rw [HN.out.1, HN.out.2]
      exact made1_of HB4.out HO4.out (by omega) (S := fun k => k = w.heap.size + 1 + 1) (fun k hk => by omega) (((Turned.set (S := fun k => k = w.heap.size + 1 + 1) _ ⟨w.heap.size + 1 + 1, 0, none⟩ _ rfl).trans (Turned.set (S := fun k => k = w.heap.size + 1 + 1) _ ⟨w.heap.size + 1 + 1, 1, none⟩ _ rfl)))
    have HOK : Hid (takeO (ps, nx) rp gen st now = true) := by show _ = _; rw [hO, h1, h2, h3]; rfl
    have HG := Lib.hid hg
    clear hO hg
    go_wp2_with (first | (go_at_call_of 39 gen; refine (l01In_any _ _ _ _).mono ?_; rintro e w' ⟨rfl, rfl⟩; rw [h1]) | (go_at_call_of 39 st; refine (l01In_any _ _ _ _).mono ?_; rintro e w' ⟨rfl, rfl⟩; rw [h2]) | (go_at_call 52; refine (specTickOk_any _ _).mono ?_; rintro e w' ⟨rfl, rfl⟩; rw [h3]))
    refine (at_any A n c nx rp ps B _ (HR.out.below HB4.out hB) (by have := HB4.out.size; omega) hn).mono ?_
    rintro e w5 ⟨rfl, hb5⟩
    have Y0 := box_below X0.out hb5
    have Y1 := box_below X1.out hb5
    have Y2 := box_below X2.out hb5
    have Y3 := box_below X3.out hb5
    have HO5 := Lib.hid (HO4.out.below hb5)
    have HB5 := Lib.hid (bel_then HB4.out hb5 HB4.out.size)
    have hs5 : w2.heap.size < w5.heap.size := box_lt Y3
    clear hb5 X0 X1 X2 X3 HO4 HB4 f00 f01 f10 f11 f12 f20 f21 f30 f31 g20 g21
    have y00 := box_cell Y0 0 _ rfl
    have y01 := box_cell Y0 1 _ rfl
    have y10 := box_cell Y1 0 _ rfl
    have y11 := box_cell Y1 1 _ rfl
    have y12 := box_cell Y1 2 _ rfl
    have y20 := box_cell Y2 0 _ rfl
    have y21 := box_cell Y2 1 _ rfl
    have y30 := box_cell Y3 0 _ rfl
    have y31 := box_cell Y3 1 _ rfl
    have yf0 := box_frozen Y2 0
    have yf1 := box_frozen Y2 1
    rcases at_cases ps rp with ⟨hat, hfn⟩ | ⟨j, hj, hat, hfn, hjid⟩
    · have HN := Lib.hid (take_unk HOK.out hfn)
      rw [hat]
      clear Y0 Y1 Y2 Y3 hat hfn
      go_wp2
      refine bodyPost_ret (v := .tuple #[.agg #[.slice A2 n c2, .int .i64 nx], .int .i64 2]) (by simp [results, Tryz.results103, go_sem, y20, y21]) rfl ?_
      rw [HN.out.1, HN.out.2]
      exact made1_of HB5.out HO5.out (by omega) (S := fun k => k = w.heap.size + 1 + 1) (fun k hk => by omega) (((Turned.set (S := fun k => k = w.heap.size + 1 + 1) _ ⟨w.heap.size + 1 + 1, 0, none⟩ _ rfl).trans (Turned.set (S := fun k => k = w.heap.size + 1 + 1) _ ⟨w.heap.size + 1 + 1, 1, none⟩ _ rfl)))
    · rw [hat]
      have hjn : j < n := by rw [← HL.out]; exact hj
      obtain ⟨b, off, x0, x1, x2, x3, x4, rfl, hbB, hz, hc0, hc1, hc2, hc3, hc4⟩ := (HR.out.below HB5.out hB).at_ hjn
      rw [hz] at hfn hjid
      have HJID : Hid (x0 = rp) := hjid
      have HZ := Lib.hid hz
      have HFN := Lib.hid hfn
      have HJ := Lib.hid hj
      clear hat hfn hjid hz hj
      by_cases hge : gen ≤ x3
      · have HN := Lib.hid (take_old HOK.out HFN.out hge)
        have hd : decide (gen ≤ x3) = true := by simp [hge]
        clear Y0 Y1 Y2 Y3
        go_wp2_with fail
        go_quiet (fail)
        go_wp2
        refine bodyPost_ret (v := .tuple #[.agg #[.slice A2 n c2, .int .i64 nx], .int .i64 1]) (by simp [results, Tryz.results103, go_sem, y20, y21]) rfl ?_
        rw [HN.out.1, HN.out.2]
        first
        | exact made1_of HB5.out HO5.out (by omega) (S := fun k => k = w.heap.size + 1 + 1) (fun k hk => by omega) (turned_drewN ((Turned.set (S := fun k => k = w.heap.size + 1 + 1) _ ⟨w.heap.size + 1 + 1, 0, none⟩ _ rfl).trans (Turned.set (S := fun k => k = w.heap.size + 1 + 1) _ ⟨w.heap.size + 1 + 1, 1, none⟩ _ rfl)) _)
        | exact made1_of HB5.out HO5.out (by omega) (S := fun k => k = w.heap.size + 1 + 1) (fun k hk => by omega) (turned_of_drewN ((Turned.set (S := fun k => k = w.heap.size + 1 + 1) _ ⟨w.heap.size + 1 + 1, 0, none⟩ _ rfl).trans (Turned.set (S := fun k => k = w.heap.size + 1 + 1) _ ⟨w.heap.size + 1 + 1, 1, none⟩ _ rfl)))
      · have hd : decide (gen ≤ x3) = false := by simp; omega
        obtain ⟨g, hA2, hg0, hg1⟩ := HO5.out.at0 (by omega)
        subst hA2
        obtain ⟨⟨u0, hu0⟩, ⟨u1, hu1⟩, ⟨u2, hu2⟩, ⟨u3, hu3⟩, ⟨u4, hu4⟩, hfr, _⟩ := own_cells5 HO5.out hjn
        have hf3 := hfr (j * 5 + 3)
        have hgne1 : g ≠ w2.heap.size := own_ne HO5.out Y3 (by decide) g rfl
        have hgne0 : g ≠ w.heap.size + 1 + 1 := by omega
        have hgne2 : g ≠ w.heap.size := by omega
        have hgne3 : g ≠ w.heap.size + 1 := by omega
        have Y0 := Lib.hid Y0
        have Y1 := Lib.hid Y1
        have Y2 := Lib.hid Y2
        have Y3 := Lib.hid Y3
        go_wp2_with fail
        go_quiet (fail)
        go_upto_region 10 with fail
        have hO6 := own_set1 (show OwnP (w5.drewN nq) (w.heap.size + 1 + 1 + 1) (some ⟨g, 0, none⟩) n c2 ps from HO5.out.same (fun _ _ => rfl)) hjn gen
        rw [HZ.out] at hO6
        have hO6 : OwnP ((w5.drewN nq).setCell ⟨g, j * 5 + 3, none⟩ (.int .i64 gen)) (w.heap.size + 1 + 1 + 1) (some ⟨g, 0, none⟩) n c2 (ps.set j (x0, x1, x2, gen, x4)) := hO6
        obtain ⟨W6, hW6⟩ : ∃ W6, W6 = ((w5.drewN nq).setCell ⟨g, j * 5 + 3, none⟩ (.int .i64 gen)) := ⟨_, rfl⟩
        rw [← hW6] at hO6
        have hb6 : Below w.heap.size w W6 := by rw [hW6]; exact (below_drewN HB5.out nq).setCell (p := ⟨g, j * 5 + 3, none⟩) (by show w.heap.size ≤ g; omega) _
        have G0 : W6.heap[w.heap.size]? = some (.cells #[.slice (some ⟨b, off, none⟩) n c, .int .i64 nx] 34) := by rw [hW6]; exact box_other (w := w5.drewN nq) Y0.out _ _ (Ne.symm hgne2)
        have G1 : W6.heap[w.heap.size + 1]? = some (.cells #[.int .i64 rp, .int .i64 gen, .int .i64 st] 148) := by rw [hW6]; exact box_other (w := w5.drewN nq) Y1.out _ _ (Ne.symm hgne3)
        have G2 : W6.heap[w.heap.size + 1 + 1]? = some (.cells #[.slice none 0 0, .int .i64 0] 34) := by rw [hW6]; exact box_other (w := w5.drewN nq) Y2.out _ _ (Ne.symm hgne0)
        have G3 : W6.heap[w2.heap.size]? = some (.cells #[.slice (some ⟨g, 0, none⟩) n c2, .int .i64 nx] 34) := by rw [hW6]; exact box_other (w := w5.drewN nq) Y3.out _ _ (Ne.symm hgne1)
        have HO6 := Lib.hid hO6
        have HB6 := Lib.hid hb6
        have X0 := Lib.hid G0
        have X1 := Lib.hid G1
        have X2 := Lib.hid G2
        have X3 := Lib.hid G3
        have hg6 : g < W6.heap.size := (hO6.lt g rfl).2
        have hs6 : w2.heap.size < W6.heap.size := box_lt G3
        clear hO6 hb6 G0 G1 G2 G3
        rw [← hW6]
        clear hW6 Y0 Y1 Y2 Y3 hu0 hu1 hu2 hu3 hu4 hf3 hfr y00 y01 y10 y11 y12 y20 y21 y30 y31 yf0 yf1 hc0 hc1 hc2 hc3 hc4 HO5 HB5
        have m00 := box_cell X0.out 0 _ rfl
        have m12 := box_cell X1.out 2 _ rfl
        have m20 := box_cell X2.out 0 _ rfl
        have m21 := box_cell X2.out 1 _ rfl
        have m30 := box_cell X3.out 0 _ rfl
        have m31 := box_cell X3.out 1 _ rfl
        have n20 := box_frozen X2.out 0
        have n21 := box_frozen X2.out 1
        by_cases hs4 : st = 4
        · have HN := Lib.hid (take_gone HOK.out HFN.out (show ¬ gen ≤ x3 by omega) hs4)
          have hds : (st == 4) = true := by simp [hs4]
          clear hs4
          have hbl : Below W6.heap.size W6 (W6.alloc (.cells #[] 85)) := bel1 _ _
          have hL0 : OwnP (W6.alloc (.cells #[] 85)) W6.heap.size (some ⟨W6.heap.size, 0, none⟩) (butJ ps j 0).length 0 (butJ ps j 0) := by
            rw [but_zero]
            exact ⟨rfl, rfl, .inr ⟨W6.heap.size, 0, #[], rfl, Nat.le_refl _, box_new _ _, Nat.le_refl _, Nat.zero_le _, rfl, rfl⟩⟩
          have hl00 : (butJ ps j 0).length = 0 := by rw [but_zero]; rfl
          go_wp2_with fail
          go_loopw [10, 11] (fun s i wr => ∃ (k q : Nat) (Al : Option Addr) (cl : Nat), k ≤ n ∧ q ≤ k ∧ i = .int .i64 k ∧ s = .slice Al q cl ∧ Hid (q = (butJ ps j k).length) ∧ Hid (OwnP wr W6.heap.size Al (butJ ps j k).length cl (butJ ps j k)) ∧ Hid (Below W6.heap.size W6 wr)) (fun _ i _ => n - (RowKit.intOf i).toNat)
          case atStart => exact ⟨0, 0, some ⟨W6.heap.size, 0, none⟩, 0, Nat.zero_le _, Nat.le_refl _, rfl, rfl, hl00.symm, hL0, hbl⟩
          case round =>
            obtain ⟨k, q, Al, cl, hk, hqk, rfl, rfl, HQ, HLW, HBL⟩ := hrel
            clear hL0 hbl hl00 m00 m12 m20 m21 m30 m31 n20 n21
            have Z3 := (HBL.out.block w2.heap.size hs6).trans X3.out
            have m30 := box_cell Z3 0 _ rfl
            have m31 := box_cell Z3 1 _ rfl
            have HOW := Lib.hid (HO6.out.below HBL.out)
            by_cases hlt : k < n
            · have hkp : k < ps.length := by rw [HL.out]; exact hlt
              have HKP := Lib.hid hkp
              by_cases hkj : k = j
              · have hdk : ((k : Int) != (j : Int)) = false := by simp [hkj]
                have HB1 : Hid (butJ ps j (k + 1) = butJ ps j k) := by show _ = _; rw [hkj]; exact but_at ps j HJ.out
                clear hkj Z3 hkp
                go_wp2
                go_roundw
                case rel => exact ⟨k + 1, q, Al, cl, by omega, by omega, by go_num, rfl, by show _ = _; rw [HB1.out]; exact HQ.out, by show OwnP _ _ _ _ _ _; rw [HB1.out]; exact HLW.out, HBL⟩
                case measure => simp [RowKit.intOf]; omega
              · have hdk : ((k : Int) != (j : Int)) = true := by simp; omega
                obtain ⟨b3, off3, v0, v1, v2, v3, v4, hbb, _, hv, hd0, hd1, hd2, hd3, hd4⟩ := (HOW.out.podsAll).at_ hlt
                injection hbb with hbb
                injection hbb with e1 e2
                subst e1 e2
                rw [get_set_ne _ hkj] at hv
                have HB1 : Hid (butJ ps j (k + 1) = butJ ps j k ++ [(v0, v1, v2, v3, v4)]) := by show _ = _; rw [but_succ ps j k HKP.out hkj, hv]
                have hq1 : q ≤ 1048576 := by omega
                have HLQ : Hid (OwnP wr W6.heap.size Al q cl (butJ ps j k)) := by have h := HLW.out; rw [← HQ.out] at h; exact h
                have hsw : W6.heap.size ≤ wr.heap.size := HBL.out.size
                have hzo : (0 : Nat) + k * 5 = k * 5 := by omega
                simp only [Nat.zero_add] at hd0 hd1 hd2 hd3 hd4
                clear hkj Z3 hkp hv hzo
                go_wp2_with (at_builtin; refine wpList_append_own _ rfl (.tmp 73) (.tmp 79) _ rfl W6.heap.size 85 i0 _ 5 40 Tryz.underlying32 hi0 hz0 hz1 hz2 rfl (by omega) (.slice Al q cl) q (flat (butJ ps j k)) rfl ?o1 ⟨wr.heap.size, 0, none⟩ 1 1 [.int .i64 v0, .int .i64 v1, .int .i64 v2, .int .i64 v3, .int .i64 v4] rfl rfl ?o2 ?o3 ?o4 ?o5 ?o6 ?_)
                case o1 => exact (HLQ.out.2.alloc _)
                case o3 => exact ⟨rfl, rfl, rfl, rfl, rfl⟩
                case o4 => unfold maxLen; omega
                case o5 => omega
                case o6 => first | omega | (simp; omega)
                intro v2' w7 hown hgr _
                obtain ⟨A7, c7, rfl, hO7⟩ := own_app (ps := butJ ps j k) (p := (v0, v1, v2, v3, v4)) HLQ.out.1 hown
                rw [← HB1.out] at hO7
                have HQ7 : Hid (q + 1 = (butJ ps j (k + 1)).length) := by show _ = _; rw [HB1.out, List.length_append, HQ.out]; rfl
                have HO7 : Hid (OwnP w7 W6.heap.size A7 (butJ ps j (k + 1)).length c7 (butJ ps j (k + 1))) := by have h := hO7; rw [HQ7.out] at h; exact h
                have HB7 : Hid (Below W6.heap.size W6 w7) := (HBL.out.alloc HBL.out.size _).grown hgr (by simp; omega) (fun qq hq => (HLQ.out.lt qq hq).1)
                clear hown hgr hO7
                go_wp2
                go_roundw
                case rel => exact ⟨k + 1, q + 1, A7, c7, by omega, by omega, by go_num, rfl, HQ7, HO7, HB7⟩
                case measure => simp [RowKit.intOf]; omega
            · have HK : Hid (k = ps.length) := by show _ = _; rw [HL.out]; omega
              have Z2 := (HBL.out.block (w.heap.size + 1 + 1) (by omega)).trans X2.out
              have m20 := box_cell Z2 0 _ rfl
              have m21 := box_cell Z2 1 _ rfl
              have n20 := box_frozen Z2 0
              have n21 := box_frozen Z2 1
              have n30 := box_frozen Z3 0
              have HLQ : Hid (OwnP wr W6.heap.size Al q cl (offP rp ps)) := by
                have h := HLW.out
                rw [← HQ.out, HK.out, but_all (k := rp) HG.out.2.2.2 HJ.out (by rw [HZ.out]; exact HJID.out)] at h
                exact h
              have HB8 : Hid (Below w.heap.size w wr) := bel_then HB6.out HBL.out HB6.out.size
              clear Z2 Z3
              go_wp2
              refine bodyPost_ret (v := .tuple #[.agg #[.slice Al q cl, .int .i64 nx], .int .i64 0]) (by simp [results, Tryz.results103, go_sem, m20, m21]) rfl ?_
              rw [HN.out.1, HN.out.2]
              exact made1_of HB8.out HLQ.out (by omega) (S := fun k => k = w.heap.size + 1 + 1 ∨ k = w2.heap.size) (fun k hk => by omega) ((Turned.set (S := fun k => k = w.heap.size + 1 + 1 ∨ k = w2.heap.size) _ ⟨w2.heap.size, 0, none⟩ _ (.inr rfl)).trans ((Turned.set (S := fun k => k = w.heap.size + 1 + 1 ∨ k = w2.heap.size) _ ⟨w.heap.size + 1 + 1, 0, none⟩ _ (.inl rfl)).trans (Turned.set (S := fun k => k = w.heap.size + 1 + 1 ∨ k = w2.heap.size) _ ⟨w.heap.size + 1 + 1, 1, none⟩ _ (.inl rfl))))
        · have HN := Lib.hid (take_set HOK.out HFN.out (show ¬ gen ≤ x3 by omega) hs4)
          have hds : (st == 4) = false := by simp [hs4]
          obtain ⟨b', off', z0, z1, z2, z3, z4, hbb, _, hzz, hc0, hc1, hc2, hc3, hc4⟩ := (HR.out.below HB6.out hB).at_ hjn
          injection hbb with hbb
          injection hbb with e1 e2
          subst e1 e2
          have hzz := hzz.symm.trans HZ.out
          simp only [Prod.mk.injEq] at hzz
          obtain ⟨rfl, rfl, rfl, rfl, rfl⟩ := hzz
          by_cases htn : z2 ≠ 4 ∧ z2 ≠ st
          · have h1' : (z2 != 4) = true := by simp [htn.1]
            have h2' : (z2 != st) = true := by simp [htn.2]
            have HV : Hid (repP (z0, z1, z2, z3, z4) gen st now = (z0, z1, st, gen, now)) := if_pos htn
            clear htn
            obtain ⟨⟨u0, hu0⟩, ⟨u1, hu1⟩, ⟨u2, hu2⟩, ⟨u3, hu3⟩, ⟨u4, hu4⟩, hfr, _⟩ := own_cells5 HO6.out hjn
            have hf2 := hfr (j * 5 + 2)
            have hf4 := hfr (j * 5 + 4)
            go_wp2_with fail
            go_quiet (fail)
            go_upto_region 22 with fail
            have hO7 := own_set2 (show OwnP (W6.drewN nq) (w.heap.size + 1 + 1 + 1) (some ⟨g, 0, none⟩) n c2 (ps.set j (z0, z1, z2, gen, z4)) from HO6.out.same (fun _ _ => rfl)) hjn st now
            rw [set_get _ HJ.out, List.set_set] at hO7
            have hO7 : OwnP (((W6.drewN nq).setCell ⟨g, j * 5 + 2, none⟩ (.int .i64 st)).setCell ⟨g, j * 5 + 4, none⟩ (.int .i64 now)) (w.heap.size + 1 + 1 + 1) (some ⟨g, 0, none⟩) n c2 (ps.set j (z0, z1, st, gen, now)) := hO7
            rw [set_setP HG.out.2.2.2 HJ.out (by rw [HZ.out])] at hO7
            obtain ⟨W7, hW7⟩ : ∃ W7, W7 = (((W6.drewN nq).setCell ⟨g, j * 5 + 2, none⟩ (.int .i64 st)).setCell ⟨g, j * 5 + 4, none⟩ (.int .i64 now)) := ⟨_, rfl⟩
            rw [← hW7] at hO7
            have hb7 : Below w.heap.size w W7 := by rw [hW7]; exact ((below_drewN HB6.out nq).setCell (p := ⟨g, j * 5 + 2, none⟩) (by show w.heap.size ≤ g; omega) _).setCell (p := ⟨g, j * 5 + 4, none⟩) (by show w.heap.size ≤ g; omega) _
            have G2 : W7.heap[w.heap.size + 1 + 1]? = some (.cells #[.slice none 0 0, .int .i64 0] 34) := by rw [hW7]; exact box_other (box_other (w := W6.drewN nq) X2.out _ _ (Ne.symm hgne0)) _ _ (Ne.symm hgne0)
            have G3 : W7.heap[w2.heap.size]? = some (.cells #[.slice (some ⟨g, 0, none⟩) n c2, .int .i64 nx] 34) := by rw [hW7]; exact box_other (box_other (w := W6.drewN nq) X3.out _ _ (Ne.symm hgne1)) _ _ (Ne.symm hgne1)
            rw [← hW7]
            have HO7 := Lib.hid hO7
            have HB7 := Lib.hid hb7
            clear hW7 hO7 hb7 hu0 hu1 hu2 hu3 hu4 hfr hf2 hf4 m00 m12 m20 m21 m30 m31 n20 n21 hc0 hc1 hc2 hc3 hc4
            have m20 := box_cell G2 0 _ rfl
            have m21 := box_cell G2 1 _ rfl
            have m30 := box_cell G3 0 _ rfl
            have m31 := box_cell G3 1 _ rfl
            have n20 := box_frozen G2 0
            have n21 := box_frozen G2 1
            clear G2 G3
            go_wp2
            refine bodyPost_ret (v := .tuple #[.agg #[.slice (some ⟨g, 0, none⟩) n c2, .int .i64 nx], .int .i64 0]) (by simp [results, Tryz.results103, go_sem, m20, m21]) rfl ?_
            rw [HN.out.1, HN.out.2, HV.out]
            exact made1_of HB7.out HO7.out (by omega) (S := fun k => k = w.heap.size + 1 + 1) (fun k hk => by omega) ((Turned.set (S := fun k => k = w.heap.size + 1 + 1) _ ⟨w.heap.size + 1 + 1, 0, none⟩ _ rfl).trans (Turned.set (S := fun k => k = w.heap.size + 1 + 1) _ ⟨w.heap.size + 1 + 1, 1, none⟩ _ rfl))
          · have HV : Hid (repP (z0, z1, z2, z3, z4) gen st now = (z0, z1, z2, gen, z4)) := if_neg htn
            have HS7 : Hid (ps.set j (z0, z1, z2, gen, z4) = setP (z0, z1, z2, gen, z4) ps) := set_setP HG.out.2.2.2 HJ.out (by rw [HZ.out])
            have h3' : (z2 != 4) = false ∨ ((z2 != 4) = true ∧ (z2 != st) = false) := by
              by_cases h4 : z2 = 4
              · exact .inl (by simp [h4])
              · refine .inr ⟨by simp [h4], ?_⟩
                by_cases h5 : z2 = st
                · simp [h5]
                · exact absurd ⟨h4, h5⟩ htn
            clear htn
            rcases h3' with h1' | ⟨h1', h2'⟩
            all_goals
              go_wp2_with fail
              go_quiet (fail)
              go_wp2
              refine bodyPost_ret (v := .tuple #[.agg #[.slice (some ⟨g, 0, none⟩) n c2, .int .i64 nx], .int .i64 0]) (by simp [results, Tryz.results103, go_sem, m20, m21]) rfl ?_
              rw [HN.out.1, HN.out.2, HV.out, ← HS7.out]
              exact made1_of HB6.out HO6.out (by omega) (S := fun k => k = w.heap.size + 1 + 1) (fun k hk => by omega) (turned_of_drewN (q := nq) ((Turned.set (S := fun k => k = w.heap.size + 1 + 1) _ ⟨w.heap.size + 1 + 1, 0, none⟩ _ rfl).trans (Turned.set (S := fun k => k = w.heap.size + 1 + 1) _ ⟨w.heap.size + 1 + 1, 1, none⟩ _ rfl)))
  · rw [decide_eq_false hg] at hO ⊢
    have HN := Lib.hid (take_bad (d := (ps, nx)) (rp := rp) (gen := gen) (st := st) (now := now) (by rw [hO]; simp))
    clear hg hO
    go_wp2
    refine bodyPost_ret (v := .tuple #[.agg #[.slice A2 n c2, .int .i64 nx], .int .i64 3]) (by simp [results, Tryz.results103, go_sem, f20, f21]) rfl ?_
    rw [HN.out.1, HN.out.2]
    exact made1_of HB4.out HO4.out (by omega) (S := fun k => k = w.heap.size + 1 + 1) (fun k hk => by omega) (((Turned.set (S := fun k => k = w.heap.size + 1 + 1) _ ⟨w.heap.size + 1 + 1, 0, none⟩ _ rfl).trans (Turned.set (S := fun k => k = w.heap.size + 1 + 1) _ ⟨w.heap.size + 1 + 1, 1, none⟩ _ rfl)))
end Go.Proofs.YtklgjjmcflgjeaaGreat.Crew
