import Derived.Test.YtklgjjmcflgjeaaGreatR13
set_option linter.unusedVariables false
set_option linter.unusedSimpArgs false
namespace Go.Proofs.YtklgjjmcflgjeaaGreat.EngInv
open Tick (inB in_t tokB tok_t sinceV)
open Pods
open FleetV hiding goodB
open EngV Eng
open EngCnt (live good going okB_t)
open Crew (goD goP addD takeD takeV)
theorem ok_of {e : Eng} (h1 : e.sp.ok = true) (h2 : FGood e.ps e.nx) (h3 : tokB e.now = true) (h4 : tokB e.st = true) (h5 : tokB e.wt = true) (h6 : 0 ≤ e.ph ∧ e.ph ≤ 3) (h7 : 1 ≤ e.tg ∧ e.tg ≤ 1000) (h8 : 1 ≤ e.gd ∧ e.gd ≤ 1000) (h9 : 0 ≤ e.tr ∧ e.tr ≤ 200) : e.okB = true := by
  simp [Eng.okB, h1, h2, h3, h4, h5, inB, h6, h7, h8, h9]
theorem good_setP {ps : PList} {nx : Int} {p : Pd} (h : FGood ps nx) (hp : PodOk p ∧ p.1 < nx) : FGood (setP p ps) nx := by
  obtain ⟨h1, h2, h3, h4⟩ := h
  refine ⟨by rw [len_setP]; exact h1, h2, fun q hq => ?_, asc_setP h4⟩
  rcases mem_setP hq with rfl | hq
  · exact hp
  · exact h3 q hq
theorem good_off {ps : PList} {nx k : Int} (h : FGood ps nx) : FGood (offP k ps) nx := by
  obtain ⟨h1, h2, h3, h4⟩ := h
  exact ⟨Nat.le_trans (len_off k ps) h1, h2, fun q hq => h3 q (mem_off.1 hq).1, asc_off h4⟩
theorem goP_ok {ps : PList} {nx id now : Int} {p : Pd} (h : FGood ps nx) (hn : tokB now = true) (he : goP (ps, nx) id now = some p) : PodOk p ∧ p.1 < nx := by
  unfold goP at he
  rw [if_pos ⟨h, hn⟩] at he
  cases hf : fndP ps id with
  | none => simp only [hf] at he; cases he
  | some q =>
    simp only [hf] at he
    split at he
    · cases he
    · injection he with he
      subst he
      obtain ⟨hm, _⟩ := fnd_mem hf
      obtain ⟨⟨a, b, c, d, e⟩, hl⟩ := h.2.2.1 q hm
      have := tok_t hn
      exact ⟨⟨a, b, by simp, d, this⟩, hl⟩
theorem good_goD {ps : PList} {nx id now : Int} (h : FGood ps nx) (hn : tokB now = true) : FGood (goD (ps, nx) id now).1 (goD (ps, nx) id now).2 := by
  cases e : goP (ps, nx) id now with
  | none => rw [(Crew.go_no e).1]; exact h
  | some p => rw [(Crew.go_yes e).1]; exact good_setP h (goP_ok h hn e)
theorem len_goD (d : PList × Int) (id now : Int) : (goD d id now).1.length = d.1.length := by
  cases e : goP d id now with
  | none => rw [(Crew.go_no e).1]
  | some p => rw [(Crew.go_yes e).1]; exact len_setP _ _
theorem good_addD {ps : PList} {nx rev now : Int} (h : FGood ps nx) : FGood (addD (ps, nx) rev now).1 (addD (ps, nx) rev now).2 := by
  by_cases hA : Crew.AddOk ps nx rev now
  · rw [(Crew.add_yes hA).1]; exact Crew.good_app h |>.2 hA
  · rw [(Crew.add_no hA).1]; exact h
theorem good_takeD {ps : PList} {nx rp gen st now : Int} (h : FGood ps nx) : FGood (takeD (ps, nx) rp gen st now).1 (takeD (ps, nx) rp gen st now).2 := by
  cases ho : Crew.takeO (ps, nx) rp gen st now with
  | false => rw [(Crew.take_bad ho).1]; exact h
  | true =>
    cases hf : fndP ps rp with
    | none => rw [(Crew.take_unk ho hf).1]; exact h
    | some p =>
      by_cases hg : gen ≤ p.2.2.2.1
      · rw [(Crew.take_old ho hf hg).1]; exact h
      · by_cases hs : st = 4
        · rw [(Crew.take_gone ho hf hg hs).1]; exact good_off h
        · rw [(Crew.take_set ho hf hg hs).1]
          obtain ⟨hm, _⟩ := fnd_mem hf
          obtain ⟨⟨a, b, c, d, e⟩, hl⟩ := h.2.2.1 p hm
          have ho2 := ho
          simp only [Crew.takeO, Bool.and_eq_true, decide_eq_true_eq] at ho2
          obtain ⟨⟨_, h1, h2⟩, h3⟩ := ho2
          have h1 := in_t h1
          have h2 := in_t h2
          have h3 := tok_t h3
          refine good_setP h ⟨?_, by rw [Crew.rep_id]; exact hl⟩
          unfold Crew.repP
          split
          · exact ⟨a, b, (by show 0 ≤ st ∧ st ≤ 4; omega), ⟨by show 0 ≤ gen; omega, by show gen ≤ 1000000000; omega⟩, h3⟩
          · exact ⟨a, b, c, ⟨by show 0 ≤ gen; omega, by show gen ≤ 1000000000; omega⟩, e⟩
theorem good_map {ps : PList} {nx : Int} (s : Spc) {now : Int} (h : FGood ps nx) (hn : tokB now = true) : FGood (ps.map (stuP s now)) nx := by
  obtain ⟨h1, h2, h3, h4⟩ := h
  have hid : ∀ p, (stuP s now p).1 = p.1 := fun p => by unfold stuP; split <;> rfl
  refine ⟨by simpa using h1, h2, fun q hq => ?_, ?_⟩
  · obtain ⟨p, hp, rfl⟩ := List.mem_map.1 hq
    obtain ⟨⟨a, b, c, d, e⟩, hl⟩ := h3 p hp
    rw [hid]
    refine ⟨?_, hl⟩
    unfold stuP
    split
    · exact ⟨a, b, c, d, tok_t hn⟩
    · exact ⟨a, b, c, d, e⟩
  · unfold Asc
    rw [List.pairwise_map]
    exact h4.imp (fun {a b} hab => by rw [hid, hid]; exact hab)
theorem addV_tok {a b : Int} (ha : tokB a = true) (hb : 0 ≤ b ∧ b ≤ 1000000000) : tokB (Tick.addV a b) = true := by
  have h1 : (tokB a && inB b (-1000000000) 1000000000) = true := by simp [ha, inB]; omega
  unfold Tick.addV
  rw [if_pos h1]
  simp [tokB]
  omega
theorem wait_bd {s : Spc} (hs : s.ok = true) {n : Int} (hn : 0 ≤ n) : 0 ≤ waitS s n ∧ waitS s n ≤ 1000000000 := by
  have h := Sp.specB_t hs
  unfold waitS Rw.waitV
  rw [if_pos ⟨hs, hn⟩]
  split
  · omega
  · have := Rw.dbl_bd (b := s.x5) (c := s.x6) (by omega) (by omega) (n - 1).toNat
    omega
structure Kp (q r : Run) (k : Nat) : Prop where
  sp : r.e.sp = q.e.sp
  now : r.e.now = q.e.now
  ph : r.e.ph = q.e.ph
  tg : r.e.tg = q.e.tg
  gd : r.e.gd = q.e.gd
  st : r.e.st = q.e.st
  ev : r.ev.length ≤ q.ev.length + k
theorem Kp.refl (q : Run) : Kp q q 0 := ⟨rfl, rfl, rfl, rfl, rfl, rfl, Nat.le_refl _⟩
theorem Kp.trans {a b c : Run} {j k : Nat} (h : Kp a b j) (g : Kp b c k) : Kp a c (j + k) := ⟨g.sp.trans h.sp, g.now.trans h.now, g.ph.trans h.ph, g.tg.trans h.tg, g.gd.trans h.gd, g.st.trans h.st, by have := h.ev; have := g.ev; omega⟩
theorem Kp.more {a b : Run} {j k : Nat} (h : Kp a b j) (hk : j ≤ k) : Kp a b k := ⟨h.sp, h.now, h.ph, h.tg, h.gd, h.st, by have := h.ev; omega⟩
theorem drop_kp (r : Run) (p : Pd) : Kp r (r.drop p) 1 := ⟨rfl, rfl, rfl, rfl, rfl, rfl, by simp [Run.drop, Run.tell, Run.setFl]⟩
theorem drop_tr (r : Run) (p : Pd) : (r.drop p).e.tr = r.e.tr ∧ (r.drop p).e.wt = r.e.wt ∧ (r.drop p).e.ps.length = r.e.ps.length := ⟨rfl, rfl, len_goD _ _ _⟩
theorem drop_good (r : Run) (p : Pd) (h : FGood r.e.ps r.e.nx) (hn : tokB r.e.now = true) : FGood (r.drop p).e.ps (r.drop p).e.nx := good_goD h hn
theorem drop_ok (r : Run) (p : Pd) (h : r.e.okB = true) : (r.drop p).e.okB = true := by
  obtain ⟨h1, h2, h3, h4, h5, h6, h7, h8, h9⟩ := okB_t h
  exact ok_of (e := (r.drop p).e) h1 (drop_good r p h2 h3) h3 h4 h5 h6 h7 h8 h9
theorem dropN_all (f : Pd → Bool) : ∀ (ps : PList) (r : Run) (n : Int), Kp r (r.dropN f n ps).1 ps.length ∧ (r.dropN f n ps).1.e.tr = r.e.tr ∧ (r.dropN f n ps).1.e.wt = r.e.wt ∧ (r.dropN f n ps).1.e.ps.length = r.e.ps.length ∧ (r.e.okB = true → (r.dropN f n ps).1.e.okB = true)
  | [], r, n => ⟨Kp.refl r, rfl, rfl, rfl, fun h => h⟩
  | p :: ps, r, n => by
    unfold Run.dropN
    split
    · obtain ⟨a, b, c, d, e⟩ := dropN_all f ps (r.drop p) (n - 1)
      obtain ⟨g1, g2, g3⟩ := drop_tr r p
      exact ⟨(((drop_kp r p).trans a).more (by simp; omega)), b.trans g1, c.trans g2, d.trans g3, fun h => e (drop_ok r p h)⟩
    · obtain ⟨a, b, c, d, e⟩ := dropN_all f ps r n
      exact ⟨a.more (by simp), b, c, d, e⟩
theorem dropF_all (f : Pd → Bool) (r : Run) (n : Int) : Kp r (r.dropF f n).1 r.e.ps.length ∧ (r.dropF f n).1.e.tr = r.e.tr ∧ (r.dropF f n).1.e.wt = r.e.wt ∧ (r.dropF f n).1.e.ps.length = r.e.ps.length ∧ (r.e.okB = true → (r.dropF f n).1.e.okB = true) := dropN_all f r.e.ps r n
theorem lose_all (r : Run) (p : Pd) : Kp r (r.lose p) 1 ∧ (r.lose p).e.ps.length = r.e.ps.length := by
  unfold Run.lose
  split
  · obtain ⟨a, b, c, d, e, f, g⟩ := drop_kp r p
    exact ⟨⟨a, b, c, d, e, f, g⟩, len_goD _ _ _⟩
  · exact ⟨drop_kp r p, len_goD _ _ _⟩
structure Gd (r : Run) (k : Int) : Prop where
  sp : r.e.sp.ok = true
  fl : FGood r.e.ps r.e.nx
  now : tokB r.e.now = true
  st : tokB r.e.st = true
  wt : tokB r.e.wt = true
  ph : 0 ≤ r.e.ph ∧ r.e.ph ≤ 3
  tg : 1 ≤ r.e.tg ∧ r.e.tg ≤ 1000
  gd : 1 ≤ r.e.gd ∧ r.e.gd ≤ 1000
  t0 : 0 ≤ r.e.tr ∧ r.e.tr ≤ 200
  t1 : mvB r.e.ph = true → r.e.tr ≤ k
theorem Gd.ok {r : Run} {k : Int} (h : Gd r k) : r.e.okB = true := ok_of h.sp h.fl h.now h.st h.wt h.ph h.tg h.gd h.t0
theorem gd_of {r : Run} {k : Int} (h : r.e.okB = true) (ht : mvB r.e.ph = true → r.e.tr ≤ k) : Gd r k := by
  obtain ⟨h1, h2, h3, h4, h5, h6, h7, h8, h9⟩ := okB_t h
  exact ⟨h1, h2, h3, h4, h5, h6, h7, h8, h9, ht⟩
theorem lose_gd (r : Run) (p : Pd) (k : Int) (hk : k < 200) (h : Gd r k) : Gd (r.lose p) (k + 1) := by
  obtain ⟨h1, h2, h3, h4, h5, h6, h7, h8, h9, h10⟩ := h
  have hd := drop_good r p h2 h3
  unfold Run.lose
  split
  · rename_i hm
    simp only [Bool.and_eq_true] at hm
    have h11 := h10 hm.1
    refine ⟨h1, hd, h3, h4, ?_, h6, h7, h8, ?_, fun _ => ?_⟩
    · show tokB (Tick.addV r.e.now (waitS r.e.sp (r.e.tr + 1))) = true
      exact addV_tok h3 (wait_bd h1 (by omega))
    · show 0 ≤ r.e.tr + 1 ∧ r.e.tr + 1 ≤ 200
      omega
    · show r.e.tr + 1 ≤ k + 1
      omega
  · exact ⟨h1, hd, h3, h4, h5, h6, h7, h8, h9, fun hm => by have : r.e.tr ≤ k := h10 hm; show r.e.tr ≤ k + 1; omega⟩
theorem loseAll_all : ∀ (ps : PList) (r : Run), Kp r (r.loseAll ps) ps.length ∧ (r.loseAll ps).e.ps.length = r.e.ps.length ∧ ∀ k : Int, k + ps.length ≤ 200 → Gd r k → Gd (r.loseAll ps) (k + ps.length)
  | [], r => ⟨Kp.refl r, rfl, fun k _ h => by show Gd r _; simpa using h⟩
  | p :: ps, r => by
    unfold Run.loseAll
    split
    · obtain ⟨a, b, c⟩ := loseAll_all ps (r.lose p)
      obtain ⟨g1, g2⟩ := lose_all r p
      refine ⟨(g1.trans a).more (by simp; omega), b.trans g2, fun k hk h => ?_⟩
      have hk : k + (ps.length + 1 : Nat) ≤ 200 := hk
      have h2 := c (k + 1) (by omega) (lose_gd r p k (by omega) h)
      have e : k + 1 + (ps.length : Int) = k + ((p :: ps).length : Int) := by simp; omega
      rw [← e]; exact h2
    · obtain ⟨a, b, c⟩ := loseAll_all ps r
      refine ⟨a.more (by simp), b, fun k hk h => ?_⟩
      have hk : k + (ps.length + 1 : Nat) ≤ 200 := hk
      obtain ⟨h1, h2, h3, h4, h5, h6, h7, h8, h9, h10⟩ := c k (by omega) h
      refine ⟨h1, h2, h3, h4, h5, h6, h7, h8, h9, fun hm => ?_⟩
      have := h10 hm
      simp only [List.length_cons]
      omega
theorem stuck_len (s : Spc) (now : Int) (ps : PList) : (stuE s now ps).length ≤ ps.length := by unfold stuE; rw [List.length_map]; exact List.length_filter_le _ _
theorem stuck_kp (r : Run) : Kp r r.tellStuck r.e.ps.length := ⟨rfl, rfl, rfl, rfl, rfl, rfl, by show (r.ev ++ _).length ≤ _; rw [List.length_append]; have := stuck_len r.e.sp r.e.now r.e.ps; omega⟩
theorem stuck_gd {r : Run} {k : Int} (h : Gd r k) : Gd r.tellStuck k := ⟨h.sp, good_map _ h.fl h.now, h.now, h.st, h.wt, h.ph, h.tg, h.gd, h.t0, h.t1⟩
theorem stuck_ps (r : Run) : r.tellStuck.e.ps.length = r.e.ps.length := by simp [Run.tellStuck]
theorem start_gd {r : Run} {ph tg : Int} (hp : 0 ≤ ph ∧ ph ≤ 3) (ht : 1 ≤ tg ∧ tg ≤ 1000) {k : Int} (h : Gd r k) {j : Int} (hj : 0 ≤ j) : Gd (r.start ph tg) j :=
  ⟨h.sp, h.fl, h.now, h.now, (show tokB 0 = true from rfl), hp, ht, h.gd, by show (0 : Int) ≤ 0 ∧ (0 : Int) ≤ 200; omega, fun _ => hj⟩
theorem fault_le {e : Eng} (h : faultV e = 0) : e.tr ≤ e.sp.x4 := by
  unfold faultV at h
  split at h
  · cases h
  · omega
theorem judge_all {r : Run} {k : Int} (h : Gd r k) : Gd r.judge r.judge.e.sp.x4 ∧ r.judge.ev.length ≤ r.ev.length + 2 ∧ r.judge.e.ps = r.e.ps ∧ r.judge.e.sp = r.e.sp := by
  have hs := Sp.specB_t h.sp
  unfold Run.judge
  split
  · split
    · exact ⟨start_gd (r := r.tell 4 r.e.tg (faultV r.e)) (by omega) h.gd ⟨h.sp, h.fl, h.now, h.st, h.wt, h.ph, h.tg, h.gd, h.t0, h.t1⟩ (by show 0 ≤ r.e.sp.x4; omega), by simp [Run.start, Run.enter, Run.tell], rfl, rfl⟩
    · exact ⟨⟨h.sp, h.fl, h.now, h.st, h.wt, by show (0 : Int) ≤ 3 ∧ (3 : Int) ≤ 3; omega, h.tg, h.gd, h.t0, fun hm => by have hm : mvB 3 = true := hm; simp [mvB] at hm⟩, by simp [Run.enter, Run.tell], rfl, rfl⟩
  · rename_i hc
    refine ⟨⟨h.sp, h.fl, h.now, h.st, h.wt, h.ph, h.tg, h.gd, h.t0, fun hm => fault_le ?_⟩, by omega, rfl, rfl⟩
    simp only [hm, Bool.true_and, Bool.not_eq_true', decide_eq_false_iff_not, Decidable.not_not] at hc
    simpa using hc
theorem makeN_all : ∀ (n : Nat) (r : Run), Kp r (r.makeN n) n ∧ (r.makeN n).e.tr = r.e.tr ∧ (r.makeN n).e.wt = r.e.wt ∧ (r.e.okB = true → (r.makeN n).e.okB = true)
  | 0, r => ⟨Kp.refl r, rfl, rfl, fun h => h⟩
  | n + 1, r => by
    unfold Run.makeN
    split
    · exact ⟨(Kp.refl r).more (by omega), rfl, rfl, fun h => h⟩
    · obtain ⟨a, b, c, d⟩ := makeN_all n ((r.setFl (addD r.fl r.e.tg r.e.now)).tell 0 (Crew.addV r.fl r.e.tg r.e.now) r.e.tg)
      have g : Kp r ((r.setFl (addD r.fl r.e.tg r.e.now)).tell 0 (Crew.addV r.fl r.e.tg r.e.now) r.e.tg) 1 := ⟨rfl, rfl, rfl, rfl, rfl, rfl, by simp [Run.tell, Run.setFl]⟩
      refine ⟨(g.trans a).more (by omega), b, c, fun h => d ?_⟩
      obtain ⟨h1, h2, h3, h4, h5, h6, h7, h8, h9⟩ := okB_t h
      exact ok_of (e := ((r.setFl (addD r.fl r.e.tg r.e.now)).tell 0 (Crew.addV r.fl r.e.tg r.e.now) r.e.tg).e) h1 (good_addD h2) h3 h4 h5 h6 h7 h8 h9
theorem carry_all (r : Run) (cr dr da df : Int) (hc : cr ≤ 1000) (hl : r.e.ps.length ≤ 30) : Kp r (r.carry cr dr da df) 1120 ∧ (r.carry cr dr da df).e.tr = r.e.tr ∧ (r.e.okB = true → (r.carry cr dr da df).e.okB = true) := by
  unfold Run.carry
  simp only []
  obtain ⟨a1, b1, c1, d1, e1⟩ := dropF_all (fun p => !decide (p.2.1 = r.e.tg) && !avP r.e.sp r.e.now p) r dr
  generalize (r.dropF (fun p => !decide (p.2.1 = r.e.tg) && !avP r.e.sp r.e.now p) dr).1 = r1 at *
  obtain ⟨a2, b2, c2, d2, e2⟩ := dropF_all (fun p => !decide (p.2.1 = r.e.tg) && avP r.e.sp r.e.now p) r1 da
  generalize (r1.dropF (fun p => !decide (p.2.1 = r.e.tg) && avP r.e.sp r.e.now p) da).1 = r2 at *
  obtain ⟨a3, b3, c3, d3, e3⟩ := dropF_all (fun p => decide (p.2.1 = r.e.tg) && !avP r.e.sp r.e.now p) r2 df
  generalize r2.dropF (fun p => decide (p.2.1 = r.e.tg) && !avP r.e.sp r.e.now p) df = q at *
  obtain ⟨a4, b4, c4, d4, e4⟩ := dropF_all (fun p => decide (p.2.1 = r.e.tg)) q.1 q.2
  generalize (q.1.dropF (fun p => decide (p.2.1 = r.e.tg)) q.2).1 = r4 at *
  have hk := ((a1.trans a2).trans a3).trans a4
  have ht : r4.e.tr = r.e.tr := by rw [b4, b3, b2, b1]
  split
  · obtain ⟨a5, b5, c5, d5⟩ := makeN_all cr.toNat r4
    refine ⟨(hk.trans a5).more ?_, b5.trans ht, fun h => d5 (e4 (e3 (e2 (e1 h))))⟩
    rw [d3, d2, d1]
    omega
  · refine ⟨hk.more ?_, ht, fun h => e4 (e3 (e2 (e1 h)))⟩
    rw [d3, d2, d1]
    omega
theorem over_all {r : Run} {k : Int} (h : Gd r k) : Gd r.over k ∧ r.over.ev.length ≤ r.ev.length + 2 := by
  have hx : Gd r.makeGood k ∧ r.makeGood.ev.length ≤ r.ev.length + 1 := by
    unfold Run.makeGood
    split
    · exact ⟨h, by omega⟩
    · exact ⟨⟨h.sp, h.fl, h.now, h.st, h.wt, h.ph, h.tg, h.tg, h.t0, h.t1⟩, by simp [Run.tell]⟩
  unfold Run.over
  split
  · split
    · obtain ⟨g, hl⟩ := hx
      exact ⟨⟨g.sp, g.fl, g.now, g.st, g.wt, by show (0 : Int) ≤ 0 ∧ (0 : Int) ≤ 3; omega, g.tg, g.gd, g.t0, fun hm => by have hm : mvB 0 = true := hm; simp [mvB] at hm⟩, by simp [Run.enter, Run.tell]; omega⟩
    · split
      · exact ⟨⟨h.sp, h.fl, h.now, h.st, h.wt, by show (0 : Int) ≤ 3 ∧ (3 : Int) ≤ 3; omega, h.tg, h.gd, h.t0, fun hm => by have hm : mvB 3 = true := hm; simp [mvB] at hm⟩, by simp [Run.enter, Run.tell]⟩
      · exact ⟨h, by omega⟩
  · exact ⟨h, by omega⟩
end Go.Proofs.YtklgjjmcflgjeaaGreat.EngInv
