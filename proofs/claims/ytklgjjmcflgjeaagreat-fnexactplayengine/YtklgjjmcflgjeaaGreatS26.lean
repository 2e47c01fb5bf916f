import Derived.Test.YtklgjjmcflgjeaaGreatQ
import Derived.Test.YtklgjjmcflgjeaaGreatS05
import Derived.Test.YtklgjjmcflgjeaaGreatS07
import Derived.Test.YtklgjjmcflgjeaaGreatS12
import Derived.Test.YtklgjjmcflgjeaaGreatS13
import Derived.Test.YtklgjjmcflgjeaaGreatS25
set_option linter.unusedVariables false
set_option linter.unusedSimpArgs false
namespace Go.Proofs.YtklgjjmcflgjeaaGreat.Mach
open Go.ChangeShapes Go.WideShapes Go.ChangeAt Go.RowKit
open LK Pods EngV EngCnt Eng Seg
structure ActOk (r : Run) : Prop where
  ev0 : r.ev.length ≤ 700000
  ps0 : r.e.ps.length ≤ 1000
  tr0 : 0 ≤ r.e.tr ∧ r.e.tr ≤ 900000
  id0 : IdsOk r.e.ps
  ev1 : r.giveUp.ev.length ≤ 800000
  ps1 : r.giveUp.e.ps.length ≤ 1000
  ev2 : r.giveUp.tellStuck.ev.length ≤ 800000
  ev3 : r.giveUp.tellStuck.judge.ev.length ≤ 800000
  ok3 : r.giveUp.tellStuck.judge.e.ph ≠ 3 → r.giveUp.tellStuck.judge.e.okB = true
  ps3 : r.giveUp.tellStuck.judge.e.ps.length ≤ 1000
  id3 : IdsOk r.giveUp.tellStuck.judge.e.ps
  ev4 : r.giveUp.tellStuck.judge.e.ph ≠ 3 → r.giveUp.tellStuck.judge.plan.ev.length ≤ 900000
  ok4 : r.giveUp.tellStuck.judge.e.ph ≠ 3 → r.giveUp.tellStuck.judge.plan.e.okB = true
theorem plan_bd {e : Eng} (h : e.okB = true) : (0 ≤ plCr e ∧ plCr e ≤ 1000) ∧ (0 ≤ plDr e ∧ plDr e ≤ 1000) ∧ (0 ≤ plDa e ∧ plDa e ≤ 1000) ∧ (0 ≤ plDf e ∧ plDf e ≤ 1000) := by
  have h1 : Sp.specB e.sp.x0 e.sp.x1 e.sp.x2 e.sp.x3 e.sp.x4 e.sp.x5 e.sp.x6 e.sp.x7 e.sp.x8 e.sp.x9 e.sp.x10 = true := (okB_t h).1
  have hs := Sp.specB_t h1
  have hp := EngCnt.part e
  have g0 := good_le e false
  have g1 := good_le e true
  have hl := (okB_t h).2.1.1
  have hb := limS_bd h
  unfold plCr plDr plDa plDf Cnt.crV Cnt.daV Cnt.drV Cnt.dfV Cnt.spV Cnt.roV
  refine ⟨⟨?_, ?_⟩, ⟨?_, ?_⟩, ⟨?_, ?_⟩, ⟨?_, ?_⟩⟩ <;> (repeat' split) <;> omega
def MovedT (b : Nat) (lk ot : Int) (r' : Run) (S : Nat → Prop) (w : World) (e : Ending) (w' : World) : Prop := e = .returned (.tuple #[]) ∧ AmidT w S b lk ot r' w'
theorem amidT_of {w wr : World} {S : Nat → Prop} {b : Nat} {lk ot : Int} {q : Run} (h : Amid w S b lk ot q wr) : AmidT w S b lk ot q wr := by
  obtain ⟨S1, h1, h2, h3, _⟩ := h
  exact ⟨S1, h1, h2, h3⟩
theorem AmidT.then {V W W2 : World} {S S1 : Nat → Prop} {b : Nat} {lk ot : Int} {q' : Run} (h2 : ∀ k, S1 k → S k ∨ V.heap.size ≤ k) (h3 : Turned S V W) (h : AmidT W S1 b lk ot q' W2) : AmidT V S b lk ot q' W2 := by
  obtain ⟨S2, a1, a2, a3⟩ := h
  refine ⟨S2, a1, fun k hk => ?_, turned_then h2 h3 a3⟩
  rcases a2 k hk with h | h
  · exact h2 k h
  · exact .inr (Nat.le_trans h3.size h)
set_option maxRecDepth 100000 in
set_option maxHeartbeats 12800000 in
theorem act_any (w : World) (S : Nat → Prop) (b : Nat) (lk ot : Int) (r : Run) (h : Mach w S b lk ot r) (hok : r.e.ph ≠ 3 → ActOk r) :
    Calls Tryz.prog 205 #[.pointer (some ⟨b, 0, none⟩)] w (MovedT b lk ot r.act S w) := by
  have H := Lib.hid h
  obtain ⟨A, n, c, E, m, k, h⟩ := h
  have c14 : w.cell? ⟨b, 14, none⟩ = some (.int .i64 r.e.ph) := box_cell h.box 14 _ rfl
  clear h
  go_enter Tryz.func205, Tryz.ntmps205
  by_cases h3 : r.e.ph = 3
  · have hq : (r.e.ph == 3) = true := by simp [h3]
    have HE : Hid (r.act = r) := by show _ = _; simp [Run.act, h3]
    clear h3 hok
    go_wp2
    go_end0
    rw [HE.out]
    exact ⟨rfl, amidT_of (Amid.start H.out)⟩
  have hq : (r.e.ph == 3) = false := by simp [h3]
  have OK := Lib.hid (hok h3)
  have HE : Hid (r.act = if r.giveUp.tellStuck.judge.e.ph = 3 then r.giveUp.tellStuck.judge else r.giveUp.tellStuck.judge.plan.over) := by show _ = _; rw [Run.act, if_neg h3]
  clear h3 hok
  go_wp2_with fail
  refine (giveUp_any w S b lk ot r H.out (by have := OK.out.ev0; omega) OK.out.ps0 OK.out.tr0 OK.out.id0).mono ?_
  rintro e w1 ⟨rfl, S1, hm1, hs1, ht1, _⟩
  have HM1 := Lib.hid hm1
  have HS1 := Lib.hid hs1
  have HT1 := Lib.hid ht1
  clear hm1 hs1 ht1 c14 hq H
  go_wp2_with fail
  refine (tellStuck_any w1 S1 b lk ot r.giveUp HM1.out (by have := OK.out.ev1; omega) OK.out.ps1).mono ?_
  rintro e w2 ⟨rfl, ha⟩
  obtain ⟨S2, hm2, hs2, ht2⟩ := AmidT.then HS1.out HT1.out ha
  have HM2 := Lib.hid hm2
  have HS2 := Lib.hid hs2
  have HT2 := Lib.hid ht2
  clear ha hm2 hs2 ht2 HM1 HS1 HT1
  go_wp2_with fail
  refine (judge_any w2 S2 b lk ot r.giveUp.tellStuck HM2.out (by have := OK.out.ev2; omega)).mono ?_
  intro e w3 hmv
  obtain ⟨rfl, ha, _⟩ := AmidT.call HS2.out HT2.out hmv
  obtain ⟨q, hq⟩ : ∃ q, q = r.giveUp.tellStuck.judge := ⟨_, rfl⟩
  have OQ : Hid (q.ev.length ≤ 800000 ∧ q.e.ps.length ≤ 1000 ∧ IdsOk q.e.ps ∧ (q.e.ph ≠ 3 → q.e.okB = true ∧ q.plan.ev.length ≤ 900000 ∧ q.plan.e.okB = true)) := by
    rw [hq]
    exact ⟨OK.out.ev3, OK.out.ps3, OK.out.id3, fun h => ⟨OK.out.ok3 h, OK.out.ev4 h, OK.out.ok4 h⟩⟩
  rw [← hq] at ha HE
  have HA3 := Lib.hid ha
  clear hq ha hmv OK HM2 HS2 HT2
  obtain ⟨S3, hm3, hs3, ht3⟩ := HA3.out
  have HM3 := Lib.hid hm3
  have HS3 := Lib.hid hs3
  have HT3 := Lib.hid ht3
  obtain ⟨A3, n3, c3, E3, m3, k3, h3⟩ := hm3
  have c14 : w3.cell? ⟨b, 14, none⟩ = some (.int .i64 q.e.ph) := box_cell h3.box 14 _ rfl
  clear h3 hs3 ht3
  by_cases h3 : q.e.ph = 3
  · have hq : (q.e.ph == 3) = true := by simp [h3]
    have HF : Hid (r.act = q) := by have h := HE.out; rw [if_pos h3] at h; exact h
    clear h3 HE OQ
    go_wp2
    go_end0
    rw [HF.out]
    exact ⟨rfl, HA3.out⟩
  have hq : (q.e.ph == 3) = false := by simp [h3]
  have HF : Hid (r.act = q.plan.over) := by have h := HE.out; rw [if_neg h3] at h; exact h
  have OP := Lib.hid (OQ.out.2.2.2 h3)
  have PB := Lib.hid (plan_bd OP.out.1)
  have N3 := Lib.hid h3
  clear h3 HE
  go_wp2_with fail
  refine (plan_any w3 S3 b lk ot q HM3.out OP.out.1 N3.out).mono ?_
  rintro e w4 ⟨rfl, hb⟩
  obtain ⟨N, hN⟩ : ∃ N : Nat, plCr q.e = N := ⟨(plCr q.e).toNat, by have := PB.out.1; omega⟩
  have HM4 := Lib.hid (HM3.out.below hb)
  have HT4 : Hid (Turned S w w4) := HT3.out.trans (Turned.of_below hb)
  have HP : Hid (q.plan = q.carry N (plDr q.e) (plDa q.e) (plDf q.e)) := by show _ = _; unfold Run.plan; rw [hN]
  have hN1 : N ≤ 1000 := by have := PB.out.1.2; omega
  rw [hN]
  clear hb hN HM3 HT3 c14 hq
  go_wp2_with fail
  refine (carryOut_any w4 S3 b lk ot q N (plDr q.e) (plDa q.e) (plDf q.e) HM4.out ⟨OQ.out.1, OQ.out.2.1, OQ.out.2.2.1⟩ hN1 PB.out.2.1 PB.out.2.2.1 PB.out.2.2.2).mono ?_
  intro e w5 hmv
  rw [← HP.out] at hmv
  obtain ⟨rfl, ha, _⟩ := AmidT.call HS3.out HT4.out hmv
  obtain ⟨S5, hm5, hs5, ht5⟩ := ha
  have HM5 := Lib.hid hm5
  have HS5 := Lib.hid hs5
  have HT5 := Lib.hid ht5
  clear hmv hm5 hs5 ht5 HM4 HT4 HS3 HP PB hN1
  go_wp2_with fail
  refine (over_any w5 S5 b lk ot q.plan HM5.out OP.out.2.2 OP.out.2.1).mono ?_
  intro e w6 hmv
  obtain ⟨rfl, ha, _⟩ := AmidT.call HS5.out HT5.out hmv
  have HA6 := Lib.hid ha
  clear hmv ha HM5 HS5 HT5
  go_wp2
  go_end0
  rw [HF.out]
  exact ⟨rfl, HA6.out⟩
end Go.Proofs.YtklgjjmcflgjeaaGreat.Mach
namespace Go.Proofs.YtklgjjmcflgjeaaGreat.EngInv
open Tick (inB in_t tokB tok_t sinceV)
open Pods
open FleetV hiding goodB
open EngV Eng
open EngCnt (live good going okB_t)
open Crew (goD goP addD takeD takeV)
theorem ok_of {e : Eng} (h1 : e.sp.ok = true) (h2 : FGood e.ps e.nx) (h3 : tokB e.now = true) (h4 : tokB e.st = true) (h5 : tokB e.wt = true) (h6 : 0 ≤ e.ph ∧ e.ph ≤ 3) (h7 : 1 ≤ e.tg ∧ e.tg ≤ 1000) (h8 : 1 ≤ e.gd ∧ e.gd ≤ 1000) (h9 : 0 ≤ e.tr ∧ e.tr ≤ 200) : e.okB = true := by
  simp [Eng.okB, h1, h2, h3, h4, h5, inB, h6, h7, h8, h9]
theorem good_setP {ps : PList} {nx : Int} {p : Pd} (h : FGood ps nx) (hp : PodOk p ∧ p.1 < nx) : FGood (setP p ps) nx := by
  obtain ⟨h1, h2, h3, h4⟩ := h
  refine ⟨by rw [len_setP]; exact h1, h2, fun q hq => ?_, asc_setP h4⟩
  rcases mem_setP hq with rfl | hq
  · exact hp
  · exact h3 q hq
theorem good_off {ps : PList} {nx k : Int} (h : FGood ps nx) : FGood (offP k ps) nx := by
  obtain ⟨h1, h2, h3, h4⟩ := h
  exact ⟨Nat.le_trans (len_off k ps) h1, h2, fun q hq => h3 q (mem_off.1 hq).1, asc_off h4⟩
theorem goP_ok {ps : PList} {nx id now : Int} {p : Pd} (h : FGood ps nx) (hn : tokB now = true) (he : goP (ps, nx) id now = some p) : PodOk p ∧ p.1 < nx := by
  unfold goP at he
  rw [if_pos ⟨h, hn⟩] at he
  cases hf : fndP ps id with
  | none => simp only [hf] at he; cases he
  | some q =>
    simp only [hf] at he
    split at he
    · cases he
    · injection he with he
      subst he
      obtain ⟨hm, _⟩ := fnd_mem hf
      obtain ⟨⟨a, b, c, d, e⟩, hl⟩ := h.2.2.1 q hm
      have := tok_t hn
      exact ⟨⟨a, b, by simp, d, this⟩, hl⟩
theorem good_goD {ps : PList} {nx id now : Int} (h : FGood ps nx) (hn : tokB now = true) : FGood (goD (ps, nx) id now).1 (goD (ps, nx) id now).2 := by
  cases e : goP (ps, nx) id now with
  | none => rw [(Crew.go_no e).1]; exact h
  | some p => rw [(Crew.go_yes e).1]; exact good_setP h (goP_ok h hn e)
theorem len_goD (d : PList × Int) (id now : Int) : (goD d id now).1.length = d.1.length := by
  cases e : goP d id now with
  | none => rw [(Crew.go_no e).1]
  | some p => rw [(Crew.go_yes e).1]; exact len_setP _ _
theorem good_addD {ps : PList} {nx rev now : Int} (h : FGood ps nx) : FGood (addD (ps, nx) rev now).1 (addD (ps, nx) rev now).2 := by
  by_cases hA : Crew.AddOk ps nx rev now
  · rw [(Crew.add_yes hA).1]; exact Crew.good_app h |>.2 hA
  · rw [(Crew.add_no hA).1]; exact h
theorem good_takeD {ps : PList} {nx rp gen st now : Int} (h : FGood ps nx) : FGood (takeD (ps, nx) rp gen st now).1 (takeD (ps, nx) rp gen st now).2 := by
  cases ho : Crew.takeO (ps, nx) rp gen st now with
  | false => rw [(Crew.take_bad ho).1]; exact h
  | true =>
    cases hf : fndP ps rp with
    | none => rw [(Crew.take_unk ho hf).1]; exact h
    | some p =>
      by_cases hg : gen ≤ p.2.2.2.1
      · rw [(Crew.take_old ho hf hg).1]; exact h
      · by_cases hs : st = 4
        · rw [(Crew.take_gone ho hf hg hs).1]; exact good_off h
        · rw [(Crew.take_set ho hf hg hs).1]
          obtain ⟨hm, _⟩ := fnd_mem hf
          obtain ⟨⟨a, b, c, d, e⟩, hl⟩ := h.2.2.1 p hm
          have ho2 := ho
          simp only [Crew.takeO, Bool.and_eq_true, decide_eq_true_eq] at ho2
          obtain ⟨⟨_, h1, h2⟩, h3⟩ := ho2
          have h1 := in_t h1
          have h2 := in_t h2
          have h3 := tok_t h3
          refine good_setP h ⟨?_, by rw [Crew.rep_id]; exact hl⟩
          unfold Crew.repP
          split
          · exact ⟨a, b, (by show 0 ≤ st ∧ st ≤ 4; omega), ⟨by show 0 ≤ gen; omega, by show gen ≤ 1000000000; omega⟩, h3⟩
          · exact ⟨a, b, c, ⟨by show 0 ≤ gen; omega, by show gen ≤ 1000000000; omega⟩, e⟩
theorem good_map {ps : PList} {nx : Int} (s : Spc) {now : Int} (h : FGood ps nx) (hn : tokB now = true) : FGood (ps.map (stuP s now)) nx := by
  obtain ⟨h1, h2, h3, h4⟩ := h
  have hid : ∀ p, (stuP s now p).1 = p.1 := fun p => by unfold stuP; split <;> rfl
  refine ⟨by simpa using h1, h2, fun q hq => ?_, ?_⟩
  · obtain ⟨p, hp, rfl⟩ := List.mem_map.1 hq
    obtain ⟨⟨a, b, c, d, e⟩, hl⟩ := h3 p hp
    rw [hid]
    refine ⟨?_, hl⟩
    unfold stuP
    split
    · exact ⟨a, b, c, d, tok_t hn⟩
    · exact ⟨a, b, c, d, e⟩
  · unfold Asc
    rw [List.pairwise_map]
    exact h4.imp (fun {a b} hab => by rw [hid, hid]; exact hab)
theorem addV_tok {a b : Int} (ha : tokB a = true) (hb : 0 ≤ b ∧ b ≤ 1000000000) : tokB (Tick.addV a b) = true := by
  have h1 : (tokB a && inB b (-1000000000) 1000000000) = true := by simp [ha, inB]; omega
  unfold Tick.addV
  rw [if_pos h1]
  simp [tokB]
  omega
theorem wait_bd {s : Spc} (hs : s.ok = true) {n : Int} (hn : 0 ≤ n) : 0 ≤ waitS s n ∧ waitS s n ≤ 1000000000 := by
  have h := Sp.specB_t hs
  unfold waitS Rw.waitV
  rw [if_pos ⟨hs, hn⟩]
  split
  · omega
  · have := Rw.dbl_bd (b := s.x5) (c := s.x6) (by omega) (by omega) (n - 1).toNat
    omega
structure Kp (q r : Run) (k : Nat) : Prop where
  sp : r.e.sp = q.e.sp
  now : r.e.now = q.e.now
  ph : r.e.ph = q.e.ph
  tg : r.e.tg = q.e.tg
  gd : r.e.gd = q.e.gd
  st : r.e.st = q.e.st
  ev : r.ev.length ≤ q.ev.length + k
theorem Kp.refl (q : Run) : Kp q q 0 := ⟨rfl, rfl, rfl, rfl, rfl, rfl, Nat.le_refl _⟩
theorem Kp.trans {a b c : Run} {j k : Nat} (h : Kp a b j) (g : Kp b c k) : Kp a c (j + k) := ⟨g.sp.trans h.sp, g.now.trans h.now, g.ph.trans h.ph, g.tg.trans h.tg, g.gd.trans h.gd, g.st.trans h.st, by have := h.ev; have := g.ev; omega⟩
theorem Kp.more {a b : Run} {j k : Nat} (h : Kp a b j) (hk : j ≤ k) : Kp a b k := ⟨h.sp, h.now, h.ph, h.tg, h.gd, h.st, by have := h.ev; omega⟩
theorem drop_kp (r : Run) (p : Pd) : Kp r (r.drop p) 1 := ⟨rfl, rfl, rfl, rfl, rfl, rfl, by simp [Run.drop, Run.tell, Run.setFl]⟩
theorem drop_tr (r : Run) (p : Pd) : (r.drop p).e.tr = r.e.tr ∧ (r.drop p).e.wt = r.e.wt ∧ (r.drop p).e.ps.length = r.e.ps.length := ⟨rfl, rfl, len_goD _ _ _⟩
theorem drop_good (r : Run) (p : Pd) (h : FGood r.e.ps r.e.nx) (hn : tokB r.e.now = true) : FGood (r.drop p).e.ps (r.drop p).e.nx := good_goD h hn
theorem drop_ok (r : Run) (p : Pd) (h : r.e.okB = true) : (r.drop p).e.okB = true := by
  obtain ⟨h1, h2, h3, h4, h5, h6, h7, h8, h9⟩ := okB_t h
  exact ok_of (e := (r.drop p).e) h1 (drop_good r p h2 h3) h3 h4 h5 h6 h7 h8 h9
theorem dropN_all (f : Pd → Bool) : ∀ (ps : PList) (r : Run) (n : Int), Kp r (r.dropN f n ps).1 ps.length ∧ (r.dropN f n ps).1.e.tr = r.e.tr ∧ (r.dropN f n ps).1.e.wt = r.e.wt ∧ (r.dropN f n ps).1.e.ps.length = r.e.ps.length ∧ (r.e.okB = true → (r.dropN f n ps).1.e.okB = true)
  | [], r, n => ⟨Kp.refl r, rfl, rfl, rfl, fun h => h⟩
  | p :: ps, r, n => by
    unfold Run.dropN
    split
    · obtain ⟨a, b, c, d, e⟩ := dropN_all f ps (r.drop p) (n - 1)
      obtain ⟨g1, g2, g3⟩ := drop_tr r p
      exact ⟨(((drop_kp r p).trans a).more (by simp; omega)), b.trans g1, c.trans g2, d.trans g3, fun h => e (drop_ok r p h)⟩
    · obtain ⟨a, b, c, d, e⟩ := dropN_all f ps r n
      exact ⟨a.more (by simp), b, c, d, e⟩
theorem dropF_all (f : Pd → Bool) (r : Run) (n : Int) : Kp r (r.dropF f n).1 r.e.ps.length ∧ (r.dropF f n).1.e.tr = r.e.tr ∧ (r.dropF f n).1.e.wt = r.e.wt ∧ (r.dropF f n).1.e.ps.length = r.e.ps.length ∧ (r.e.okB = true → (r.dropF f n).1.e.okB = true) := dropN_all f r.e.ps r n
theorem lose_all (r : Run) (p : Pd) : Kp r (r.lose p) 1 ∧ (r.lose p).e.ps.length = r.e.ps.length := by
  unfold Run.lose
  split
  · obtain ⟨a, b, c, d, e, f, g⟩ := drop_kp r p
    exact ⟨⟨a, b, c, d, e, f, g⟩, len_goD _ _ _⟩
  · exact ⟨drop_kp r p, len_goD _ _ _⟩
structure Gd (r : Run) (k : Int) : Prop where
  sp : r.e.sp.ok = true
  fl : FGood r.e.ps r.e.nx
  now : tokB r.e.now = true
  st : tokB r.e.st = true
  wt : tokB r.e.wt = true
  ph : 0 ≤ r.e.ph ∧ r.e.ph ≤ 3
  tg : 1 ≤ r.e.tg ∧ r.e.tg ≤ 1000
  gd : 1 ≤ r.e.gd ∧ r.e.gd ≤ 1000
  t0 : 0 ≤ r.e.tr ∧ r.e.tr ≤ 200
  t1 : mvB r.e.ph = true → r.e.tr ≤ k
theorem Gd.ok {r : Run} {k : Int} (h : Gd r k) : r.e.okB = true := ok_of h.sp h.fl h.now h.st h.wt h.ph h.tg h.gd h.t0
theorem gd_of {r : Run} {k : Int} (h : r.e.okB = true) (ht : mvB r.e.ph = true → r.e.tr ≤ k) : Gd r k := by
  obtain ⟨h1, h2, h3, h4, h5, h6, h7, h8, h9⟩ := okB_t h
  exact ⟨h1, h2, h3, h4, h5, h6, h7, h8, h9, ht⟩
theorem lose_gd (r : Run) (p : Pd) (k : Int) (hk : k < 200) (h : Gd r k) : Gd (r.lose p) (k + 1) := by
  obtain ⟨h1, h2, h3, h4, h5, h6, h7, h8, h9, h10⟩ := h
  have hd := drop_good r p h2 h3
  unfold Run.lose
  split
  · rename_i hm
    simp only [Bool.and_eq_true] at hm
    have h11 := h10 hm.1
    refine ⟨h1, hd, h3, h4, ?_, h6, h7, h8, ?_, fun _ => ?_⟩
    · show tokB (Tick.addV r.e.now (waitS r.e.sp (r.e.tr + 1))) = true
      exact addV_tok h3 (wait_bd h1 (by omega))
    · show 0 ≤ r.e.tr + 1 ∧ r.e.tr + 1 ≤ 200
      omega
    · show r.e.tr + 1 ≤ k + 1
      omega
  · exact ⟨h1, hd, h3, h4, h5, h6, h7, h8, h9, fun hm => by have : r.e.tr ≤ k := h10 hm; show r.e.tr ≤ k + 1; omega⟩
theorem loseAll_all : ∀ (ps : PList) (r : Run), Kp r (r.loseAll ps) ps.length ∧ (r.loseAll ps).e.ps.length = r.e.ps.length ∧ ∀ k : Int, k + ps.length ≤ 200 → Gd r k → Gd (r.loseAll ps) (k + ps.length)
  | [], r => ⟨Kp.refl r, rfl, fun k _ h => by show Gd r _; simpa using h⟩
  | p :: ps, r => by
    unfold Run.loseAll
    split
    · obtain ⟨a, b, c⟩ := loseAll_all ps (r.lose p)
      obtain ⟨g1, g2⟩ := lose_all r p
      refine ⟨(g1.trans a).more (by simp; omega), b.trans g2, fun k hk h => ?_⟩
      have hk : k + (ps.length + 1 : Nat) ≤ 200 := hk
      have h2 := c (k + 1) (by omega) (lose_gd r p k (by omega) h)
      have e : k + 1 + (ps.length : Int) = k + ((p :: ps).length : Int) := by simp; omega
      rw [← e]; exact h2
    · obtain ⟨a, b, c⟩ := loseAll_all ps r
      refine ⟨a.more (by simp), b, fun k hk h => ?_⟩
      have hk : k + (ps.length + 1 : Nat) ≤ 200 := hk
      obtain ⟨h1, h2, h3, h4, h5, h6, h7, h8, h9, h10⟩ := c k (by omega) h
      refine ⟨h1, h2, h3, h4, h5, h6, h7, h8, h9, fun hm => ?_⟩
      have := h10 hm
      simp only [List.length_cons]
      omega
theorem stuck_len (s : Spc) (now : Int) (ps : PList) : (stuE s now ps).length ≤ ps.length := by unfold stuE; rw [List.length_map]; exact List.length_filter_le _ _
theorem stuck_kp (r : Run) : Kp r r.tellStuck r.e.ps.length := ⟨rfl, rfl, rfl, rfl, rfl, rfl, by show (r.ev ++ _).length ≤ _; rw [List.length_append]; have := stuck_len r.e.sp r.e.now r.e.ps; omega⟩
theorem stuck_gd {r : Run} {k : Int} (h : Gd r k) : Gd r.tellStuck k := ⟨h.sp, good_map _ h.fl h.now, h.now, h.st, h.wt, h.ph, h.tg, h.gd, h.t0, h.t1⟩
theorem stuck_ps (r : Run) : r.tellStuck.e.ps.length = r.e.ps.length := by simp [Run.tellStuck]
theorem start_gd {r : Run} {ph tg : Int} (hp : 0 ≤ ph ∧ ph ≤ 3) (ht : 1 ≤ tg ∧ tg ≤ 1000) {k : Int} (h : Gd r k) {j : Int} (hj : 0 ≤ j) : Gd (r.start ph tg) j :=
  ⟨h.sp, h.fl, h.now, h.now, (show tokB 0 = true from rfl), hp, ht, h.gd, by show (0 : Int) ≤ 0 ∧ (0 : Int) ≤ 200; omega, fun _ => hj⟩
theorem fault_le {e : Eng} (h : faultV e = 0) : e.tr ≤ e.sp.x4 := by
  unfold faultV at h
  split at h
  · cases h
  · omega
theorem judge_all {r : Run} {k : Int} (h : Gd r k) : Gd r.judge r.judge.e.sp.x4 ∧ r.judge.ev.length ≤ r.ev.length + 2 ∧ r.judge.e.ps = r.e.ps ∧ r.judge.e.sp = r.e.sp := by
  have hs := Sp.specB_t h.sp
  unfold Run.judge
  split
  · split
    · exact ⟨start_gd (r := r.tell 4 r.e.tg (faultV r.e)) (by omega) h.gd ⟨h.sp, h.fl, h.now, h.st, h.wt, h.ph, h.tg, h.gd, h.t0, h.t1⟩ (by show 0 ≤ r.e.sp.x4; omega), by simp [Run.start, Run.enter, Run.tell], rfl, rfl⟩
    · exact ⟨⟨h.sp, h.fl, h.now, h.st, h.wt, by show (0 : Int) ≤ 3 ∧ (3 : Int) ≤ 3; omega, h.tg, h.gd, h.t0, fun hm => by have hm : mvB 3 = true := hm; simp [mvB] at hm⟩, by simp [Run.enter, Run.tell], rfl, rfl⟩
  · rename_i hc
    refine ⟨⟨h.sp, h.fl, h.now, h.st, h.wt, h.ph, h.tg, h.gd, h.t0, fun hm => fault_le ?_⟩, by omega, rfl, rfl⟩
    simp only [hm, Bool.true_and, Bool.not_eq_true', decide_eq_false_iff_not, Decidable.not_not] at hc
    simpa using hc
theorem makeN_all : ∀ (n : Nat) (r : Run), Kp r (r.makeN n) n ∧ (r.makeN n).e.tr = r.e.tr ∧ (r.makeN n).e.wt = r.e.wt ∧ (r.e.okB = true → (r.makeN n).e.okB = true)
  | 0, r => ⟨Kp.refl r, rfl, rfl, fun h => h⟩
  | n + 1, r => by
    unfold Run.makeN
    split
    · exact ⟨(Kp.refl r).more (by omega), rfl, rfl, fun h => h⟩
    · obtain ⟨a, b, c, d⟩ := makeN_all n ((r.setFl (addD r.fl r.e.tg r.e.now)).tell 0 (Crew.addV r.fl r.e.tg r.e.now) r.e.tg)
      have g : Kp r ((r.setFl (addD r.fl r.e.tg r.e.now)).tell 0 (Crew.addV r.fl r.e.tg r.e.now) r.e.tg) 1 := ⟨rfl, rfl, rfl, rfl, rfl, rfl, by simp [Run.tell, Run.setFl]⟩
      refine ⟨(g.trans a).more (by omega), b, c, fun h => d ?_⟩
      obtain ⟨h1, h2, h3, h4, h5, h6, h7, h8, h9⟩ := okB_t h
      exact ok_of (e := ((r.setFl (addD r.fl r.e.tg r.e.now)).tell 0 (Crew.addV r.fl r.e.tg r.e.now) r.e.tg).e) h1 (good_addD h2) h3 h4 h5 h6 h7 h8 h9
theorem carry_all (r : Run) (cr dr da df : Int) (hc : cr ≤ 1000) (hl : r.e.ps.length ≤ 30) : Kp r (r.carry cr dr da df) 1120 ∧ (r.carry cr dr da df).e.tr = r.e.tr ∧ (r.e.okB = true → (r.carry cr dr da df).e.okB = true) := by
  unfold Run.carry
  simp only []
  obtain ⟨a1, b1, c1, d1, e1⟩ := dropF_all (fun p => !decide (p.2.1 = r.e.tg) && !avP r.e.sp r.e.now p) r dr
  generalize (r.dropF (fun p => !decide (p.2.1 = r.e.tg) && !avP r.e.sp r.e.now p) dr).1 = r1 at *
  obtain ⟨a2, b2, c2, d2, e2⟩ := dropF_all (fun p => !decide (p.2.1 = r.e.tg) && avP r.e.sp r.e.now p) r1 da
  generalize (r1.dropF (fun p => !decide (p.2.1 = r.e.tg) && avP r.e.sp r.e.now p) da).1 = r2 at *
  obtain ⟨a3, b3, c3, d3, e3⟩ := dropF_all (fun p => decide (p.2.1 = r.e.tg) && !avP r.e.sp r.e.now p) r2 df
  generalize r2.dropF (fun p => decide (p.2.1 = r.e.tg) && !avP r.e.sp r.e.now p) df = q at *
  obtain ⟨a4, b4, c4, d4, e4⟩ := dropF_all (fun p => decide (p.2.1 = r.e.tg)) q.1 q.2
  generalize (q.1.dropF (fun p => decide (p.2.1 = r.e.tg)) q.2).1 = r4 at *
  have hk := ((a1.trans a2).trans a3).trans a4
  have ht : r4.e.tr = r.e.tr := by rw [b4, b3, b2, b1]
  split
  · obtain ⟨a5, b5, c5, d5⟩ := makeN_all cr.toNat r4
    refine ⟨(hk.trans a5).more ?_, b5.trans ht, fun h => d5 (e4 (e3 (e2 (e1 h))))⟩
    rw [d3, d2, d1]
    omega
  · refine ⟨hk.more ?_, ht, fun h => e4 (e3 (e2 (e1 h)))⟩
    rw [d3, d2, d1]
    omega
theorem over_all {r : Run} {k : Int} (h : Gd r k) : Gd r.over k ∧ r.over.ev.length ≤ r.ev.length + 2 := by
  have hx : Gd r.makeGood k ∧ r.makeGood.ev.length ≤ r.ev.length + 1 := by
    unfold Run.makeGood
    split
    · exact ⟨h, by omega⟩
    · exact ⟨⟨h.sp, h.fl, h.now, h.st, h.wt, h.ph, h.tg, h.tg, h.t0, h.t1⟩, by simp [Run.tell]⟩
  unfold Run.over
  split
  · split
    · obtain ⟨g, hl⟩ := hx
      exact ⟨⟨g.sp, g.fl, g.now, g.st, g.wt, by show (0 : Int) ≤ 0 ∧ (0 : Int) ≤ 3; omega, g.tg, g.gd, g.t0, fun hm => by have hm : mvB 0 = true := hm; simp [mvB] at hm⟩, by simp [Run.enter, Run.tell]; omega⟩
    · split
      · exact ⟨⟨h.sp, h.fl, h.now, h.st, h.wt, by show (0 : Int) ≤ 3 ∧ (3 : Int) ≤ 3; omega, h.tg, h.gd, h.t0, fun hm => by have hm : mvB 3 = true := hm; simp [mvB] at hm⟩, by simp [Run.enter, Run.tell]⟩
      · exact ⟨h, by omega⟩
  · exact ⟨h, by omega⟩
end Go.Proofs.YtklgjjmcflgjeaaGreat.EngInv
namespace Go.Proofs.YtklgjjmcflgjeaaGreat.EngInv
open Tick (inB in_t tokB tok_t sinceV)
open Pods
open FleetV hiding goodB
open EngV Eng
open EngCnt (live good going okB_t)
open Crew (goD goP addD takeD takeV)
open Mach (IdsOk ActOk)
theorem ids_of {ps : PList} {nx : Int} (h : FGood ps nx) : IdsOk ps := fun p hp => Crew.id_wf (by have := (h.2.2.1 p hp).1.1; omega)
theorem sp4 {s : Spc} (h : s.ok = true) : 0 ≤ s.x4 ∧ s.x4 ≤ 20 := (Sp.specB_t h).2.2.2.2.2.1
theorem act_all {r : Run} (h : Gd r r.e.sp.x4) (hn : r.ev.length ≤ 700000) : (r.e.ph ≠ 3 → ActOk r) ∧ Gd r.act r.act.e.sp.x4 ∧ r.act.ev.length ≤ r.ev.length + 1300 ∧ r.act.e.sp = r.e.sp := by
  have hs := sp4 h.sp
  have hl := h.fl.1
  obtain ⟨a1, b1, c1⟩ := loseAll_all r.e.ps r
  have g1 : Gd r.giveUp (r.e.sp.x4 + r.e.ps.length) := c1 r.e.sp.x4 (by omega) h
  have a1 : Kp r r.giveUp r.e.ps.length := a1
  have b1 : r.giveUp.e.ps.length = r.e.ps.length := b1
  have a2 := stuck_kp r.giveUp
  have g2 := stuck_gd g1
  have b2 := stuck_ps r.giveUp
  obtain ⟨g3, l3, p3, s3⟩ := judge_all g2
  have l1 := a1.ev
  have l2 := a2.ev
  have hsp : r.giveUp.tellStuck.judge.e.sp = r.e.sp := s3.trans (a2.sp.trans a1.sp)
  have hpl : r.giveUp.tellStuck.judge.e.ps.length = r.e.ps.length := by rw [p3, b2, b1]
  have pb := Mach.plan_bd g3.ok
  obtain ⟨a4, t4, o4⟩ := carry_all r.giveUp.tellStuck.judge (plCr r.giveUp.tellStuck.judge.e) (plDr r.giveUp.tellStuck.judge.e) (plDa r.giveUp.tellStuck.judge.e) (plDf r.giveUp.tellStuck.judge.e) pb.1.2 (by omega)
  have a4 : Kp r.giveUp.tellStuck.judge r.giveUp.tellStuck.judge.plan 1120 := a4
  have t4 : r.giveUp.tellStuck.judge.plan.e.tr = r.giveUp.tellStuck.judge.e.tr := t4
  have o4 : r.giveUp.tellStuck.judge.plan.e.okB = true := o4 g3.ok
  have l4 := a4.ev
  have g4 : Gd r.giveUp.tellStuck.judge.plan r.e.sp.x4 := gd_of o4 (fun hm => by rw [t4, ← hsp]; exact g3.t1 (by rw [← a4.ph]; exact hm))
  obtain ⟨g5, l5⟩ := over_all g4
  have s5 : r.giveUp.tellStuck.judge.plan.over.e.sp = r.giveUp.tellStuck.judge.plan.e.sp := by
    unfold Run.over Run.makeGood
    split
    · split
      · split <;> rfl
      · split <;> rfl
    · rfl
  refine ⟨fun _ => ⟨hn, by omega, ⟨h.t0.1, by have := h.t0.2; omega⟩, ids_of h.fl, by omega, by omega, by omega, by omega, fun _ => g3.ok, by omega, ids_of g3.fl, fun _ => by omega, fun _ => o4⟩, ?_⟩
  unfold Run.act
  split
  · exact ⟨h, by omega, rfl⟩
  · simp only []
    split
    · exact ⟨g3, by omega, hsp⟩
    · have e : r.giveUp.tellStuck.judge.plan.over.e.sp = r.e.sp := s5.trans (a4.sp.trans hsp)
      refine ⟨?_, by omega, e⟩
      rw [e]; exact g5
theorem step_all {r : Run} (h : Gd r r.e.sp.x4) (hn : r.ev.length ≤ 600000) (o : Op4) : Gd (r.step o).1 (r.step o).1.e.sp.x4 ∧ (r.step o).1.ev.length ≤ r.ev.length + 1400 := by
  unfold Run.step
  split
  · split
    · rename_i hb
      have hb := in_t hb
      obtain ⟨_, g, l, _⟩ := act_all (r := ({ r with e := { r.e with now := Tick.addV r.e.now o.2.1 } } : Run)) ⟨h.sp, h.fl, addV_tok h.now (by omega), h.st, h.wt, h.ph, h.tg, h.gd, h.t0, h.t1⟩ (by show r.ev.length ≤ _; omega)
      exact ⟨g, by have l : _ ≤ r.ev.length + 1300 := l; show (Run.act _).ev.length ≤ _; omega⟩
    · exact ⟨h, by show r.ev.length ≤ _; omega⟩
  · split
    · split
      · rename_i hb
        simp only [Bool.and_eq_true] at hb
        have ht := in_t hb.1
        have hs := sp4 hb.2
        have g0 : Gd (({ r with e := { r.e with sp := reps r.e.sp o.2.2.1 } } : Run).start 1 o.2.1) (reps r.e.sp o.2.2.1).x4 :=
          ⟨hb.2, h.fl, h.now, h.now, (show tokB 0 = true from rfl), by show (0 : Int) ≤ 1 ∧ (1 : Int) ≤ 3; omega, ht, h.gd, by show (0 : Int) ≤ 0 ∧ (0 : Int) ≤ 200; omega, fun _ => by show (0 : Int) ≤ _; omega⟩
        have hl : (({ r with e := { r.e with sp := reps r.e.sp o.2.2.1 } } : Run).start 1 o.2.1).ev.length = r.ev.length + 1 := by simp [Run.start, Run.enter, Run.tell]
        obtain ⟨_, g, l, _⟩ := act_all g0 (by omega)
        exact ⟨g, by show (Run.act _).ev.length ≤ _; omega⟩
      · exact ⟨h, by show r.ev.length ≤ _; omega⟩
    · split
      · split
        · obtain ⟨_, g, l, _⟩ := act_all (r := r.setFl (takeD r.fl o.2.1 o.2.2.1 o.2.2.2 r.e.now)) ⟨h.sp, good_takeD h.fl, h.now, h.st, h.wt, h.ph, h.tg, h.gd, h.t0, h.t1⟩ (by show r.ev.length ≤ _; omega)
          exact ⟨g, by have l : _ ≤ r.ev.length + 1300 := l; show (Run.act _).ev.length ≤ _; omega⟩
        · exact ⟨h, by show r.ev.length ≤ _; omega⟩
      · exact ⟨h, by show r.ev.length ≤ _; omega⟩
theorem gd_tick {r : Run} {k A : Int} (h : Gd r k) (hA : inB A 0 2000 = true) : Gd ({ r with e := { r.e with now := Tick.addV r.e.now A } } : Run) k :=
  ⟨h.sp, h.fl, addV_tok h.now (by have := in_t hA; omega), h.st, h.wt, h.ph, h.tg, h.gd, h.t0, h.t1⟩
theorem gd_edit {r : Run} {k A B : Int} (h : Gd r k) (hA : inB A 1 1000 = true) (hs : (reps r.e.sp B).ok = true) : Gd (({ r with e := { r.e with sp := reps r.e.sp B } } : Run).start 1 A) (reps r.e.sp B).x4 :=
  ⟨hs, h.fl, h.now, h.now, (show tokB 0 = true from rfl), by show (0 : Int) ≤ 1 ∧ (1 : Int) ≤ 3; omega, in_t hA, h.gd, by show (0 : Int) ≤ 0 ∧ (0 : Int) ≤ 200; omega, fun _ => by show (0 : Int) ≤ _; exact (sp4 hs).1⟩
theorem gd_take {r : Run} {k a b c : Int} (h : Gd r k) : Gd (r.setFl (takeD r.fl a b c r.e.now)) k :=
  ⟨h.sp, good_takeD h.fl, h.now, h.st, h.wt, h.ph, h.tg, h.gd, h.t0, h.t1⟩
end Go.Proofs.YtklgjjmcflgjeaaGreat.EngInv
namespace Go.Proofs.YtklgjjmcflgjeaaGreat.NewFl
open Go.ChangeShapes Go.WideShapes Go.ChangeAt Go.RowKit
open LK Pods
theorem newFleet_any (w : World) : Calls Tryz.prog 129 #[] w (Made FleetTy.fty ([], 1) w) := by
  go_enter Tryz.func129, Tryz.ntmps129
  go_wp2
  refine bodyPost_ret (v := .agg #[.slice none 0 0, .int .i64 1]) (by simp [results, Tryz.results129, go_sem]) rfl ?_
  exact FleetTy.made_of (lo := w.heap.size) (Below.refl _ _) (OwnP.nil w w.heap.size) (Nat.le_refl _) (S := fun _ => False) (fun _ h => h.elim) (Turned.of_below (bel1 _ _))
theorem specNewFleet_any (w : World) : Calls Tryz.prog 100 #[] w (Made FleetTy.fty ([], 1) w) := by
  go_enter Tryz.func100, Tryz.ntmps100
  go_wp2
  refine bodyPost_ret (v := .agg #[.slice none 0 0, .int .i64 1]) (by simp [results, Tryz.results100, go_sem]) rfl ?_
  exact FleetTy.made_of (lo := w.heap.size) (Below.refl _ _) (OwnP.nil w w.heap.size) (Nat.le_refl _) (S := fun _ => False) (fun _ h => h.elim) (Turned.of_below (bel1 _ _))
end Go.Proofs.YtklgjjmcflgjeaaGreat.NewFl
namespace Go.Proofs.YtklgjjmcflgjeaaGreat.EngNew
open Go.ChangeShapes Go.WideShapes Go.ChangeAt Go.RowKit
open LK Pods FleetV EngV EngTy Seg
open Tick (inB l01In_any)
open Crew (revOk_any)
def newD (s : Spc) (rev : Int) : Eng := if newB s rev then newE s rev else zeroE
set_option maxRecDepth 100000 in
set_option maxHeartbeats 6400000 in
theorem newEngine_any (s : Spc) (rev : Int) (w : World) : Calls Tryz.prog 81 #[.agg (spL s).toArray, .int .i64 rev] w (Made1 ety (newD s rev) (.bool (newB s rev)) w) := by
  obtain ⟨r, hr⟩ : ∃ r, r = newB s rev := ⟨_, rfl⟩
  obtain ⟨D, hD⟩ : ∃ D, D = newD s rev := ⟨_, rfl⟩
  rw [← hr, ← hD]
  have HR := Lib.hid hr
  have HD := Lib.hid hD
  clear hr hD
  obtain ⟨V, hV⟩ : ∃ V, V = (w.alloc (.cells (spL s).toArray 25)).alloc (.cells #[.int .i64 0, .int .i64 0, .int .i64 0, .int .i64 0, .int .i64 0, .int .i64 0, .int .i64 0, .int .i64 0, .int .i64 0, .int .i64 0, .int .i64 0, .int .i64 0, .int .i64 0, .int .i64 0, .int .i64 0, .slice none 0 0, .int .i64 0, .int .i64 0, .int .i64 0, .int .i64 0] 36) := ⟨_, rfl⟩
  have HB : Hid (Below w.heap.size w V) := by rw [hV]; exact bel2 _ _ _
  have K : Hid (V.heap[w.heap.size]? = some (.cells (spL s).toArray 25 (0, 0))) := by rw [hV]; exact box_alloc (box_new w _) _
  have KR : Hid (V.heap[w.heap.size + 1]? = some (.cells (enL zeroE none 0 0).toArray 36 (0, 0))) := by rw [hV]; have h := box_new (w.alloc (.cells (spL s).toArray 25)) (.cells #[.int .i64 0, .int .i64 0, .int .i64 0, .int .i64 0, .int .i64 0, .int .i64 0, .int .i64 0, .int .i64 0, .int .i64 0, .int .i64 0, .int .i64 0, .int .i64 0, .int .i64 0, .int .i64 0, .int .i64 0, .slice none 0 0, .int .i64 0, .int .i64 0, .int .i64 0, .int .i64 0] 36); simp only [World.size_alloc] at h; exact h
  go_enter Tryz.func81, Tryz.ntmps81
  go_upto_region 1 with fail
  rw [← hV]
  clear hV
  go_wp2_with (refine wpList_get rfl 25 _ rfl w.heap.size 0 rfl K.out (spL s) List.take_length Tryz.underlying25 rfl (by kernel_rfl) ?_)
  refine (Sp.specOk_any s.x0 s.x1 s.x2 s.x3 s.x4 s.x5 s.x6 s.x7 s.x8 s.x9 s.x10 _).mono ?_
  rintro e w1 ⟨rfl, hb⟩
  have K1 := Lib.hid (box_below K.out hb)
  have KR1 := Lib.hid (box_below KR.out hb)
  have HB1 := Lib.hid (bel_then HB.out hb HB.out.size)
  clear K KR HB hb
  have hs0 : Sp.specB s.x0 s.x1 s.x2 s.x3 s.x4 s.x5 s.x6 s.x7 s.x8 s.x9 s.x10 = s.ok := rfl
  rw [hs0]
  clear hs0
  have NO : Hid (r = false → Made1 ety D (.bool r) w (.returned (.tuple #[.agg (enL zeroE none 0 0).toArray, .bool false])) (w1.setRow (w.heap.size + 1) (enL zeroE none 0 0).toArray)) := fun h => by
    have e1 : D = zeroE := by rw [HD.out]; unfold newD; rw [← HR.out, h]; rfl
    rw [h, e1]
    have hl : w.heap.size + 1 < w1.heap.size := box_lt KR1.out
    refine ⟨_, fun _ => False, rfl, ⟨⟨none, 0, rfl, OwnP.nil _ _, fun k hk => by simp [Value.ownBlock] at hk⟩, fun k hk => hk.elim, ?_⟩, row_below HB1.out _ _ (by omega) HB1.out.size⟩
    exact Nat.le_refl _
  cases h0 : s.ok
  · have HF : Hid (r = false) := by show _ = _; rw [HR.out]; simp [newB, h0]
    clear h0
    go_wp2_with (refine wpList_put rfl rfl 36 _ _ rfl (w.heap.size + 1) 0 (enL zeroE none 0 0) rfl rfl KR1.out (by kernel_rfl) (enL zeroE none 0 0) rfl (Nat.le_of_ble_eq_true rfl) (enL_one _ _ _ _) ?_)
    exact bodyPost_ret (v := .tuple #[.agg (enL zeroE none 0 0).toArray, .bool false]) (results_box_tmp Tryz.results81 _ rfl rfl (row_box KR1.out) Tryz.underlying36 rfl (by kernel_rfl)) rfl (NO.out HF.out)
  have H0 := Lib.hid h0
  clear h0
  go_wp2_with fail
  refine (revOk_any rev _).mono ?_
  rintro e w' ⟨rfl, rfl⟩
  cases h1 : inB rev 1 1000
  · have HF : Hid (r = false) := by show _ = _; rw [HR.out]; simp [newB, h1]
    clear h1
    go_wp2_with (refine wpList_put rfl rfl 36 _ _ rfl (w.heap.size + 1) 0 (enL zeroE none 0 0) rfl rfl KR1.out (by kernel_rfl) (enL zeroE none 0 0) rfl (Nat.le_of_ble_eq_true rfl) (enL_one _ _ _ _) ?_)
    exact bodyPost_ret (v := .tuple #[.agg (enL zeroE none 0 0).toArray, .bool false]) (results_box_tmp Tryz.results81 _ rfl rfl (row_box KR1.out) Tryz.underlying36 rfl (by kernel_rfl)) rfl (NO.out HF.out)
  have HT : Hid (r = true) := by show _ = _; rw [HR.out]; simp [newB, H0.out, h1]
  have HE : Hid (D = newE s rev) := by show _ = _; rw [HD.out]; unfold newD; rw [← HR.out, HT.out]; rfl
  clear h1
  go_wp2_with fail
  refine wp_region_held_drew (S := fun w' => w'.rangeAt w.heap.size 0 (spL s)) (by kernel_rfl) (range_of K1.out List.take_length) (fun hHeld => ?_)
  refine tkj (i := 0) (v := .agg ([.int .i64 s.x0, .int .i64 s.x1, .int .i64 s.x2, .int .i64 s.x3, .int .i64 s.x4, .int .i64 s.x5, .int .i64 s.x6, .int .i64 s.x7, .int .i64 s.x8, .int .i64 s.x9, .int .i64 s.x10]).toArray) rfl (yieldsIf_load_mid (by rfl) 25 _ rfl w.heap.size 0 rfl ([.int .i64 s.x0, .int .i64 s.x1, .int .i64 s.x2, .int .i64 s.x3, .int .i64 s.x4, .int .i64 s.x5, .int .i64 s.x6, .int .i64 s.x7, .int .i64 s.x8, .int .i64 s.x9, .int .i64 s.x10]) _ (fun w' h => h) Tryz.underlying25 rfl (by kernel_rfl)) ?_
  try simp only [Act.put, pj]
  refine tkk (i := 1) rfl ?_
  try simp only [Act.put, pj]
  refine tkk (i := 2) rfl ?_
  try simp only [Act.put, pj]
  refine wpAnyH_ready (rs := [3]) (by kernel_rfl) (by simp) (AllReadyH.cons rfl (fun K hK => ?_) AllReadyH.nil)
  go_simp
  refine (NewFl.newFleet_any _).mono ?_
  rintro e w2 ⟨v, S, rfl, hO, hb⟩
  obtain ⟨A, c, rfl, ho, hs⟩ := hO.own
  have hb' : Below w1.heap.size w1 w2 := undrew hb
  have K2 := Lib.hid (box_below K1.out hb')
  have KR2 := Lib.hid (box_below KR1.out hb')
  have HB2 := Lib.hid (bel_then HB1.out hb' HB1.out.size)
  have HO := Lib.hid ho
  have HS := Lib.hid hs
  have HI := Lib.hid hO.inn
  have hl1 : w.heap.size + 1 < w1.heap.size := box_lt KR1.out
  clear K1 KR1 HB1 hb hb' hHeld hO ho hs
  refine hK _ _ (by exact range_of K2.out List.take_length) (fun hHeld => ?_)
  clear hK K
  try simp only [Act.put, pj]
  refine tkk (i := 4) rfl ?_
  try simp only [Act.put, pj]
  refine wpAnyH_ready (rs := [5]) (by kernel_rfl) (by simp) (AllReadyH.cons rfl (fun K hK => ?_) AllReadyH.nil)
  refine wp_put rfl 36 _ _ rfl (w.heap.size + 1) 0 (enL (newE s rev) A 0 c) rfl rfl KR2.out (by kernel_rfl) (enL (newE s rev) A 0 c) rfl (Nat.le_of_ble_eq_true rfl) (enL_one _ _ _ _) ?_
  refine hK _ _ (by exact range_of (row_far K2.out (by omega)) List.take_length) (fun hHeld => ?_)
  clear hK K
  try simp only [Act.put, pj]
  refine tkk (i := 6) rfl ?_
  try simp only [Act.put, pj]
  refine wpAnyH_done (by kernel_rfl) ?_ _
  clear hHeld
  go_wp2
  refine bodyPost_ret (v := .tuple #[.agg (enL (newE s rev) A 0 c).toArray, .bool true]) (results_box_tmp Tryz.results81 _ rfl rfl (row_box KR2.out) Tryz.underlying36 rfl (by kernel_rfl)) rfl ?_
  rw [HT.out, HE.out]
  refine ⟨_, S, rfl, ⟨⟨A, c, rfl, HO.out.same fun k hk => setRow_other _ _ _ _ ?_, HS.out⟩, fun k hk => ?_, ?_⟩, row_below HB2.out _ _ (by omega) HB2.out.size⟩
  · have := HI.out k (HS.out k hk)
    simp only [World.size_drew] at this
    omega
  · have := HI.out k hk
    simp only [World.size_drew] at this
    simp
    omega
  · exact Nat.le_refl _
set_option maxRecDepth 100000 in
set_option maxHeartbeats 6400000 in
theorem specNewEngine_any (s : Spc) (rev : Int) (w : World) : Calls Tryz.prog 53 #[.agg (spL s).toArray, .int .i64 rev] w (Made1 ety (newD s rev) (.bool (newB s rev)) w) := by
  obtain ⟨r, hr⟩ : ∃ r, r = newB s rev := ⟨_, rfl⟩
  obtain ⟨D, hD⟩ : ∃ D, D = newD s rev := ⟨_, rfl⟩
  rw [← hr, ← hD]
  have HR := Lib.hid hr
  have HD := Lib.hid hD
  clear hr hD
  obtain ⟨V, hV⟩ : ∃ V, V = (w.alloc (.cells (spL s).toArray 25)).alloc (.cells #[.int .i64 0, .int .i64 0, .int .i64 0, .int .i64 0, .int .i64 0, .int .i64 0, .int .i64 0, .int .i64 0, .int .i64 0, .int .i64 0, .int .i64 0, .int .i64 0, .int .i64 0, .int .i64 0, .int .i64 0, .slice none 0 0, .int .i64 0, .int .i64 0, .int .i64 0, .int .i64 0] 36) := ⟨_, rfl⟩
  have HB : Hid (Below w.heap.size w V) := by rw [hV]; exact bel2 _ _ _
  have K : Hid (V.heap[w.heap.size]? = some (.cells (spL s).toArray 25 (0, 0))) := by rw [hV]; exact box_alloc (box_new w _) _
  have KR : Hid (V.heap[w.heap.size + 1]? = some (.cells (enL zeroE none 0 0).toArray 36 (0, 0))) := by rw [hV]; have h := box_new (w.alloc (.cells (spL s).toArray 25)) (.cells #[.int .i64 0, .int .i64 0, .int .i64 0, .int .i64 0, .int .i64 0, .int .i64 0, .int .i64 0, .int .i64 0, .int .i64 0, .int .i64 0, .int .i64 0, .int .i64 0, .int .i64 0, .int .i64 0, .int .i64 0, .slice none 0 0, .int .i64 0, .int .i64 0, .int .i64 0, .int .i64 0] 36); simp only [World.size_alloc] at h; exact h
  go_enter Tryz.func53, Tryz.ntmps53
  go_upto_region 1 with fail
  rw [← hV]
  clear hV
  go_wp2_with (refine wpList_get rfl 25 _ rfl w.heap.size 0 rfl K.out (spL s) List.take_length Tryz.underlying25 rfl (by kernel_rfl) ?_)
  refine (Sp.specSpecOk_any s.x0 s.x1 s.x2 s.x3 s.x4 s.x5 s.x6 s.x7 s.x8 s.x9 s.x10 _).mono ?_
  rintro e w1 ⟨rfl, hb⟩
  have K1 := Lib.hid (box_below K.out hb)
  have KR1 := Lib.hid (box_below KR.out hb)
  have HB1 := Lib.hid (bel_then HB.out hb HB.out.size)
  clear K KR HB hb
  have hs0 : Sp.specB s.x0 s.x1 s.x2 s.x3 s.x4 s.x5 s.x6 s.x7 s.x8 s.x9 s.x10 = s.ok := rfl
  rw [hs0]
  clear hs0
  have NO : Hid (r = false → Made1 ety D (.bool r) w (.returned (.tuple #[.agg (enL zeroE none 0 0).toArray, .bool false])) (w1.setRow (w.heap.size + 1) (enL zeroE none 0 0).toArray)) := fun h => by
    have e1 : D = zeroE := by rw [HD.out]; unfold newD; rw [← HR.out, h]; rfl
    rw [h, e1]
    have hl : w.heap.size + 1 < w1.heap.size := box_lt KR1.out
    refine ⟨_, fun _ => False, rfl, ⟨⟨none, 0, rfl, OwnP.nil _ _, fun k hk => by simp [Value.ownBlock] at hk⟩, fun k hk => hk.elim, ?_⟩, row_below HB1.out _ _ (by omega) HB1.out.size⟩
    exact Nat.le_refl _
  cases h0 : s.ok
  · have HF : Hid (r = false) := by show _ = _; rw [HR.out]; simp [newB, h0]
    clear h0
    go_wp2_with (refine wpList_put rfl rfl 36 _ _ rfl (w.heap.size + 1) 0 (enL zeroE none 0 0) rfl rfl KR1.out (by kernel_rfl) (enL zeroE none 0 0) rfl (Nat.le_of_ble_eq_true rfl) (enL_one _ _ _ _) ?_)
    exact bodyPost_ret (v := .tuple #[.agg (enL zeroE none 0 0).toArray, .bool false]) (results_box_tmp Tryz.results53 _ rfl rfl (row_box KR1.out) Tryz.underlying36 rfl (by kernel_rfl)) rfl (NO.out HF.out)
  have H0 := Lib.hid h0
  clear h0
  go_wp2_with fail
  refine (l01In_any rev 1 1000 _).mono ?_
  rintro e w' ⟨rfl, rfl⟩
  cases h1 : inB rev 1 1000
  · have HF : Hid (r = false) := by show _ = _; rw [HR.out]; simp [newB, h1]
    clear h1
    go_wp2_with (refine wpList_put rfl rfl 36 _ _ rfl (w.heap.size + 1) 0 (enL zeroE none 0 0) rfl rfl KR1.out (by kernel_rfl) (enL zeroE none 0 0) rfl (Nat.le_of_ble_eq_true rfl) (enL_one _ _ _ _) ?_)
    exact bodyPost_ret (v := .tuple #[.agg (enL zeroE none 0 0).toArray, .bool false]) (results_box_tmp Tryz.results53 _ rfl rfl (row_box KR1.out) Tryz.underlying36 rfl (by kernel_rfl)) rfl (NO.out HF.out)
  have HT : Hid (r = true) := by show _ = _; rw [HR.out]; simp [newB, H0.out, h1]
  have HE : Hid (D = newE s rev) := by show _ = _; rw [HD.out]; unfold newD; rw [← HR.out, HT.out]; rfl
  clear h1
  go_wp2_with fail
  refine wp_region_held_drew (S := fun w' => w'.rangeAt w.heap.size 0 (spL s)) (by kernel_rfl) (range_of K1.out List.take_length) (fun hHeld => ?_)
  refine tkj (i := 0) (v := .agg ([.int .i64 s.x0, .int .i64 s.x1, .int .i64 s.x2, .int .i64 s.x3, .int .i64 s.x4, .int .i64 s.x5, .int .i64 s.x6, .int .i64 s.x7, .int .i64 s.x8, .int .i64 s.x9, .int .i64 s.x10]).toArray) rfl (yieldsIf_load_mid (by rfl) 25 _ rfl w.heap.size 0 rfl ([.int .i64 s.x0, .int .i64 s.x1, .int .i64 s.x2, .int .i64 s.x3, .int .i64 s.x4, .int .i64 s.x5, .int .i64 s.x6, .int .i64 s.x7, .int .i64 s.x8, .int .i64 s.x9, .int .i64 s.x10]) _ (fun w' h => h) Tryz.underlying25 rfl (by kernel_rfl)) ?_
  try simp only [Act.put, pj]
  refine tkk (i := 1) rfl ?_
  try simp only [Act.put, pj]
  refine tkk (i := 2) rfl ?_
  try simp only [Act.put, pj]
  refine wpAnyH_ready (rs := [3]) (by kernel_rfl) (by simp) (AllReadyH.cons rfl (fun K hK => ?_) AllReadyH.nil)
  go_simp
  refine (NewFl.specNewFleet_any _).mono ?_
  rintro e w2 ⟨v, S, rfl, hO, hb⟩
  obtain ⟨A, c, rfl, ho, hs⟩ := hO.own
  have hb' : Below w1.heap.size w1 w2 := undrew hb
  have K2 := Lib.hid (box_below K1.out hb')
  have KR2 := Lib.hid (box_below KR1.out hb')
  have HB2 := Lib.hid (bel_then HB1.out hb' HB1.out.size)
  have HO := Lib.hid ho
  have HS := Lib.hid hs
  have HI := Lib.hid hO.inn
  have hl1 : w.heap.size + 1 < w1.heap.size := box_lt KR1.out
  clear K1 KR1 HB1 hb hb' hHeld hO ho hs
  refine hK _ _ (by exact range_of K2.out List.take_length) (fun hHeld => ?_)
  clear hK K
  try simp only [Act.put, pj]
  refine tkk (i := 4) rfl ?_
  try simp only [Act.put, pj]
  refine wpAnyH_ready (rs := [5]) (by kernel_rfl) (by simp) (AllReadyH.cons rfl (fun K hK => ?_) AllReadyH.nil)
  refine wp_put rfl 36 _ _ rfl (w.heap.size + 1) 0 (enL (newE s rev) A 0 c) rfl rfl KR2.out (by kernel_rfl) (enL (newE s rev) A 0 c) rfl (Nat.le_of_ble_eq_true rfl) (enL_one _ _ _ _) ?_
  refine hK _ _ (by exact range_of (row_far K2.out (by omega)) List.take_length) (fun hHeld => ?_)
  clear hK K
  try simp only [Act.put, pj]
  refine tkk (i := 6) rfl ?_
  try simp only [Act.put, pj]
  refine wpAnyH_done (by kernel_rfl) ?_ _
  clear hHeld
  go_wp2
  refine bodyPost_ret (v := .tuple #[.agg (enL (newE s rev) A 0 c).toArray, .bool true]) (results_box_tmp Tryz.results53 _ rfl rfl (row_box KR2.out) Tryz.underlying36 rfl (by kernel_rfl)) rfl ?_
  rw [HT.out, HE.out]
  refine ⟨_, S, rfl, ⟨⟨A, c, rfl, HO.out.same fun k hk => setRow_other _ _ _ _ ?_, HS.out⟩, fun k hk => ?_, ?_⟩, row_below HB2.out _ _ (by omega) HB2.out.size⟩
  · have := HI.out k (HS.out k hk)
    simp only [World.size_drew] at this
    omega
  · have := HI.out k hk
    simp only [World.size_drew] at this
    simp
    omega
  · exact Nat.le_refl _
end Go.Proofs.YtklgjjmcflgjeaaGreat.EngNew
