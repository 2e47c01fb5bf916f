import Derived.Test.YtklgjjmcflgjeaaGreatR26
set_option linter.unusedVariables false
set_option linter.unusedSimpArgs false
namespace Go.Proofs.YtklgjjmcflgjeaaGreat.Mach
open Go.ChangeShapes Go.WideShapes Go.ChangeAt Go.RowKit
open LK Pods EngV EngCnt Eng Seg
structure ActOk (r : Run) : Prop where
  ev0 : r.ev.length ≤ 700000
  ps0 : r.e.ps.length ≤ 1000
  tr0 : 0 ≤ r.e.tr ∧ r.e.tr ≤ 900000
  id0 : IdsOk r.e.ps
  ev1 : r.giveUp.ev.length ≤ 800000
  ps1 : r.giveUp.e.ps.length ≤ 1000
  ev2 : r.giveUp.tellStuck.ev.length ≤ 800000
  ev3 : r.giveUp.tellStuck.judge.ev.length ≤ 800000
  ok3 : r.giveUp.tellStuck.judge.e.ph ≠ 3 → r.giveUp.tellStuck.judge.e.okB = true
  ps3 : r.giveUp.tellStuck.judge.e.ps.length ≤ 1000
  id3 : IdsOk r.giveUp.tellStuck.judge.e.ps
  ev4 : r.giveUp.tellStuck.judge.e.ph ≠ 3 → r.giveUp.tellStuck.judge.plan.ev.length ≤ 900000
  ok4 : r.giveUp.tellStuck.judge.e.ph ≠ 3 → r.giveUp.tellStuck.judge.plan.e.okB = true
theorem plan_bd {e : Eng} (h : e.okB = true) : (0 ≤ plCr e ∧ plCr e ≤ 1000) ∧ (0 ≤ plDr e ∧ plDr e ≤ 1000) ∧ (0 ≤ plDa e ∧ plDa e ≤ 1000) ∧ (0 ≤ plDf e ∧ plDf e ≤ 1000) := by
  have h1 : Sp.specB e.sp.x0 e.sp.x1 e.sp.x2 e.sp.x3 e.sp.x4 e.sp.x5 e.sp.x6 e.sp.x7 e.sp.x8 e.sp.x9 e.sp.x10 = true := (okB_t h).1
  have hs := Sp.specB_t h1
  have hp := EngCnt.part e
  have g0 := good_le e false
  have g1 := good_le e true
  have hl := (okB_t h).2.1.1
  have hb := limS_bd h
  unfold plCr plDr plDa plDf Cnt.crV Cnt.daV Cnt.drV Cnt.dfV Cnt.spV Cnt.roV
  refine ⟨⟨?_, ?_⟩, ⟨?_, ?_⟩, ⟨?_, ?_⟩, ⟨?_, ?_⟩⟩ <;> (repeat' split) <;> omega
def MovedT (b : Nat) (lk ot : Int) (r' : Run) (S : Nat → Prop) (w : World) (e : Ending) (w' : World) : Prop := e = .returned (.tuple #[]) ∧ AmidT w S b lk ot r' w'
theorem amidT_of {w wr : World} {S : Nat → Prop} {b : Nat} {lk ot : Int} {q : Run} (h : Amid w S b lk ot q wr) : AmidT w S b lk ot q wr := by
  obtain ⟨S1, h1, h2, h3, _⟩ := h
  exact ⟨S1, h1, h2, h3⟩
theorem AmidT.then {V W W2 : World} {S S1 : Nat → Prop} {b : Nat} {lk ot : Int} {q' : Run} (h2 : ∀ k, S1 k → S k ∨ V.heap.size ≤ k) (h3 : Turned S V W) (h : AmidT W S1 b lk ot q' W2) : AmidT V S b lk ot q' W2 := by
  obtain ⟨S2, a1, a2, a3⟩ := h
  refine ⟨S2, a1, fun k hk => ?_, turned_then h2 h3 a3⟩
  rcases a2 k hk with h | h
  · exact h2 k h
  · exact .inr (Nat.le_trans h3.size h)
set_option maxRecDepth 100000 in
set_option maxHeartbeats 12800000 in
theorem act_any (w : World) (S : Nat → Prop) (b : Nat) (lk ot : Int) (r : Run) (h : Mach w S b lk ot r) (hok : r.e.ph ≠ 3 → ActOk r) :
    Calls Tryz.prog 205 #[.pointer (some ⟨b, 0, none⟩)] w (MovedT b lk ot r.act S w) := by
  have H := Lib.hid h
  obtain ⟨A, n, c, E, m, k, h⟩ := h
  have c14 : w.cell? ⟨b, 14, none⟩ = some (.int .i64 r.e.ph) := box_cell h.box 14 _ rfl
  clear h
  go_enter Tryz.func205, Tryz.ntmps205
  by_cases h3 : r.e.ph = 3
  · have hq : (r.e.ph == 3) = true := by simp [h3]
    have HE : Hid (r.act = r) := by show _ = _; simp [Run.act, h3]
    clear h3 hok
    go_wp2
    go_end0
    rw [HE.out]
    exact ⟨rfl, amidT_of (Amid.start H.out)⟩
  have hq : (r.e.ph == 3) = false := by simp [h3]
  have OK := Lib.hid (hok h3)
  have HE : Hid (r.act = if r.giveUp.tellStuck.judge.e.ph = 3 then r.giveUp.tellStuck.judge else r.giveUp.tellStuck.judge.plan.over) := by show _ = _; rw [Run.act, if_neg h3]
  clear h3 hok
  go_wp2_with fail
  refine (giveUp_any w S b lk ot r H.out (by have := OK.out.ev0; omega) OK.out.ps0 OK.out.tr0 OK.out.id0).mono ?_
  rintro e w1 ⟨rfl, S1, hm1, hs1, ht1, _⟩
  have HM1 := Lib.hid hm1
  have HS1 := Lib.hid hs1
  have HT1 := Lib.hid ht1
  clear hm1 hs1 ht1 c14 hq H
  go_wp2_with fail
  refine (tellStuck_any w1 S1 b lk ot r.giveUp HM1.out (by have := OK.out.ev1; omega) OK.out.ps1).mono ?_
  rintro e w2 ⟨rfl, ha⟩
  obtain ⟨S2, hm2, hs2, ht2⟩ := AmidT.then HS1.out HT1.out ha
  have HM2 := Lib.hid hm2
  have HS2 := Lib.hid hs2
  have HT2 := Lib.hid ht2
  clear ha hm2 hs2 ht2 HM1 HS1 HT1
  go_wp2_with fail
  refine (judge_any w2 S2 b lk ot r.giveUp.tellStuck HM2.out (by have := OK.out.ev2; omega)).mono ?_
  intro e w3 hmv
  obtain ⟨rfl, ha, _⟩ := AmidT.call HS2.out HT2.out hmv
  obtain ⟨q, hq⟩ : ∃ q, q = r.giveUp.tellStuck.judge := ⟨_, rfl⟩
  have OQ : Hid (q.ev.length ≤ 800000 ∧ q.e.ps.length ≤ 1000 ∧ IdsOk q.e.ps ∧ (q.e.ph ≠ 3 → q.e.okB = true ∧ q.plan.ev.length ≤ 900000 ∧ q.plan.e.okB = true)) := by
    rw [hq]
    exact ⟨OK.out.ev3, OK.out.ps3, OK.out.id3, fun h => ⟨OK.out.ok3 h, OK.out.ev4 h, OK.out.ok4 h⟩⟩
  rw [← hq] at ha HE
  have HA3 := Lib.hid ha
  clear hq ha hmv OK HM2 HS2 HT2
  obtain ⟨S3, hm3, hs3, ht3⟩ := HA3.out
  have HM3 := Lib.hid hm3
  have HS3 := Lib.hid hs3
  have HT3 := Lib.hid ht3
  obtain ⟨A3, n3, c3, E3, m3, k3, h3⟩ := hm3
  have c14 : w3.cell? ⟨b, 14, none⟩ = some (.int .i64 q.e.ph) := box_cell h3.box 14 _ rfl
  clear h3 hs3 ht3
  by_cases h3 : q.e.ph = 3
  · have hq : (q.e.ph == 3) = true := by simp [h3]
    have HF : Hid (r.act = q) := by have h := HE.out; rw [if_pos h3] at h; exact h
    clear h3 HE OQ
    go_wp2
    go_end0
    rw [HF.out]
    exact ⟨rfl, HA3.out⟩
  have hq : (q.e.ph == 3) = false := by simp [h3]
  have HF : Hid (r.act = q.plan.over) := by have h := HE.out; rw [if_neg h3] at h; exact h
  have OP := Lib.hid (OQ.out.2.2.2 h3)
  have PB := Lib.hid (plan_bd OP.out.1)
  have N3 := Lib.hid h3
  clear h3 HE
  go_wp2_with fail
  refine (plan_any w3 S3 b lk ot q HM3.out OP.out.1 N3.out).mono ?_
  rintro e w4 ⟨rfl, hb⟩
  obtain ⟨N, hN⟩ : ∃ N : Nat, plCr q.e = N := ⟨(plCr q.e).toNat, by have := PB.out.1; omega⟩
  have HM4 := Lib.hid (HM3.out.below hb)
  have HT4 : Hid (Turned S w w4) := HT3.out.trans (Turned.of_below hb)
  have HP : Hid (q.plan = q.carry N (plDr q.e) (plDa q.e) (plDf q.e)) := by show _ = _; unfold Run.plan; rw [hN]
  have hN1 : N ≤ 1000 := by have := PB.out.1.2; omega
  rw [hN]
  clear hb hN HM3 HT3 c14 hq
  go_wp2_with fail
  refine (carryOut_any w4 S3 b lk ot q N (plDr q.e) (plDa q.e) (plDf q.e) HM4.out ⟨OQ.out.1, OQ.out.2.1, OQ.out.2.2.1⟩ hN1 PB.out.2.1 PB.out.2.2.1 PB.out.2.2.2).mono ?_
  intro e w5 hmv
  rw [← HP.out] at hmv
  obtain ⟨rfl, ha, _⟩ := AmidT.call HS3.out HT4.out hmv
  obtain ⟨S5, hm5, hs5, ht5⟩ := ha
  have HM5 := Lib.hid hm5
  have HS5 := Lib.hid hs5
  have HT5 := Lib.hid ht5
  clear hmv hm5 hs5 ht5 HM4 HT4 HS3 HP PB hN1
  go_wp2_with fail
  refine (over_any w5 S5 b lk ot q.plan HM5.out OP.out.2.2 OP.out.2.1).mono ?_
  intro e w6 hmv
  obtain ⟨rfl, ha, _⟩ := AmidT.call HS5.out HT5.out hmv
  have HA6 := Lib.hid ha
  clear hmv ha HM5 HS5 HT5
  go_wp2
  go_end0
  rw [HF.out]
  exact ⟨rfl, HA6.out⟩
end Go.Proofs.YtklgjjmcflgjeaaGreat.Mach
