import Derived.Test.YtklgjjmcflgjeaaGreatQ
import Derived.Test.YtklgjjmcflgjeaaGreatR40
import Derived.Test.YtklgjjmcflgjeaaGreatR43
import Derived.Test.YtklgjjmcflgjeaaGreatR45
set_option linter.unusedVariables false
set_option linter.unusedSimpArgs false
namespace Go.Proofs.YtklgjjmcflgjeaaGreat.Mod
open Go.ChangeShapes Go.WideShapes Go.ChangeAt Go.RowKit
open LK Pods EngV Eng Seg
open EngInv (Gd gd_tick gd_edit gd_take)
open Tick (inB)
open Crew (takeD takeV)
theorem MovedT.res {w w' : World} {S : Nat → Prop} {b : Nat} {r : Run} {x : Value} {v : Value} (h : MovedT b r x S w (.returned v) w') (y : Value) : MovedT b r y S w (.returned y) w' := ⟨rfl, h.2⟩
theorem movedT_eq {w w' : World} {S : Nat → Prop} {b : Nat} {r r' : Run} {x y : Value} {e : Ending} (h : MovedT b r x S w e w') (he : r' = r) (hx : y = x) : MovedT b r' y S w e w' := by
  rw [he, hx]
  exact h
set_option maxRecDepth 100000 in
set_option maxHeartbeats 6400000 in
theorem act_any (w : World) (S : Nat → Prop) (b : Nat) (r : Run) (h : Mod w S b r) (hg : Gd r r.e.sp.x4) (hn : r.ev.length ≤ 700000) :
    Calls Tryz.prog 104 #[.pointer (some ⟨b, 0, none⟩)] w (MovedT b r.act (.tuple #[]) S w) := by
  obtain ⟨R, hR⟩ : ∃ R, R = r.act := ⟨_, rfl⟩
  have HR : Hid (R = ModV.actM r) := by rw [hR]; exact (ModV.act_eq hg).symm
  rw [← hR]
  have HOK : Hid (r.e.ph ≠ 3 → Mach.ActOk r) := (EngInv.act_all hg hn).1
  have HG := Lib.hid hg
  have HM := Lib.hid h
  clear h hR hg
  have c12 : w.cell? ⟨b, 12, none⟩ = some (.int .i64 r.e.ph) := by obtain ⟨A, n, c, E, m, k, h⟩ := HM.out; exact box_cell h.box 12 _ rfl
  go_enter Tryz.func104, Tryz.ntmps104
  by_cases h3 : r.e.ph = 3
  · have hq : (r.e.ph == 3) = true := by simp [h3]
    have HE : Hid (R = r) := by show _ = _; rw [HR.out, ModV.actM, if_pos h3]
    clear h3
    go_wp2
    go_end0
    rw [HE.out]
    exact (moved_id HM.out rfl (Turned.of_below (Below.refl _ _)) (Kept.refl _)).wide
  have hq : (r.e.ph == 3) = false := by simp [h3]
  have OK := Lib.hid (HOK.out h3)
  obtain ⟨q, hqq⟩ : ∃ q, q = r.giveUp.tellStuck := ⟨_, rfl⟩
  have HE : Hid (R = if failB q then q.judge else (if mvB (planM q.judge).e.ph then (planM q.judge).over else planM q.judge)) := by show _ = _; rw [HR.out, ModV.actM, if_neg h3, hqq]
  have HQ : Hid (q.ev.length ≤ 800000 ∧ q.judge.ev.length ≤ 800000 ∧ (failB q = false → q.judge.e.okB = true ∧ (planM q.judge).ev.length ≤ 900000 ∧ (planM q.judge).e.okB = true)) := by
    have hp : q.e.ph ≠ 3 := by
      have e : q.e.ph = r.e.ph := by rw [hqq]; exact (EngInv.stuck_kp r.giveUp).ph.trans (EngInv.loseAll_all r.e.ps r).1.ph
      rw [e]; exact h3
    have o := OK.out
    rw [hqq] at hp ⊢
    refine ⟨o.ev2, o.ev3, fun hf => ?_⟩
    have hj : r.giveUp.tellStuck.judge.e.ph ≠ 3 := by rw [ne_eq, ModV.judge_ph hp, hf]; decide
    rw [ModV.plan_eq (o.ok3 hj)]
    exact ⟨o.ok3 hj, o.ev4 hj, o.ok4 hj⟩
  clear h3 HR HOK
  go_wp2_with fail
  refine (lost_any w S b r HM.out HG.out.fl HG.out.now (by omega) ⟨HG.out.t0.1, by have := HG.out.t0.2; omega⟩ (Sp.specB_t HG.out.sp).2.2.2.2.2.2.2.2.1.1).mono ?_
  rw [← hqq]
  rintro e w1 ⟨rfl, S1, hm1, hs1, ht1⟩
  have HM1 := Lib.hid hm1
  have HS1 := Lib.hid hs1
  have HT1 := Lib.hid ht1
  clear hm1 hs1 ht1 c12 hq HM HG OK hqq
  go_wp2_with fail
  refine (fails_any w1 S1 b q HM1.out (by have := HQ.out.1; omega)).mono ?_
  intro e w2 hmv
  obtain ⟨rfl, ha⟩ := AmidT.call HS1.out HT1.out hmv.wide
  have HA := Lib.hid ha
  obtain ⟨f, hf⟩ : ∃ f, failB q = f := ⟨_, rfl⟩
  rw [hf] at HE HQ ⊢
  clear hmv ha hf HM1 HS1 HT1
  cases f
  case true =>
    have HF : Hid (R = q.judge) := HE.out
    clear HE HQ
    go_wp2
    go_end0
    rw [HF.out]
    exact AmidT.fin HA.out
  have HQ2 := Lib.hid (HQ.out.2.2 rfl)
  have HF : Hid (R = if mvB (planM q.judge).e.ph then (planM q.judge).over else planM q.judge) := HE.out
  clear HE
  obtain ⟨S2, hm2, hs2, ht2⟩ := HA.out
  have HM2 := Lib.hid hm2
  have HS2 := Lib.hid hs2
  have HT2 := Lib.hid ht2
  clear hm2 hs2 ht2 HA
  go_wp2_with fail
  refine (plan_any w2 S2 b q.judge HM2.out HQ2.out.1 HQ.out.2.1).mono ?_
  intro e w3 hmv
  obtain ⟨rfl, ha⟩ := AmidT.call HS2.out HT2.out hmv.wide
  obtain ⟨S3, hm3, hs3, ht3⟩ := ha
  have HM3 := Lib.hid hm3
  have HS3 := Lib.hid hs3
  have HT3 := Lib.hid ht3
  clear hmv hm3 hs3 ht3 HM2 HS2 HT2
  go_wp2_with fail
  refine (over_any w3 S3 b (planM q.judge) HM3.out HQ2.out.2.2 HQ2.out.2.1).mono ?_
  intro e w4 hmv
  obtain ⟨rfl, ha⟩ := AmidT.call HS3.out HT3.out hmv.wide
  have HA4 := Lib.hid ha
  clear hmv ha HM3 HS3 HT3
  go_wp2
  go_end0
  rw [HF.out]
  exact AmidT.fin HA4.out
set_option maxRecDepth 100000 in
set_option maxHeartbeats 12800000 in
theorem step_any (w : World) (S : Nat → Prop) (b : Nat) (r : Run) (o0 o1 o2 o3 : Int) (h : Mod w S b r) (hg : Gd r r.e.sp.x4) (hn : r.ev.length ≤ 600000) :
    Calls Tryz.prog 54 #[.pointer (some ⟨b, 0, none⟩), .agg #[.int .i64 o0, .int .i64 o1, .int .i64 o2, .int .i64 o3]] w (MovedT b (r.step (o0, o1, o2, o3)).1 (.int .i64 (r.step (o0, o1, o2, o3)).2) S w) := by
  obtain ⟨R, RC, hR⟩ : ∃ R RC, (R, RC) = r.step (o0, o1, o2, o3) := ⟨_, _, rfl⟩
  rw [← hR]
  have HR : Hid ((R, RC) = if o0 = 0 then
    (if inB o1 0 2000 then (({ r with e := { r.e with now := Tick.addV r.e.now o1 } } : Run).act, (0 : Int)) else (r, 1))
  else if o0 = 1 then
    (if inB o1 1 1000 && (reps r.e.sp o2).ok then ((({ r with e := { r.e with sp := reps r.e.sp o2 } } : Run).start 1 o1).act, 0) else (r, 1))
  else if o0 = 2 then
    (if takeV r.fl o1 o2 o3 r.e.now = 0 then ((r.setFl (takeD r.fl o1 o2 o3 r.e.now)).act, 0)
     else (r, if takeV r.fl o1 o2 o3 r.e.now = 3 then 1 else 2))
  else (r, 1)) := hR
  clear hR
  obtain ⟨V, hV⟩ : ∃ V, V = w.alloc (.cells [.int .i64 o0, .int .i64 o1, .int .i64 o2, .int .i64 o3].toArray 31) := ⟨_, rfl⟩
  have HB : Hid (Below w.heap.size w V) := by rw [hV]; exact bel1 _ _
  have KO : Hid (V.heap[w.heap.size]? = some (.cells [.int .i64 o0, .int .i64 o1, .int .i64 o2, .int .i64 o3].toArray 31 (0, 0))) := by rw [hV]; exact box_new w _
  obtain ⟨A1, n1, c1, E1, m1, k1, h⟩ := h
  have HM := Lib.hid (h.below HB.out)
  have hbw : b < w.heap.size := h.lt
  have HG := Lib.hid hg
  have HT : Hid (Turned S w V) := Turned.of_below HB.out
  have HID : Hid (MovedT b r (.int .i64 1) S w (.returned (.int .i64 1)) V) := (Moved.step (w := w) (fun q hq => .inl hq) HT.out (Kept.below HB.out) (moved_id ⟨_, _, _, _, _, _, HM.out⟩ rfl (Turned.of_below (Below.refl _ _)) (Kept.refl _))).wide
  clear h hg
  go_enter Tryz.func54, Tryz.ntmps54
  go_upto_region 1 with fail
  obtain ⟨P, hP⟩ : ∃ P, P = w.heap.size := ⟨_, rfl⟩
  have hbp : b ≠ P := by omega
  rw [← hP] at KO
  rw [show w.alloc (.cells #[.int .i64 o0, .int .i64 o1, .int .i64 o2, .int .i64 o3] 31) = V from hV.symm, ← hP]
  clear hV hP
  have d0 : V.cell? ⟨P, 0, none⟩ = some (.int .i64 o0) := box_cell KO.out 0 _ rfl
  have d1 : V.cell? ⟨P, 1, none⟩ = some (.int .i64 o1) := box_cell KO.out 1 _ rfl
  have d2 : V.cell? ⟨P, 2, none⟩ = some (.int .i64 o2) := box_cell KO.out 2 _ rfl
  have d3 : V.cell? ⟨P, 3, none⟩ = some (.int .i64 o3) := box_cell KO.out 3 _ rfl
  by_cases h0 : o0 = 0
  · have hq0 : (o0 == 0) = true := by simp [h0]
    have HR0 : Hid ((R, RC) = if inB o1 0 2000 then (({ r with e := { r.e with now := Tick.addV r.e.now o1 } } : Run).act, (0 : Int)) else (r, 1)) := by show _ = _; rw [HR.out, if_pos h0]
    clear h0 HR
    go_wp2_with fail
    refine (Tick.l01In_any o1 0 2000 _).mono ?_
    rintro e w1 ⟨rfl, rfl⟩
    cases hi : inB o1 0 2000
    · have HE : Hid ((R, RC) = (r, 1)) := by show _ = _; rw [HR0.out, hi]; rfl
      clear hi HR0
      go_wp2
      go_ret
      obtain ⟨rfl, rfl⟩ := Prod.mk.inj HE.out
      exact HID.out
    have HGT := Lib.hid (gd_tick HG.out hi)
    have HE : Hid ((R, RC) = (({ r with e := { r.e with now := Tick.addV r.e.now o1 } } : Run).act, (0 : Int))) := by show _ = _; rw [HR0.out, hi]; rfl
    clear hi HR0 HID d0 d1 d2 d3
    go_wp2_with fail
    refine wp_region_held_drew (S := fun w' => w'.cell? ⟨P, 1, none⟩ = some (.int .i64 o1)) (by kernel_rfl) (box_cell KO.out 1 _ rfl) (fun hHeld => ?_)
    refine tkk (i := 0) rfl ?_
    try simp only [Act.put, pj]
    refine tkk (i := 1) rfl ?_
    try simp only [Act.put, pj]
    refine tkk (i := 2) rfl ?_
    try simp only [Act.put, pj]
    refine tkk (i := 3) rfl ?_
    try simp only [Act.put, pj]
    refine tkk (i := 4) rfl ?_
    try simp only [Act.put, pj]
    refine tkk (i := 6) rfl ?_
    try simp only [Act.put, pj]
    refine tkk (i := 7) rfl ?_
    try simp only [Act.put, pj]
    refine wpAnyH_ready (rs := [5]) (by kernel_rfl) (by simp) (AllReadyH.cons rfl (fun K hK => ?_) AllReadyH.nil)
    have c11 : V.cell? ⟨b, 11, none⟩ = some (.int .i64 r.e.now) := box_cell HM.out.box 11 _ rfl
    have f11 := box_frozen HM.out.box 11
    go_simp
    refine hK _ _ (by exact hHeld) (fun hHeld => ?_)
    clear hK K
    try simp only [Act.put, pj]
    refine wpAnyH_ready (rs := [8]) (by kernel_rfl) (by simp) (AllReadyH.cons rfl (fun K hK => ?_) AllReadyH.nil)
    go_simp
    refine (Tick.specAddTick_any r.e.now o1 _).mono ?_
    rintro e w2 ⟨rfl, rfl⟩
    obtain ⟨z, hz⟩ : ∃ z, z = Tick.addV r.e.now o1 := ⟨_, rfl⟩
    rw [← hz] at HE HGT ⊢
    clear hz
    refine hK _ _ (by exact hHeld) (fun hHeld => ?_)
    clear hK K
    try simp only [Act.put, pj]
    refine tkk (i := 9) rfl ?_
    try simp only [Act.put, pj]
    refine tkk (i := 10) rfl ?_
    try simp only [Act.put, pj]
    refine tkk (i := 11) rfl ?_
    try simp only [Act.put, pj]
    refine wpAnyH_ready (rs := [12]) (by kernel_rfl) (by simp) (AllReadyH.cons rfl (fun K hK => ?_) AllReadyH.nil)
    go_simp
    obtain ⟨r0, hr0⟩ : ∃ r0 : Run, r0 = ({ r with e := { r.e with now := z } } : Run) := ⟨_, rfl⟩
    obtain ⟨W, hW⟩ : ∃ W, W = V.drew.setCell ⟨b, 11, none⟩ (.int .i64 z) := ⟨_, rfl⟩
    have HMd := Lib.hid (HM.out.below (undrew (Below.refl V.drew.heap.size V.drew)))
    have HM2 : Hid (ModAt W S b r0 A1 n1 c1 E1 m1 k1) := by
      rw [hW, hr0, set_row (i := 11) HMd.out.box (.int .i64 z) (moL ({ r with e := { r.e with now := z } } : Run) A1 n1 c1 E1 m1 k1) rfl]
      exact HMd.out.row rfl rfl
    have HT2 : Hid (Turned S w W) := by rw [hW]; exact (HT.out.trans (Turned.of_below (undrew (Below.refl V.drew.heap.size V.drew)))).trans (Turned.set _ _ _ HM.out.sb)
    have hl0 : r0.ev.length ≤ 700000 := by rw [hr0]; show r.ev.length ≤ _; omega
    have KO2 : Hid (W.cell? ⟨P, 1, none⟩ = some (.int .i64 o1)) := by rw [hW]; exact far1 (Ne.symm hbp) (box_cell KO.out 1 _ rfl)
    have HG0 : Hid (Gd r0 r0.e.sp.x4) := by rw [hr0]; exact HGT.out
    rw [← hr0] at HE
    (first | rw [show (V.setCell ⟨b, 11, none⟩ (.int .i64 z)).drew = W from hW.symm] | rw [show V.drew.setCell ⟨b, 11, none⟩ (.int .i64 z) = W from hW.symm])
    clear hW hr0 c11 f11 HMd HM HT HGT hHeld
    refine hK _ _ (by exact KO2.out) (fun hHeld => ?_)
    clear hK K
    refine wpAnyH_done (by kernel_rfl) ?_ _
    clear hHeld KO2 KO HG
    go_wp2_with fail
    refine (act_any W _ b r0 ⟨_, _, _, _, _, _, HM2.out⟩ HG0.out hl0).mono ?_
    intro e w5 hmv
    have HMV := Lib.hid (MovedT.step (fun q hq => .inl hq) HT2.out hmv)
    obtain ⟨rfl, _⟩ := hmv
    clear HM2 HT2 HG0
    go_wp2
    go_ret
    obtain ⟨rfl, rfl⟩ := Prod.mk.inj HE.out
    exact movedT_eq (MovedT.res HMV.out _) rfl rfl
  have hq0 : (o0 == 0) = false := by simp [h0]
  by_cases h1 : o0 = 1
  · have hq1 : (o0 == 1) = true := by simp [h1]
    have HR1 : Hid ((R, RC) = if inB o1 1 1000 && (reps r.e.sp o2).ok then ((({ r with e := { r.e with sp := reps r.e.sp o2 } } : Run).start 1 o1).act, (0 : Int)) else (r, 1)) := by show _ = _; rw [HR.out, if_neg h0, if_pos h1]
    clear h0 h1 HR HID d3
    have KZ : Hid ((V.alloc (.cells #[.int .i64 0, .int .i64 0, .int .i64 0, .int .i64 0, .int .i64 0, .int .i64 0, .int .i64 0, .int .i64 0, .int .i64 0, .int .i64 0, .int .i64 0] 25)).heap[V.heap.size]? = some (.cells [.int .i64 0, .int .i64 0, .int .i64 0, .int .i64 0, .int .i64 0, .int .i64 0, .int .i64 0, .int .i64 0, .int .i64 0, .int .i64 0, .int .i64 0].toArray 25 (0, 0))) := box_new V _
    go_upto_region 9 with (first | (refine wpList_get rfl 25 _ rfl b 0 rfl HM.out.box (spL r.e.sp) (moL_sp r A1 n1 c1 E1 m1 k1) Tryz.underlying25 rfl (by kernel_rfl) ?_) | (refine wpList_put rfl rfl 25 _ _ rfl V.heap.size 0 (spL r.e.sp) rfl rfl KZ.out (by kernel_rfl) (spL r.e.sp) rfl (Nat.le_of_ble_eq_true rfl) (spL_one _) ?_))
    obtain ⟨U, hU⟩ : ∃ U, U = (V.alloc (.cells #[.int .i64 0, .int .i64 0, .int .i64 0, .int .i64 0, .int .i64 0, .int .i64 0, .int .i64 0, .int .i64 0, .int .i64 0, .int .i64 0, .int .i64 0] 25)).setRow V.heap.size (spL r.e.sp).toArray := ⟨_, rfl⟩
    have hbu : Below V.heap.size V U := by rw [hU]; exact row_below (bel1 V _) _ _ (Nat.le_refl _) (by simp)
    have KS : Hid (U.heap[V.heap.size]? = some (.cells (spL r.e.sp).toArray 25 (0, 0))) := by rw [hU]; exact row_box KZ.out
    have HMU := Lib.hid (HM.out.below hbu)
    have KOU := Lib.hid (box_below KO.out hbu)
    have HTU : Hid (Turned S w U) := HT.out.trans (Turned.of_below hbu)
    have HKU : Hid (Kept w U) := (Kept.below HB.out).trans (Kept.below hbu)
    obtain ⟨PS, hPS⟩ : ∃ PS, PS = V.heap.size := ⟨_, rfl⟩
    have hbs : PS ≠ b := by have := HM.out.lt; omega
    have HPW : Hid (w.heap.size ≤ PS) := by have := HB.out.size; show _ ≤ _; omega
    have hos : PS ≠ P := by have := box_lt KO.out; omega
    rw [← hPS] at KS
    rw [← hU, ← hPS]
    clear hU hPS hbu KZ HM HT KO HB d0 d1 d2
    obtain ⟨s, hs⟩ : ∃ s, s = reps r.e.sp o2 := ⟨_, rfl⟩
    rw [← hs] at HR1
    have g2 : U.cell? ⟨P, 2, none⟩ = some (.int .i64 o2) := box_cell KOU.out 2 _ rfl
    have g1 : U.cell? ⟨P, 1, none⟩ = some (.int .i64 o1) := box_cell KOU.out 1 _ rfl
    have s0 : U.cell? ⟨PS, 0, none⟩ = some (.int .i64 r.e.sp.x0) := box_cell KS.out 0 _ rfl
    have sf := box_frozen KS.out 0
    have HSV := Lib.hid hs
    go_upto_if 37 with fail
    go_cut [37] (fun s37 wx => Hid (wx.heap[PS]? = some (.cells (spL s).toArray 25 (0, 0))) ∧ Hid (ModAt wx S b r A1 n1 c1 E1 m1 k1) ∧ Hid (wx.heap[P]? = some (.cells [.int .i64 o0, .int .i64 o1, .int .i64 o2, .int .i64 o3].toArray 31 (0, 0))) ∧ Hid (Turned S w wx) ∧ Hid (Kept w wx))
    case first =>
      by_cases hz : o2 = 0
      · have hqz : (o2 != 0) = false := by simp [hz]
        have HSE : Hid (s = r.e.sp) := by show _ = _; rw [hs, reps, if_pos hz]
        clear hz hs
        go_wp2_with fail
        go_meet
        case rel => exact ⟨by rw [HSE.out]; exact KS, HMU, KOU, HTU, HKU⟩
      · have hqz : (o2 != 0) = true := by simp [hz]
        have HSE : Hid (s = { r.e.sp with x0 := o2 }) := by show _ = _; rw [hs, reps, if_neg hz]
        clear hz hs
        go_wp2_with fail
        go_meet
        case rel =>
          refine ⟨?_, ?_, ?_, ?_, ?_⟩
          · rw [HSE.out, set_row (i := 0) KS.out (.int .i64 o2) (spL { r.e.sp with x0 := o2 }) rfl]
            exact row_box KS.out
          · exact ⟨box_other HMU.out.box _ _ (Ne.symm hbs), HMU.out.ps.same fun q hq => Below.heap_setCell _ _ _ q (Mach.own_ne HMU.out.ps.2 KS.out (by decide) q hq), HMU.out.ev.same fun q hq => Below.heap_setCell _ _ _ q (Mach.own_ne HMU.out.ev.2 KS.out (by decide) q hq), HMU.out.sb, HMU.out.sa, HMU.out.se⟩
          · exact box_other KOU.out _ _ (Ne.symm hos)
          · refine ⟨HTU.out.os, HTU.out.tape, HTU.out.output, by simpa [World.setCell] using HTU.out.size, fun k hk hn => ?_⟩
            rw [Below.heap_setCell _ _ _ k (by have := HPW.out; show k ≠ PS; omega)]
            exact HTU.out.block k hk hn
          · intro k cs t f h1 h2 hk
            have := box_lt hk
            rw [Below.heap_setCell _ _ _ k (by have := HPW.out; show k ≠ PS; omega)]
            exact HKU.out k cs t f h1 h2 hk
    obtain ⟨KS2, HM2, KO2, HT2, HK2⟩ := hcut
    obtain ⟨X, hX⟩ : ∃ X, X = wc := ⟨_, rfl⟩
    rw [← hX] at KS2 HM2 KO2 HT2 HK2 ⊢
    clear hX g1 g2 s0 sf hs KS HMU KOU HTU HKU
    have g1 : X.cell? ⟨P, 1, none⟩ = some (.int .i64 o1) := box_cell KO2.out 1 _ rfl
    have HID : Hid (∀ W, Below X.heap.size X W → MovedT b r (.int .i64 1) S w (.returned (.int .i64 1)) W) := fun W hb => (Moved.step (w := w) (fun q hq => .inl hq) (HT2.out.trans (Turned.of_below hb)) (HK2.out.trans (Kept.below hb)) (moved_id ⟨_, _, _, _, _, _, HM2.out.below hb⟩ rfl (Turned.of_below (Below.refl _ _)) (Kept.refl _))).wide
    go_wp2_with fail
    refine (Tick.l01In_any o1 1 1000 _).mono ?_
    rintro e w1 ⟨rfl, rfl⟩
    cases hi : inB o1 1 1000
    · have HE : Hid ((R, RC) = (r, 1)) := by show _ = _; rw [HR1.out, hi]; rfl
      have HID2 := Lib.hid (HID.out X (Below.refl _ _))
      clear hi HR1 HID
      go_wp2
      go_ret
      obtain ⟨rfl, rfl⟩ := Prod.mk.inj HE.out
      exact HID2.out
    have HIN := Lib.hid hi
    rw [hi] at HR1
    clear hi
    go_wp2_with (refine wpList_getG (by rfl) 25 _ rfl PS 0 rfl KS2.out (spL s) (spL_all s) Tryz.underlying25 rfl (by kernel_rfl) ?_)
    refine (Sp.specSpecOk_any s.x0 s.x1 s.x2 s.x3 s.x4 s.x5 s.x6 s.x7 s.x8 s.x9 s.x10 _).mono ?_
    rintro e w2 ⟨rfl, hb⟩
    cases hi : Sp.specB s.x0 s.x1 s.x2 s.x3 s.x4 s.x5 s.x6 s.x7 s.x8 s.x9 s.x10
    · have hk : s.ok = false := hi
      have HE : Hid ((R, RC) = (r, 1)) := by show _ = _; rw [HR1.out, hk]; rfl
      have HID2 := Lib.hid (HID.out w2 hb)
      clear hi HR1 HID hk hb g1
      go_wp2
      go_ret
      obtain ⟨rfl, rfl⟩ := Prod.mk.inj HE.out
      exact HID2.out
    have hk : s.ok = true := hi
    rw [hk] at HR1
    have HSK := Lib.hid hk
    have HE : Hid ((R, RC) = ((({ r with e := { r.e with sp := s } } : Run).start 1 o1).act, (0 : Int))) := by show _ = _; rw [HR1.out]; rfl
    have HM3 := Lib.hid (HM2.out.below hb)
    have HT3 : Hid (Turned S w w2) := HT2.out.trans (Turned.of_below hb)
    have KS3 := Lib.hid (box_below KS2.out hb)
    have KO3 := Lib.hid (box_below KO2.out hb)
    clear hi hk hb g1 HR1 HM2 HT2 KS2 KO2 HID HK2
    go_upto_region 14 with (first | (refine wpList_get rfl 25 _ rfl PS 0 rfl KS3.out (spL s) (spL_all s) Tryz.underlying25 rfl (by kernel_rfl) ?_) | (refine wpList_put rfl rfl 25 _ _ rfl b 0 (spL s) rfl rfl HM3.out.box (by kernel_rfl) (moL ({ r with e := { r.e with sp := s } } : Run) A1 n1 c1 E1 m1 k1) rfl (Nat.le_of_ble_eq_true rfl) (spL_one _) ?_))
    obtain ⟨Y, hY⟩ : ∃ Y, Y = w2.setRow b (moL ({ r with e := { r.e with sp := s } } : Run) A1 n1 c1 E1 m1 k1).toArray := ⟨_, rfl⟩
    obtain ⟨r1, hr1⟩ : ∃ r1 : Run, r1 = ({ r with e := { r.e with sp := s } } : Run) := ⟨_, rfl⟩
    have HM4 : Hid (ModAt Y S b r1 A1 n1 c1 E1 m1 k1) := by rw [hY, hr1]; exact HM3.out.row rfl rfl
    have HT4 : Hid (Turned S w Y) := by rw [hY]; exact HT3.out.trans (turned_row HM3.out _)
    have KO4 : Hid (Y.heap[P]? = some (.cells [.int .i64 o0, .int .i64 o1, .int .i64 o2, .int .i64 o3].toArray 31 (0, 0))) := by rw [hY]; exact row_far KO3.out (Ne.symm hbp)
    rw [← hr1] at HE
    have HG1 : Hid (Gd (r1.start 1 o1) (r1.start 1 o1).e.sp.x4) := by
      have h := gd_edit HG.out HIN.out (B := o2) (by rw [← HSV.out]; exact HSK.out)
      rw [← HSV.out, ← hr1] at h
      show Gd (r1.start 1 o1) r1.e.sp.x4
      rw [hr1]
      rw [hr1] at h
      exact h
    have hl1 : r1.ev.length ≤ 600000 := by rw [hr1]; exact hn
    rw [← hY]
    clear hY hr1 HM3 HT3 KS3 KO3 HG HIN HSK HSV
    have g1 : Y.cell? ⟨P, 1, none⟩ = some (.int .i64 o1) := box_cell KO4.out 1 _ rfl
    have c13 : Y.cell? ⟨b, 13, none⟩ = some (.int .i64 r1.e.tg) := box_cell HM4.out.box 13 _ rfl
    have c11 : Y.cell? ⟨b, 11, none⟩ = some (.int .i64 r1.e.now) := box_cell HM4.out.box 11 _ rfl
    have c17 : Y.cell? ⟨b, 17, none⟩ = some (.int .i64 r1.e.st) := box_cell HM4.out.box 17 _ rfl
    have c18 : Y.cell? ⟨b, 18, none⟩ = some (.int .i64 r1.e.tr) := box_cell HM4.out.box 18 _ rfl
    have c19 : Y.cell? ⟨b, 19, none⟩ = some (.int .i64 r1.e.wt) := box_cell HM4.out.box 19 _ rfl
    have f13 := box_frozen HM4.out.box 13
    have f17 := box_frozen HM4.out.box 17
    have f18 := box_frozen HM4.out.box 18
    have f19 := box_frozen HM4.out.box 19
    go_upto_region 18 with fail
    obtain ⟨W0, hW⟩ : ∃ W, W = (((Y.setCell ⟨b, 13, none⟩ (.int .i64 o1)).setCell ⟨b, 17, none⟩ (.int .i64 r1.e.now)).setCell ⟨b, 18, none⟩ (.int .i64 0)).setCell ⟨b, 19, none⟩ (.int .i64 0) := ⟨_, rfl⟩
    obtain ⟨r2, hr2⟩ : ∃ r2 : Run, r2 = { r1 with e := { r1.e with tg := o1, st := r1.e.now, tr := 0, wt := 0 } } := ⟨_, rfl⟩
    have HM5 : Hid (ModAt W0 S b r2 A1 n1 c1 E1 m1 k1) := by
      rw [hW, hr2, set_row (i := 13) HM4.out.box (.int .i64 o1) (moL ({ r1 with e := { r1.e with tg := o1 } } : Run) A1 n1 c1 E1 m1 k1) rfl,
        set_row (i := 17) (row_box HM4.out.box) (.int .i64 r1.e.now) (moL ({ r1 with e := { r1.e with tg := o1, st := r1.e.now } } : Run) A1 n1 c1 E1 m1 k1) rfl, row_row,
        set_row (i := 18) (row_box HM4.out.box) (.int .i64 0) (moL ({ r1 with e := { r1.e with tg := o1, st := r1.e.now, tr := 0 } } : Run) A1 n1 c1 E1 m1 k1) rfl, row_row,
        set_row (i := 19) (row_box HM4.out.box) (.int .i64 0) (moL ({ r1 with e := { r1.e with tg := o1, st := r1.e.now, tr := 0, wt := 0 } } : Run) A1 n1 c1 E1 m1 k1) rfl, row_row]
      exact HM4.out.row rfl rfl
    have HT5 : Hid (Turned S w W0) := by rw [hW]; exact HT4.out.trans ((((Turned.set _ _ _ HM4.out.sb).trans (Turned.set _ _ _ HM4.out.sb)).trans (Turned.set _ _ _ HM4.out.sb)).trans (Turned.set _ _ _ HM4.out.sb))
    have hl2 : r2.ev.length ≤ 600000 := by rw [hr2]; exact hl1
    have HRS : Hid (r1.start 1 o1 = r2.enter 1) := by rw [hr2]; rfl
    rw [HRS.out] at HE HG1
    rw [← hW]
    clear hW hr2 c11 c13 c17 c18 c19 f13 f17 f18 f19 g1 HM4 HT4 KO4 HRS
    go_wp2_with fail
    refine (phase_any W0 S b r2 1 ⟨_, _, _, _, _, _, HM5.out⟩ (by omega)).mono ?_
    intro e W hmv
    obtain ⟨rfl, S6, ⟨A6, n6, c6, E6, m6, k6, hm6⟩, hs6, ht6, _⟩ := hmv
    have HM2 := Lib.hid hm6
    have HT2 : Hid (Turned S w W) := HT5.out.trans ht6
    have HS6 : Hid (∀ q, S6 q → S q ∨ w.heap.size ≤ q) := fun q hq => by
      rcases hs6 q hq with h | h
      · exact .inl h
      · exact .inr (Nat.le_trans HT5.out.size h)
    obtain ⟨r0, hr0⟩ : ∃ r0, r0 = r2.enter 1 := ⟨_, rfl⟩
    have hl0 : r0.ev.length ≤ 700000 := by rw [hr0]; simp [Run.enter, Run.tell]; omega
    rw [← hr0] at HE HG1 HM2
    have HG0 : Hid (Gd r0 r0.e.sp.x4) := HG1.out
    clear hm6 hs6 ht6 hr0 HM5 HT5 HG1
    go_wp2_with fail
    refine (act_any W _ b r0 ⟨_, _, _, _, _, _, HM2.out⟩ HG0.out hl0).mono ?_
    intro e w5 hmv
    have HMV := Lib.hid (MovedT.step HS6.out HT2.out hmv)
    obtain ⟨rfl, _⟩ := hmv
    clear HM2 HT2 HG0
    go_wp2
    go_ret
    obtain ⟨rfl, rfl⟩ := Prod.mk.inj HE.out
    exact movedT_eq (MovedT.res HMV.out _) rfl rfl
  have hq1 : (o0 == 1) = false := by simp [h1]
  by_cases h2 : o0 = 2
  case neg =>
    have hq2 : (o0 == 2) = false := by simp [h2]
    have HE : Hid ((R, RC) = (r, 1)) := by show _ = _; rw [HR.out, if_neg h0, if_neg h1, if_neg h2]
    clear h0 h1 h2 HR
    go_wp2
    go_ret
    obtain ⟨rfl, rfl⟩ := Prod.mk.inj HE.out
    exact HID.out
  have hq2 : (o0 == 2) = true := by simp [h2]
  obtain ⟨cd, hcd⟩ : ∃ cd, cd = takeV r.fl o1 o2 o3 r.e.now := ⟨_, rfl⟩
  obtain ⟨D, hD⟩ : ∃ D, D = takeD r.fl o1 o2 o3 r.e.now := ⟨_, rfl⟩
  have HR2 : Hid ((R, RC) = if cd = 0 then ((r.setFl D).act, (0 : Int)) else (r, if cd = 3 then 1 else 2)) := by show _ = _; rw [HR.out, if_neg h0, if_neg h1, if_pos h2, hcd, hD]
  have HGD : Hid (Gd (r.setFl D) r.e.sp.x4) := by rw [hD]; exact gd_take HG.out
  have hn1 : n1 ≤ 1048576 := by rw [← HM.out.ps.1]; have := HG.out.fl.1; omega
  have CT : Hid (∀ (A : Option Addr) (n c : Nat) (W : World), IsPods W W.heap.size A n r.e.ps → n ≤ 1048576 → Calls Tryz.prog 103 #[.agg (flL A n c r.e.nx).toArray, .agg #[.int .i64 o1, .int .i64 o2, .int .i64 o3], .int .i64 r.e.now] W (Made1 FleetTy.fty D (.int .i64 cd) W)) := fun A n c W h1 h2 => by
    rw [hD, hcd]; exact Crew.specTakeReport_any A n c r.e.nx o1 o2 o3 r.e.now r.e.ps W.heap.size W h1 (Nat.le_refl _) h2
  have HKB : Hid (∀ W, Below V.heap.size V W → W.cell? ⟨P, 1, none⟩ = some (.int .i64 o1) ∧ W.cell? ⟨P, 2, none⟩ = some (.int .i64 o2) ∧ W.cell? ⟨P, 3, none⟩ = some (.int .i64 o3)) := fun W hb => ⟨box_cell (box_below KO.out hb) 1 _ rfl, box_cell (box_below KO.out hb) 2 _ rfl, box_cell (box_below KO.out hb) 3 _ rfl⟩
  clear h0 h1 h2 HR HID hcd hD HG
  go_wp2_with fail
  clear d0 d1 d2 d3
  go_cut [6, 7] (fun s6 s7 wx => ∃ (PF : Nat) (A2 : Option Addr) (c2 : Nat), s6 = .pointer (some ⟨PF, 0, none⟩) ∧ s7 = .int .i64 cd ∧ Hid (wx.heap[PF]? = some (.cells (flL A2 D.1.length c2 D.2).toArray 34 (0, 0))) ∧ Hid (OwnP wx 0 A2 D.1.length c2 D.1) ∧ Hid (∀ x, (Value.slice A2 D.1.length c2).ownBlock = some x → V.heap.size ≤ x) ∧ Hid (Below V.heap.size V wx) ∧ V.heap.size ≤ PF)
  case first =>
    refine wp_region_held_drew (S := fun w' => w'.rangeAt b 15 (flL A1 n1 c1 r.e.nx) ∧ w'.cell? ⟨b, 11, none⟩ = some (.int .i64 r.e.now) ∧ w'.cell? ⟨P, 1, none⟩ = some (.int .i64 o1) ∧ w'.cell? ⟨P, 2, none⟩ = some (.int .i64 o2) ∧ w'.cell? ⟨P, 3, none⟩ = some (.int .i64 o3)) (by kernel_rfl) ⟨range_of HM.out.box (moL_fl r A1 n1 c1 E1 m1 k1), box_cell HM.out.box 11 _ rfl, HKB.out _ (undrew (Below.refl _ _))⟩ (fun hHeld => ?_)
    refine tkk (i := 0) rfl ?_
    try simp only [Act.put, pj]
    refine tkk (i := 1) rfl ?_
    try simp only [Act.put, pj]
    refine tkk (i := 2) rfl ?_
    try simp only [Act.put, pj]
    refine tkk (i := 3) rfl ?_
    try simp only [Act.put, pj]
    refine tkj (i := 4) (v := .agg (flL A1 n1 c1 r.e.nx).toArray) rfl (yieldsIf_load_mid (by rfl) 34 _ rfl b 15 rfl (flL A1 n1 c1 r.e.nx) _ (fun w' h => h.1) Tryz.underlying34 rfl (by kernel_rfl)) ?_
    try simp only [Act.put, pj]
    refine tkk (i := 5) rfl ?_
    try simp only [Act.put, pj]
    refine tkk (i := 6) rfl ?_
    try simp only [Act.put, pj]
    refine tkk (i := 7) rfl ?_
    try simp only [Act.put, pj]
    refine tkk (i := 8) rfl ?_
    try simp only [Act.put, pj]
    refine tkk (i := 9) rfl ?_
    try simp only [Act.put, pj]
    refine tkk (i := 10) rfl ?_
    try simp only [Act.put, pj]
    refine tkk (i := 11) rfl ?_
    try simp only [Act.put, pj]
    refine tkk (i := 12) rfl ?_
    try simp only [Act.put, pj]
    refine tkk (i := 13) rfl ?_
    try simp only [Act.put, pj]
    refine tkk (i := 14) rfl ?_
    try simp only [Act.put, pj]
    refine tkk (i := 15) rfl ?_
    try simp only [Act.put, pj]
    refine tkk (i := 16) rfl ?_
    try simp only [Act.put, pj]
    have hbd : Below V.heap.size V V.drew := undrew (Below.refl _ _)
    refine wpAnyH_ready (rs := [17, 21]) (by kernel_rfl) (by simp) (AllReadyH.cons rfl (fun K hK => ?_) (AllReadyH.cons rfl (fun K hK => ?_) AllReadyH.nil))
    · go_simp
      have HMd := Lib.hid (HM.out.below hbd)
      refine (CT.out A1 n1 c1 _ (by exact HMd.out.ps.podsAll) hn1).mono ?_
      rintro e w2 ⟨vv, S2, rfl, hO, hb⟩
      have hb' : Below V.heap.size V w2 := undrew hb
      obtain ⟨A2, c2, rfl, ho, hs⟩ := hO.own
      have hin := hO.inn
      have HFR : Hid (∀ x, (Value.slice A2 D.1.length c2).ownBlock = some x → V.heap.size ≤ x) := fun x h => (hin x (hs x h)).1
      have hlt2 : ∀ x, (Value.slice A2 D.1.length c2).ownBlock = some x → x < w2.heap.size := fun x h => (ho.lt x h).2
      have HM2 := Lib.hid (HM.out.below hb')
      have HB2 := Lib.hid hb'
      have HO2 := Lib.hid ho
      have HL2 := Lib.hid hlt2
      clear hb hb' hO ho hs hin hlt2 hHeld HMd hbd
      refine hK _ _ (by exact ⟨range_of HM2.out.box (moL_fl r A1 n1 c1 E1 m1 k1), box_cell HM2.out.box 11 _ rfl, HKB.out _ HB2.out⟩) (fun hHeld => ?_)
      clear hK K
      try simp only [Act.put, pj]
      refine tkk (i := 18) rfl ?_
      try simp only [Act.put, pj]
      refine tkk (i := 19) rfl ?_
      try simp only [Act.put, pj]
      refine tkk (i := 20) rfl ?_
      try simp only [Act.put, pj]
      refine wpAnyH_ready (rs := [21]) (by kernel_rfl) (by simp) (AllReadyH.cons rfl (fun K hK => ?_) AllReadyH.nil)
      go_simp
      have hbp := bel1 w2 (.cells #[.slice none 0 0, .int .i64 0] 34)
      have HM3 := Lib.hid (HM2.out.below hbp)
      have HB3 := Lib.hid (bel_then HB2.out hbp HB2.out.size)
      have KP := Lib.hid (box_new w2 (.cells #[.slice none 0 0, .int .i64 0] 34))
      have HO : Hid (OwnP (w2.alloc (.cells #[.slice none 0 0, .int .i64 0] 34)) 0 A2 D.1.length c2 D.1) := HO2.out.below hbp
      have HNE : Hid (∀ x, (Value.slice A2 D.1.length c2).ownBlock = some x → x ≠ w2.heap.size) := fun x h => by have := HL2.out x h; omega
      have hP : V.heap.size ≤ w2.heap.size := HB2.out.size
      clear hbp HM2 HB2 HO2 HL2 hHeld
      refine hK _ _ (by exact ⟨range_of HM3.out.box (moL_fl r A1 n1 c1 E1 m1 k1), box_cell HM3.out.box 11 _ rfl, HKB.out _ HB3.out⟩) (fun hHeld => ?_)
      clear hK K
      try simp only [Act.put, pj]
      clear HM3
      refine wpAnyH_ready (rs := [22]) (by kernel_rfl) (by simp) (AllReadyH.cons rfl (fun K hK => ?_) AllReadyH.nil)
      refine wp_put rfl 34 _ _ rfl (w2.heap.size) 0 (flL A2 D.1.length c2 D.2) rfl rfl KP.out (by kernel_rfl) (flL A2 D.1.length c2 D.2) rfl (Nat.le_of_ble_eq_true rfl) (flL_one _ _ _ _) ?_
      obtain ⟨X, hX⟩ : ∃ X, X = (w2.alloc (.cells #[.slice none 0 0, .int .i64 0] 34)).setRow (w2.heap.size) (flL A2 D.1.length c2 D.2).toArray := ⟨_, rfl⟩
      have KPX : Hid (X.heap[w2.heap.size]? = some (.cells (flL A2 D.1.length c2 D.2).toArray 34 (0, 0))) := by rw [hX]; exact row_box KP.out
      have HBX : Hid (Below V.heap.size V X) := by rw [hX]; exact row_below HB3.out _ _ hP HB3.out.size
      have HMX := Lib.hid (HM.out.below HBX.out)
      have HOX : Hid (OwnP X 0 A2 D.1.length c2 D.1) := HO.out.same fun qq hq => by rw [hX]; exact setRow_other _ _ _ _ (HNE.out qq hq)
      rw [← hX]
      clear hX KP HO HNE hHeld
      refine hK _ _ (by exact ⟨range_of HMX.out.box (moL_fl r A1 n1 c1 E1 m1 k1), box_cell HMX.out.box 11 _ rfl, HKB.out _ HBX.out⟩) (fun hHeld => ?_)
      clear hK K
      try simp only [Act.put, pj]
      refine tkk (i := 23) rfl ?_
      try simp only [Act.put, pj]
      refine wpAnyH_done (by kernel_rfl) ?_ _
      clear hHeld
      go_wp2_with fail
      go_meet
      case rel => exact ⟨_, A2, c2, rfl, rfl, KPX, HOX, HFR, HBX, hP⟩
    · go_simp
      have hbp := bel1 V.drew (.cells #[.slice none 0 0, .int .i64 0] 34)
      have hbp' : Below V.heap.size V (V.drew.alloc (.cells #[.slice none 0 0, .int .i64 0] 34)) := undrew hbp
      have HMp := Lib.hid (HM.out.below hbp')
      have HBp := Lib.hid hbp'
      have KPp := Lib.hid (box_new V.drew (.cells #[.slice none 0 0, .int .i64 0] 34))
      have hsz : V.heap.size < (V.drew.alloc (.cells #[.slice none 0 0, .int .i64 0] 34)).heap.size := by simp
      clear hbp hbp' hHeld hbd
      refine hK _ _ (by exact ⟨range_of HMp.out.box (moL_fl r A1 n1 c1 E1 m1 k1), box_cell HMp.out.box 11 _ rfl, HKB.out _ HBp.out⟩) (fun hHeld => ?_)
      clear hK K
      try simp only [Act.put, pj]
      refine wpAnyH_ready (rs := [17]) (by kernel_rfl) (by simp) (AllReadyH.cons rfl (fun K hK => ?_) AllReadyH.nil)
      go_simp
      refine (CT.out A1 n1 c1 _ (by exact HMp.out.ps.podsAll) hn1).mono ?_
      rintro e w2 ⟨vv, S2, rfl, hO, hb⟩
      obtain ⟨A2, c2, rfl, ho, hs⟩ := hO.own
      have hin := hO.inn
      have HFR : Hid (∀ x, (Value.slice A2 D.1.length c2).ownBlock = some x → V.heap.size ≤ x) := fun x h => Nat.le_trans (Nat.le_of_lt hsz) (hin x (hs x h)).1
      have HNE : Hid (∀ x, (Value.slice A2 D.1.length c2).ownBlock = some x → x ≠ V.drew.heap.size) := fun x h e => absurd (Nat.lt_of_lt_of_le hsz (hin x (hs x h)).1) (by rw [show x = V.heap.size from e]; exact Nat.lt_irrefl _)
      have HM3 := Lib.hid (HMp.out.below hb)
      have HB3 := Lib.hid (bel_then HBp.out hb HBp.out.size)
      have HO := Lib.hid ho
      have KP := Lib.hid (box_below KPp.out hb)
      have hP : V.heap.size ≤ V.drew.heap.size := Nat.le_refl _
      clear hb hO ho hs hin hHeld HMp HBp KPp hsz
      refine hK _ _ (by exact ⟨range_of HM3.out.box (moL_fl r A1 n1 c1 E1 m1 k1), box_cell HM3.out.box 11 _ rfl, HKB.out _ HB3.out⟩) (fun hHeld => ?_)
      clear hK K
      try simp only [Act.put, pj]
      clear HM3
      refine tkk (i := 18) rfl ?_
      try simp only [Act.put, pj]
      refine tkk (i := 19) rfl ?_
      try simp only [Act.put, pj]
      refine tkk (i := 20) rfl ?_
      try simp only [Act.put, pj]
      refine wpAnyH_ready (rs := [22]) (by kernel_rfl) (by simp) (AllReadyH.cons rfl (fun K hK => ?_) AllReadyH.nil)
      refine wp_put rfl 34 _ _ rfl (V.drew.heap.size) 0 (flL A2 D.1.length c2 D.2) rfl rfl KP.out (by kernel_rfl) (flL A2 D.1.length c2 D.2) rfl (Nat.le_of_ble_eq_true rfl) (flL_one _ _ _ _) ?_
      obtain ⟨X, hX⟩ : ∃ X, X = (w2).setRow (V.drew.heap.size) (flL A2 D.1.length c2 D.2).toArray := ⟨_, rfl⟩
      have KPX : Hid (X.heap[V.drew.heap.size]? = some (.cells (flL A2 D.1.length c2 D.2).toArray 34 (0, 0))) := by rw [hX]; exact row_box KP.out
      have HBX : Hid (Below V.heap.size V X) := by rw [hX]; exact row_below HB3.out _ _ hP HB3.out.size
      have HMX := Lib.hid (HM.out.below HBX.out)
      have HOX : Hid (OwnP X 0 A2 D.1.length c2 D.1) := HO.out.same fun qq hq => by rw [hX]; exact setRow_other _ _ _ _ (HNE.out qq hq)
      rw [← hX]
      clear hX KP HO HNE hHeld
      refine hK _ _ (by exact ⟨range_of HMX.out.box (moL_fl r A1 n1 c1 E1 m1 k1), box_cell HMX.out.box 11 _ rfl, HKB.out _ HBX.out⟩) (fun hHeld => ?_)
      clear hK K
      try simp only [Act.put, pj]
      refine tkk (i := 23) rfl ?_
      try simp only [Act.put, pj]
      refine wpAnyH_done (by kernel_rfl) ?_ _
      clear hHeld
      go_wp2_with fail
      go_meet
      case rel => exact ⟨_, A2, c2, rfl, rfl, KPX, HOX, HFR, HBX, hP⟩
  obtain ⟨PF, A2, c2, rfl, rfl, KF, HO, HFR, HBX, hPF⟩ := hcut
  obtain ⟨X, hX⟩ : ∃ X, X = wc := ⟨_, rfl⟩
  rw [← hX] at KF HO HBX ⊢
  clear hX CT HKB
  have HM3 := Lib.hid (HM.out.below HBX.out)
  have HT3 : Hid (Turned S w X) := HT.out.trans (Turned.of_below HBX.out)
  have HK3 : Hid (Kept w X) := (Kept.below HB.out).trans (Kept.below HBX.out)
  clear HM HT HBX
  by_cases hc3 : cd = 3
  · have hq3 : (cd == 3) = true := by simp [hc3]
    have HE : Hid ((R, RC) = (r, 1)) := by show _ = _; rw [HR2.out, if_neg (by omega), if_pos hc3]
    have HID : Hid (MovedT b r (.int .i64 1) S w (.returned (.int .i64 1)) X) := (Moved.step (w := w) (fun q hq => .inl hq) HT3.out HK3.out (moved_id ⟨_, _, _, _, _, _, HM3.out⟩ rfl (Turned.of_below (Below.refl _ _)) (Kept.refl _))).wide
    clear hc3 HR2
    go_wp2
    go_ret
    obtain ⟨rfl, rfl⟩ := Prod.mk.inj HE.out
    exact HID.out
  have hq3 : (cd == 3) = false := by simp [hc3]
  by_cases hc0 : cd = 0
  case neg =>
    have hq4 : (cd != 0) = true := by simp [hc0]
    have HE : Hid ((R, RC) = (r, 2)) := by show _ = _; rw [HR2.out, if_neg hc0, if_neg hc3]
    have HID : Hid (MovedT b r (.int .i64 2) S w (.returned (.int .i64 2)) X) := (Moved.step (w := w) (fun q hq => .inl hq) HT3.out HK3.out (moved_id ⟨_, _, _, _, _, _, HM3.out⟩ rfl (Turned.of_below (Below.refl _ _)) (Kept.refl _))).wide
    clear hc0 hc3 HR2
    go_wp2
    go_ret
    obtain ⟨rfl, rfl⟩ := Prod.mk.inj HE.out
    exact HID.out
  have hq4 : (cd != 0) = false := by simp [hc0]
  have HE0 : Hid ((R, RC) = ((r.setFl D).act, (0 : Int))) := by show _ = _; rw [HR2.out, if_pos hc0]
  clear hc0 hc3 HR2
  go_upto_region 26 with (first | (refine wpList_get rfl 34 _ rfl PF 0 rfl KF.out (flL A2 D.1.length c2 D.2) rfl Tryz.underlying34 rfl (by kernel_rfl) ?_) | (refine wpList_put rfl rfl 34 _ _ rfl b 15 (flL A2 D.1.length c2 D.2) rfl rfl HM3.out.box (by kernel_rfl) (moL (r.setFl D) A2 D.1.length c2 E1 m1 k1) rfl (Nat.le_of_ble_eq_true rfl) (flL_one _ _ _ _) ?_))
  obtain ⟨W, hW⟩ : ∃ Y, Y = X.setRow b (moL (r.setFl D) A2 D.1.length c2 E1 m1 k1).toArray := ⟨_, rfl⟩
  have HM20 : Hid (ModAt W (fun x => S x ∨ w.heap.size ≤ x) b (r.setFl D) A2 D.1.length c2 E1 m1 k1) := by
    rw [hW]
    exact HM3.out.pods HO.out (fun _ h => .inl h) (fun x h => .inr (by have := HFR.out x h; have := HB.out.size; omega))
  have HT2 : Hid (Turned S w W) := by rw [hW]; exact HT3.out.trans (turned_row HM3.out _)
  obtain ⟨r0, hr0⟩ : ∃ r0, r0 = r.setFl D := ⟨_, rfl⟩
  have hl0 : r0.ev.length ≤ 700000 := by rw [hr0]; show r.ev.length ≤ _; omega
  have HG0 : Hid (Gd r0 r0.e.sp.x4) := by rw [hr0]; exact HGD.out
  rw [← hr0] at HM20 HE0
  have HM2 := HM20
  have HE := HE0
  rw [← hW]
  clear hW hr0 HM3 HT3 HK3 HO HFR KF HGD HM20 HE0
  go_wp2_with fail
  refine (act_any W _ b r0 ⟨_, _, _, _, _, _, HM2.out⟩ HG0.out hl0).mono ?_
  intro e w5 hmv
  have HMV := Lib.hid (MovedT.step (fun q hq => hq) HT2.out hmv)
  obtain ⟨rfl, _⟩ := hmv
  clear HM2 HT2 HG0
  go_wp2
  go_ret
  obtain ⟨rfl, rfl⟩ := Prod.mk.inj HE.out
  exact movedT_eq (MovedT.res HMV.out _) rfl rfl
end Go.Proofs.YtklgjjmcflgjeaaGreat.Mod
