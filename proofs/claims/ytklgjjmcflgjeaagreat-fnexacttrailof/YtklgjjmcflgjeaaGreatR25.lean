import Derived.Test.YtklgjjmcflgjeaaGreatQ
import Derived.Test.YtklgjjmcflgjeaaGreatR22
import Derived.Test.YtklgjjmcflgjeaaGreatR24
set_option linter.unusedVariables false
set_option linter.unusedSimpArgs false
namespace Go.Proofs.YtklgjjmcflgjeaaGreat.Mach
open Go.ChangeShapes Go.WideShapes Go.ChangeAt Go.RowKit
open LK Pods EngV EngCnt Eng Seg
set_option maxRecDepth 100000 in
set_option maxHeartbeats 6400000 in
theorem makeGood_any (w : World) (S : Nat → Prop) (b : Nat) (lk ot : Int) (r : Run) (h : Mach w S b lk ot r) (hl : r.ev.length ≤ 1000000) :
    Calls Tryz.prog 258 #[.pointer (some ⟨b, 0, none⟩)] w (Moved b lk ot r.makeGood (.tuple #[]) S w) := by
  obtain ⟨A, n, c, E, m, k, h⟩ := h
  have H := Lib.hid h
  have d15 : w.cell? ⟨b, 15, none⟩ = some (.int .i64 r.e.tg) := box_cell h.box 15 _ rfl
  have d16 : w.cell? ⟨b, 16, none⟩ = some (.int .i64 r.e.gd) := box_cell h.box 16 _ rfl
  have f16 := box_frozen h.box 16
  clear h
  go_enter Tryz.func258, Tryz.ntmps258
  by_cases hg : r.e.gd = r.e.tg
  · have hq : (r.e.gd == r.e.tg) = true := by simp [hg]
    have HE : Hid (r.makeGood = r) := by show _ = _; simp [Run.makeGood, hg]
    clear hg
    go_wp2
    go_end0
    rw [HE.out]
    exact ⟨rfl, S, ⟨A, n, c, E, m, k, H.out⟩, fun q hq => .inl hq, Turned.of_below (Below.refl _ _), Kept.refl w⟩
  have hq : (r.e.gd == r.e.tg) = false := by simp [hg]
  have HE : Hid (r.makeGood = ({ r with e := { r.e with gd := r.e.tg } } : Run).tell 3 r.e.tg r.e.gd) := by show _ = _; simp [Run.makeGood, hg]
  clear hg
  go_upto_region 3 with fail
  obtain ⟨W, hW⟩ : ∃ W, W = w.setCell ⟨b, 16, none⟩ (.int .i64 r.e.tg) := ⟨_, rfl⟩
  have hset := set_row (i := 16) H.out.box (.int .i64 r.e.tg) (maL lk ot ({ r with e := { r.e with gd := r.e.tg } } : Run) A n c E m k) rfl
  have HM : Hid (MachAt W S b lk ot ({ r with e := { r.e with gd := r.e.tg } } : Run) A n c E m k) := by rw [hW, hset]; exact H.out.row rfl rfl
  have HT : Hid (Turned S w W) := by rw [hW, hset]; exact turned_row H.out _
  have HKP : Hid (Kept w W) := by rw [hW]; exact Kept.set H.out.box (by decide) _
  rw [← hW]
  clear hW hset d15 d16 f16 hq
  have c16 : W.cell? ⟨b, 16, none⟩ = some (.int .i64 r.e.tg) := box_cell HM.out.box 16 _ rfl
  go_wp2_with fail
  refine (tell_any W S b lk ot ({ r with e := { r.e with gd := r.e.tg } } : Run) 3 r.e.tg r.e.gd ⟨A, n, c, E, m, k, HM.out⟩ hl).mono ?_
  intro e w2 hmv
  rw [← HE.out] at hmv
  have HMV := Lib.hid (Moved.step (fun q hq => .inl hq) HT.out HKP.out hmv)
  obtain ⟨rfl, _⟩ := hmv
  clear c16
  go_wp2
  go_end0
  exact HMV.out
theorem good_ev (r : Run) : r.makeGood.ev.length ≤ r.ev.length + 1 := by
  unfold Run.makeGood
  split
  · omega
  · simp [Run.tell]
theorem over_same (e : Eng) : Cnt.overI e.sp.x0 (live e false : Int) (good e false : Int) (live e true : Int) (going e : Int) = overE e := by
  simp [Cnt.overI, overE]
set_option maxRecDepth 100000 in
set_option maxHeartbeats 12800000 in
theorem over_any (w : World) (S : Nat → Prop) (b : Nat) (lk ot : Int) (r : Run) (h : Mach w S b lk ot r) (hok : r.e.okB = true) (hl : r.ev.length ≤ 900000) :
    Calls Tryz.prog 232 #[.pointer (some ⟨b, 0, none⟩)] w (Moved b lk ot r.over (.tuple #[]) S w) := by
  obtain ⟨R, hR⟩ : ∃ R, R = r.over := ⟨_, rfl⟩
  rw [← hR]
  have HRR := Lib.hid hR
  clear hR
  obtain ⟨f1, hf1⟩ : ∃ x : Int, x = (live r.e false : Int) := ⟨_, rfl⟩
  obtain ⟨f2, hf2⟩ : ∃ x : Int, x = (good r.e false : Int) := ⟨_, rfl⟩
  obtain ⟨o1, ho1⟩ : ∃ x : Int, x = (live r.e true : Int) := ⟨_, rfl⟩
  obtain ⟨o2, ho2⟩ : ∃ x : Int, x = (good r.e true : Int) := ⟨_, rfl⟩
  obtain ⟨gg, hgg⟩ : ∃ x : Int, x = (going r.e : Int) := ⟨_, rfl⟩
  obtain ⟨ov, hov⟩ : ∃ v, v = overE r.e := ⟨_, rfl⟩
  have HOV := Lib.hid hov
  have CT : Hid (∀ W, Mach W S b lk ot r → Calls Tryz.prog 254 #[.pointer (some ⟨b, 0, none⟩)] W (Says (.tuple #[.agg #[.int .i64 f1, .int .i64 f2], .agg #[.int .i64 o1, .int .i64 o2], .int .i64 gg]) W)) := fun W hW => by
    have h := counts_any W S b lk ot r hW hok
    simp only [cntV, List.toArray] at h
    rw [← hf1, ← hf2, ← ho1, ← ho2, ← hgg] at h
    exact h
  have CP : Hid (∀ W, Calls Tryz.prog 257 #[.agg (spL r.e.sp).toArray, .agg #[.int .i64 f1, .int .i64 f2], .agg #[.int .i64 o1, .int .i64 o2], .int .i64 gg] W (Says (.bool ov) W)) := fun W => by
    have h := Cnt.PlanOver_any r.e.sp.x0 r.e.sp.x1 r.e.sp.x2 r.e.sp.x3 r.e.sp.x4 r.e.sp.x5 r.e.sp.x6 r.e.sp.x7 r.e.sp.x8 r.e.sp.x9 r.e.sp.x10 f1 f2 o1 o2 gg W
    rw [hov, ← over_same, ← hf1, ← hf2, ← ho1, ← hgg]
    exact h
  clear hf1 hf2 ho1 ho2 hgg hok hov
  have hbw : b < w.heap.size := by obtain ⟨A, n, c, E, m, k, h⟩ := h; exact h.lt
  have H := Lib.hid h
  clear h
  go_enter Tryz.func232, Tryz.ntmps232
  go_wp2_with fail
  refine (CT.out w H.out).mono ?_
  rintro e w1 ⟨rfl, hb⟩
  have HB1 := Lib.hid hb
  have hs1 : w.heap.size ≤ w1.heap.size := hb.size
  clear hb CT
  have KF : Hid (((w1.alloc (.cells #[.int .i64 0, .int .i64 0] 231)).alloc (.cells #[.int .i64 0, .int .i64 0] 231)).heap[w1.heap.size]? = some (.cells [.int .i64 0, .int .i64 0].toArray 231 (0, 0))) := box_alloc (box_new w1 _) _
  have KO : Hid ((((w1.alloc (.cells #[.int .i64 0, .int .i64 0] 231)).alloc (.cells #[.int .i64 0, .int .i64 0] 231)).setRow w1.heap.size [.int .i64 f1, .int .i64 f2].toArray).heap[w1.heap.size + 1]? = some (.cells [.int .i64 0, .int .i64 0].toArray 231 (0, 0))) := by
    refine row_far ?_ (by omega)
    have h := box_new (w1.alloc (.cells #[.int .i64 0, .int .i64 0] 231)) (.cells #[.int .i64 0, .int .i64 0] 231); simp only [World.size_alloc] at h; exact h
  go_upto_region 1 with (first | (refine wpList_put rfl rfl 231 _ _ rfl w1.heap.size 0 [.int .i64 f1, .int .i64 f2] rfl rfl KF.out (by kernel_rfl) [.int .i64 f1, .int .i64 f2] rfl (Nat.le_of_ble_eq_true rfl) (by simp [Value.oneCell']) ?_) | (refine wpList_put rfl rfl 231 _ _ rfl (w1.heap.size + 1) 0 [.int .i64 o1, .int .i64 o2] rfl rfl KO.out (by kernel_rfl) [.int .i64 o1, .int .i64 o2] rfl (Nat.le_of_ble_eq_true rfl) (by simp [Value.oneCell']) ?_))
  obtain ⟨V2, hV2⟩ : ∃ X, X = (((w1.alloc (.cells #[.int .i64 0, .int .i64 0] 231)).alloc (.cells #[.int .i64 0, .int .i64 0] 231)).setRow w1.heap.size [.int .i64 f1, .int .i64 f2].toArray).setRow (w1.heap.size + 1) [.int .i64 o1, .int .i64 o2].toArray := ⟨_, rfl⟩
  have hbV : Below w1.heap.size w1 V2 := by rw [hV2]; exact row_below (row_below (bel2 w1 _ _) _ _ (Nat.le_refl _) (by simp; omega)) _ _ (by omega) (by simp; omega)
  have KO2 : Hid (V2.heap[w1.heap.size + 1]? = some (.cells [.int .i64 o1, .int .i64 o2].toArray 231 (0, 0))) := by rw [hV2]; exact row_box KO.out
  have KF2 : Hid (V2.heap[w1.heap.size]? = some (.cells [.int .i64 f1, .int .i64 f2].toArray 231 (0, 0))) := by rw [hV2]; exact row_far (row_box KF.out) (by omega)
  rw [← hV2]
  clear hV2 KF KO
  have HB2 := Lib.hid (bel_then HB1.out hbV hs1)
  have H2 := Lib.hid (H.out.below HB2.out)
  clear hbV HB1 H
  obtain ⟨A, n, c, E, m, k, h2⟩ := H2.out
  have KM2 := Lib.hid h2.box
  clear h2
  refine wp_region_held_drew (S := fun w' => w'.rangeAt b 2 (spL r.e.sp) ∧ w'.rangeAt w1.heap.size 0 [.int .i64 f1, .int .i64 f2] ∧ w'.rangeAt (w1.heap.size + 1) 0 [.int .i64 o1, .int .i64 o2]) (by kernel_rfl) ⟨range_of KM2.out (maL_sp lk ot r A n c E m k), range_of KF2.out rfl, range_of KO2.out rfl⟩ (fun hHeld => ?_)
  refine tkk (i := 0) rfl ?_
  try simp only [Act.put, pj]
  refine tkk (i := 1) rfl ?_
  try simp only [Act.put, pj]
  refine tkk (i := 2) rfl ?_
  try simp only [Act.put, pj]
  refine tkk (i := 3) rfl ?_
  try simp only [Act.put, pj]
  refine tkj (i := 4) (v := .agg (spL r.e.sp).toArray) rfl (yieldsIf_load_mid (by rfl) 25 _ rfl b 2 rfl (spL r.e.sp) _ (fun w' h => h.1) Tryz.underlying25 rfl (by kernel_rfl)) ?_
  try simp only [Act.put, pj]
  refine tkj (i := 5) (v := .agg ([.int .i64 f1, .int .i64 f2]).toArray) rfl (yieldsIf_load_mid (by rfl) 231 _ rfl w1.heap.size 0 rfl ([.int .i64 f1, .int .i64 f2]) _ (fun w' h => h.2.1) Tryz.underlying231 rfl (by kernel_rfl)) ?_
  try simp only [Act.put, pj]
  refine tkj (i := 6) (v := .agg ([.int .i64 o1, .int .i64 o2]).toArray) rfl (yieldsIf_load_mid (by rfl) 231 _ rfl (w1.heap.size + 1) 0 rfl ([.int .i64 o1, .int .i64 o2]) _ (fun w' h => h.2.2) Tryz.underlying231 rfl (by kernel_rfl)) ?_
  try simp only [Act.put, pj]
  refine tkk (i := 7) rfl ?_
  try simp only [Act.put, pj]
  refine wpAnyH_ready (rs := [8]) (by kernel_rfl) (by simp) (AllReadyH.cons rfl (fun K hK => ?_) AllReadyH.nil)
  go_simp
  refine (CP.out _).mono ?_
  rintro e w3 ⟨rfl, hb⟩
  have hb' : Below V2.heap.size V2 w3 := undrew hb
  have KM3 := Lib.hid (box_below KM2.out hb')
  have KF3 := Lib.hid (box_below KF2.out hb')
  have KO3 := Lib.hid (box_below KO2.out hb')
  have HB3 := Lib.hid (bel_then HB2.out hb' HB2.out.size)
  have H3 := Lib.hid (H2.out.below hb')
  clear hb hb' KM2 KF2 KO2 HB2 H2 hHeld CP
  refine hK _ _ (by exact ⟨range_of KM3.out (maL_sp lk ot r A n c E m k), range_of KF3.out rfl, range_of KO3.out rfl⟩) (fun hHeld => ?_)
  clear hK K
  try simp only [Act.put, pj]
  refine tkk (i := 9) rfl ?_
  try simp only [Act.put, pj]
  refine wpAnyH_done (by kernel_rfl) ?_ _
  clear hHeld KF3 KO3
  have HT3 : Hid (Turned S w w3) := Turned.of_below HB3.out
  have HK3 : Hid (Kept w w3) := Kept.below HB3.out
  clear HB3
  cases ov
  · have HE : Hid (R = r) := by show _ = _; rw [HRR.out, Run.over, ← HOV.out]; rfl
    clear HOV HRR KM3
    go_wp2
    go_end0
    exact moved_rfl H3.out HE.out HT3.out HK3.out
  have HRE : Hid (R = if r.e.ph = 1 then r.makeGood.enter 0 else if r.e.ph = 2 then r.enter 3 else r) := by show _ = _; rw [HRR.out, Run.over, ← HOV.out]; rfl
  clear HOV HRR
  have c14 : w3.cell? ⟨b, 14, none⟩ = some (.int .i64 r.e.ph) := box_cell KM3.out 14 _ rfl
  clear KM3
  by_cases h1 : r.e.ph = 1
  · have hq1 : (r.e.ph == 1) = true := by simp [h1]
    have HE : Hid (R = r.makeGood.enter 0) := by show _ = _; rw [HRE.out, if_pos h1]
    clear h1 HRE
    go_wp2_with fail
    refine (makeGood_any w3 S b lk ot r H3.out (by omega)).mono ?_
    intro e w4 hmv
    obtain ⟨rfl, S4, hm4, hs4, ht4, hk4⟩ := Moved.step (fun q hq => .inl hq) HT3.out HK3.out hmv
    have HM4 := Lib.hid hm4
    have HS4 := Lib.hid hs4
    have HT4 := Lib.hid ht4
    have HK4 := Lib.hid hk4
    clear hmv hm4 hs4 ht4 hk4 H3 HT3 HK3 c14 hq1
    go_wp2_with fail
    refine (enter_any w4 S4 b lk ot r.makeGood 0 HM4.out (Nat.le_trans (good_ev r) (by omega))).mono ?_
    intro e w5 hmv
    have HMV := Lib.hid (Moved.step HS4.out HT4.out HK4.out hmv)
    obtain ⟨rfl, _⟩ := hmv
    go_wp2
    go_end0
    rw [HE.out]
    exact HMV.out
  have hq1 : (r.e.ph == 1) = false := by simp [h1]
  by_cases h2 : r.e.ph = 2
  · have hq2 : (r.e.ph == 2) = true := by simp [h2]
    have HE : Hid (R = r.enter 3) := by show _ = _; rw [HRE.out, if_neg h1, if_pos h2]
    clear h1 h2 HRE
    go_wp2_with fail
    refine (enter_any w3 S b lk ot r 3 H3.out (by omega)).mono ?_
    intro e w5 hmv
    have HMV := Lib.hid (Moved.step (fun q hq => .inl hq) HT3.out HK3.out hmv)
    obtain ⟨rfl, _⟩ := hmv
    clear c14 hq1 hq2
    go_wp2
    go_end0
    rw [HE.out]
    exact HMV.out
  have hq2 : (r.e.ph == 2) = false := by simp [h2]
  have HE : Hid (R = r) := by show _ = _; rw [HRE.out, if_neg h1, if_neg h2]
  clear h1 h2 HRE
  go_wp2
  go_end0
  exact moved_rfl H3.out HE.out HT3.out HK3.out
end Go.Proofs.YtklgjjmcflgjeaaGreat.Mach
namespace Go.Proofs.YtklgjjmcflgjeaaGreat.Mach
open Go.ChangeShapes Go.WideShapes Go.ChangeAt Go.RowKit
open LK Pods EngV EngCnt Eng Seg
set_option maxRecDepth 100000 in
set_option maxHeartbeats 12800000 in
theorem dropFirst_any (w : World) (S : Nat → Prop) (b : Nat) (lk ot : Int) (r : Run) (nn : Int) (F : Nat) (caps : List Value) (f : Pd → Bool) (h : Mach w S b lk ot r) (hev : r.ev.length ≤ 900000) (hn : r.e.ps.length ≤ 1000) (hnn : -1000 ≤ nn ∧ nn ≤ 1000) (hid : ∀ p ∈ r.e.ps, (Lit.int .i64 p.1).wf = true)
    (eg : ∀ args w, (callFunc F args).run Tryz.prog w = .ok (.enter F args) w) (hw : ∀ (W : World) (q : Run) (y0 y1 y2 y3 y4 : Int), Amid w S b lk ot q W → q.e.sp = r.e.sp ∧ q.e.tg = r.e.tg ∧ q.e.now = r.e.now → Calls Tryz.prog F (.agg #[.int .i64 y0, .int .i64 y1, .int .i64 y2, .int .i64 y3, .int .i64 y4] :: caps).toArray W (Says (.bool (f (y0, y1, y2, y3, y4))) W)) :
    Calls Tryz.prog 249 #[.pointer (some ⟨b, 0, none⟩), .int .i64 nn, .func (.func F) #[] caps.toArray] w (fun e w' => e = .returned (.int .i64 (r.dropF f nn).2) ∧ Amid w S b lk ot (r.dropF f nn).1 w') := by
  obtain ⟨R, hR⟩ : ∃ R, R = r.dropF f nn := ⟨_, rfl⟩
  rw [← hR]
  have HR0 : Hid (R = r.dropN f nn (r.e.ps.drop 0)) := hR
  clear hR
  have HA0 := Lib.hid (Amid.start h)
  obtain ⟨A, n, c, E, m0, k0, h⟩ := h
  have HO := Lib.hid h.ps
  have hnl : r.e.ps.length = n := h.ps.1
  have HN := Lib.hid hnl
  have hn1 : n ≤ 1000 := by omega
  have H := Lib.hid h
  have HID := Lib.hid hid
  have HWA := Lib.hid hw
  have HEG := Lib.hid eg
  have HB0 : Hid (r.ev.length ≤ 900000 + 0 ∧ r.e.ps.length ≤ 1048576 ∧ r.e.sp = r.e.sp ∧ r.e.tg = r.e.tg ∧ r.e.now = r.e.now) := ⟨by omega, by omega, rfl, rfl, rfl⟩
  have HNN := Lib.hid hnn
  clear h hid hev hn hnl hw eg
  obtain ⟨PS, hPS⟩ : ∃ PS, PS = r.e.ps := ⟨_, rfl⟩
  rw [← hPS] at HR0 HO HN HID
  clear hPS
  go_enter Tryz.func249, Tryz.ntmps249
  have c17 : w.cell? ⟨b, 17, none⟩ = some (.slice A n c) := box_cell H.out.box 17 _ rfl
  go_wp2_with fail
  clear c17
  go_loopw [1, 16] (fun v i wr => ∃ (k : Nat) (q : Run) (m : Int), k ≤ n ∧ i = .int .i64 k ∧ v = .int .i64 m ∧ -1000 ≤ m ∧ m ≤ 1000 ∧ Hid (Amid w S b lk ot q wr) ∧ Hid (R = q.dropN f m (PS.drop k)) ∧ Hid (q.ev.length ≤ 900000 + k ∧ q.e.ps.length ≤ 1048576 ∧ q.e.sp = r.e.sp ∧ q.e.tg = r.e.tg ∧ q.e.now = r.e.now)) (fun _ i _ => n - (RowKit.intOf i).toNat)
  case atStart => exact ⟨0, r, nn, Nat.zero_le _, rfl, rfl, hnn.1, hnn.2, HA0, HR0, ⟨HB0.out.1, HB0.out.2.1, rfl, rfl, rfl⟩⟩
  case round =>
    obtain ⟨k, q, m, hk, rfl, rfl, hm1, hm2, HA, HR, HB⟩ := hrel
    clear HR0 HB0 HA0 H hnn HNN
    by_cases hlt : k < n
    case neg =>
      have HK : Hid (k = n) := (by omega : k = n)
      have h := HR.out
      rw [List.drop_of_length_le (by rw [HN.out, HK.out]; exact Nat.le_refl _)] at h
      have HE : Hid (R = (q, m)) := h
      clear h
      go_wp2
      go_ret
      rw [HE.out]
      exact ⟨rfl, HA.out⟩
    obtain ⟨S1, hm1', hs1, ht1, hk1⟩ := HA.out
    have HO1 := Lib.hid (hk1.pods HO.out)
    clear hm1' hs1 ht1 hk1
    obtain ⟨bb, off, y0, y1, y2, y3, y4, rfl, hbB, hz, hc0, hc1, hc2, hc3, hc4⟩ := HO1.out.podsAll.at_ hlt
    have hmem : PS.getD k z5 ∈ PS := by rw [show PS.getD k z5 = PS[k]'(by rw [HN.out]; exact hlt) from by simp [List.getD, HN.out, hlt]]; exact List.getElem_mem _
    have HW : Hid ((Lit.int .i64 y0).wf = true) := by have h := HID.out _ hmem; rw [hz] at h; exact h
    have HS : Hid (R = if decide (0 < m) && (!decide (y2 = 4) && f (y0, y1, y2, y3, y4)) then Run.dropN (q.drop (y0, y1, y2, y3, y4)) f (m - 1) (PS.drop (k + 1)) else q.dropN f m (PS.drop (k + 1))) := by
      show _ = _
      rw [HR.out, List.drop_eq_getElem_cons (by rw [HN.out]; exact hlt), show PS[k]'(by rw [HN.out]; exact hlt) = (y0, y1, y2, y3, y4) from by rw [← hz]; simp [List.getD, HN.out, hlt]]
      rfl
    clear hz hmem HO1 HR
    obtain ⟨Q, hQ⟩ : ∃ Q, Q = f (y0, y1, y2, y3, y4) := ⟨_, rfl⟩
    rw [← hQ] at HS
    have HBA : Hid (Below wr.heap.size wr (wr.alloc (.cells #[.int .i64 y0, .int .i64 y1, .int .i64 y2, .int .i64 y3, .int .i64 y4] 85))) := bel1 _ _
    have KP : Hid ((wr.alloc (.cells #[.int .i64 y0, .int .i64 y1, .int .i64 y2, .int .i64 y3, .int .i64 y4] 85)).heap[wr.heap.size]? = some (.cells [.int .i64 y0, .int .i64 y1, .int .i64 y2, .int .i64 y3, .int .i64 y4].toArray 85 (0, 0))) := box_new wr _
    go_upto_region 4 with fail
    obtain ⟨V, hV⟩ : ∃ V, V = wr.alloc (.cells #[.int .i64 y0, .int .i64 y1, .int .i64 y2, .int .i64 y3, .int .i64 y4] 85) := ⟨_, rfl⟩
    rw [← hV] at KP HBA
    rw [← hV]
    clear hV hc0 hc1 hc2 hc3 hc4
    have HA2 : Hid (Amid w S b lk ot q V) := HA.out.below HBA.out
    have HC : Hid (Calls Tryz.prog F (.agg #[.int .i64 y0, .int .i64 y1, .int .i64 y2, .int .i64 y3, .int .i64 y4] :: caps).toArray V (Says (.bool Q) V)) := by rw [hQ]; exact HWA.out V q y0 y1 y2 y3 y4 HA2.out HB.out.2.2
    clear hQ HBA HA
    have e0 : V.cell? ⟨wr.heap.size, 0, none⟩ = some (.int .i64 y0) := box_cell KP.out 0 _ rfl
    have e1 : V.cell? ⟨wr.heap.size, 1, none⟩ = some (.int .i64 y1) := box_cell KP.out 1 _ rfl
    have e2 : V.cell? ⟨wr.heap.size, 2, none⟩ = some (.int .i64 y2) := box_cell KP.out 2 _ rfl
    have e3 : V.cell? ⟨wr.heap.size, 3, none⟩ = some (.int .i64 y3) := box_cell KP.out 3 _ rfl
    have e4 : V.cell? ⟨wr.heap.size, 4, none⟩ = some (.int .i64 y4) := box_cell KP.out 4 _ rfl
    by_cases hm0 : 0 < m
    case neg =>
      have hq0 : decide (0 < m) = false := decide_eq_false hm0
      have HS2 : Hid (R = q.dropN f m (PS.drop (k + 1))) := by have h := HS.out; rw [hq0] at h; exact h
      have HB2 : Hid (q.ev.length ≤ 900000 + (k + 1) ∧ q.e.ps.length ≤ 1048576 ∧ q.e.sp = r.e.sp ∧ q.e.tg = r.e.tg ∧ q.e.now = r.e.now) := ⟨by have h := HB.out.1; omega, HB.out.2⟩
      clear HS HC HB HW KP
      go_wp2
      go_roundw
      case rel => exact ⟨k + 1, q, m, by omega, by go_num, rfl, hm1, hm2, HA2, HS2, HB2⟩
      case measure => simp [RowKit.intOf]; omega
    have hq0 : decide (0 < m) = true := decide_eq_true hm0
    cases hq4 : (y2 != 4)
    case false =>
      have he4 : y2 = 4 := by by_cases h : y2 = 4; exact h; rw [show (y2 != 4) = true from by simp [h]] at hq4; exact absurd hq4 (by decide)
      have HS2 : Hid (R = q.dropN f m (PS.drop (k + 1))) := by have h := HS.out; rw [decide_eq_true he4, hq0] at h; exact h
      have HB2 : Hid (q.ev.length ≤ 900000 + (k + 1) ∧ q.e.ps.length ≤ 1048576 ∧ q.e.sp = r.e.sp ∧ q.e.tg = r.e.tg ∧ q.e.now = r.e.now) := ⟨by have h := HB.out.1; omega, HB.out.2⟩
      clear HS HC HB HW KP he4
      go_wp2
      go_roundw
      case rel => exact ⟨k + 1, q, m, by omega, by go_num, rfl, hm1, hm2, HA2, HS2, HB2⟩
      case measure => simp [RowKit.intOf]; omega
    have hne4 : ¬ y2 = 4 := by intro h; rw [h] at hq4; exact absurd hq4 (by decide)
    have HS1 : Hid (R = if Q then Run.dropN (q.drop (y0, y1, y2, y3, y4)) f (m - 1) (PS.drop (k + 1)) else q.dropN f m (PS.drop (k + 1))) := by have h := HS.out; rw [hq0, decide_eq_false hne4] at h; exact h
    clear HS hne4
    go_wp2_with fail
    rw [HEG.out, Oper.upon_enter]
    refine HC.out.mono ?_
    rintro e w2 ⟨rfl, hb⟩
    have HA3 : Hid (Amid w S b lk ot q w2) := HA2.out.below hb
    have KP2 := Lib.hid (box_below KP.out hb)
    clear hb HA2 KP HC e0 e1 e2 e3 e4
    have e0 : w2.cell? ⟨wr.heap.size, 0, none⟩ = some (.int .i64 y0) := box_cell KP2.out 0 _ rfl
    have e1 : w2.cell? ⟨wr.heap.size, 1, none⟩ = some (.int .i64 y1) := box_cell KP2.out 1 _ rfl
    have e2 : w2.cell? ⟨wr.heap.size, 2, none⟩ = some (.int .i64 y2) := box_cell KP2.out 2 _ rfl
    have e3 : w2.cell? ⟨wr.heap.size, 3, none⟩ = some (.int .i64 y3) := box_cell KP2.out 3 _ rfl
    have e4 : w2.cell? ⟨wr.heap.size, 4, none⟩ = some (.int .i64 y4) := box_cell KP2.out 4 _ rfl
    cases Q
    · have HS2 : Hid (R = q.dropN f m (PS.drop (k + 1))) := HS1.out
      have HB2 : Hid (q.ev.length ≤ 900000 + (k + 1) ∧ q.e.ps.length ≤ 1048576 ∧ q.e.sp = r.e.sp ∧ q.e.tg = r.e.tg ∧ q.e.now = r.e.now) := ⟨by have h := HB.out.1; omega, HB.out.2⟩
      clear HS1 HB HW KP2
      go_wp2
      go_roundw
      case rel => exact ⟨k + 1, q, m, by omega, by go_num, rfl, hm1, hm2, HA3, HS2, HB2⟩
      case measure => simp [RowKit.intOf]; omega
    have HS2 : Hid (R = (q.drop (y0, y1, y2, y3, y4)).dropN f (m - 1) (PS.drop (k + 1))) := HS1.out
    have HB2 : Hid ((q.drop (y0, y1, y2, y3, y4)).ev.length ≤ 900000 + (k + 1) ∧ (q.drop (y0, y1, y2, y3, y4)).e.ps.length ≤ 1048576 ∧ (q.drop (y0, y1, y2, y3, y4)).e.sp = r.e.sp ∧ (q.drop (y0, y1, y2, y3, y4)).e.tg = r.e.tg ∧ (q.drop (y0, y1, y2, y3, y4)).e.now = r.e.now) := by
      have h := HB.out
      refine ⟨by rw [drop_ev]; omega, drop_few _ _ h.2.1, h.2.2.1, h.2.2.2.1, h.2.2.2.2⟩
    clear HS1 KP2
    obtain ⟨S3, hm3, hs3, ht3, hk3⟩ := HA3.out
    have HM3 := Lib.hid hm3
    have HS3 := Lib.hid hs3
    have HT3 := Lib.hid ht3
    have HK3 := Lib.hid hk3
    clear hm3 hs3 ht3 hk3 HA3
    go_wp2_with fail
    refine (drop_any w2 S3 b lk ot q y0 y1 y2 y3 y4 HM3.out (by have h := HB.out; omega) HB.out.2.1 HW.out).mono ?_
    intro e w3 hmv
    obtain ⟨rfl, ha⟩ := Amid.call HS3.out HT3.out HK3.out hmv
    have HA5 := Lib.hid ha
    clear hmv ha HM3 HS3 HT3 HK3 HB HW e0 e1 e2 e3 e4
    go_wp2
    go_roundw
    case rel => exact ⟨k + 1, q.drop (y0, y1, y2, y3, y4), m - 1, by omega, by go_num, by go_num, by omega, by omega, HA5, HS2, HB2⟩
    case measure => simp [RowKit.intOf]; omega
end Go.Proofs.YtklgjjmcflgjeaaGreat.Mach
namespace Go.Proofs.YtklgjjmcflgjeaaGreat.Mach
open Go.ChangeShapes Go.WideShapes Go.ChangeAt Go.RowKit
open LK Pods EngV EngCnt Eng Seg
set_option maxRecDepth 100000 in
set_option maxHeartbeats 6400000 in
theorem fresh_any (w : World) (S : Nat → Prop) (b Bm : Nat) (lk ot : Int) (q : Run) (y0 y1 y2 y3 y4 : Int) (h : Mach w S b lk ot q) (hc : w.cell? ⟨Bm, 0, none⟩ = some (.pointer (some ⟨b, 0, none⟩))) :
    Calls Tryz.prog 247 #[.agg #[.int .i64 y0, .int .i64 y1, .int .i64 y2, .int .i64 y3, .int .i64 y4], .pointer (some ⟨Bm, 0, none⟩)] w (Says (.bool (decide (y1 = q.e.tg))) w) := by
  obtain ⟨A, n, c, E, m, k, h⟩ := h
  obtain ⟨g, hg⟩ : ∃ g, (y1 == q.e.tg) = g := ⟨_, rfl⟩
  have HG : decide (y1 = q.e.tg) = g := by rw [← hg]; rfl
  rw [HG]
  clear HG
  have hb := bel1 w (.cells #[.int .i64 y0, .int .i64 y1, .int .i64 y2, .int .i64 y3, .int .i64 y4] 85)
  have H := Lib.hid (h.below hb)
  have KP : Hid ((w.alloc (.cells #[.int .i64 y0, .int .i64 y1, .int .i64 y2, .int .i64 y3, .int .i64 y4] 85)).heap[w.heap.size]? = some (.cells [.int .i64 y0, .int .i64 y1, .int .i64 y2, .int .i64 y3, .int .i64 y4].toArray 85 (0, 0))) := box_new w _
  have HC := Lib.hid (cell_keep hb hc)
  have HB := Lib.hid hb
  clear h hc hb
  go_enter Tryz.func247, Tryz.ntmps247
  go_upto_region 1 with fail
  obtain ⟨V, hV⟩ : ∃ V, V = w.alloc (.cells #[.int .i64 y0, .int .i64 y1, .int .i64 y2, .int .i64 y3, .int .i64 y4] 85) := ⟨_, rfl⟩
  rw [← hV] at H KP HC HB
  rw [← hV]
  clear hV
  refine wp_region_held_drew (S := fun w' => w'.cell? ⟨w.heap.size, 1, none⟩ = some (.int .i64 y1) ∧ w'.cell? ⟨Bm, 0, none⟩ = some (.pointer (some ⟨b, 0, none⟩)) ∧ w'.cell? ⟨b, 15, none⟩ = some (.int .i64 q.e.tg)) (by kernel_rfl) ⟨box_cell KP.out 1 _ rfl, HC.out, box_cell H.out.box 15 _ rfl⟩ (fun hHeld => ?_)
  refine tkk (i := 0) rfl ?_
  try simp only [Act.put, pj]
  refine tkk (i := 1) rfl ?_
  try simp only [Act.put, pj]
  refine tkk (i := 2) rfl ?_
  try simp only [Act.put, pj]
  refine tkk (i := 3) rfl ?_
  try simp only [Act.put, pj]
  refine tkk (i := 4) rfl ?_
  try simp only [Act.put, pj]
  refine tkk (i := 5) rfl ?_
  try simp only [Act.put, pj]
  refine tkk (i := 6) rfl ?_
  try simp only [Act.put, pj]
  refine tkk (i := 7) rfl ?_
  try simp only [Act.put, pj]
  refine tkk (i := 8) rfl ?_
  try simp only [Act.put, pj]
  refine wpAnyH_done (by kernel_rfl) ?_ _
  clear hHeld
  go_wp2
  go_ret
  exact ⟨rfl, HB.out.drew⟩
set_option maxRecDepth 100000 in
set_option maxHeartbeats 6400000 in
theorem avail_any (w : World) (S : Nat → Prop) (b Bm : Nat) (lk ot : Int) (q : Run) (y0 y1 y2 y3 y4 : Int) (h : Mach w S b lk ot q) (hc : w.cell? ⟨Bm, 0, none⟩ = some (.pointer (some ⟨b, 0, none⟩))) :
    Calls Tryz.prog 248 #[.agg #[.int .i64 y0, .int .i64 y1, .int .i64 y2, .int .i64 y3, .int .i64 y4], .pointer (some ⟨Bm, 0, none⟩)] w (Says (.bool (avP q.e.sp q.e.now (y0, y1, y2, y3, y4))) w) := by
  obtain ⟨A, n, c, E, m, k, h⟩ := h
  obtain ⟨g, hg⟩ : ∃ g, g = avP q.e.sp q.e.now (y0, y1, y2, y3, y4) := ⟨_, rfl⟩
  have HQ : Hid (∀ W : World, Calls Tryz.prog 148 #[.agg (spL q.e.sp).toArray, .agg #[.int .i64 y0, .int .i64 y1, .int .i64 y2, .int .i64 y3, .int .i64 y4], .int .i64 q.e.now] W (Says (.bool g) W)) := fun W => by rw [hg]; exact Hl.isAvailable_any q.e.sp.x0 q.e.sp.x1 q.e.sp.x2 q.e.sp.x3 q.e.sp.x4 q.e.sp.x5 q.e.sp.x6 q.e.sp.x7 q.e.sp.x8 q.e.sp.x9 q.e.sp.x10 y0 y1 y2 y3 y4 q.e.now W
  rw [← hg]
  clear hg
  have hb := bel1 w (.cells #[.int .i64 y0, .int .i64 y1, .int .i64 y2, .int .i64 y3, .int .i64 y4] 85)
  have H := Lib.hid (h.below hb)
  have KP : Hid ((w.alloc (.cells #[.int .i64 y0, .int .i64 y1, .int .i64 y2, .int .i64 y3, .int .i64 y4] 85)).heap[w.heap.size]? = some (.cells [.int .i64 y0, .int .i64 y1, .int .i64 y2, .int .i64 y3, .int .i64 y4].toArray 85 (0, 0))) := box_new w _
  have HC := Lib.hid (cell_keep hb hc)
  have HB := Lib.hid hb
  clear h hc hb
  go_enter Tryz.func248, Tryz.ntmps248
  go_upto_region 1 with fail
  obtain ⟨V, hV⟩ : ∃ V, V = w.alloc (.cells #[.int .i64 y0, .int .i64 y1, .int .i64 y2, .int .i64 y3, .int .i64 y4] 85) := ⟨_, rfl⟩
  rw [← hV] at H KP HC HB
  rw [← hV]
  clear hV
  refine wp_region_held_drew (S := fun w' => w'.rangeAt b 2 (spL q.e.sp) ∧ w'.rangeAt w.heap.size 0 [.int .i64 y0, .int .i64 y1, .int .i64 y2, .int .i64 y3, .int .i64 y4] ∧ w'.cell? ⟨Bm, 0, none⟩ = some (.pointer (some ⟨b, 0, none⟩)) ∧ w'.cell? ⟨b, 13, none⟩ = some (.int .i64 q.e.now)) (by kernel_rfl) ⟨range_of H.out.box (maL_sp lk ot q A n c E m k), range_of KP.out rfl, HC.out, box_cell H.out.box 13 _ rfl⟩ (fun hHeld => ?_)
  refine tkk (i := 0) rfl ?_
  try simp only [Act.put, pj]
  refine tkk (i := 1) rfl ?_
  try simp only [Act.put, pj]
  refine tkk (i := 2) rfl ?_
  try simp only [Act.put, pj]
  refine tkk (i := 3) rfl ?_
  try simp only [Act.put, pj]
  refine tkj (i := 4) (v := .agg (spL q.e.sp).toArray) rfl (yieldsIf_load_mid (by rfl) 25 _ rfl b 2 rfl (spL q.e.sp) _ (fun w' h => h.1) Tryz.underlying25 rfl (by kernel_rfl)) ?_
  try simp only [Act.put, pj]
  refine tkj (i := 5) (v := .agg ([.int .i64 y0, .int .i64 y1, .int .i64 y2, .int .i64 y3, .int .i64 y4]).toArray) rfl (yieldsIf_load_mid (by rfl) 85 _ rfl w.heap.size 0 rfl ([.int .i64 y0, .int .i64 y1, .int .i64 y2, .int .i64 y3, .int .i64 y4]) _ (fun w' h => h.2.1) Tryz.underlying85 rfl (by kernel_rfl)) ?_
  try simp only [Act.put, pj]
  refine tkk (i := 6) rfl ?_
  try simp only [Act.put, pj]
  refine tkk (i := 7) rfl ?_
  try simp only [Act.put, pj]
  refine tkk (i := 8) rfl ?_
  try simp only [Act.put, pj]
  refine tkk (i := 9) rfl ?_
  try simp only [Act.put, pj]
  refine tkk (i := 10) rfl ?_
  try simp only [Act.put, pj]
  refine wpAnyH_ready (rs := [11]) (by kernel_rfl) (by simp) (AllReadyH.cons rfl (fun K hK => ?_) AllReadyH.nil)
  go_simp
  refine (HQ.out _).mono ?_
  rintro e w2 ⟨rfl, hb⟩
  have hb' : Below V.heap.size V w2 := undrew hb
  have H2 := Lib.hid (H.out.below hb')
  have KP2 := Lib.hid (box_below KP.out hb')
  have HC2 := Lib.hid (cell_keep hb' HC.out)
  have HB2 := Lib.hid (bel_then HB.out hb' HB.out.size)
  clear hb hb' H KP HC HB hHeld
  refine hK _ _ (by exact ⟨range_of H2.out.box (maL_sp lk ot q A n c E m k), range_of KP2.out rfl, HC2.out, box_cell H2.out.box 13 _ rfl⟩) (fun hHeld => ?_)
  clear hK K
  try simp only [Act.put, pj]
  refine tkk (i := 12) rfl ?_
  try simp only [Act.put, pj]
  refine wpAnyH_done (by kernel_rfl) ?_ _
  clear hHeld
  go_wp2
  go_ret
  exact ⟨rfl, HB2.out⟩
end Go.Proofs.YtklgjjmcflgjeaaGreat.Mach
namespace Go.Proofs.YtklgjjmcflgjeaaGreat.Mach
open Go.ChangeShapes Go.WideShapes Go.ChangeAt Go.RowKit
open LK Pods EngV EngCnt Eng Seg
set_option maxRecDepth 100000 in
set_option maxHeartbeats 6400000 in
theorem dropA_any (w : World) (S : Nat → Prop) (b Bm B4 B5 : Nat) (lk ot : Int) (q : Run) (y0 y1 y2 y3 y4 : Int) (h : Mach w S b lk ot q) (hc : w.cell? ⟨Bm, 0, none⟩ = some (.pointer (some ⟨b, 0, none⟩)))
    (h4 : w.cell? ⟨B4, 0, none⟩ = some (.func (.func 247) #[] #[.pointer (some ⟨Bm, 0, none⟩)])) (h5 : w.cell? ⟨B5, 0, none⟩ = some (.func (.func 248) #[] #[.pointer (some ⟨Bm, 0, none⟩)])) :
    Calls Tryz.prog 250 #[.agg #[.int .i64 y0, .int .i64 y1, .int .i64 y2, .int .i64 y3, .int .i64 y4], .pointer (some ⟨B4, 0, none⟩), .pointer (some ⟨B5, 0, none⟩)] w (Says (.bool (!decide (y1 = q.e.tg) && !avP q.e.sp q.e.now (y0, y1, y2, y3, y4))) w) := by
  obtain ⟨g1, hg1⟩ : ∃ g, g = decide (y1 = q.e.tg) := ⟨_, rfl⟩
  obtain ⟨g2, hg2⟩ : ∃ g, g = avP q.e.sp q.e.now (y0, y1, y2, y3, y4) := ⟨_, rfl⟩
  have C1 : Hid (∀ W, Mach W S b lk ot q → W.cell? ⟨Bm, 0, none⟩ = some (.pointer (some ⟨b, 0, none⟩)) → Calls Tryz.prog 247 #[.agg #[.int .i64 y0, .int .i64 y1, .int .i64 y2, .int .i64 y3, .int .i64 y4], .pointer (some ⟨Bm, 0, none⟩)] W (Says (.bool g1) W)) := fun W a c => by rw [hg1]; exact fresh_any W S b Bm lk ot q y0 y1 y2 y3 y4 a c
  have C2 : Hid (∀ W, Mach W S b lk ot q → W.cell? ⟨Bm, 0, none⟩ = some (.pointer (some ⟨b, 0, none⟩)) → Calls Tryz.prog 248 #[.agg #[.int .i64 y0, .int .i64 y1, .int .i64 y2, .int .i64 y3, .int .i64 y4], .pointer (some ⟨Bm, 0, none⟩)] W (Says (.bool g2) W)) := fun W a c => by rw [hg2]; exact avail_any W S b Bm lk ot q y0 y1 y2 y3 y4 a c
  rw [← hg1, ← hg2]
  clear hg1 hg2
  have hb := bel1 w (.cells #[.int .i64 y0, .int .i64 y1, .int .i64 y2, .int .i64 y3, .int .i64 y4] 85)
  have H := Lib.hid (h.below hb)
  have KP : Hid ((w.alloc (.cells #[.int .i64 y0, .int .i64 y1, .int .i64 y2, .int .i64 y3, .int .i64 y4] 85)).heap[w.heap.size]? = some (.cells [.int .i64 y0, .int .i64 y1, .int .i64 y2, .int .i64 y3, .int .i64 y4].toArray 85 (0, 0))) := box_new w _
  have HC := Lib.hid (cell_keep hb hc)
  have H4 := Lib.hid (cell_keep hb h4)
  have H5 := Lib.hid (cell_keep hb h5)
  have HB := Lib.hid hb
  clear h hc hb h4 h5
  go_enter Tryz.func250, Tryz.ntmps250
  go_upto_region 1 with fail
  obtain ⟨V, hV⟩ : ∃ V, V = w.alloc (.cells #[.int .i64 y0, .int .i64 y1, .int .i64 y2, .int .i64 y3, .int .i64 y4] 85) := ⟨_, rfl⟩
  rw [← hV] at H KP HC HB H4 H5
  rw [← hV]
  clear hV
  have e0 := box_cell KP.out 0 _ rfl
  have e1 := box_cell KP.out 1 _ rfl
  have e2 := box_cell KP.out 2 _ rfl
  have e3 := box_cell KP.out 3 _ rfl
  have e4 := box_cell KP.out 4 _ rfl
  have k4 := H4.out
  go_wp2_with fail
  refine (C1.out V H.out HC.out).mono ?_
  rintro e w2 ⟨rfl, hb⟩
  have H2 := Lib.hid (H.out.below hb)
  have KP2 := Lib.hid (box_below KP.out hb)
  have HC2 := Lib.hid (cell_keep hb HC.out)
  have k5 := cell_keep hb H5.out
  have HB2 := Lib.hid (bel_then HB.out hb HB.out.size)
  clear hb H KP HC HB e0 e1 e2 e3 e4 k4 H4 H5 C1
  have e0 := box_cell KP2.out 0 _ rfl
  have e1 := box_cell KP2.out 1 _ rfl
  have e2 := box_cell KP2.out 2 _ rfl
  have e3 := box_cell KP2.out 3 _ rfl
  have e4 := box_cell KP2.out 4 _ rfl
  cases g1
  case true =>
    go_wp2
    go_ret
    exact ⟨rfl, HB2.out⟩
  go_wp2_with fail
  refine (C2.out w2 H2.out HC2.out).mono ?_
  rintro e w3 ⟨rfl, hb⟩
  have HB3 := Lib.hid (bel_then HB2.out hb HB2.out.size)
  clear hb H2 KP2 HC2 HB2 e0 e1 e2 e3 e4 k5 C2
  go_wp2
  go_ret
  exact ⟨by cases g2 <;> rfl, HB3.out⟩
set_option maxRecDepth 100000 in
set_option maxHeartbeats 6400000 in
theorem dropB_any (w : World) (S : Nat → Prop) (b Bm B4 B5 : Nat) (lk ot : Int) (q : Run) (y0 y1 y2 y3 y4 : Int) (h : Mach w S b lk ot q) (hc : w.cell? ⟨Bm, 0, none⟩ = some (.pointer (some ⟨b, 0, none⟩)))
    (h4 : w.cell? ⟨B4, 0, none⟩ = some (.func (.func 247) #[] #[.pointer (some ⟨Bm, 0, none⟩)])) (h5 : w.cell? ⟨B5, 0, none⟩ = some (.func (.func 248) #[] #[.pointer (some ⟨Bm, 0, none⟩)])) :
    Calls Tryz.prog 251 #[.agg #[.int .i64 y0, .int .i64 y1, .int .i64 y2, .int .i64 y3, .int .i64 y4], .pointer (some ⟨B4, 0, none⟩), .pointer (some ⟨B5, 0, none⟩)] w (Says (.bool (!decide (y1 = q.e.tg) && avP q.e.sp q.e.now (y0, y1, y2, y3, y4))) w) := by
  obtain ⟨g1, hg1⟩ : ∃ g, g = decide (y1 = q.e.tg) := ⟨_, rfl⟩
  obtain ⟨g2, hg2⟩ : ∃ g, g = avP q.e.sp q.e.now (y0, y1, y2, y3, y4) := ⟨_, rfl⟩
  have C1 : Hid (∀ W, Mach W S b lk ot q → W.cell? ⟨Bm, 0, none⟩ = some (.pointer (some ⟨b, 0, none⟩)) → Calls Tryz.prog 247 #[.agg #[.int .i64 y0, .int .i64 y1, .int .i64 y2, .int .i64 y3, .int .i64 y4], .pointer (some ⟨Bm, 0, none⟩)] W (Says (.bool g1) W)) := fun W a c => by rw [hg1]; exact fresh_any W S b Bm lk ot q y0 y1 y2 y3 y4 a c
  have C2 : Hid (∀ W, Mach W S b lk ot q → W.cell? ⟨Bm, 0, none⟩ = some (.pointer (some ⟨b, 0, none⟩)) → Calls Tryz.prog 248 #[.agg #[.int .i64 y0, .int .i64 y1, .int .i64 y2, .int .i64 y3, .int .i64 y4], .pointer (some ⟨Bm, 0, none⟩)] W (Says (.bool g2) W)) := fun W a c => by rw [hg2]; exact avail_any W S b Bm lk ot q y0 y1 y2 y3 y4 a c
  rw [← hg1, ← hg2]
  clear hg1 hg2
  have hb := bel1 w (.cells #[.int .i64 y0, .int .i64 y1, .int .i64 y2, .int .i64 y3, .int .i64 y4] 85)
  have H := Lib.hid (h.below hb)
  have KP : Hid ((w.alloc (.cells #[.int .i64 y0, .int .i64 y1, .int .i64 y2, .int .i64 y3, .int .i64 y4] 85)).heap[w.heap.size]? = some (.cells [.int .i64 y0, .int .i64 y1, .int .i64 y2, .int .i64 y3, .int .i64 y4].toArray 85 (0, 0))) := box_new w _
  have HC := Lib.hid (cell_keep hb hc)
  have H4 := Lib.hid (cell_keep hb h4)
  have H5 := Lib.hid (cell_keep hb h5)
  have HB := Lib.hid hb
  clear h hc hb h4 h5
  go_enter Tryz.func251, Tryz.ntmps251
  go_upto_region 1 with fail
  obtain ⟨V, hV⟩ : ∃ V, V = w.alloc (.cells #[.int .i64 y0, .int .i64 y1, .int .i64 y2, .int .i64 y3, .int .i64 y4] 85) := ⟨_, rfl⟩
  rw [← hV] at H KP HC HB H4 H5
  rw [← hV]
  clear hV
  have e0 := box_cell KP.out 0 _ rfl
  have e1 := box_cell KP.out 1 _ rfl
  have e2 := box_cell KP.out 2 _ rfl
  have e3 := box_cell KP.out 3 _ rfl
  have e4 := box_cell KP.out 4 _ rfl
  have k4 := H4.out
  go_wp2_with fail
  refine (C1.out V H.out HC.out).mono ?_
  rintro e w2 ⟨rfl, hb⟩
  have H2 := Lib.hid (H.out.below hb)
  have KP2 := Lib.hid (box_below KP.out hb)
  have HC2 := Lib.hid (cell_keep hb HC.out)
  have k5 := cell_keep hb H5.out
  have HB2 := Lib.hid (bel_then HB.out hb HB.out.size)
  clear hb H KP HC HB e0 e1 e2 e3 e4 k4 H4 H5 C1
  have e0 := box_cell KP2.out 0 _ rfl
  have e1 := box_cell KP2.out 1 _ rfl
  have e2 := box_cell KP2.out 2 _ rfl
  have e3 := box_cell KP2.out 3 _ rfl
  have e4 := box_cell KP2.out 4 _ rfl
  cases g1
  case true =>
    go_wp2
    go_ret
    exact ⟨rfl, HB2.out⟩
  go_wp2_with fail
  refine (C2.out w2 H2.out HC2.out).mono ?_
  rintro e w3 ⟨rfl, hb⟩
  have HB3 := Lib.hid (bel_then HB2.out hb HB2.out.size)
  clear hb H2 KP2 HC2 HB2 e0 e1 e2 e3 e4 k5 C2
  go_wp2
  go_ret
  exact ⟨by cases g2 <;> rfl, HB3.out⟩
set_option maxRecDepth 100000 in
set_option maxHeartbeats 6400000 in
theorem dropC_any (w : World) (S : Nat → Prop) (b Bm B4 B5 : Nat) (lk ot : Int) (q : Run) (y0 y1 y2 y3 y4 : Int) (h : Mach w S b lk ot q) (hc : w.cell? ⟨Bm, 0, none⟩ = some (.pointer (some ⟨b, 0, none⟩)))
    (h4 : w.cell? ⟨B4, 0, none⟩ = some (.func (.func 247) #[] #[.pointer (some ⟨Bm, 0, none⟩)])) (h5 : w.cell? ⟨B5, 0, none⟩ = some (.func (.func 248) #[] #[.pointer (some ⟨Bm, 0, none⟩)])) :
    Calls Tryz.prog 252 #[.agg #[.int .i64 y0, .int .i64 y1, .int .i64 y2, .int .i64 y3, .int .i64 y4], .pointer (some ⟨B4, 0, none⟩), .pointer (some ⟨B5, 0, none⟩)] w (Says (.bool (decide (y1 = q.e.tg) && !avP q.e.sp q.e.now (y0, y1, y2, y3, y4))) w) := by
  obtain ⟨g1, hg1⟩ : ∃ g, g = decide (y1 = q.e.tg) := ⟨_, rfl⟩
  obtain ⟨g2, hg2⟩ : ∃ g, g = avP q.e.sp q.e.now (y0, y1, y2, y3, y4) := ⟨_, rfl⟩
  have C1 : Hid (∀ W, Mach W S b lk ot q → W.cell? ⟨Bm, 0, none⟩ = some (.pointer (some ⟨b, 0, none⟩)) → Calls Tryz.prog 247 #[.agg #[.int .i64 y0, .int .i64 y1, .int .i64 y2, .int .i64 y3, .int .i64 y4], .pointer (some ⟨Bm, 0, none⟩)] W (Says (.bool g1) W)) := fun W a c => by rw [hg1]; exact fresh_any W S b Bm lk ot q y0 y1 y2 y3 y4 a c
  have C2 : Hid (∀ W, Mach W S b lk ot q → W.cell? ⟨Bm, 0, none⟩ = some (.pointer (some ⟨b, 0, none⟩)) → Calls Tryz.prog 248 #[.agg #[.int .i64 y0, .int .i64 y1, .int .i64 y2, .int .i64 y3, .int .i64 y4], .pointer (some ⟨Bm, 0, none⟩)] W (Says (.bool g2) W)) := fun W a c => by rw [hg2]; exact avail_any W S b Bm lk ot q y0 y1 y2 y3 y4 a c
  rw [← hg1, ← hg2]
  clear hg1 hg2
  have hb := bel1 w (.cells #[.int .i64 y0, .int .i64 y1, .int .i64 y2, .int .i64 y3, .int .i64 y4] 85)
  have H := Lib.hid (h.below hb)
  have KP : Hid ((w.alloc (.cells #[.int .i64 y0, .int .i64 y1, .int .i64 y2, .int .i64 y3, .int .i64 y4] 85)).heap[w.heap.size]? = some (.cells [.int .i64 y0, .int .i64 y1, .int .i64 y2, .int .i64 y3, .int .i64 y4].toArray 85 (0, 0))) := box_new w _
  have HC := Lib.hid (cell_keep hb hc)
  have H4 := Lib.hid (cell_keep hb h4)
  have H5 := Lib.hid (cell_keep hb h5)
  have HB := Lib.hid hb
  clear h hc hb h4 h5
  go_enter Tryz.func252, Tryz.ntmps252
  go_upto_region 1 with fail
  obtain ⟨V, hV⟩ : ∃ V, V = w.alloc (.cells #[.int .i64 y0, .int .i64 y1, .int .i64 y2, .int .i64 y3, .int .i64 y4] 85) := ⟨_, rfl⟩
  rw [← hV] at H KP HC HB H4 H5
  rw [← hV]
  clear hV
  have e0 := box_cell KP.out 0 _ rfl
  have e1 := box_cell KP.out 1 _ rfl
  have e2 := box_cell KP.out 2 _ rfl
  have e3 := box_cell KP.out 3 _ rfl
  have e4 := box_cell KP.out 4 _ rfl
  have k4 := H4.out
  go_wp2_with fail
  refine (C1.out V H.out HC.out).mono ?_
  rintro e w2 ⟨rfl, hb⟩
  have H2 := Lib.hid (H.out.below hb)
  have KP2 := Lib.hid (box_below KP.out hb)
  have HC2 := Lib.hid (cell_keep hb HC.out)
  have k5 := cell_keep hb H5.out
  have HB2 := Lib.hid (bel_then HB.out hb HB.out.size)
  clear hb H KP HC HB e0 e1 e2 e3 e4 k4 H4 H5 C1
  have e0 := box_cell KP2.out 0 _ rfl
  have e1 := box_cell KP2.out 1 _ rfl
  have e2 := box_cell KP2.out 2 _ rfl
  have e3 := box_cell KP2.out 3 _ rfl
  have e4 := box_cell KP2.out 4 _ rfl
  cases g1
  case false =>
    go_wp2
    go_ret
    exact ⟨rfl, HB2.out⟩
  go_wp2_with fail
  refine (C2.out w2 H2.out HC2.out).mono ?_
  rintro e w3 ⟨rfl, hb⟩
  have HB3 := Lib.hid (bel_then HB2.out hb HB2.out.size)
  clear hb H2 KP2 HC2 HB2 e0 e1 e2 e3 e4 k5 C2
  go_wp2
  go_ret
  exact ⟨by cases g2 <;> rfl, HB3.out⟩
end Go.Proofs.YtklgjjmcflgjeaaGreat.Mach
