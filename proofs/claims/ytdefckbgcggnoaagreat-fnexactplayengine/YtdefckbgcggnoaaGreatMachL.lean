/-
  THE MACHINE's giveUpLost over this seat's translation.
-/
import Derived.Test.YtdefckbgcggnoaaGreatMachR
namespace Go.Proofs.YtdefckbgcggnoaaGreat.Mach
open Go.ChangeShapes Go.WideShapes Go.ChangeAt Go.RowKit
open Go.Proofs.YtdefckbgcggnoaaGreat.LK Go.Proofs.YtdefckbgcggnoaaGreat.Pods Go.Proofs.YtdefckbgcggnoaaGreat.EngV Go.Proofs.YtdefckbgcggnoaaGreat.EngCnt Go.Proofs.YtdefckbgcggnoaaGreat.Eng Go.Proofs.YtdefckbgcggnoaaGreat.Seg
set_option linter.unusedVariables false
set_option linter.unusedSimpArgs false
theorem drop_few (r : Run) (p : Pd) (h : r.e.ps.length ≤ 1048576) : (r.drop p).e.ps.length ≤ 1048576 := Crew.few_go (d := r.fl) p.1 r.e.now h
theorem drop_ev (r : Run) (p : Pd) : (r.drop p).ev.length = r.ev.length + 1 := by simp [Run.drop, Run.tell, Run.setFl]
/-- The machine as it stands amid a method that began at w. -/
def Amid (w : World) (S : Nat → Prop) (b : Nat) (lk ot : Int) (q : Run) (wr : World) : Prop := ∃ S' : Nat → Prop, Mach wr S' b lk ot q ∧ (∀ k, S' k → S k ∨ w.heap.size ≤ k) ∧ Turned S w wr ∧ Kept w wr
theorem Amid.start {w : World} {S : Nat → Prop} {b : Nat} {lk ot : Int} {q : Run} (h : Mach w S b lk ot q) : Amid w S b lk ot q w := ⟨S, h, fun _ h => .inl h, Turned.of_below (Below.refl _ _), Kept.refl w⟩
theorem Amid.fin {w wr : World} {S : Nat → Prop} {b : Nat} {lk ot : Int} {q : Run} {res : Value} (h : Amid w S b lk ot q wr) : Moved b lk ot q res S w (.returned res) wr := by
  obtain ⟨S', h1, h2, h3, h4⟩ := h
  exact ⟨rfl, S', h1, h2, h3, h4⟩
theorem Amid.below {w wr w' : World} {S : Nat → Prop} {b : Nat} {lk ot : Int} {q : Run} (h : Amid w S b lk ot q wr) (hb : Below wr.heap.size wr w') : Amid w S b lk ot q w' := by
  obtain ⟨S', h1, h2, h3, h4⟩ := h
  exact ⟨S', h1.below hb, h2, h3.trans (Turned.of_below hb), h4.trans (Kept.below hb)⟩
theorem Amid.call {w wr w' : World} {S S' : Nat → Prop} {b : Nat} {lk2 ot2 : Int} {q' : Run} {res : Value} {e : Ending} (h2 : ∀ k, S' k → S k ∨ w.heap.size ≤ k) (h3 : Turned S w wr) (h4 : Kept w wr) (hm : Moved b lk2 ot2 q' res S' wr e w') : e = .returned res ∧ Amid w S b lk2 ot2 q' w' := by
  obtain ⟨he, S2, ha, hb, hc, hd⟩ := Moved.step h2 h3 h4 hm
  exact ⟨he, S2, ha, hb, hc, hd⟩
set_option maxRecDepth 100000 in
set_option maxHeartbeats 12800000 in
theorem giveUp_any (w : World) (S : Nat → Prop) (b : Nat) (lk ot : Int) (r : Run) (h : Mach w S b lk ot r) (hev : r.ev.length ≤ 900000) (hn : r.e.ps.length ≤ 1000) (htr : 0 ≤ r.e.tr ∧ r.e.tr ≤ 900000) (hid : ∀ p ∈ r.e.ps, (Lit.int .i64 p.1).wf = true) :
    Calls Tryz.prog 179 #[.pointer (some ⟨b, 0, none⟩)] w (Moved b lk ot r.giveUp (.tuple #[]) S w) := by
  obtain ⟨R, hR⟩ : ∃ R, R = r.giveUp := ⟨_, rfl⟩
  rw [← hR]
  have HR0 : Hid (R = r.loseAll (r.e.ps.drop 0)) := hR
  clear hR
  have HA0 := Lib.hid (Amid.start h)
  obtain ⟨A, n, c, E, m0, k0, h⟩ := h
  have HO := Lib.hid h.ps
  have hnl : r.e.ps.length = n := h.ps.1
  have HN := Lib.hid hnl
  have hn1 : n ≤ 1000 := by omega
  have H := Lib.hid h
  have HID := Lib.hid hid
  have HB0 : Hid (r.ev.length ≤ 900000 + 0 ∧ r.e.ps.length ≤ 1048576 ∧ 0 ≤ r.e.tr ∧ r.e.tr ≤ 900000 + (0 : Nat)) := ⟨by omega, by omega, by omega, by omega⟩
  clear h hid hev hn htr hnl
  obtain ⟨PS, hPS⟩ : ∃ PS, PS = r.e.ps := ⟨_, rfl⟩
  rw [← hPS] at HR0 HO HN HID
  go_enter Tryz.func179, Tryz.ntmps179
  have c17 : w.cell? ⟨b, 17, none⟩ = some (.slice A n c) := box_cell H.out.box 17 _ rfl
  go_wp2_with fail
  clear c17
  go_loopw [11] (fun i wr => ∃ (k : Nat) (q : Run), k ≤ n ∧ i = .int .i64 k ∧ Hid (Amid w S b lk ot q wr) ∧ Hid (R = q.loseAll (PS.drop k)) ∧ Hid (q.ev.length ≤ 900000 + k ∧ q.e.ps.length ≤ 1048576 ∧ 0 ≤ q.e.tr ∧ q.e.tr ≤ 900000 + (k : Nat))) (fun i _ => n - (RowKit.intOf i).toNat)
  case atStart => exact ⟨0, r, Nat.zero_le _, rfl, HA0, HR0, HB0⟩
  case round =>
    obtain ⟨k, q, hk, rfl, HA, HR, HB⟩ := hrel
    clear HR0 HB0 HA0 H hPS
    by_cases hlt : k < n
    case neg =>
      have HK : Hid (k = n) := (by omega : k = n)
      go_wp2
      go_end0
      have h := HR.out
      rw [List.drop_of_length_le (by rw [HN.out, HK.out]; exact Nat.le_refl _)] at h
      rw [show R = q from h]
      exact HA.out.fin
    obtain ⟨S1, hm1, hs1, ht1, hk1⟩ := HA.out
    have HO1 := Lib.hid (hk1.pods HO.out)
    have HS1 := Lib.hid hs1
    have HM1 := Lib.hid hm1
    have HT1 := Lib.hid ht1
    have HK1 := Lib.hid hk1
    have hbr : b < wr.heap.size := by obtain ⟨_, _, _, _, _, _, h⟩ := hm1; exact h.lt
    clear hm1 hs1 ht1 hk1 HA
    obtain ⟨bb, off, y0, y1, y2, y3, y4, rfl, hbB, hz, hc0, hc1, hc2, hc3, hc4⟩ := HO1.out.podsAll.at_ hlt
    have hmem : PS.getD k z5 ∈ PS := by rw [show PS.getD k z5 = PS[k]'(by rw [HN.out]; exact hlt) from by simp [List.getD, HN.out, hlt]]; exact List.getElem_mem _
    have HW : Hid ((Lit.int .i64 y0).wf = true) := by have h := HID.out _ hmem; rw [hz] at h; exact h
    have HS : Hid (R = Run.loseAll (if loP q.e.sp q.e.now (y0, y1, y2, y3, y4) then q.lose (y0, y1, y2, y3, y4) else q) (PS.drop (k + 1))) := by
      show _ = _
      rw [HR.out, List.drop_eq_getElem_cons (by rw [HN.out]; exact hlt), show PS[k]'(by rw [HN.out]; exact hlt) = (y0, y1, y2, y3, y4) from by rw [← hz]; simp [List.getD, HN.out, hlt]]
      rfl
    clear hz hmem HO1 HR
    obtain ⟨Q, hQ⟩ : ∃ Q, Q = loP q.e.sp q.e.now (y0, y1, y2, y3, y4) := ⟨_, rfl⟩
    have HQ : Hid (∀ W : World, Calls Tryz.prog 193 #[.agg (spL q.e.sp).toArray, .agg #[.int .i64 y0, .int .i64 y1, .int .i64 y2, .int .i64 y3, .int .i64 y4], .int .i64 q.e.now] W (Says (.bool Q) W)) := fun W => by rw [hQ]; exact Hl.isLost_any q.e.sp.x0 q.e.sp.x1 q.e.sp.x2 q.e.sp.x3 q.e.sp.x4 q.e.sp.x5 q.e.sp.x6 q.e.sp.x7 q.e.sp.x8 q.e.sp.x9 q.e.sp.x10 y0 y1 y2 y3 y4 q.e.now W
    rw [← hQ] at HS
    clear hQ
    obtain ⟨A1, n1, c1, E1, m1, k1, h1⟩ := HM1.out
    have KM := Lib.hid (box_alloc h1.box (.cells #[.int .i64 y0, .int .i64 y1, .int .i64 y2, .int .i64 y3, .int .i64 y4] 77))
    have KP : Hid ((wr.alloc (.cells #[.int .i64 y0, .int .i64 y1, .int .i64 y2, .int .i64 y3, .int .i64 y4] 77)).heap[wr.heap.size]? = some (.cells [.int .i64 y0, .int .i64 y1, .int .i64 y2, .int .i64 y3, .int .i64 y4].toArray 77 (0, 0))) := box_new wr _
    clear h1
    have hp : (wr.alloc (.cells #[.int .i64 y0, .int .i64 y1, .int .i64 y2, .int .i64 y3, .int .i64 y4] 77)).heap.size = wr.heap.size + 1 := by simp
    have HBA : Hid (Below wr.heap.size wr (wr.alloc (.cells #[.int .i64 y0, .int .i64 y1, .int .i64 y2, .int .i64 y3, .int .i64 y4] 77))) := bel1 _ _
    clear hp
    go_upto_region 3 with fail
    obtain ⟨V, hV⟩ : ∃ V, V = wr.alloc (.cells #[.int .i64 y0, .int .i64 y1, .int .i64 y2, .int .i64 y3, .int .i64 y4] 77) := ⟨_, rfl⟩
    rw [← hV] at KM KP HBA
    rw [← hV]
    clear hV hc0 hc1 hc2 hc3 hc4
    refine wp_region_held_drew (S := fun w' => w'.rangeAt b 2 (spL q.e.sp) ∧ w'.rangeAt wr.heap.size 0 [.int .i64 y0, .int .i64 y1, .int .i64 y2, .int .i64 y3, .int .i64 y4] ∧ w'.cell? ⟨b, 13, none⟩ = some (.int .i64 q.e.now)) (by kernel_rfl) ⟨range_of KM.out (maL_sp lk ot q A1 n1 c1 E1 m1 k1), range_of KP.out rfl, box_cell KM.out 13 _ rfl⟩ (fun hHeld => ?_)
    refine wpAnyH_take (i := 0) (v := ?v1) rfl (by kernel_rfl) (by kernel_rfl) (by kernel_rfl) (fun _ _ _ h => h) (Or.inl ⟨by rfl, ?hy1⟩) (by assumption) ?_
    case hy1 => (intro w0 hSw; (try dsimp only at hSw); go_simp <;> with_reducible rfl)
    try simp only [Act.put, List.getElem_toArray, List.getElem_cons_zero, List.getElem_cons_succ, List.setIfInBounds_toArray, List.set_cons_zero, List.set_cons_succ]
    refine wpAnyH_take (i := 1) (v := ?v2) rfl (by kernel_rfl) (by kernel_rfl) (by kernel_rfl) (fun _ _ _ h => h) (Or.inl ⟨by rfl, ?hy2⟩) (by assumption) ?_
    case hy2 => (intro w0 hSw; (try dsimp only at hSw); go_simp <;> with_reducible rfl)
    try simp only [Act.put, List.getElem_toArray, List.getElem_cons_zero, List.getElem_cons_succ, List.setIfInBounds_toArray, List.set_cons_zero, List.set_cons_succ]
    refine wpAnyH_take (i := 2) (v := ?v3) rfl (by kernel_rfl) (by kernel_rfl) (by kernel_rfl) (fun _ _ _ h => h) (Or.inl ⟨by rfl, ?hy3⟩) (by assumption) ?_
    case hy3 => (intro w0 hSw; (try dsimp only at hSw); go_simp <;> with_reducible rfl)
    try simp only [Act.put, List.getElem_toArray, List.getElem_cons_zero, List.getElem_cons_succ, List.setIfInBounds_toArray, List.set_cons_zero, List.set_cons_succ]
    refine wpAnyH_take (i := 3) (v := ?v4) rfl (by kernel_rfl) (by kernel_rfl) (by kernel_rfl) (fun _ _ _ h => h) (Or.inl ⟨by rfl, ?hy4⟩) (by assumption) ?_
    case hy4 => (intro w0 hSw; (try dsimp only at hSw); go_simp <;> with_reducible rfl)
    try simp only [Act.put, List.getElem_toArray, List.getElem_cons_zero, List.getElem_cons_succ, List.setIfInBounds_toArray, List.set_cons_zero, List.set_cons_succ]
    refine wpAnyH_take (i := 4) (v := .agg (spL q.e.sp).toArray) rfl (by kernel_rfl) (by kernel_rfl) (by kernel_rfl) (fun _ _ _ h => h) (yieldsIf_load_mid (by rfl) 25 _ rfl b 2 rfl (spL q.e.sp) _ (fun w' h => h.1) Tryz.underlying25 rfl (by kernel_rfl)) (by assumption) ?_
    try simp only [Act.put, List.getElem_toArray, List.getElem_cons_zero, List.getElem_cons_succ, List.setIfInBounds_toArray, List.set_cons_zero, List.set_cons_succ]
    refine wpAnyH_take (i := 5) (v := .agg ([.int .i64 y0, .int .i64 y1, .int .i64 y2, .int .i64 y3, .int .i64 y4]).toArray) rfl (by kernel_rfl) (by kernel_rfl) (by kernel_rfl) (fun _ _ _ h => h) (yieldsIf_load_mid (by rfl) 77 _ rfl wr.heap.size 0 rfl ([.int .i64 y0, .int .i64 y1, .int .i64 y2, .int .i64 y3, .int .i64 y4]) _ (fun w' h => h.2.1) Tryz.underlying77 rfl (by kernel_rfl)) (by assumption) ?_
    try simp only [Act.put, List.getElem_toArray, List.getElem_cons_zero, List.getElem_cons_succ, List.setIfInBounds_toArray, List.set_cons_zero, List.set_cons_succ]
    refine wpAnyH_take (i := 6) (v := ?v5) rfl (by kernel_rfl) (by kernel_rfl) (by kernel_rfl) (fun _ _ _ h => h) (Or.inl ⟨by rfl, ?hy5⟩) (by assumption) ?_
    case hy5 => (intro w0 hSw; (try dsimp only at hSw); go_simp <;> with_reducible rfl)
    try simp only [Act.put, List.getElem_toArray, List.getElem_cons_zero, List.getElem_cons_succ, List.setIfInBounds_toArray, List.set_cons_zero, List.set_cons_succ]
    refine wpAnyH_take (i := 7) (v := ?v6) rfl (by kernel_rfl) (by kernel_rfl) (by kernel_rfl) (fun _ _ _ h => h) (Or.inl ⟨by rfl, ?hy6⟩) (by assumption) ?_
    case hy6 => (intro w0 hSw; (try dsimp only at hSw); go_simp <;> with_reducible rfl)
    try simp only [Act.put, List.getElem_toArray, List.getElem_cons_zero, List.getElem_cons_succ, List.setIfInBounds_toArray, List.set_cons_zero, List.set_cons_succ]
    refine wpAnyH_take (i := 8) (v := ?v7) rfl (by kernel_rfl) (by kernel_rfl) (by kernel_rfl) (fun _ _ _ h => h) (Or.inl ⟨by rfl, ?hy7⟩) (by assumption) ?_
    case hy7 => (intro w0 hSw; (try dsimp only at hSw); go_simp <;> with_reducible rfl)
    try simp only [Act.put, List.getElem_toArray, List.getElem_cons_zero, List.getElem_cons_succ, List.setIfInBounds_toArray, List.set_cons_zero, List.set_cons_succ]
    refine wpAnyH_take (i := 9) (v := ?v8) rfl (by kernel_rfl) (by kernel_rfl) (by kernel_rfl) (fun _ _ _ h => h) (Or.inl ⟨by rfl, ?hy8⟩) (by assumption) ?_
    case hy8 => (intro w0 hSw; (try dsimp only at hSw); go_simp <;> with_reducible rfl)
    try simp only [Act.put, List.getElem_toArray, List.getElem_cons_zero, List.getElem_cons_succ, List.setIfInBounds_toArray, List.set_cons_zero, List.set_cons_succ]
    refine wpAnyH_take (i := 10) (v := ?v9) rfl (by kernel_rfl) (by kernel_rfl) (by kernel_rfl) (fun _ _ _ h => h) (Or.inl ⟨by rfl, ?hy9⟩) (by assumption) ?_
    case hy9 => (intro w0 hSw; (try dsimp only at hSw); go_simp <;> with_reducible rfl)
    try simp only [Act.put, List.getElem_toArray, List.getElem_cons_zero, List.getElem_cons_succ, List.setIfInBounds_toArray, List.set_cons_zero, List.set_cons_succ]
    refine wpAnyH_ready (rs := [11]) (by kernel_rfl) (by simp) (AllReadyH.cons rfl (fun K hK => ?_) AllReadyH.nil)
    go_simp
    refine (HQ.out _).mono ?_
    rintro e w2 ⟨rfl, hb⟩
    have hb' : Below V.heap.size V w2 := undrew hb
    have KM2 := Lib.hid (box_below KM.out hb')
    have KP2 := Lib.hid (box_below KP.out hb')
    have HB2 : Hid (Below wr.heap.size wr w2) := bel_then HBA.out hb' HBA.out.size
    clear hb hb' KM KP HBA hHeld
    refine hK _ _ (by exact ⟨range_of KM2.out (maL_sp lk ot q A1 n1 c1 E1 m1 k1), range_of KP2.out rfl, box_cell KM2.out 13 _ rfl⟩) (fun hHeld => ?_)
    clear hK K
    try simp only [Act.put, List.getElem_toArray, List.getElem_cons_zero, List.getElem_cons_succ, List.setIfInBounds_toArray, List.set_cons_zero, List.set_cons_succ]
    refine wpAnyH_take (i := 12) (v := ?v11) rfl (by kernel_rfl) (by kernel_rfl) (by kernel_rfl) (fun _ _ _ h => h) (Or.inl ⟨by rfl, ?hy11⟩) (by assumption) ?_
    case hy11 => (intro w0 hSw; (try dsimp only at hSw); go_simp <;> with_reducible rfl)
    try simp only [Act.put, List.getElem_toArray, List.getElem_cons_zero, List.getElem_cons_succ, List.setIfInBounds_toArray, List.set_cons_zero, List.set_cons_succ]
    refine wpAnyH_done (by kernel_rfl) ?_ _
    clear hHeld
    have HM2 := Lib.hid (HM1.out.below HB2.out)
    have HT2 : Hid (Turned S w w2) := HT1.out.trans (Turned.of_below HB2.out)
    have HK2 : Hid (Kept w w2) := HK1.out.trans (Kept.below HB2.out)
    clear HM1 HT1 HK1 KM2
    cases Q
    · have HS2 : Hid (R = q.loseAll (PS.drop (k + 1))) := HS.out
      have HA2 : Hid (Amid w S b lk ot q w2) := ⟨S1, HM2.out, HS1.out, HT2.out, HK2.out⟩
      have HB3 : Hid (q.ev.length ≤ 900000 + (k + 1) ∧ q.e.ps.length ≤ 1048576 ∧ 0 ≤ q.e.tr ∧ q.e.tr ≤ 900000 + (k + 1 : Nat)) := by have h := HB.out; exact ⟨by omega, h.2.1, h.2.2.1, by omega⟩
      clear HS HM2 HT2 HK2 KP2 HB HB2
      go_wp2
      go_roundw
      case rel => exact ⟨k + 1, q, by omega, by go_num, HA2, HS2, HB3⟩
      case measure => simp [RowKit.intOf]; omega
    have HS2 : Hid (R = (q.lose (y0, y1, y2, y3, y4)).loseAll (PS.drop (k + 1))) := HS.out
    clear HS
    have e0 : w2.cell? ⟨wr.heap.size, 0, none⟩ = some (.int .i64 y0) := box_cell KP2.out 0 _ rfl
    have e1 : w2.cell? ⟨wr.heap.size, 1, none⟩ = some (.int .i64 y1) := box_cell KP2.out 1 _ rfl
    have e2 : w2.cell? ⟨wr.heap.size, 2, none⟩ = some (.int .i64 y2) := box_cell KP2.out 2 _ rfl
    have e3 : w2.cell? ⟨wr.heap.size, 3, none⟩ = some (.int .i64 y3) := box_cell KP2.out 3 _ rfl
    have e4 : w2.cell? ⟨wr.heap.size, 4, none⟩ = some (.int .i64 y4) := box_cell KP2.out 4 _ rfl
    go_wp2_with fail
    refine (drop_any w2 S1 b lk ot q y0 y1 y2 y3 y4 HM2.out (by have h := HB.out; omega) HB.out.2.1 HW.out).mono ?_
    intro e w3 hmv
    have HPK := Lib.hid (hmv.2.choose_spec.2.2.2 _ _ _ KP2.out)
    obtain ⟨rfl, ha⟩ := Amid.call HS1.out HT2.out HK2.out hmv
    obtain ⟨q1, hq1⟩ : ∃ q1, q1 = q.drop (y0, y1, y2, y3, y4) := ⟨_, rfl⟩
    rw [← hq1] at ha
    have HA3 := Lib.hid ha
    have HB1 : Hid (q1.ev.length ≤ 900000 + (k + 1) ∧ q1.e.ps.length ≤ 1048576 ∧ 0 ≤ q1.e.tr ∧ q1.e.tr ≤ 900000 + (k : Nat)) := by
      have h := HB.out
      rw [hq1]
      refine ⟨by rw [drop_ev]; omega, drop_few _ _ h.2.1, h.2.2.1, h.2.2.2⟩
    have HL : Hid (q.lose (y0, y1, y2, y3, y4) = if mvB q1.e.ph && decide (y1 = q1.e.tg) then q1.tryOn else q1) := by rw [hq1]; rfl
    rw [HL.out] at HS2
    clear hmv ha hq1 HL HM2 HT2 HK2 KP2 HB2 HB HS1 HW e0 e1 e2 e3 e4
    obtain ⟨S3, hm3, hs3, ht3, hk3⟩ := HA3.out
    have HM3 := Lib.hid hm3
    have HS3 := Lib.hid hs3
    have HT3 := Lib.hid ht3
    have HK3 := Lib.hid hk3
    clear hm3 hs3 ht3 hk3
    obtain ⟨A3, n3, c3, E3, m3, k3, h3⟩ := HM3.out
    have KM3 := Lib.hid h3.box
    clear h3
    have f1 : w3.cell? ⟨wr.heap.size, 1, none⟩ = some (.int .i64 y1) := box_cell HPK.out 1 _ rfl
    have c14 : w3.cell? ⟨b, 14, none⟩ = some (.int .i64 q1.e.ph) := box_cell KM3.out 14 _ rfl
    have c15 : w3.cell? ⟨b, 15, none⟩ = some (.int .i64 q1.e.tg) := box_cell KM3.out 15 _ rfl
    clear KM3 HPK
    obtain ⟨g, hg⟩ : ∃ g, (y1 == q1.e.tg) = g := ⟨_, rfl⟩
    have HG : Hid (decide (y1 = q1.e.tg) = g) := by rw [← hg]; rfl
    go_wp2_with fail
    refine wp_region_held_drew (S := fun w' => w'.cell? ⟨b, 14, none⟩ = some (.int .i64 q1.e.ph) ∧ w'.cell? ⟨b, 15, none⟩ = some (.int .i64 q1.e.tg) ∧ w'.cell? ⟨wr.heap.size, 1, none⟩ = some (.int .i64 y1)) (by kernel_rfl) ⟨c14, c15, f1⟩ (fun hHeld => ?_)
    refine wpAnyH_take (i := 0) (v := ?v12) rfl (by kernel_rfl) (by kernel_rfl) (by kernel_rfl) (fun _ _ _ h => h) (Or.inl ⟨by rfl, ?hy12⟩) (by assumption) ?_
    case hy12 => (intro w0 hSw; (try dsimp only at hSw); go_simp <;> with_reducible rfl)
    try simp only [Act.put, List.getElem_toArray, List.getElem_cons_zero, List.getElem_cons_succ, List.setIfInBounds_toArray, List.set_cons_zero, List.set_cons_succ]
    refine wpAnyH_take (i := 1) (v := ?v13) rfl (by kernel_rfl) (by kernel_rfl) (by kernel_rfl) (fun _ _ _ h => h) (Or.inl ⟨by rfl, ?hy13⟩) (by assumption) ?_
    case hy13 => (intro w0 hSw; (try dsimp only at hSw); go_simp <;> with_reducible rfl)
    try simp only [Act.put, List.getElem_toArray, List.getElem_cons_zero, List.getElem_cons_succ, List.setIfInBounds_toArray, List.set_cons_zero, List.set_cons_succ]
    refine wpAnyH_take (i := 2) (v := ?v14) rfl (by kernel_rfl) (by kernel_rfl) (by kernel_rfl) (fun _ _ _ h => h) (Or.inl ⟨by rfl, ?hy14⟩) (by assumption) ?_
    case hy14 => (intro w0 hSw; (try dsimp only at hSw); go_simp <;> with_reducible rfl)
    try simp only [Act.put, List.getElem_toArray, List.getElem_cons_zero, List.getElem_cons_succ, List.setIfInBounds_toArray, List.set_cons_zero, List.set_cons_succ]
    refine wpAnyH_take (i := 3) (v := ?v15) rfl (by kernel_rfl) (by kernel_rfl) (by kernel_rfl) (fun _ _ _ h => h) (Or.inl ⟨by rfl, ?hy15⟩) (by assumption) ?_
    case hy15 => (intro w0 hSw; (try dsimp only at hSw); go_simp <;> with_reducible rfl)
    try simp only [Act.put, List.getElem_toArray, List.getElem_cons_zero, List.getElem_cons_succ, List.setIfInBounds_toArray, List.set_cons_zero, List.set_cons_succ]
    refine wpAnyH_take (i := 4) (v := ?v16) rfl (by kernel_rfl) (by kernel_rfl) (by kernel_rfl) (fun _ _ _ h => h) (Or.inl ⟨by rfl, ?hy16⟩) (by assumption) ?_
    case hy16 => (intro w0 hSw; (try dsimp only at hSw); go_simp <;> with_reducible rfl)
    try simp only [Act.put, List.getElem_toArray, List.getElem_cons_zero, List.getElem_cons_succ, List.setIfInBounds_toArray, List.set_cons_zero, List.set_cons_succ]
    refine wpAnyH_ready (rs := [5]) (by kernel_rfl) (by simp) (AllReadyH.cons rfl (fun K hK => ?_) AllReadyH.nil)
    go_simp
    refine (EngSet.underWay_any q1.e.ph _).mono ?_
    rintro e w' ⟨rfl, rfl⟩
    refine hK _ _ (by exact hHeld) (fun hHeld => ?_)
    clear hK K
    try simp only [Act.put, List.getElem_toArray, List.getElem_cons_zero, List.getElem_cons_succ, List.setIfInBounds_toArray, List.set_cons_zero, List.set_cons_succ]
    cases hmv : mvB q1.e.ph
    · have HS4 : Hid (R = q1.loseAll (PS.drop (k + 1))) := by have h := HS2.out; rw [hmv] at h; exact h
      have HB4 : Hid (q1.ev.length ≤ 900000 + (k + 1) ∧ q1.e.ps.length ≤ 1048576 ∧ 0 ≤ q1.e.tr ∧ q1.e.tr ≤ 900000 + (k + 1 : Nat)) := by have h := HB1.out; exact ⟨h.1, h.2.1, h.2.2.1, by omega⟩
      refine wpAnyH_take (i := 6) (v := ?v18) rfl (by kernel_rfl) (by kernel_rfl) (by kernel_rfl) (fun _ _ _ h => h) (Or.inl ⟨by rfl, ?hy18⟩) (by assumption) ?_
      case hy18 => (intro w0 hSw; (try dsimp only at hSw); go_simp <;> with_reducible rfl)
      try simp only [Act.put, List.getElem_toArray, List.getElem_cons_zero, List.getElem_cons_succ, List.setIfInBounds_toArray, List.set_cons_zero, List.set_cons_succ]
      refine wpAnyH_take (i := 7) (v := undef) rfl (by kernel_rfl) (by kernel_rfl) (by kernel_rfl) (fun _ _ _ h => h) (Or.inr ⟨by rfl, rfl⟩) (by assumption) ?_
      try simp only [Act.put, List.getElem_toArray, List.getElem_cons_zero, List.getElem_cons_succ, List.setIfInBounds_toArray, List.set_cons_zero, List.set_cons_succ]
      refine wpAnyH_take (i := 8) (v := undef) rfl (by kernel_rfl) (by kernel_rfl) (by kernel_rfl) (fun _ _ _ h => h) (Or.inr ⟨by rfl, rfl⟩) (by assumption) ?_
      try simp only [Act.put, List.getElem_toArray, List.getElem_cons_zero, List.getElem_cons_succ, List.setIfInBounds_toArray, List.set_cons_zero, List.set_cons_succ]
      refine wpAnyH_take (i := 9) (v := undef) rfl (by kernel_rfl) (by kernel_rfl) (by kernel_rfl) (fun _ _ _ h => h) (Or.inr ⟨by rfl, rfl⟩) (by assumption) ?_
      try simp only [Act.put, List.getElem_toArray, List.getElem_cons_zero, List.getElem_cons_succ, List.setIfInBounds_toArray, List.set_cons_zero, List.set_cons_succ]
      refine wpAnyH_take (i := 10) (v := undef) rfl (by kernel_rfl) (by kernel_rfl) (by kernel_rfl) (fun _ _ _ h => h) (Or.inr ⟨by rfl, rfl⟩) (by assumption) ?_
      try simp only [Act.put, List.getElem_toArray, List.getElem_cons_zero, List.getElem_cons_succ, List.setIfInBounds_toArray, List.set_cons_zero, List.set_cons_succ]
      refine wpAnyH_take (i := 11) (v := undef) rfl (by kernel_rfl) (by kernel_rfl) (by kernel_rfl) (fun _ _ _ h => h) (Or.inr ⟨by rfl, rfl⟩) (by assumption) ?_
      try simp only [Act.put, List.getElem_toArray, List.getElem_cons_zero, List.getElem_cons_succ, List.setIfInBounds_toArray, List.set_cons_zero, List.set_cons_succ]
      refine wpAnyH_take (i := 12) (v := undef) rfl (by kernel_rfl) (by kernel_rfl) (by kernel_rfl) (fun _ _ _ h => h) (Or.inr ⟨by rfl, rfl⟩) (by assumption) ?_
      try simp only [Act.put, List.getElem_toArray, List.getElem_cons_zero, List.getElem_cons_succ, List.setIfInBounds_toArray, List.set_cons_zero, List.set_cons_succ]
      refine wpAnyH_take (i := 13) (v := undef) rfl (by kernel_rfl) (by kernel_rfl) (by kernel_rfl) (fun _ _ _ h => h) (Or.inr ⟨by rfl, rfl⟩) (by assumption) ?_
      try simp only [Act.put, List.getElem_toArray, List.getElem_cons_zero, List.getElem_cons_succ, List.setIfInBounds_toArray, List.set_cons_zero, List.set_cons_succ]
      refine wpAnyH_take (i := 14) (v := undef) rfl (by kernel_rfl) (by kernel_rfl) (by kernel_rfl) (fun _ _ _ h => h) (Or.inr ⟨by rfl, rfl⟩) (by assumption) ?_
      try simp only [Act.put, List.getElem_toArray, List.getElem_cons_zero, List.getElem_cons_succ, List.setIfInBounds_toArray, List.set_cons_zero, List.set_cons_succ]
      refine wpAnyH_take (i := 15) (v := ?v27) rfl (by kernel_rfl) (by kernel_rfl) (by kernel_rfl) (fun _ _ _ h => h) (Or.inl ⟨by rfl, ?hy27⟩) (by assumption) ?_
      case hy27 => (intro w0 hSw; (try dsimp only at hSw); go_simp <;> with_reducible rfl)
      try simp only [Act.put, List.getElem_toArray, List.getElem_cons_zero, List.getElem_cons_succ, List.setIfInBounds_toArray, List.set_cons_zero, List.set_cons_succ]
      refine wpAnyH_done (by kernel_rfl) ?_ _
      clear hHeld c14 c15 f1 HS2 HB1 hmv
      have HA4 : Hid (Amid w S b lk ot q1 w3.drew) := HA3.out.below (undrew (Below.refl _ _))
      go_wp2
      go_roundw
      case rel => exact ⟨k + 1, q1, by omega, by go_num, HA4, HS4, HB4⟩
      case measure => simp [RowKit.intOf]; omega
    refine wpAnyH_take (i := 6) (v := ?v28) rfl (by kernel_rfl) (by kernel_rfl) (by kernel_rfl) (fun _ _ _ h => h) (Or.inl ⟨by rfl, ?hy28⟩) (by assumption) ?_
    case hy28 => (intro w0 hSw; (try dsimp only at hSw); go_simp <;> with_reducible rfl)
    try simp only [Act.put, List.getElem_toArray, List.getElem_cons_zero, List.getElem_cons_succ, List.setIfInBounds_toArray, List.set_cons_zero, List.set_cons_succ]
    refine wpAnyH_take (i := 7) (v := ?v29) rfl (by kernel_rfl) (by kernel_rfl) (by kernel_rfl) (fun _ _ _ h => h) (Or.inl ⟨by rfl, ?hy29⟩) (by assumption) ?_
    case hy29 => (intro w0 hSw; (try dsimp only at hSw); go_simp <;> with_reducible rfl)
    try simp only [Act.put, List.getElem_toArray, List.getElem_cons_zero, List.getElem_cons_succ, List.setIfInBounds_toArray, List.set_cons_zero, List.set_cons_succ]
    refine wpAnyH_take (i := 8) (v := ?v30) rfl (by kernel_rfl) (by kernel_rfl) (by kernel_rfl) (fun _ _ _ h => h) (Or.inl ⟨by rfl, ?hy30⟩) (by assumption) ?_
    case hy30 => (intro w0 hSw; (try dsimp only at hSw); go_simp <;> with_reducible rfl)
    try simp only [Act.put, List.getElem_toArray, List.getElem_cons_zero, List.getElem_cons_succ, List.setIfInBounds_toArray, List.set_cons_zero, List.set_cons_succ]
    refine wpAnyH_take (i := 9) (v := ?v31) rfl (by kernel_rfl) (by kernel_rfl) (by kernel_rfl) (fun _ _ _ h => h) (Or.inl ⟨by rfl, ?hy31⟩) (by assumption) ?_
    case hy31 => (intro w0 hSw; (try dsimp only at hSw); go_simp <;> with_reducible rfl)
    try simp only [Act.put, List.getElem_toArray, List.getElem_cons_zero, List.getElem_cons_succ, List.setIfInBounds_toArray, List.set_cons_zero, List.set_cons_succ]
    refine wpAnyH_take (i := 10) (v := ?v32) rfl (by kernel_rfl) (by kernel_rfl) (by kernel_rfl) (fun _ _ _ h => h) (Or.inl ⟨by rfl, ?hy32⟩) (by assumption) ?_
    case hy32 => (intro w0 hSw; (try dsimp only at hSw); go_simp <;> with_reducible rfl)
    try simp only [Act.put, List.getElem_toArray, List.getElem_cons_zero, List.getElem_cons_succ, List.setIfInBounds_toArray, List.set_cons_zero, List.set_cons_succ]
    refine wpAnyH_take (i := 11) (v := ?v33) rfl (by kernel_rfl) (by kernel_rfl) (by kernel_rfl) (fun _ _ _ h => h) (Or.inl ⟨by rfl, ?hy33⟩) (by assumption) ?_
    case hy33 => (intro w0 hSw; (try dsimp only at hSw); go_simp <;> with_reducible rfl)
    try simp only [Act.put, List.getElem_toArray, List.getElem_cons_zero, List.getElem_cons_succ, List.setIfInBounds_toArray, List.set_cons_zero, List.set_cons_succ]
    refine wpAnyH_take (i := 12) (v := ?v34) rfl (by kernel_rfl) (by kernel_rfl) (by kernel_rfl) (fun _ _ _ h => h) (Or.inl ⟨by rfl, ?hy34⟩) (by assumption) ?_
    case hy34 => (intro w0 hSw; (try dsimp only at hSw); go_simp <;> with_reducible rfl)
    try simp only [Act.put, List.getElem_toArray, List.getElem_cons_zero, List.getElem_cons_succ, List.setIfInBounds_toArray, List.set_cons_zero, List.set_cons_succ]
    refine wpAnyH_take (i := 13) (v := ?v35) rfl (by kernel_rfl) (by kernel_rfl) (by kernel_rfl) (fun _ _ _ h => h) (Or.inl ⟨by rfl, ?hy35⟩) (by assumption) ?_
    case hy35 => (intro w0 hSw; (try dsimp only at hSw); go_simp <;> with_reducible rfl)
    try simp only [Act.put, List.getElem_toArray, List.getElem_cons_zero, List.getElem_cons_succ, List.setIfInBounds_toArray, List.set_cons_zero, List.set_cons_succ]
    refine wpAnyH_take (i := 14) (v := ?v36) rfl (by kernel_rfl) (by kernel_rfl) (by kernel_rfl) (fun _ _ _ h => h) (Or.inl ⟨by rfl, ?hy36⟩) (by assumption) ?_
    case hy36 => (intro w0 hSw; (try dsimp only at hSw); go_simp <;> with_reducible rfl)
    try simp only [Act.put, List.getElem_toArray, List.getElem_cons_zero, List.getElem_cons_succ, List.setIfInBounds_toArray, List.set_cons_zero, List.set_cons_succ]
    refine wpAnyH_take (i := 15) (v := ?v37) rfl (by kernel_rfl) (by kernel_rfl) (by kernel_rfl) (fun _ _ _ h => h) (Or.inl ⟨by rfl, ?hy37⟩) (by assumption) ?_
    case hy37 => (intro w0 hSw; (try dsimp only at hSw); go_simp <;> with_reducible rfl)
    try simp only [Act.put, List.getElem_toArray, List.getElem_cons_zero, List.getElem_cons_succ, List.setIfInBounds_toArray, List.set_cons_zero, List.set_cons_succ]
    refine wpAnyH_done (by kernel_rfl) ?_ _
    clear hHeld c14 c15 f1
    cases g
    · have HS4 : Hid (R = q1.loseAll (PS.drop (k + 1))) := by have h := HS2.out; rw [hmv, HG.out] at h; exact h
      have HB4 : Hid (q1.ev.length ≤ 900000 + (k + 1) ∧ q1.e.ps.length ≤ 1048576 ∧ 0 ≤ q1.e.tr ∧ q1.e.tr ≤ 900000 + (k + 1 : Nat)) := by have h := HB1.out; exact ⟨h.1, h.2.1, h.2.2.1, by omega⟩
      have HA4 : Hid (Amid w S b lk ot q1 w3.drew) := HA3.out.below (undrew (Below.refl _ _))
      clear HS2 HB1 hmv HG HM3 HS3 HT3 HK3
      go_wp2
      go_roundw
      case rel => exact ⟨k + 1, q1, by omega, by go_num, HA4, HS4, HB4⟩
      case measure => simp [RowKit.intOf]; omega
    have HS4 : Hid (R = q1.tryOn.loseAll (PS.drop (k + 1))) := by have h := HS2.out; rw [hmv, HG.out] at h; exact h
    have HB4 : Hid (q1.tryOn.ev.length ≤ 900000 + (k + 1) ∧ q1.tryOn.e.ps.length ≤ 1048576 ∧ 0 ≤ q1.tryOn.e.tr ∧ q1.tryOn.e.tr ≤ 900000 + (k + 1 : Nat)) := by have h := HB1.out; refine ⟨h.1, h.2.1, ?_, ?_⟩ <;> simp only [Run.tryOn] <;> omega
    clear HS2 hmv HG
    go_wp2_with fail
    refine (waitForRetry_any w3.drew S3 b lk ot q1 (HM3.out.below (undrew (Below.refl _ _))) (by have h := HB1.out; omega)).mono ?_
    intro e w5 hmv
    obtain ⟨rfl, ha⟩ := Amid.call HS3.out (HT3.out.trans (Turned.of_below (undrew (Below.refl _ _)))) (HK3.out.trans (Kept.below (undrew (Below.refl _ _)))) hmv
    have HA5 := Lib.hid ha
    clear hmv ha HM3 HS3 HT3 HK3 HA3 HB1
    go_wp2
    go_roundw
    case rel => exact ⟨k + 1, q1.tryOn, by omega, by go_num, HA5, HS4, HB4⟩
    case measure => simp [RowKit.intOf]; omega
end Go.Proofs.YtdefckbgcggnoaaGreat.Mach
