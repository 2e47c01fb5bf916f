/-
  THE MACHINE's dropFirst over this seat's translation, at whatever function value that answers as f does.
-/
import Derived.Test.YtdefckbgcggnoaaGreatMachO
namespace Go.Proofs.YtdefckbgcggnoaaGreat.Mach
open Go.ChangeShapes Go.WideShapes Go.ChangeAt Go.RowKit
open Go.Proofs.YtdefckbgcggnoaaGreat.LK Go.Proofs.YtdefckbgcggnoaaGreat.Pods Go.Proofs.YtdefckbgcggnoaaGreat.EngV Go.Proofs.YtdefckbgcggnoaaGreat.EngCnt Go.Proofs.YtdefckbgcggnoaaGreat.Eng Go.Proofs.YtdefckbgcggnoaaGreat.Seg
set_option linter.unusedVariables false
set_option linter.unusedSimpArgs false
set_option maxRecDepth 100000 in
set_option maxHeartbeats 12800000 in
theorem dropFirst_any (w : World) (S : Nat → Prop) (b : Nat) (lk ot : Int) (r : Run) (nn : Int) (F : Nat) (caps : List Value) (f : Pd → Bool) (h : Mach w S b lk ot r) (hev : r.ev.length ≤ 900000) (hn : r.e.ps.length ≤ 1000) (hnn : -1000 ≤ nn ∧ nn ≤ 1000) (hid : ∀ p ∈ r.e.ps, (Lit.int .i64 p.1).wf = true)
    (eg : ∀ args w, (callFunc F args).run Tryz.prog w = .ok (.enter F args) w) (hw : ∀ (W : World) (q : Run) (y0 y1 y2 y3 y4 : Int), Amid w S b lk ot q W → q.e.sp = r.e.sp ∧ q.e.tg = r.e.tg ∧ q.e.now = r.e.now → Calls Tryz.prog F (.agg #[.int .i64 y0, .int .i64 y1, .int .i64 y2, .int .i64 y3, .int .i64 y4] :: caps).toArray W (Says (.bool (f (y0, y1, y2, y3, y4))) W)) :
    Calls Tryz.prog 201 #[.pointer (some ⟨b, 0, none⟩), .int .i64 nn, .func (.func F) #[] caps.toArray] w (fun e w' => e = .returned (.int .i64 (r.dropF f nn).2) ∧ Amid w S b lk ot (r.dropF f nn).1 w') := by
  obtain ⟨R, hR⟩ : ∃ R, R = r.dropF f nn := ⟨_, rfl⟩
  rw [← hR]
  have HR0 : Hid (R = r.dropN f nn (r.e.ps.drop 0)) := hR
  clear hR
  have HA0 := Lib.hid (Amid.start h)
  obtain ⟨A, n, c, E, m0, k0, h⟩ := h
  have HO := Lib.hid h.ps
  have hnl : r.e.ps.length = n := h.ps.1
  have HN := Lib.hid hnl
  have hn1 : n ≤ 1000 := by omega
  have H := Lib.hid h
  have HID := Lib.hid hid
  have HWA := Lib.hid hw
  have HEG := Lib.hid eg
  have HB0 : Hid (r.ev.length ≤ 900000 + 0 ∧ r.e.ps.length ≤ 1048576 ∧ r.e.sp = r.e.sp ∧ r.e.tg = r.e.tg ∧ r.e.now = r.e.now) := ⟨by omega, by omega, rfl, rfl, rfl⟩
  have HNN := Lib.hid hnn
  clear h hid hev hn hnl hw eg
  obtain ⟨PS, hPS⟩ : ∃ PS, PS = r.e.ps := ⟨_, rfl⟩
  rw [← hPS] at HR0 HO HN HID
  clear hPS
  go_enter Tryz.func201, Tryz.ntmps201
  have c17 : w.cell? ⟨b, 17, none⟩ = some (.slice A n c) := box_cell H.out.box 17 _ rfl
  go_wp2_with fail
  clear c17
  go_loopw [1, 16] (fun v i wr => ∃ (k : Nat) (q : Run) (m : Int), k ≤ n ∧ i = .int .i64 k ∧ v = .int .i64 m ∧ -1000 ≤ m ∧ m ≤ 1000 ∧ Hid (Amid w S b lk ot q wr) ∧ Hid (R = q.dropN f m (PS.drop k)) ∧ Hid (q.ev.length ≤ 900000 + k ∧ q.e.ps.length ≤ 1048576 ∧ q.e.sp = r.e.sp ∧ q.e.tg = r.e.tg ∧ q.e.now = r.e.now)) (fun _ i _ => n - (RowKit.intOf i).toNat)
  case atStart => exact ⟨0, r, nn, Nat.zero_le _, rfl, rfl, hnn.1, hnn.2, HA0, HR0, ⟨HB0.out.1, HB0.out.2.1, rfl, rfl, rfl⟩⟩
  case round =>
    obtain ⟨k, q, m, hk, rfl, rfl, hm1, hm2, HA, HR, HB⟩ := hrel
    clear HR0 HB0 HA0 H hnn HNN
    by_cases hlt : k < n
    case neg =>
      have HK : Hid (k = n) := (by omega : k = n)
      have h := HR.out
      rw [List.drop_of_length_le (by rw [HN.out, HK.out]; exact Nat.le_refl _)] at h
      have HE : Hid (R = (q, m)) := h
      clear h
      go_wp2
      go_ret
      rw [HE.out]
      exact ⟨rfl, HA.out⟩
    obtain ⟨S1, hm1', hs1, ht1, hk1⟩ := HA.out
    have HO1 := Lib.hid (hk1.pods HO.out)
    clear hm1' hs1 ht1 hk1
    obtain ⟨bb, off, y0, y1, y2, y3, y4, rfl, hbB, hz, hc0, hc1, hc2, hc3, hc4⟩ := HO1.out.podsAll.at_ hlt
    have hmem : PS.getD k z5 ∈ PS := by rw [show PS.getD k z5 = PS[k]'(by rw [HN.out]; exact hlt) from by simp [List.getD, HN.out, hlt]]; exact List.getElem_mem _
    have HW : Hid ((Lit.int .i64 y0).wf = true) := by have h := HID.out _ hmem; rw [hz] at h; exact h
    have HS : Hid (R = if decide (0 < m) && (!decide (y2 = 4) && f (y0, y1, y2, y3, y4)) then Run.dropN (q.drop (y0, y1, y2, y3, y4)) f (m - 1) (PS.drop (k + 1)) else q.dropN f m (PS.drop (k + 1))) := by
      show _ = _
      rw [HR.out, List.drop_eq_getElem_cons (by rw [HN.out]; exact hlt), show PS[k]'(by rw [HN.out]; exact hlt) = (y0, y1, y2, y3, y4) from by rw [← hz]; simp [List.getD, HN.out, hlt]]
      rfl
    clear hz hmem HO1 HR
    obtain ⟨Q, hQ⟩ : ∃ Q, Q = f (y0, y1, y2, y3, y4) := ⟨_, rfl⟩
    rw [← hQ] at HS
    have HBA : Hid (Below wr.heap.size wr (wr.alloc (.cells #[.int .i64 y0, .int .i64 y1, .int .i64 y2, .int .i64 y3, .int .i64 y4] 77))) := bel1 _ _
    have KP : Hid ((wr.alloc (.cells #[.int .i64 y0, .int .i64 y1, .int .i64 y2, .int .i64 y3, .int .i64 y4] 77)).heap[wr.heap.size]? = some (.cells [.int .i64 y0, .int .i64 y1, .int .i64 y2, .int .i64 y3, .int .i64 y4].toArray 77 (0, 0))) := box_new wr _
    go_upto_region 4 with fail
    obtain ⟨V, hV⟩ : ∃ V, V = wr.alloc (.cells #[.int .i64 y0, .int .i64 y1, .int .i64 y2, .int .i64 y3, .int .i64 y4] 77) := ⟨_, rfl⟩
    rw [← hV] at KP HBA
    rw [← hV]
    clear hV hc0 hc1 hc2 hc3 hc4
    have HA2 : Hid (Amid w S b lk ot q V) := HA.out.below HBA.out
    have HC : Hid (Calls Tryz.prog F (.agg #[.int .i64 y0, .int .i64 y1, .int .i64 y2, .int .i64 y3, .int .i64 y4] :: caps).toArray V (Says (.bool Q) V)) := by rw [hQ]; exact HWA.out V q y0 y1 y2 y3 y4 HA2.out HB.out.2.2
    clear hQ HBA HA
    have e0 : V.cell? ⟨wr.heap.size, 0, none⟩ = some (.int .i64 y0) := box_cell KP.out 0 _ rfl
    have e1 : V.cell? ⟨wr.heap.size, 1, none⟩ = some (.int .i64 y1) := box_cell KP.out 1 _ rfl
    have e2 : V.cell? ⟨wr.heap.size, 2, none⟩ = some (.int .i64 y2) := box_cell KP.out 2 _ rfl
    have e3 : V.cell? ⟨wr.heap.size, 3, none⟩ = some (.int .i64 y3) := box_cell KP.out 3 _ rfl
    have e4 : V.cell? ⟨wr.heap.size, 4, none⟩ = some (.int .i64 y4) := box_cell KP.out 4 _ rfl
    by_cases hm0 : 0 < m
    case neg =>
      have hq0 : decide (0 < m) = false := decide_eq_false hm0
      have HS2 : Hid (R = q.dropN f m (PS.drop (k + 1))) := by have h := HS.out; rw [hq0] at h; exact h
      have HB2 : Hid (q.ev.length ≤ 900000 + (k + 1) ∧ q.e.ps.length ≤ 1048576 ∧ q.e.sp = r.e.sp ∧ q.e.tg = r.e.tg ∧ q.e.now = r.e.now) := ⟨by have h := HB.out.1; omega, HB.out.2⟩
      clear HS HC HB HW KP
      go_wp2
      go_roundw
      case rel => exact ⟨k + 1, q, m, by omega, by go_num, rfl, hm1, hm2, HA2, HS2, HB2⟩
      case measure => simp [RowKit.intOf]; omega
    have hq0 : decide (0 < m) = true := decide_eq_true hm0
    cases hq4 : (y2 != 4)
    case false =>
      have he4 : y2 = 4 := by by_cases h : y2 = 4; exact h; rw [show (y2 != 4) = true from by simp [h]] at hq4; exact absurd hq4 (by decide)
      have HS2 : Hid (R = q.dropN f m (PS.drop (k + 1))) := by have h := HS.out; rw [decide_eq_true he4, hq0] at h; exact h
      have HB2 : Hid (q.ev.length ≤ 900000 + (k + 1) ∧ q.e.ps.length ≤ 1048576 ∧ q.e.sp = r.e.sp ∧ q.e.tg = r.e.tg ∧ q.e.now = r.e.now) := ⟨by have h := HB.out.1; omega, HB.out.2⟩
      clear HS HC HB HW KP he4
      go_wp2
      go_roundw
      case rel => exact ⟨k + 1, q, m, by omega, by go_num, rfl, hm1, hm2, HA2, HS2, HB2⟩
      case measure => simp [RowKit.intOf]; omega
    have hne4 : ¬ y2 = 4 := by intro h; rw [h] at hq4; exact absurd hq4 (by decide)
    have HS1 : Hid (R = if Q then Run.dropN (q.drop (y0, y1, y2, y3, y4)) f (m - 1) (PS.drop (k + 1)) else q.dropN f m (PS.drop (k + 1))) := by have h := HS.out; rw [hq0, decide_eq_false hne4] at h; exact h
    clear HS hne4
    go_wp2_with fail
    rw [HEG.out, Oper.upon_enter]
    refine HC.out.mono ?_
    rintro e w2 ⟨rfl, hb⟩
    have HA3 : Hid (Amid w S b lk ot q w2) := HA2.out.below hb
    have KP2 := Lib.hid (box_below KP.out hb)
    clear hb HA2 KP HC e0 e1 e2 e3 e4
    have e0 : w2.cell? ⟨wr.heap.size, 0, none⟩ = some (.int .i64 y0) := box_cell KP2.out 0 _ rfl
    have e1 : w2.cell? ⟨wr.heap.size, 1, none⟩ = some (.int .i64 y1) := box_cell KP2.out 1 _ rfl
    have e2 : w2.cell? ⟨wr.heap.size, 2, none⟩ = some (.int .i64 y2) := box_cell KP2.out 2 _ rfl
    have e3 : w2.cell? ⟨wr.heap.size, 3, none⟩ = some (.int .i64 y3) := box_cell KP2.out 3 _ rfl
    have e4 : w2.cell? ⟨wr.heap.size, 4, none⟩ = some (.int .i64 y4) := box_cell KP2.out 4 _ rfl
    cases Q
    · have HS2 : Hid (R = q.dropN f m (PS.drop (k + 1))) := HS1.out
      have HB2 : Hid (q.ev.length ≤ 900000 + (k + 1) ∧ q.e.ps.length ≤ 1048576 ∧ q.e.sp = r.e.sp ∧ q.e.tg = r.e.tg ∧ q.e.now = r.e.now) := ⟨by have h := HB.out.1; omega, HB.out.2⟩
      clear HS1 HB HW KP2
      go_wp2
      go_roundw
      case rel => exact ⟨k + 1, q, m, by omega, by go_num, rfl, hm1, hm2, HA3, HS2, HB2⟩
      case measure => simp [RowKit.intOf]; omega
    have HS2 : Hid (R = (q.drop (y0, y1, y2, y3, y4)).dropN f (m - 1) (PS.drop (k + 1))) := HS1.out
    have HB2 : Hid ((q.drop (y0, y1, y2, y3, y4)).ev.length ≤ 900000 + (k + 1) ∧ (q.drop (y0, y1, y2, y3, y4)).e.ps.length ≤ 1048576 ∧ (q.drop (y0, y1, y2, y3, y4)).e.sp = r.e.sp ∧ (q.drop (y0, y1, y2, y3, y4)).e.tg = r.e.tg ∧ (q.drop (y0, y1, y2, y3, y4)).e.now = r.e.now) := by
      have h := HB.out
      refine ⟨by rw [drop_ev]; omega, drop_few _ _ h.2.1, h.2.2.1, h.2.2.2.1, h.2.2.2.2⟩
    clear HS1 KP2
    obtain ⟨S3, hm3, hs3, ht3, hk3⟩ := HA3.out
    have HM3 := Lib.hid hm3
    have HS3 := Lib.hid hs3
    have HT3 := Lib.hid ht3
    have HK3 := Lib.hid hk3
    clear hm3 hs3 ht3 hk3 HA3
    go_wp2_with fail
    refine (drop_any w2 S3 b lk ot q y0 y1 y2 y3 y4 HM3.out (by have h := HB.out; omega) HB.out.2.1 HW.out).mono ?_
    intro e w3 hmv
    obtain ⟨rfl, ha⟩ := Amid.call HS3.out HT3.out HK3.out hmv
    have HA5 := Lib.hid ha
    clear hmv ha HM3 HS3 HT3 HK3 HB HW e0 e1 e2 e3 e4
    go_wp2
    go_roundw
    case rel => exact ⟨k + 1, q.drop (y0, y1, y2, y3, y4), m - 1, by omega, by go_num, by go_num, by omega, by omega, HA5, HS2, HB2⟩
    case measure => simp [RowKit.intOf]; omega
end Go.Proofs.YtdefckbgcggnoaaGreat.Mach
