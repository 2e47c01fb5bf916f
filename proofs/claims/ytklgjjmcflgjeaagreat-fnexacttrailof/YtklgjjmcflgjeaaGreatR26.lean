import Derived.Test.YtklgjjmcflgjeaaGreatQ
import Derived.Test.YtklgjjmcflgjeaaGreatR10
import Derived.Test.YtklgjjmcflgjeaaGreatR25
set_option linter.unusedVariables false
set_option linter.unusedSimpArgs false
namespace Go.Proofs.YtklgjjmcflgjeaaGreat.Mach
open Go.ChangeShapes Go.WideShapes Go.ChangeAt Go.RowKit
open LK Pods EngV EngCnt Eng Seg
set_option maxRecDepth 100000 in
set_option maxHeartbeats 12800000 in
theorem create_any (w : World) (S : Nat → Prop) (b : Nat) (lk ot : Int) (r : Run) (N : Nat) (h : Mach w S b lk ot r) (hev : r.ev.length ≤ 900000) (hn : r.e.ps.length ≤ 1048576) (hN : N ≤ 1000) :
    Calls Tryz.prog 253 #[.pointer (some ⟨b, 0, none⟩), .int .i64 (N : Int)] w (Moved b lk ot (r.makeN N) (.tuple #[]) S w) := by
  obtain ⟨R, hR⟩ : ∃ R, R = r.makeN N := ⟨_, rfl⟩
  rw [← hR]
  have HR0 : Hid (R = r.makeN (N - 0)) := hR
  clear hR
  have HA0 := Lib.hid (Amid.start h)
  have HB0 : Hid (r.ev.length ≤ 900000 + 0 ∧ r.e.ps.length ≤ 1048576) := ⟨by omega, hn⟩
  clear h hev hn
  go_enter Tryz.func253, Tryz.ntmps253
  go_wp2_with fail
  go_loopw [7] (fun i wr => ∃ (k : Nat) (q : Run), k ≤ N ∧ i = .int .i64 k ∧ Hid (Amid w S b lk ot q wr) ∧ Hid (R = q.makeN (N - k)) ∧ Hid (q.ev.length ≤ 900000 + k ∧ q.e.ps.length ≤ 1048576)) (fun i _ => N - (RowKit.intOf i).toNat)
  case atStart => exact ⟨0, r, Nat.zero_le _, rfl, HA0, HR0, HB0⟩
  case round =>
    obtain ⟨k, q, hk, rfl, HA, HR, HB⟩ := hrel
    clear HR0 HB0 HA0
    by_cases hlt : k < N
    case neg =>
      have HE : Hid (R = q) := by have h := HR.out; rw [show N - k = 0 from by omega] at h; exact h
      clear HR
      go_wp2
      go_end0
      rw [HE.out]
      exact HA.out.fin
    obtain ⟨v, hv⟩ : ∃ v, v = Crew.addV q.fl q.e.tg q.e.now := ⟨_, rfl⟩
    obtain ⟨D, hD⟩ : ∃ D, D = Crew.addD q.fl q.e.tg q.e.now := ⟨_, rfl⟩
    have HS : Hid (R = if v = 0 then q else Run.makeN ((q.setFl D).tell 0 v q.e.tg) (N - (k + 1))) := by
      show _ = _
      rw [HR.out, show N - k = (N - (k + 1)) + 1 from by omega, hv, hD]
      rfl
    have HD1 : Hid (D.1.length ≤ 1048576) := by show _ ≤ _; rw [hD]; exact Crew.few_add (d := q.fl) q.e.tg q.e.now HB.out.2
    have CA : Hid (∀ (A : Option Addr) (n c : Nat) (W : World), IsPods W W.heap.size A n q.e.ps → n ≤ 1048576 → Calls Tryz.prog 266 #[.agg (flL A n c q.e.nx).toArray, .int .i64 q.e.tg, .int .i64 q.e.now] W (Made1 FleetTy.fty D (.int .i64 v) W)) := fun A n c W h1 h2 => by
      rw [hD, hv]; exact Crew.addPod_any A n c q.e.nx q.e.tg q.e.now q.e.ps W.heap.size W h1 (Nat.le_refl _) h2
    clear hv hD HR
    obtain ⟨S1, hm1, hs1, ht1, hk1⟩ := HA.out
    have HS1 := Lib.hid hs1
    have HT1 := Lib.hid ht1
    have HK1 := Lib.hid hk1
    obtain ⟨A1, n1, c1, E1, m1, k1, h1⟩ := hm1
    have HM1 := Lib.hid h1
    have hn1 : n1 ≤ 1048576 := by rw [← h1.ps.1]; exact HB.out.2
    have hbr : b < wr.heap.size := h1.lt
    clear hs1 ht1 hk1 h1 HA
    go_wp2_with fail
    refine wp_region_held_drew (S := fun w' => w'.rangeAt b 17 (flL A1 n1 c1 q.e.nx) ∧ w'.cell? ⟨b, 15, none⟩ = some (.int .i64 q.e.tg) ∧ w'.cell? ⟨b, 13, none⟩ = some (.int .i64 q.e.now)) (by kernel_rfl) ⟨range_of HM1.out.box (maL_fl lk ot q A1 n1 c1 E1 m1 k1), box_cell HM1.out.box 15 _ rfl, box_cell HM1.out.box 13 _ rfl⟩ (fun hHeld => ?_)
    refine tkk (i := 0) rfl ?_
    try simp only [Act.put, pj]
    refine tkk (i := 1) rfl ?_
    try simp only [Act.put, pj]
    refine tkk (i := 2) rfl ?_
    try simp only [Act.put, pj]
    refine tkk (i := 3) rfl ?_
    try simp only [Act.put, pj]
    refine tkj (i := 4) (v := .agg (flL A1 n1 c1 q.e.nx).toArray) rfl (yieldsIf_load_mid (by rfl) 34 _ rfl b 17 rfl (flL A1 n1 c1 q.e.nx) _ (fun w' h => h.1) Tryz.underlying34 rfl (by kernel_rfl)) ?_
    try simp only [Act.put, pj]
    refine tkk (i := 5) rfl ?_
    try simp only [Act.put, pj]
    refine tkk (i := 6) rfl ?_
    try simp only [Act.put, pj]
    refine tkk (i := 7) rfl ?_
    try simp only [Act.put, pj]
    refine tkk (i := 8) rfl ?_
    try simp only [Act.put, pj]
    refine tkk (i := 9) rfl ?_
    try simp only [Act.put, pj]
    refine tkk (i := 10) rfl ?_
    try simp only [Act.put, pj]
    refine tkk (i := 11) rfl ?_
    try simp only [Act.put, pj]
    refine tkk (i := 12) rfl ?_
    try simp only [Act.put, pj]
    refine tkk (i := 13) rfl ?_
    try simp only [Act.put, pj]
    refine tkk (i := 14) rfl ?_
    try simp only [Act.put, pj]
    have hbd : Below wr.heap.size wr wr.drew := undrew (Below.refl _ _)
    refine wpAnyH_ready (rs := [15, 19]) (by kernel_rfl) (by simp) (AllReadyH.cons rfl (fun K hK => ?_) (AllReadyH.cons rfl (fun K hK => ?_) AllReadyH.nil))
    · go_simp
      have HMd := Lib.hid (HM1.out.below hbd)
      refine (CA.out A1 n1 c1 _ (by exact HMd.out.ps.podsAll) hn1).mono ?_
      rintro e w2 ⟨vv, S2, rfl, hO, hb⟩
      have hb' : Below wr.heap.size wr w2 := undrew hb
      obtain ⟨A2, c2, rfl, ho, hs⟩ := hO.own
      have hin := hO.inn
      have HFR : Hid (∀ x, (Value.slice A2 D.1.length c2).ownBlock = some x → wr.heap.size ≤ x) := fun x h => (hin x (hs x h)).1
      have hlt2 : ∀ x, (Value.slice A2 D.1.length c2).ownBlock = some x → x < w2.heap.size := fun x h => (ho.lt x h).2
      have HM2 := Lib.hid (HM1.out.below hb')
      have HB2 := Lib.hid hb'
      have HO2 := Lib.hid ho
      have HL2 := Lib.hid hlt2
      clear hb hb' hO ho hs hin hlt2 hHeld HMd hbd
      refine hK _ _ (by exact ⟨range_of HM2.out.box (maL_fl lk ot q A1 n1 c1 E1 m1 k1), box_cell HM2.out.box 15 _ rfl, box_cell HM2.out.box 13 _ rfl⟩) (fun hHeld => ?_)
      clear hK K
      try simp only [Act.put, pj]
      refine tkk (i := 16) rfl ?_
      try simp only [Act.put, pj]
      refine tkk (i := 17) rfl ?_
      try simp only [Act.put, pj]
      refine tkk (i := 18) rfl ?_
      try simp only [Act.put, pj]
      refine wpAnyH_ready (rs := [19]) (by kernel_rfl) (by simp) (AllReadyH.cons rfl (fun K hK => ?_) AllReadyH.nil)
      go_simp
      have hbp := bel1 w2 (.cells #[.slice none 0 0, .int .i64 0] 34)
      have HM3 := Lib.hid (HM2.out.below hbp)
      have HB3 := Lib.hid (bel_then HB2.out hbp HB2.out.size)
      have KP := Lib.hid (box_new w2 (.cells #[.slice none 0 0, .int .i64 0] 34))
      have HO : Hid (OwnP (w2.alloc (.cells #[.slice none 0 0, .int .i64 0] 34)) 0 A2 D.1.length c2 D.1) := HO2.out.below hbp
      have HNE : Hid (∀ x, (Value.slice A2 D.1.length c2).ownBlock = some x → x ≠ w2.heap.size) := fun x h => by have := HL2.out x h; omega
      have hP : wr.heap.size ≤ w2.heap.size := HB2.out.size
      clear hbp HM2 HB2 HO2 HL2 hHeld
      refine hK _ _ (by exact ⟨range_of HM3.out.box (maL_fl lk ot q A1 n1 c1 E1 m1 k1), box_cell HM3.out.box 15 _ rfl, box_cell HM3.out.box 13 _ rfl⟩) (fun hHeld => ?_)
      clear hK K
      try simp only [Act.put, pj]
      clear HM3
      refine wpAnyH_ready (rs := [20]) (by kernel_rfl) (by simp) (AllReadyH.cons rfl (fun K hK => ?_) AllReadyH.nil)
      refine wp_put rfl 34 _ _ rfl w2.heap.size 0 (flL A2 D.1.length c2 D.2) rfl rfl KP.out (by kernel_rfl) (flL A2 D.1.length c2 D.2) rfl (Nat.le_of_ble_eq_true rfl) (flL_one _ _ _ _) ?_
      obtain ⟨W, hW⟩ : ∃ X, X = (w2.alloc (.cells #[.slice none 0 0, .int .i64 0] 34)).setRow (w2.heap.size) (flL A2 D.1.length c2 D.2).toArray := ⟨_, rfl⟩
      have KPW : Hid (W.heap[w2.heap.size]? = some (.cells (flL A2 D.1.length c2 D.2).toArray 34 (0, 0))) := by rw [hW]; exact row_box KP.out
      have HBW : Hid (Below wr.heap.size wr W) := by rw [hW]; exact row_below HB3.out _ _ hP HB3.out.size
      have HMW := Lib.hid (HM1.out.below HBW.out)
      have HOW : Hid (OwnP W 0 A2 D.1.length c2 D.1) := HO.out.same fun qq hq => by rw [hW]; exact setRow_other _ _ _ _ (HNE.out qq hq)
      rw [← hW]
      clear hW KP HO HNE hHeld
      refine hK _ _ (by exact ⟨range_of HMW.out.box (maL_fl lk ot q A1 n1 c1 E1 m1 k1), box_cell HMW.out.box 15 _ rfl, box_cell HMW.out.box 13 _ rfl⟩) (fun hHeld => ?_)
      clear hK K
      try simp only [Act.put, pj]
      refine tkk (i := 21) rfl ?_
      try simp only [Act.put, pj]
      refine wpAnyH_done (by kernel_rfl) ?_ _
      clear hHeld
      have HTW : Hid (Turned S w W) := HT1.out.trans (Turned.of_below HBW.out)
      have HKW : Hid (Kept w W) := HK1.out.trans (Kept.below HBW.out)
      by_cases hv0 : v = 0
      · have hq0 : (v == 0) = true := by simp [hv0]
        have HE : Hid (R = q) := by have h := HS.out; rw [if_pos hv0] at h; exact h
        clear hv0 HS HD1 CA
        go_wp2
        go_end0
        rw [HE.out]
        exact Amid.fin ⟨S1, ⟨_, _, _, _, _, _, HMW.out⟩, HS1.out, HTW.out, HKW.out⟩
      have hq0 : (v == 0) = false := by simp [hv0]
      have HE : Hid (R = Run.makeN ((q.setFl D).tell 0 v q.e.tg) (N - (k + 1))) := by have h := HS.out; rw [if_neg hv0] at h; exact h
      have HB2 : Hid (((q.setFl D).tell 0 v q.e.tg).ev.length ≤ 900000 + (k + 1) ∧ ((q.setFl D).tell 0 v q.e.tg).e.ps.length ≤ 1048576) := ⟨by have h := HB.out.1; simp [Run.tell, Run.setFl]; omega, HD1.out⟩
      clear hv0 HS HD1 CA
      go_upto_region 5 with (first | (refine wpList_get rfl 34 _ rfl (w2.heap.size) 0 rfl KPW.out (flL A2 D.1.length c2 D.2) rfl Tryz.underlying34 rfl (by kernel_rfl) ?_) | (refine wpList_put rfl rfl 34 _ _ rfl b 17 (flL A2 D.1.length c2 D.2) rfl rfl HMW.out.box (by kernel_rfl) (maL lk ot (q.setFl D) A2 D.1.length c2 E1 m1 k1) rfl (Nat.le_of_ble_eq_true rfl) (flL_one _ _ _ _) ?_))
      obtain ⟨W2, hW2⟩ : ∃ X, X = W.setRow b (maL lk ot (q.setFl D) A2 D.1.length c2 E1 m1 k1).toArray := ⟨_, rfl⟩
      have HM2 : Hid (MachAt W2 (fun x => S1 x ∨ wr.heap.size ≤ x) b lk ot (q.setFl D) A2 D.1.length c2 E1 m1 k1) := by
        rw [hW2]
        exact HMW.out.pods HOW.out (fun _ h => .inl h) (fun x h => .inr (HFR.out x h))
      have HT2 : Hid (Turned S w W2) := by rw [hW2]; exact turned_then HS1.out HTW.out (turned_row HMW.out _)
      have HK2 : Hid (Kept w W2) := by rw [hW2]; exact HKW.out.trans (Kept.row HMW.out.box (by decide) _)
      have HS2 : Hid (∀ x, (S1 x ∨ wr.heap.size ≤ x) → S x ∨ w.heap.size ≤ x) := fun x h => by
        rcases h with h | h
        · exact HS1.out x h
        · exact .inr (Nat.le_trans HT1.out.size h)
      rw [← hW2]
      clear hW2 HMW HOW HTW HKW KPW HBW
      have c15 : W2.cell? ⟨b, 15, none⟩ = some (.int .i64 q.e.tg) := box_cell HM2.out.box 15 _ rfl
      go_wp2_with fail
      refine (tell_any W2 _ b lk ot (q.setFl D) 0 v q.e.tg ⟨_, _, _, _, _, _, HM2.out⟩ (by have h := HB.out.1; show q.ev.length ≤ _; omega)).mono ?_
      intro e w5 hmv
      obtain ⟨rfl, ha⟩ := Amid.call HS2.out HT2.out HK2.out hmv
      have HA5 := Lib.hid ha
      clear hmv ha HM2 HT2 HK2 HS2 c15
      go_wp2
      go_roundw
      case rel => exact ⟨k + 1, _, by omega, by go_num, HA5, HE, HB2⟩
      case measure => simp [RowKit.intOf]; omega
    · go_simp
      have hbp := bel1 wr.drew (.cells #[.slice none 0 0, .int .i64 0] 34)
      have hbp' : Below wr.heap.size wr (wr.drew.alloc (.cells #[.slice none 0 0, .int .i64 0] 34)) := undrew hbp
      have HMp := Lib.hid (HM1.out.below hbp')
      have HBp := Lib.hid hbp'
      have KPp := Lib.hid (box_new wr.drew (.cells #[.slice none 0 0, .int .i64 0] 34))
      have hsz : wr.heap.size < (wr.drew.alloc (.cells #[.slice none 0 0, .int .i64 0] 34)).heap.size := by simp
      clear hbp hbp' hHeld hbd
      refine hK _ _ (by exact ⟨range_of HMp.out.box (maL_fl lk ot q A1 n1 c1 E1 m1 k1), box_cell HMp.out.box 15 _ rfl, box_cell HMp.out.box 13 _ rfl⟩) (fun hHeld => ?_)
      clear hK K
      try simp only [Act.put, pj]
      refine wpAnyH_ready (rs := [15]) (by kernel_rfl) (by simp) (AllReadyH.cons rfl (fun K hK => ?_) AllReadyH.nil)
      go_simp
      refine (CA.out A1 n1 c1 _ (by exact HMp.out.ps.podsAll) hn1).mono ?_
      rintro e w2 ⟨vv, S2, rfl, hO, hb⟩
      obtain ⟨A2, c2, rfl, ho, hs⟩ := hO.own
      have hin := hO.inn
      have HFR : Hid (∀ x, (Value.slice A2 D.1.length c2).ownBlock = some x → wr.heap.size ≤ x) := fun x h => Nat.le_trans (Nat.le_of_lt hsz) (hin x (hs x h)).1
      have HNE : Hid (∀ x, (Value.slice A2 D.1.length c2).ownBlock = some x → x ≠ wr.drew.heap.size) := fun x h e => absurd (Nat.lt_of_lt_of_le hsz (hin x (hs x h)).1) (by rw [show x = wr.heap.size from e]; exact Nat.lt_irrefl _)
      have HM3 := Lib.hid (HMp.out.below hb)
      have HB3 := Lib.hid (bel_then HBp.out hb HBp.out.size)
      have HO := Lib.hid ho
      have KP := Lib.hid (box_below KPp.out hb)
      have hP : wr.heap.size ≤ wr.drew.heap.size := Nat.le_refl _
      clear hb hO ho hs hin hHeld HMp HBp KPp hsz
      refine hK _ _ (by exact ⟨range_of HM3.out.box (maL_fl lk ot q A1 n1 c1 E1 m1 k1), box_cell HM3.out.box 15 _ rfl, box_cell HM3.out.box 13 _ rfl⟩) (fun hHeld => ?_)
      clear hK K
      try simp only [Act.put, pj]
      clear HM3
      refine tkk (i := 16) rfl ?_
      try simp only [Act.put, pj]
      refine tkk (i := 17) rfl ?_
      try simp only [Act.put, pj]
      refine tkk (i := 18) rfl ?_
      try simp only [Act.put, pj]
      refine wpAnyH_ready (rs := [20]) (by kernel_rfl) (by simp) (AllReadyH.cons rfl (fun K hK => ?_) AllReadyH.nil)
      refine wp_put rfl 34 _ _ rfl wr.drew.heap.size 0 (flL A2 D.1.length c2 D.2) rfl rfl KP.out (by kernel_rfl) (flL A2 D.1.length c2 D.2) rfl (Nat.le_of_ble_eq_true rfl) (flL_one _ _ _ _) ?_
      obtain ⟨W, hW⟩ : ∃ X, X = (w2).setRow (wr.drew.heap.size) (flL A2 D.1.length c2 D.2).toArray := ⟨_, rfl⟩
      have KPW : Hid (W.heap[wr.drew.heap.size]? = some (.cells (flL A2 D.1.length c2 D.2).toArray 34 (0, 0))) := by rw [hW]; exact row_box KP.out
      have HBW : Hid (Below wr.heap.size wr W) := by rw [hW]; exact row_below HB3.out _ _ hP HB3.out.size
      have HMW := Lib.hid (HM1.out.below HBW.out)
      have HOW : Hid (OwnP W 0 A2 D.1.length c2 D.1) := HO.out.same fun qq hq => by rw [hW]; exact setRow_other _ _ _ _ (HNE.out qq hq)
      rw [← hW]
      clear hW KP HO HNE hHeld
      refine hK _ _ (by exact ⟨range_of HMW.out.box (maL_fl lk ot q A1 n1 c1 E1 m1 k1), box_cell HMW.out.box 15 _ rfl, box_cell HMW.out.box 13 _ rfl⟩) (fun hHeld => ?_)
      clear hK K
      try simp only [Act.put, pj]
      refine tkk (i := 21) rfl ?_
      try simp only [Act.put, pj]
      refine wpAnyH_done (by kernel_rfl) ?_ _
      clear hHeld
      have HTW : Hid (Turned S w W) := HT1.out.trans (Turned.of_below HBW.out)
      have HKW : Hid (Kept w W) := HK1.out.trans (Kept.below HBW.out)
      by_cases hv0 : v = 0
      · have hq0 : (v == 0) = true := by simp [hv0]
        have HE : Hid (R = q) := by have h := HS.out; rw [if_pos hv0] at h; exact h
        clear hv0 HS HD1 CA
        go_wp2
        go_end0
        rw [HE.out]
        exact Amid.fin ⟨S1, ⟨_, _, _, _, _, _, HMW.out⟩, HS1.out, HTW.out, HKW.out⟩
      have hq0 : (v == 0) = false := by simp [hv0]
      have HE : Hid (R = Run.makeN ((q.setFl D).tell 0 v q.e.tg) (N - (k + 1))) := by have h := HS.out; rw [if_neg hv0] at h; exact h
      have HB2 : Hid (((q.setFl D).tell 0 v q.e.tg).ev.length ≤ 900000 + (k + 1) ∧ ((q.setFl D).tell 0 v q.e.tg).e.ps.length ≤ 1048576) := ⟨by have h := HB.out.1; simp [Run.tell, Run.setFl]; omega, HD1.out⟩
      clear hv0 HS HD1 CA
      go_upto_region 5 with (first | (refine wpList_get rfl 34 _ rfl (wr.drew.heap.size) 0 rfl KPW.out (flL A2 D.1.length c2 D.2) rfl Tryz.underlying34 rfl (by kernel_rfl) ?_) | (refine wpList_put rfl rfl 34 _ _ rfl b 17 (flL A2 D.1.length c2 D.2) rfl rfl HMW.out.box (by kernel_rfl) (maL lk ot (q.setFl D) A2 D.1.length c2 E1 m1 k1) rfl (Nat.le_of_ble_eq_true rfl) (flL_one _ _ _ _) ?_))
      obtain ⟨W2, hW2⟩ : ∃ X, X = W.setRow b (maL lk ot (q.setFl D) A2 D.1.length c2 E1 m1 k1).toArray := ⟨_, rfl⟩
      have HM2 : Hid (MachAt W2 (fun x => S1 x ∨ wr.heap.size ≤ x) b lk ot (q.setFl D) A2 D.1.length c2 E1 m1 k1) := by
        rw [hW2]
        exact HMW.out.pods HOW.out (fun _ h => .inl h) (fun x h => .inr (HFR.out x h))
      have HT2 : Hid (Turned S w W2) := by rw [hW2]; exact turned_then HS1.out HTW.out (turned_row HMW.out _)
      have HK2 : Hid (Kept w W2) := by rw [hW2]; exact HKW.out.trans (Kept.row HMW.out.box (by decide) _)
      have HS2 : Hid (∀ x, (S1 x ∨ wr.heap.size ≤ x) → S x ∨ w.heap.size ≤ x) := fun x h => by
        rcases h with h | h
        · exact HS1.out x h
        · exact .inr (Nat.le_trans HT1.out.size h)
      rw [← hW2]
      clear hW2 HMW HOW HTW HKW KPW HBW
      have c15 : W2.cell? ⟨b, 15, none⟩ = some (.int .i64 q.e.tg) := box_cell HM2.out.box 15 _ rfl
      go_wp2_with fail
      refine (tell_any W2 _ b lk ot (q.setFl D) 0 v q.e.tg ⟨_, _, _, _, _, _, HM2.out⟩ (by have h := HB.out.1; show q.ev.length ≤ _; omega)).mono ?_
      intro e w5 hmv
      obtain ⟨rfl, ha⟩ := Amid.call HS2.out HT2.out HK2.out hmv
      have HA5 := Lib.hid ha
      clear hmv ha HM2 HT2 HK2 HS2 c15
      go_wp2
      go_roundw
      case rel => exact ⟨k + 1, _, by omega, by go_num, HA5, HE, HB2⟩
      case measure => simp [RowKit.intOf]; omega
end Go.Proofs.YtklgjjmcflgjeaaGreat.Mach
namespace Go.Proofs.YtklgjjmcflgjeaaGreat.Mach
open Go.ChangeShapes Go.WideShapes Go.ChangeAt Go.RowKit
open LK Pods EngV EngCnt Eng Seg
theorem run_store_func {P : Program} {w : World} {a : Addr} {m : Mode} (f : Fn) (x y : Array Value) : (store a (.func f x y) m).run P w = stored P w a (.func f x y) m := run_store P w a _ m rfl
attribute [local go_sem] run_store_func
def IdsOk (ps : PList) : Prop := ∀ p ∈ ps, (Lit.int .i64 p.1).wf = true
theorem go_shape (d : PList × Int) (id now : Int) : (Crew.goD d id now).1 = d.1 ∨ ∃ p, p ∈ d.1 ∧ (Crew.goD d id now).1 = FleetV.setP (p.1, p.2.1, 4, p.2.2.2.1, now) d.1 := by
  cases e : Crew.goP d id now with
  | none => left; rw [(Crew.go_no e).1]
  | some p =>
    right
    rw [(Crew.go_yes e).1]
    unfold Crew.goP at e
    split at e
    · split at e
      · rename_i p0 h0
        split at e
        · cases e
        · injection e with e
          exact ⟨p0, (FleetV.fnd_mem h0).1, by rw [← e]⟩
      · cases e
    · cases e
theorem drop_ids (r : Run) (p : Pd) (h : IdsOk r.e.ps) : IdsOk (r.drop p).e.ps := by
  show IdsOk (Crew.goD r.fl p.1 r.e.now).1
  rcases go_shape r.fl p.1 r.e.now with e | ⟨p0, h0, e⟩
  · rw [e]; exact h
  · rw [e]
    intro q hq
    rcases FleetV.mem_setP hq with rfl | hq
    · exact h p0 h0
    · exact h q hq
theorem drop_len (r : Run) (p : Pd) : (r.drop p).e.ps.length = r.e.ps.length := by
  show (Crew.goD r.fl p.1 r.e.now).1.length = _
  rcases go_shape r.fl p.1 r.e.now with e | ⟨p0, h0, e⟩
  · rw [e]; rfl
  · rw [e, FleetV.len_setP]; rfl
structure Like (q o : Run) (k : Nat) : Prop where
  sp : o.e.sp = q.e.sp
  tg : o.e.tg = q.e.tg
  now : o.e.now = q.e.now
  len : o.e.ps.length = q.e.ps.length
  ev : o.ev.length ≤ q.ev.length + k
  ids : IdsOk q.e.ps → IdsOk o.e.ps
theorem dropN_like (f : Pd → Bool) : ∀ (ps : PList) (q : Run) (m : Int), Like q (q.dropN f m ps).1 ps.length ∧ min 0 m ≤ (q.dropN f m ps).2 ∧ (q.dropN f m ps).2 ≤ m
  | [], q, m => ⟨⟨rfl, rfl, rfl, rfl, Nat.le_refl _, id⟩, Int.min_le_right _ _, Int.le_refl _⟩
  | p :: ps, q, m => by
    unfold Run.dropN
    split
    · rename_i hc
      have hm : 0 < m := by simp only [Bool.and_eq_true, decide_eq_true_eq] at hc; exact hc.1
      obtain ⟨h, h1, h2⟩ := dropN_like f ps (q.drop p) (m - 1)
      refine ⟨⟨h.sp, h.tg, h.now, h.len.trans (drop_len q p), ?_, fun hi => h.ids (drop_ids q p hi)⟩, by omega, by omega⟩
      have := h.ev
      rw [drop_ev] at this
      simp only [List.length_cons]
      omega
    · obtain ⟨h, h1, h2⟩ := dropN_like f ps q m
      exact ⟨⟨h.sp, h.tg, h.now, h.len, by have := h.ev; simp only [List.length_cons]; omega, h.ids⟩, h1, h2⟩
theorem dropF_like (f : Pd → Bool) (q : Run) (m : Int) : Like q (q.dropF f m).1 q.e.ps.length ∧ min 0 m ≤ (q.dropF f m).2 ∧ (q.dropF f m).2 ≤ m := dropN_like f q.e.ps q m
theorem Mach.tight {w : World} {S : Nat → Prop} {b : Nat} {lk ot : Int} {r : Run} (h : Mach w S b lk ot r) : Mach w (fun k => S k ∧ k < w.heap.size) b lk ot r := by
  obtain ⟨A, n, c, E, m, k, h⟩ := h
  exact ⟨A, n, c, E, m, k, h.box, h.ps, h.ev, ⟨h.sb, h.lt⟩, fun q hq => ⟨h.sa q hq, (h.ps.lt q hq).2⟩, fun q hq => ⟨h.se q hq, (h.ev.2.lt q hq).2⟩⟩
theorem amid_box {V W : World} {S : Nat → Prop} {b : Nat} {lk ot : Int} {q : Run} {k : Nat} {o : Obj} (h : Amid V S b lk ot q W) (hn : ¬ S k) (hb : V.heap[k]? = some o) : W.heap[k]? = some o := by
  obtain ⟨_, _, _, hT, _⟩ := h
  exact (hT.block k (box_lt hb) hn).trans hb
theorem Amid.then {V W W2 : World} {S S1 : Nat → Prop} {b : Nat} {lk ot : Int} {q' : Run} (h2 : ∀ k, S1 k → S k ∨ V.heap.size ≤ k) (h3 : Turned S V W) (h4 : Kept V W) (h : Amid W S1 b lk ot q' W2) : Amid V S b lk ot q' W2 :=
  (Amid.call h2 h3 h4 (Amid.fin (res := .tuple #[]) h)).2
theorem dropStep (V W : World) (S : Nat → Prop) (b : Nat) (lk ot : Int) (r q : Run) (nn : Int) (F : Nat) (caps : List Value) (f : Pd → Bool) (h : Amid V S b lk ot q W) (hl : Like r q 4000) (hr : r.ev.length ≤ 800000 ∧ r.e.ps.length ≤ 1000 ∧ IdsOk r.e.ps) (hnn : -1000 ≤ nn ∧ nn ≤ 1000)
    (eg : ∀ args w, (callFunc F args).run Tryz.prog w = .ok (.enter F args) w) (hw : ∀ (W : World) (q : Run) (y0 y1 y2 y3 y4 : Int), Amid V S b lk ot q W → q.e.sp = r.e.sp ∧ q.e.tg = r.e.tg ∧ q.e.now = r.e.now → Calls Tryz.prog F (.agg #[.int .i64 y0, .int .i64 y1, .int .i64 y2, .int .i64 y3, .int .i64 y4] :: caps).toArray W (Says (.bool (f (y0, y1, y2, y3, y4))) W)) :
    Calls Tryz.prog 249 #[.pointer (some ⟨b, 0, none⟩), .int .i64 nn, .func (.func F) #[] caps.toArray] W (fun e w' => e = .returned (.int .i64 (q.dropF f nn).2) ∧ Amid V S b lk ot (q.dropF f nn).1 w') := by
  obtain ⟨S1, hm, h2, h3, h4⟩ := h
  refine (dropFirst_any W S1 b lk ot q nn F caps f hm (by have := hl.ev; omega) (by rw [hl.len]; exact hr.2.1) hnn (hl.ids hr.2.2) eg (fun W' q' y0 y1 y2 y3 y4 ha he => hw W' q' y0 y1 y2 y3 y4 (Amid.then h2 h3 h4 ha) ⟨he.1.trans hl.sp, he.2.1.trans hl.tg, he.2.2.trans hl.now⟩)).mono ?_
  rintro e w' ⟨he, ha⟩
  exact ⟨he, Amid.then h2 h3 h4 ha⟩
set_option maxRecDepth 100000 in
set_option maxHeartbeats 12800000 in
theorem carryOut_any (w : World) (S : Nat → Prop) (b : Nat) (lk ot : Int) (r : Run) (N : Nat) (dr da df : Int) (h : Mach w S b lk ot r) (hr : r.ev.length ≤ 800000 ∧ r.e.ps.length ≤ 1000 ∧ IdsOk r.e.ps) (hN : N ≤ 1000) (hdr : 0 ≤ dr ∧ dr ≤ 1000) (hda : 0 ≤ da ∧ da ≤ 1000) (hdf : 0 ≤ df ∧ df ≤ 1000) :
    Calls Tryz.prog 230 #[.pointer (some ⟨b, 0, none⟩), .agg #[.int .i64 (N : Int), .int .i64 dr, .int .i64 da, .int .i64 df]] w (Moved b lk ot (r.carry N dr da df) (.tuple #[]) S w) := by
  obtain ⟨R, hR⟩ : ∃ R, R = r.carry N dr da df := ⟨_, rfl⟩
  rw [← hR]
  have HRR := Lib.hid hR
  clear hR
  obtain ⟨St, hSt⟩ : ∃ St : Nat → Prop, St = fun k => S k ∧ k < w.heap.size := ⟨_, rfl⟩
  have HST := Lib.hid hSt
  have ht := h.tight
  rw [← hSt] at ht
  clear hSt h
  have hbs : b < w.heap.size := by obtain ⟨A, n, c, E, m, k, h⟩ := ht; exact h.lt
  obtain ⟨V0, hV0⟩ : ∃ V, V = (w.alloc (.cells #[.pointer (some ⟨b, 0, none⟩)] 73)).alloc (.cells #[.int .i64 (N : Int), .int .i64 dr, .int .i64 da, .int .i64 df] 237) := ⟨_, rfl⟩
  have HB0 : Hid (Below w.heap.size w V0) := by rw [hV0]; exact bel2 w _ _
  have KM0 : Hid (V0.heap[w.heap.size]? = some (.cells #[.pointer (some ⟨b, 0, none⟩)] 73 (0, 0))) := by rw [hV0]; exact box_alloc (box_new w _) _
  have KP0 : Hid (V0.heap[w.heap.size + 1]? = some (.cells #[.int .i64 (N : Int), .int .i64 dr, .int .i64 da, .int .i64 df] 237 (0, 0))) := by rw [hV0]; have h := box_new (w.alloc (.cells #[.pointer (some ⟨b, 0, none⟩)] 73)) (.cells #[.int .i64 (N : Int), .int .i64 dr, .int .i64 da, .int .i64 df] 237); simp only [World.size_alloc] at h; exact h
  go_enter Tryz.func230, Tryz.ntmps230
  go_upto_region 1 with fail
  rw [← hV0]
  clear hV0
  obtain ⟨Bm, hBm⟩ : ∃ k, k = w.heap.size := ⟨_, rfl⟩
  rw [← hBm] at KM0 KP0
  rw [← hBm]
  have HBM := Lib.hid hBm
  have hsm : Bm + 1 < V0.heap.size := box_lt KP0.out
  clear hBm
  have z1 : (V0.alloc (.cells #[.nilFunc] 220)).cell? ⟨V0.heap.size, 0, none⟩ = some .nilFunc := box_cell (box_new V0 _) 0 _ rfl
  have x1 := box_frozen (box_new V0 (.cells #[.nilFunc] 220)) 0
  go_upto_region 2 with fail
  obtain ⟨V1, hV1⟩ : ∃ X, X = V0.alloc (.cells #[(.func (.func 247) #[] #[.pointer (some ⟨Bm, 0, none⟩)])] 220) := ⟨_, rfl⟩
  have HB1 : Hid (Below w.heap.size w V1) := by rw [hV1]; exact bel_then HB0.out (bel1 V0 _) HB0.out.size
  have KM1 : Hid (V1.heap[Bm]? = some (.cells #[.pointer (some ⟨b, 0, none⟩)] 73 (0, 0))) := by rw [hV1]; exact box_alloc KM0.out _
  have KP1 : Hid (V1.heap[Bm + 1]? = some (.cells #[.int .i64 (N : Int), .int .i64 dr, .int .i64 da, .int .i64 df] 237 (0, 0))) := by rw [hV1]; exact box_alloc KP0.out _
  have K41 : Hid (V1.heap[V0.heap.size]? = some (.cells #[(.func (.func 247) #[] #[.pointer (some ⟨Bm, 0, none⟩)])] 220 (0, 0))) := by rw [hV1]; exact box_new V0 _
  rw [← hV1]
  clear hV1 z1 x1 KM0 KP0
  obtain ⟨B4, hB4⟩ : ∃ k, k = V0.heap.size := ⟨_, rfl⟩
  rw [← hB4] at K41 hsm
  rw [← hB4]
  have hw4 : w.heap.size ≤ B4 := by rw [hB4]; exact HB0.out.size
  clear hB4 HB0
  have hsm1 : B4 < V1.heap.size := box_lt K41.out
  have z1 : (V1.alloc (.cells #[.nilFunc] 220)).cell? ⟨V1.heap.size, 0, none⟩ = some .nilFunc := box_cell (box_new V1 _) 0 _ rfl
  have x1 := box_frozen (box_new V1 (.cells #[.nilFunc] 220)) 0
  go_upto_region 3 with fail
  obtain ⟨V, hV⟩ : ∃ X, X = V1.alloc (.cells #[(.func (.func 248) #[] #[.pointer (some ⟨Bm, 0, none⟩)])] 220) := ⟨_, rfl⟩
  have hbV : Below w.heap.size w V := by rw [hV]; exact bel_then HB1.out (bel1 V1 _) HB1.out.size
  have KM : Hid (V.heap[Bm]? = some (.cells #[.pointer (some ⟨b, 0, none⟩)] 73 (0, 0))) := by rw [hV]; exact box_alloc KM1.out _
  have KP : Hid (V.heap[Bm + 1]? = some (.cells #[.int .i64 (N : Int), .int .i64 dr, .int .i64 da, .int .i64 df] 237 (0, 0))) := by rw [hV]; exact box_alloc KP1.out _
  have K4 : Hid (V.heap[B4]? = some (.cells #[(.func (.func 247) #[] #[.pointer (some ⟨Bm, 0, none⟩)])] 220 (0, 0))) := by rw [hV]; exact box_alloc K41.out _
  have K5 : Hid (V.heap[V1.heap.size]? = some (.cells #[(.func (.func 248) #[] #[.pointer (some ⟨Bm, 0, none⟩)])] 220 (0, 0))) := by rw [hV]; exact box_new V1 _
  rw [← hV]
  clear hV z1 x1 KM1 KP1 K41
  obtain ⟨B5, hB5⟩ : ∃ k, k = V1.heap.size := ⟨_, rfl⟩
  rw [← hB5] at K5
  rw [← hB5]
  have hw5 : w.heap.size ≤ B5 := by rw [hB5]; exact HB1.out.size
  clear hB5 HB1 hsm hsm1
  have hns : ∀ j, w.heap.size ≤ j → ¬ St j := fun j h hj => by rw [HST.out] at hj; have := hj.2; omega
  have nm : ¬ St Bm := hns Bm (by rw [HBM.out]; exact Nat.le_refl _)
  have np : ¬ St (Bm + 1) := hns (Bm + 1) (by rw [HBM.out]; omega)
  have n4 : ¬ St B4 := hns B4 hw4
  have n5 : ¬ St B5 := hns B5 hw5
  have HA0 := Lib.hid (Amid.start (ht.below hbV))
  have HVB := Lib.hid hbV
  have HRB := Lib.hid hr
  clear hns ht hbV hr hw4 hw5
  have G3 : Hid (∀ (W : World) (q : Run) (y0 y1 y2 y3 y4 : Int), Amid V St b lk ot q W → q.e.sp = r.e.sp ∧ q.e.tg = r.e.tg ∧ q.e.now = r.e.now → Calls Tryz.prog 250 (.agg #[.int .i64 y0, .int .i64 y1, .int .i64 y2, .int .i64 y3, .int .i64 y4] :: [.pointer (some ⟨B4, 0, none⟩), .pointer (some ⟨B5, 0, none⟩)]).toArray W (Says (.bool ((fun p : Pd => !decide (p.2.1 = r.e.tg) && !avP r.e.sp r.e.now p) (y0, y1, y2, y3, y4))) W)) := fun W q y0 y1 y2 y3 y4 ha he => by
    have hm := ha.choose_spec.1
    show Calls _ _ _ _ (Says (.bool (!decide (y1 = r.e.tg) && !avP r.e.sp r.e.now (y0, y1, y2, y3, y4))) W)
    rw [← he.1, ← he.2.1, ← he.2.2]
    exact dropA_any W _ b Bm B4 B5 lk ot q y0 y1 y2 y3 y4 hm (box_cell (amid_box ha nm KM.out) 0 _ rfl) (box_cell (amid_box ha n4 K4.out) 0 _ rfl) (box_cell (amid_box ha n5 K5.out) 0 _ rfl)
  have G4 : Hid (∀ (W : World) (q : Run) (y0 y1 y2 y3 y4 : Int), Amid V St b lk ot q W → q.e.sp = r.e.sp ∧ q.e.tg = r.e.tg ∧ q.e.now = r.e.now → Calls Tryz.prog 251 (.agg #[.int .i64 y0, .int .i64 y1, .int .i64 y2, .int .i64 y3, .int .i64 y4] :: [.pointer (some ⟨B4, 0, none⟩), .pointer (some ⟨B5, 0, none⟩)]).toArray W (Says (.bool ((fun p : Pd => !decide (p.2.1 = r.e.tg) && avP r.e.sp r.e.now p) (y0, y1, y2, y3, y4))) W)) := fun W q y0 y1 y2 y3 y4 ha he => by
    have hm := ha.choose_spec.1
    show Calls _ _ _ _ (Says (.bool (!decide (y1 = r.e.tg) && avP r.e.sp r.e.now (y0, y1, y2, y3, y4))) W)
    rw [← he.1, ← he.2.1, ← he.2.2]
    exact dropB_any W _ b Bm B4 B5 lk ot q y0 y1 y2 y3 y4 hm (box_cell (amid_box ha nm KM.out) 0 _ rfl) (box_cell (amid_box ha n4 K4.out) 0 _ rfl) (box_cell (amid_box ha n5 K5.out) 0 _ rfl)
  have G5 : Hid (∀ (W : World) (q : Run) (y0 y1 y2 y3 y4 : Int), Amid V St b lk ot q W → q.e.sp = r.e.sp ∧ q.e.tg = r.e.tg ∧ q.e.now = r.e.now → Calls Tryz.prog 252 (.agg #[.int .i64 y0, .int .i64 y1, .int .i64 y2, .int .i64 y3, .int .i64 y4] :: [.pointer (some ⟨B4, 0, none⟩), .pointer (some ⟨B5, 0, none⟩)]).toArray W (Says (.bool ((fun p : Pd => decide (p.2.1 = r.e.tg) && !avP r.e.sp r.e.now p) (y0, y1, y2, y3, y4))) W)) := fun W q y0 y1 y2 y3 y4 ha he => by
    have hm := ha.choose_spec.1
    show Calls _ _ _ _ (Says (.bool (decide (y1 = r.e.tg) && !avP r.e.sp r.e.now (y0, y1, y2, y3, y4))) W)
    rw [← he.1, ← he.2.1, ← he.2.2]
    exact dropC_any W _ b Bm B4 B5 lk ot q y0 y1 y2 y3 y4 hm (box_cell (amid_box ha nm KM.out) 0 _ rfl) (box_cell (amid_box ha n4 K4.out) 0 _ rfl) (box_cell (amid_box ha n5 K5.out) 0 _ rfl)
  have G1 : Hid (∀ (W : World) (q : Run) (y0 y1 y2 y3 y4 : Int), Amid V St b lk ot q W → q.e.sp = r.e.sp ∧ q.e.tg = r.e.tg ∧ q.e.now = r.e.now → Calls Tryz.prog 247 (.agg #[.int .i64 y0, .int .i64 y1, .int .i64 y2, .int .i64 y3, .int .i64 y4] :: [.pointer (some ⟨Bm, 0, none⟩)]).toArray W (Says (.bool ((fun p : Pd => decide (p.2.1 = r.e.tg)) (y0, y1, y2, y3, y4))) W)) := fun W q y0 y1 y2 y3 y4 ha he => by
    have hm := ha.choose_spec.1
    show Calls _ _ _ _ (Says (.bool (decide (y1 = r.e.tg))) W)
    rw [← he.2.1]
    exact fresh_any W _ b Bm lk ot q y0 y1 y2 y3 y4 hm (box_cell (amid_box ha nm KM.out) 0 _ rfl)
  have HL0 : Hid (Like r r 0) := ⟨rfl, rfl, rfl, rfl, Nat.le_refl _, id⟩
  obtain ⟨q0, hq0⟩ : ∃ q, q = r := ⟨_, rfl⟩
  rw [← hq0] at HA0
  have HL0 : Hid (Like r q0 0) := by rw [hq0]; exact ⟨rfl, rfl, rfl, rfl, Nat.le_refl _, id⟩
  have HQ0 := Lib.hid hq0
  clear hq0
  have c0m : V.cell? ⟨Bm, 0, none⟩ = some (.pointer (some ⟨b, 0, none⟩)) := box_cell (amid_box HA0.out nm KM.out) 0 _ rfl
  have c01 : V.cell? ⟨Bm + 1, 1, none⟩ = some (.int .i64 dr) := box_cell (amid_box HA0.out np KP.out) 1 _ rfl
  have c02 : V.cell? ⟨Bm + 1, 2, none⟩ = some (.int .i64 da) := box_cell (amid_box HA0.out np KP.out) 2 _ rfl
  have c03 : V.cell? ⟨Bm + 1, 3, none⟩ = some (.int .i64 df) := box_cell (amid_box HA0.out np KP.out) 3 _ rfl
  have c04 : V.cell? ⟨B4, 0, none⟩ = some (.func (.func 247) #[] #[.pointer (some ⟨Bm, 0, none⟩)]) := box_cell (amid_box HA0.out n4 K4.out) 0 _ rfl
  go_wp2_with fail
  refine (dropStep V V St b lk ot r q0 dr _ [.pointer (some ⟨B4, 0, none⟩), .pointer (some ⟨B5, 0, none⟩)] (fun p => !decide (p.2.1 = r.e.tg) && !avP r.e.sp r.e.now p) HA0.out (by have h := HL0.out; have := h.ev; have := HRB.out.2.1; exact ⟨h.sp, h.tg, h.now, h.len, by omega, h.ids⟩) HRB.out (by omega) (enters_of Tryz.func250 (by kernel_rfl) rfl) G3.out).mono ?_
  rintro e w1 ⟨rfl, ha⟩
  have HD0 := Lib.hid (dropF_like (fun p => !decide (p.2.1 = r.e.tg) && !avP r.e.sp r.e.now p) q0 dr)
  obtain ⟨o0, ho0⟩ : ∃ o, o = q0.dropF (fun p => !decide (p.2.1 = r.e.tg) && !avP r.e.sp r.e.now p) dr := ⟨_, rfl⟩
  rw [← ho0] at ha HD0
  rw [← ho0]
  obtain ⟨q1, lf0⟩ := o0
  have HO0 : Hid ((q1, lf0) = q0.dropF (fun p => !decide (p.2.1 = r.e.tg) && !avP r.e.sp r.e.now p) dr) := ho0
  have HA1 : Hid (Amid V St b lk ot q1 w1) := ha
  have HL1 : Hid (Like r q1 1000) := by
    have h := HL0.out
    have h2 := HD0.out.1
    have h3 : q1.ev.length ≤ q0.ev.length + q0.e.ps.length := h2.ev
    have h4 := h.ev
    have h5 := h.len
    have h6 := HRB.out.2.1
    exact ⟨h2.sp.trans h.sp, h2.tg.trans h.tg, h2.now.trans h.now, h2.len.trans h.len, by omega, fun hi => h2.ids (h.ids hi)⟩
  clear ha ho0 HD0 HA0 HL0 c0m c01 c02 c03 c04 G3
  have c1m : w1.cell? ⟨Bm, 0, none⟩ = some (.pointer (some ⟨b, 0, none⟩)) := box_cell (amid_box HA1.out nm KM.out) 0 _ rfl
  have c11 : w1.cell? ⟨Bm + 1, 1, none⟩ = some (.int .i64 dr) := box_cell (amid_box HA1.out np KP.out) 1 _ rfl
  have c12 : w1.cell? ⟨Bm + 1, 2, none⟩ = some (.int .i64 da) := box_cell (amid_box HA1.out np KP.out) 2 _ rfl
  have c13 : w1.cell? ⟨Bm + 1, 3, none⟩ = some (.int .i64 df) := box_cell (amid_box HA1.out np KP.out) 3 _ rfl
  have c14 : w1.cell? ⟨B4, 0, none⟩ = some (.func (.func 247) #[] #[.pointer (some ⟨Bm, 0, none⟩)]) := box_cell (amid_box HA1.out n4 K4.out) 0 _ rfl
  go_wp2_with fail
  refine (dropStep V w1 St b lk ot r q1 da _ [.pointer (some ⟨B4, 0, none⟩), .pointer (some ⟨B5, 0, none⟩)] (fun p => !decide (p.2.1 = r.e.tg) && avP r.e.sp r.e.now p) HA1.out (by have h := HL1.out; have := h.ev; have := HRB.out.2.1; exact ⟨h.sp, h.tg, h.now, h.len, by omega, h.ids⟩) HRB.out (by omega) (enters_of Tryz.func251 (by kernel_rfl) rfl) G4.out).mono ?_
  rintro e w2 ⟨rfl, ha⟩
  have HD1 := Lib.hid (dropF_like (fun p => !decide (p.2.1 = r.e.tg) && avP r.e.sp r.e.now p) q1 da)
  obtain ⟨o1, ho1⟩ : ∃ o, o = q1.dropF (fun p => !decide (p.2.1 = r.e.tg) && avP r.e.sp r.e.now p) da := ⟨_, rfl⟩
  rw [← ho1] at ha HD1
  rw [← ho1]
  obtain ⟨q2, lf1⟩ := o1
  have HO1 : Hid ((q2, lf1) = q1.dropF (fun p => !decide (p.2.1 = r.e.tg) && avP r.e.sp r.e.now p) da) := ho1
  have HA2 : Hid (Amid V St b lk ot q2 w2) := ha
  have HL2 : Hid (Like r q2 2000) := by
    have h := HL1.out
    have h2 := HD1.out.1
    have h3 : q2.ev.length ≤ q1.ev.length + q1.e.ps.length := h2.ev
    have h4 := h.ev
    have h5 := h.len
    have h6 := HRB.out.2.1
    exact ⟨h2.sp.trans h.sp, h2.tg.trans h.tg, h2.now.trans h.now, h2.len.trans h.len, by omega, fun hi => h2.ids (h.ids hi)⟩
  clear ha ho1 HD1 HA1 HL1 c1m c11 c12 c13 c14 G4
  have c2m : w2.cell? ⟨Bm, 0, none⟩ = some (.pointer (some ⟨b, 0, none⟩)) := box_cell (amid_box HA2.out nm KM.out) 0 _ rfl
  have c21 : w2.cell? ⟨Bm + 1, 1, none⟩ = some (.int .i64 dr) := box_cell (amid_box HA2.out np KP.out) 1 _ rfl
  have c22 : w2.cell? ⟨Bm + 1, 2, none⟩ = some (.int .i64 da) := box_cell (amid_box HA2.out np KP.out) 2 _ rfl
  have c23 : w2.cell? ⟨Bm + 1, 3, none⟩ = some (.int .i64 df) := box_cell (amid_box HA2.out np KP.out) 3 _ rfl
  have c24 : w2.cell? ⟨B4, 0, none⟩ = some (.func (.func 247) #[] #[.pointer (some ⟨Bm, 0, none⟩)]) := box_cell (amid_box HA2.out n4 K4.out) 0 _ rfl
  go_wp2_with fail
  refine (dropStep V w2 St b lk ot r q2 df _ [.pointer (some ⟨B4, 0, none⟩), .pointer (some ⟨B5, 0, none⟩)] (fun p => decide (p.2.1 = r.e.tg) && !avP r.e.sp r.e.now p) HA2.out (by have h := HL2.out; have := h.ev; have := HRB.out.2.1; exact ⟨h.sp, h.tg, h.now, h.len, by omega, h.ids⟩) HRB.out (by omega) (enters_of Tryz.func252 (by kernel_rfl) rfl) G5.out).mono ?_
  rintro e w3 ⟨rfl, ha⟩
  have HD2 := Lib.hid (dropF_like (fun p => decide (p.2.1 = r.e.tg) && !avP r.e.sp r.e.now p) q2 df)
  obtain ⟨o2, ho2⟩ : ∃ o, o = q2.dropF (fun p => decide (p.2.1 = r.e.tg) && !avP r.e.sp r.e.now p) df := ⟨_, rfl⟩
  rw [← ho2] at ha HD2
  rw [← ho2]
  obtain ⟨q3, lf2⟩ := o2
  have HO2 : Hid ((q3, lf2) = q2.dropF (fun p => decide (p.2.1 = r.e.tg) && !avP r.e.sp r.e.now p) df) := ho2
  have HA3 : Hid (Amid V St b lk ot q3 w3) := ha
  have HL3 : Hid (Like r q3 3000) := by
    have h := HL2.out
    have h2 := HD2.out.1
    have h3 : q3.ev.length ≤ q2.ev.length + q2.e.ps.length := h2.ev
    have h4 := h.ev
    have h5 := h.len
    have h6 := HRB.out.2.1
    exact ⟨h2.sp.trans h.sp, h2.tg.trans h.tg, h2.now.trans h.now, h2.len.trans h.len, by omega, fun hi => h2.ids (h.ids hi)⟩
  obtain ⟨lf, hlf⟩ : ∃ x, x = lf2 := ⟨_, rfl⟩
  rw [← hlf] at HO2 HD2
  have HLF : Hid (-1000 ≤ lf ∧ lf ≤ 1000) := by have h := HD2.out.2; exact ⟨by have := h.1; simp at this; omega, by have := h.2; simp at this; omega⟩
  show _
  simp only [← hlf]
  clear hlf
  clear ha ho2 HD2 HA2 HL2 c2m c21 c22 c23 c24 G5
  have c3m : w3.cell? ⟨Bm, 0, none⟩ = some (.pointer (some ⟨b, 0, none⟩)) := box_cell (amid_box HA3.out nm KM.out) 0 _ rfl
  have c31 : w3.cell? ⟨Bm + 1, 1, none⟩ = some (.int .i64 dr) := box_cell (amid_box HA3.out np KP.out) 1 _ rfl
  have c32 : w3.cell? ⟨Bm + 1, 2, none⟩ = some (.int .i64 da) := box_cell (amid_box HA3.out np KP.out) 2 _ rfl
  have c33 : w3.cell? ⟨Bm + 1, 3, none⟩ = some (.int .i64 df) := box_cell (amid_box HA3.out np KP.out) 3 _ rfl
  have c34 : w3.cell? ⟨B4, 0, none⟩ = some (.func (.func 247) #[] #[.pointer (some ⟨Bm, 0, none⟩)]) := box_cell (amid_box HA3.out n4 K4.out) 0 _ rfl
  go_wp2_with fail
  refine (dropStep V w3 St b lk ot r q3 lf _ [.pointer (some ⟨Bm, 0, none⟩)] (fun p => decide (p.2.1 = r.e.tg)) HA3.out (by have h := HL3.out; have := h.ev; have := HRB.out.2.1; exact ⟨h.sp, h.tg, h.now, h.len, by omega, h.ids⟩) HRB.out (HLF.out) (enters_of Tryz.func247 (by kernel_rfl) rfl) G1.out).mono ?_
  rintro e w4 ⟨rfl, ha⟩
  have HD3 := Lib.hid (dropF_like (fun p => decide (p.2.1 = r.e.tg)) q3 lf)
  obtain ⟨o3, ho3⟩ : ∃ o, o = q3.dropF (fun p => decide (p.2.1 = r.e.tg)) lf := ⟨_, rfl⟩
  rw [← ho3] at ha HD3
  rw [← ho3]
  obtain ⟨q4, lf3⟩ := o3
  have HO3 : Hid ((q4, lf3) = q3.dropF (fun p => decide (p.2.1 = r.e.tg)) lf) := ho3
  have HA4 : Hid (Amid V St b lk ot q4 w4) := ha
  have HL4 : Hid (Like r q4 4000) := by
    have h := HL3.out
    have h2 := HD3.out.1
    have h3 : q4.ev.length ≤ q3.ev.length + q3.e.ps.length := h2.ev
    have h4 := h.ev
    have h5 := h.len
    have h6 := HRB.out.2.1
    exact ⟨h2.sp.trans h.sp, h2.tg.trans h.tg, h2.now.trans h.now, h2.len.trans h.len, by omega, fun hi => h2.ids (h.ids hi)⟩
  clear ha ho3 HD3 HA3 HL3 c3m c31 c32 c33 c34 G1
  obtain ⟨S4, hm4, hs4, ht4, hk4⟩ := HA4.out
  obtain ⟨A4, n4', c4', E4, m4, k4, h4⟩ := hm4
  have HM4 := Lib.hid h4
  have HS4 := Lib.hid hs4
  have HT4 := Lib.hid ht4
  have HK4 := Lib.hid hk4
  clear hs4 ht4 hk4 h4
  have cm : w4.cell? ⟨Bm, 0, none⟩ = some (.pointer (some ⟨b, 0, none⟩)) := box_cell (amid_box HA4.out nm KM.out) 0 _ rfl
  have cp : w4.drew.cell? ⟨Bm + 1, 0, none⟩ = some (.int .i64 (N : Int)) := box_cell (amid_box HA4.out np KP.out) 0 _ rfl
  obtain ⟨g, hg⟩ : ∃ g, decide (q4.e.wt ≤ q4.e.now) = g := ⟨_, rfl⟩
  go_wp2_with fail
  refine wp_region_held_drew (S := fun w' => w'.cell? ⟨Bm, 0, none⟩ = some (.pointer (some ⟨b, 0, none⟩)) ∧ w'.cell? ⟨b, 13, none⟩ = some (.int .i64 q4.e.now) ∧ w'.cell? ⟨b, 21, none⟩ = some (.int .i64 q4.e.wt)) (by kernel_rfl) ⟨cm, box_cell HM4.out.box 13 _ rfl, box_cell HM4.out.box 21 _ rfl⟩ (fun hHeld => ?_)
  refine tkk (i := 0) rfl ?_
  try simp only [Act.put, pj]
  refine tkk (i := 1) rfl ?_
  try simp only [Act.put, pj]
  refine tkk (i := 2) rfl ?_
  try simp only [Act.put, pj]
  refine tkk (i := 3) rfl ?_
  try simp only [Act.put, pj]
  refine tkk (i := 4) rfl ?_
  try simp only [Act.put, pj]
  refine tkk (i := 5) rfl ?_
  try simp only [Act.put, pj]
  refine tkk (i := 6) rfl ?_
  try simp only [Act.put, pj]
  refine tkk (i := 7) rfl ?_
  try simp only [Act.put, pj]
  refine tkk (i := 8) rfl ?_
  try simp only [Act.put, pj]
  refine tkk (i := 9) rfl ?_
  try simp only [Act.put, pj]
  refine tkk (i := 10) rfl ?_
  try simp only [Act.put, pj]
  refine wpAnyH_done (by kernel_rfl) ?_ _
  clear hHeld
  have hbd : Below w4.heap.size w4 w4.drew := undrew (Below.refl _ _)
  have HR4 : Hid (R = if q4.e.wt ≤ q4.e.now then q4.makeN N else q4) := by
    show _ = _
    have e0 : q1 = (r.dropF (fun p => !decide (p.2.1 = r.e.tg) && !avP r.e.sp r.e.now p) dr).1 := by have h := congrArg Prod.fst HO0.out; rw [show q0 = r from HQ0.out] at h; exact h
    have e1 : q2 = (q1.dropF (fun p => !decide (p.2.1 = r.e.tg) && avP r.e.sp r.e.now p) da).1 := by rw [← HO1.out]
    have e2 : (q3, lf) = q2.dropF (fun p => decide (p.2.1 = r.e.tg) && !avP r.e.sp r.e.now p) df := HO2.out
    have e3 : q4 = (q3.dropF (fun p => decide (p.2.1 = r.e.tg)) lf).1 := by rw [← HO3.out]
    rw [HRR.out]
    unfold Run.carry
    simp only [← e0, ← e1, ← e2, ← e3, Int.toNat_natCast]
  have hfin : ∀ (Q : Run) (W : World), Amid V St b lk ot Q W → Moved b lk ot Q (.tuple #[]) S w (.returned (.tuple #[])) W := fun Q W ha => by
    obtain ⟨S5, a1, a2, a3, a4⟩ := ha
    refine ⟨rfl, S5, a1, fun k hk => ?_, ?_, (Kept.below HVB.out).trans a4⟩
    · rcases a2 k hk with h | h
      · rw [HST.out] at h; exact .inl h.1
      · exact .inr (Nat.le_trans HVB.out.size h)
    · exact (Turned.of_below HVB.out).trans (a3.wide fun k hk => by rw [HST.out] at hk; exact hk.1)
  have HFIN := Lib.hid hfin
  clear hfin
  cases g
  · have HE : Hid (R = q4) := by have h := HR4.out; rw [if_neg (of_decide_eq_false hg)] at h; exact h
    have HA5 := Lib.hid (HA4.out.below hbd)
    clear hg HR4 cm cp
    go_wp2
    go_end0
    rw [HE.out]
    exact HFIN.out _ _ HA5.out
  have HE : Hid (R = q4.makeN N) := by have h := HR4.out; rw [if_pos (of_decide_eq_true hg)] at h; exact h
  have cm' : w4.drew.cell? ⟨Bm, 0, none⟩ = some (.pointer (some ⟨b, 0, none⟩)) := cm
  clear hg HR4 cm
  go_wp2_with fail
  refine (create_any w4.drew S4 b lk ot q4 N ⟨_, _, _, _, _, _, HM4.out.below hbd⟩ (by have := HL4.out.ev; have := HRB.out.1; omega) (by rw [HL4.out.len]; have := HRB.out.2.1; omega) hN).mono ?_
  intro e w5 hmv
  obtain ⟨rfl, ha⟩ := Amid.call HS4.out (HT4.out.trans (Turned.of_below hbd)) (HK4.out.trans (Kept.below hbd)) hmv
  have HA5 := Lib.hid ha
  clear hmv ha cm' cp
  go_wp2
  go_end0
  rw [HE.out]
  exact HFIN.out _ _ HA5.out
end Go.Proofs.YtklgjjmcflgjeaaGreat.Mach
