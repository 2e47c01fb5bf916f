import Derived.Test.YtklgjjmcflgjeaaGreatQ
import Derived.Test.YtklgjjmcflgjeaaGreatS34
import Derived.Test.YtklgjjmcflgjeaaGreatS35
set_option linter.unusedVariables false
set_option linter.unusedSimpArgs false
namespace Go.Proofs.YtklgjjmcflgjeaaGreat.Mod
open Go.ChangeShapes Go.WideShapes Go.ChangeAt Go.RowKit
open LK Pods EngV Eng Seg
open Mach (OwnE own_ne rows_ne)
set_option maxRecDepth 100000 in
set_option maxHeartbeats 12800000 in
theorem delete_any (w : World) (S : Nat → Prop) (b : Nat) (r : Run) (id : Int) (h : Mod w S b r) (hl : r.ev.length ≤ 1000000) (hn : r.e.ps.length ≤ 1048576) :
    Calls Tryz.prog 183 #[.pointer (some ⟨b, 0, none⟩), .int .i64 id] w (Moved b (ModV.mdel r id) (.tuple #[]) S w) := by
  obtain ⟨A1, n1, c1, E1, m1, k1, h⟩ := h
  have hn2 : n1 ≤ 1048576 := by rw [← h.ps.1]; exact hn
  have H := Lib.hid h
  have hbw : b < w.heap.size := h.lt
  clear h hn
  obtain ⟨D, hD⟩ : ∃ D, D = Crew.goD r.fl id r.e.now := ⟨_, rfl⟩
  obtain ⟨p0, p1, p2, p3, p4, hp⟩ : ∃ p0 p1 p2 p3 p4, Crew.findP (r.e.ps, r.e.nx) id = (p0, p1, p2, p3, p4) := ⟨_, _, _, _, _, rfl⟩
  obtain ⟨q0, hq0⟩ : ∃ q0, Crew.findB (r.e.ps, r.e.nx) id = q0 := ⟨_, rfl⟩
  have HM : Hid (ModV.mdel r id = (r.setFl D).tell 1 id p1) := by show _ = _; rw [ModV.mdel, ← hD, show Crew.findP r.fl id = _ from hp]
  have HFP : Hid (Crew.podT (Crew.findP (r.e.ps, r.e.nx) id) (Crew.findB (r.e.ps, r.e.nx) id) = .tuple #[.agg #[.int .i64 p0, .int .i64 p1, .int .i64 p2, .int .i64 p3, .int .i64 p4], .bool q0]) := by show _ = _; rw [hp, hq0]; rfl
  obtain ⟨gb, hgb⟩ : ∃ gb, gb = Crew.goB (r.e.ps, r.e.nx) id r.e.now := ⟨_, rfl⟩
  have CG : Hid (∀ (A : Option Addr) (n c : Nat) (W : World), IsPods W W.heap.size A n r.e.ps → n ≤ 1048576 → Calls Tryz.prog 218 #[.agg (flL A n c r.e.nx).toArray, .int .i64 id, .int .i64 r.e.now] W (Made1 FleetTy.fty D (.bool gb) W)) := fun A n c W h1 h2 => by
    rw [hD, hgb]; exact Crew.specMarkGoing_any A n c r.e.nx id r.e.now r.e.ps W.heap.size W h1 (Nat.le_refl _) h2
  clear hp hq0 hgb
  have HD := Lib.hid hD
  clear hD
  have c15 : w.cell? ⟨b, 15, none⟩ = some (.slice A1 n1 c1) := box_cell H.out.box 15 _ rfl
  have c16 : w.cell? ⟨b, 16, none⟩ = some (.int .i64 r.e.nx) := box_cell H.out.box 16 _ rfl
  go_enter Tryz.func183, Tryz.ntmps183
  go_wp2_with fail
  refine (Crew.specFindPod_any A1 n1 c1 r.e.nx id r.e.ps w.heap.size w H.out.ps.podsAll (Nat.le_refl _) hn2).mono ?_
  rintro e w1 ⟨rfl, hb⟩
  rw [HFP.out]
  have KP : Hid ((w1.alloc (.cells #[.int .i64 p0, .int .i64 p1, .int .i64 p2, .int .i64 p3, .int .i64 p4] 85)).heap[w1.heap.size]? = some (.cells [.int .i64 p0, .int .i64 p1, .int .i64 p2, .int .i64 p3, .int .i64 p4].toArray 85 (0, 0))) := box_new w1 _
  have hb1 := bel_then hb (bel1 w1 (.cells #[.int .i64 p0, .int .i64 p1, .int .i64 p2, .int .i64 p3, .int .i64 p4] 85)) hb.size
  have HB1 := Lib.hid hb1
  have hws : w.heap.size ≤ w1.heap.size := hb.size
  clear hb hb1 c15 c16 HFP
  go_upto_region 1 with fail
  obtain ⟨V, hV⟩ : ∃ V, V = w1.alloc (.cells #[.int .i64 p0, .int .i64 p1, .int .i64 p2, .int .i64 p3, .int .i64 p4] 85) := ⟨_, rfl⟩
  rw [← hV] at KP HB1 ⊢
  clear hV
  obtain ⟨P1, hP1⟩ : ∃ P1, P1 = w1.heap.size := ⟨_, rfl⟩
  rw [← hP1] at KP hws ⊢
  clear hP1
  have HM1 := Lib.hid (H.out.below HB1.out)
  have HT1 : Hid (Turned S w V) := Turned.of_below HB1.out
  have HK1 : Hid (Kept w V) := Kept.below HB1.out
  have hpv : P1 < V.heap.size := box_lt KP.out
  clear H
  go_cut [6] (fun s6 wx => ∃ (P : Nat) (A2 : Option Addr) (c2 : Nat), s6 = .pointer (some ⟨P, 0, none⟩) ∧ Hid (wx.heap[P]? = some (.cells (flL A2 D.1.length c2 D.2).toArray 34 (0, 0))) ∧ Hid (OwnP wx 0 A2 D.1.length c2 D.1) ∧ Hid (∀ x, (Value.slice A2 D.1.length c2).ownBlock = some x → V.heap.size ≤ x) ∧ Hid (Below V.heap.size V wx) ∧ V.heap.size ≤ P)
  case first =>
    refine wp_region_held_drew (S := fun w' => w'.rangeAt b 15 (flL A1 n1 c1 r.e.nx) ∧ w'.cell? ⟨b, 11, none⟩ = some (.int .i64 r.e.now)) (by kernel_rfl) ⟨range_of HM1.out.box (moL_fl r A1 n1 c1 E1 m1 k1), box_cell HM1.out.box 11 _ rfl⟩ (fun hHeld => ?_)
    refine tkk (i := 0) rfl ?_
    try simp only [Act.put, pj]
    refine tkk (i := 1) rfl ?_
    try simp only [Act.put, pj]
    refine tkk (i := 2) rfl ?_
    try simp only [Act.put, pj]
    refine tkk (i := 3) rfl ?_
    try simp only [Act.put, pj]
    refine tkj (i := 4) (v := .agg (flL A1 n1 c1 r.e.nx).toArray) rfl (yieldsIf_load_mid (by rfl) 34 _ rfl b 15 rfl (flL A1 n1 c1 r.e.nx) _ (fun w' h => h.1) Tryz.underlying34 rfl (by kernel_rfl)) ?_
    try simp only [Act.put, pj]
    refine tkk (i := 5) rfl ?_
    try simp only [Act.put, pj]
    refine tkk (i := 6) rfl ?_
    try simp only [Act.put, pj]
    refine tkk (i := 7) rfl ?_
    try simp only [Act.put, pj]
    refine tkk (i := 8) rfl ?_
    try simp only [Act.put, pj]
    refine tkk (i := 9) rfl ?_
    try simp only [Act.put, pj]
    refine tkk (i := 10) rfl ?_
    try simp only [Act.put, pj]
    have hbd : Below V.heap.size V V.drew := undrew (Below.refl _ _)
    refine wpAnyH_ready (rs := [11, 15]) (by kernel_rfl) (by simp) (AllReadyH.cons rfl (fun K hK => ?_) (AllReadyH.cons rfl (fun K hK => ?_) AllReadyH.nil))
    · go_simp
      have HMd := Lib.hid (HM1.out.below hbd)
      refine (CG.out A1 n1 c1 _ (by exact HMd.out.ps.podsAll) hn2).mono ?_
      rintro e w2 ⟨vv, S2, rfl, hO, hb⟩
      have hb' : Below V.heap.size V w2 := undrew hb
      obtain ⟨A2, c2, rfl, ho, hs⟩ := hO.own
      have hin := hO.inn
      have HFR : Hid (∀ x, (Value.slice A2 D.1.length c2).ownBlock = some x → V.heap.size ≤ x) := fun x h => (hin x (hs x h)).1
      have hlt2 : ∀ x, (Value.slice A2 D.1.length c2).ownBlock = some x → x < w2.heap.size := fun x h => (ho.lt x h).2
      have HM2 := Lib.hid (HM1.out.below hb')
      have HB2 := Lib.hid hb'
      have HO2 := Lib.hid ho
      have HL2 := Lib.hid hlt2
      clear hb hb' hO ho hs hin hlt2 hHeld HMd hbd
      refine hK _ _ (by exact ⟨range_of HM2.out.box (moL_fl r A1 n1 c1 E1 m1 k1), box_cell HM2.out.box 11 _ rfl⟩) (fun hHeld => ?_)
      clear hK K
      try simp only [Act.put, pj]
      refine tkk (i := 12) rfl ?_
      try simp only [Act.put, pj]
      refine tkk (i := 13) rfl ?_
      try simp only [Act.put, pj]
      refine tkk (i := 14) rfl ?_
      try simp only [Act.put, pj]
      refine wpAnyH_ready (rs := [15]) (by kernel_rfl) (by simp) (AllReadyH.cons rfl (fun K hK => ?_) AllReadyH.nil)
      go_simp
      have hbp := bel1 w2 (.cells #[.slice none 0 0, .int .i64 0] 34)
      have HM3 := Lib.hid (HM2.out.below hbp)
      have HB3 := Lib.hid (bel_then HB2.out hbp HB2.out.size)
      have KP := Lib.hid (box_new w2 (.cells #[.slice none 0 0, .int .i64 0] 34))
      have HO : Hid (OwnP (w2.alloc (.cells #[.slice none 0 0, .int .i64 0] 34)) 0 A2 D.1.length c2 D.1) := HO2.out.below hbp
      have HNE : Hid (∀ x, (Value.slice A2 D.1.length c2).ownBlock = some x → x ≠ w2.heap.size) := fun x h => by have := HL2.out x h; omega
      have hP : V.heap.size ≤ w2.heap.size := HB2.out.size
      clear hbp HM2 HB2 HO2 HL2 hHeld
      refine hK _ _ (by exact ⟨range_of HM3.out.box (moL_fl r A1 n1 c1 E1 m1 k1), box_cell HM3.out.box 11 _ rfl⟩) (fun hHeld => ?_)
      clear hK K
      try simp only [Act.put, pj]
      clear HM3
      refine wpAnyH_ready (rs := [16]) (by kernel_rfl) (by simp) (AllReadyH.cons rfl (fun K hK => ?_) AllReadyH.nil)
      refine wp_put rfl 34 _ _ rfl (w2.heap.size) 0 (flL A2 D.1.length c2 D.2) rfl rfl KP.out (by kernel_rfl) (flL A2 D.1.length c2 D.2) rfl (Nat.le_of_ble_eq_true rfl) (flL_one _ _ _ _) ?_
      obtain ⟨X, hX⟩ : ∃ X, X = (w2.alloc (.cells #[.slice none 0 0, .int .i64 0] 34)).setRow (w2.heap.size) (flL A2 D.1.length c2 D.2).toArray := ⟨_, rfl⟩
      have KPX : Hid (X.heap[w2.heap.size]? = some (.cells (flL A2 D.1.length c2 D.2).toArray 34 (0, 0))) := by rw [hX]; exact row_box KP.out
      have HBX : Hid (Below V.heap.size V X) := by rw [hX]; exact row_below HB3.out _ _ hP HB3.out.size
      have HMX := Lib.hid (HM1.out.below HBX.out)
      have HOX : Hid (OwnP X 0 A2 D.1.length c2 D.1) := HO.out.same fun qq hq => by rw [hX]; exact setRow_other _ _ _ _ (HNE.out qq hq)
      rw [← hX]
      clear hX KP HO HNE hHeld
      refine hK _ _ (by exact ⟨range_of HMX.out.box (moL_fl r A1 n1 c1 E1 m1 k1), box_cell HMX.out.box 11 _ rfl⟩) (fun hHeld => ?_)
      clear hK K
      try simp only [Act.put, pj]
      refine tkk (i := 17) rfl ?_
      try simp only [Act.put, pj]
      refine wpAnyH_done (by kernel_rfl) ?_ _
      clear hHeld
      go_wp2_with fail
      go_meet
      case rel => exact ⟨_, A2, c2, rfl, KPX, HOX, HFR, HBX, hP⟩
    · go_simp
      have hbp := bel1 V.drew (.cells #[.slice none 0 0, .int .i64 0] 34)
      have hbp' : Below V.heap.size V (V.drew.alloc (.cells #[.slice none 0 0, .int .i64 0] 34)) := undrew hbp
      have HMp := Lib.hid (HM1.out.below hbp')
      have HBp := Lib.hid hbp'
      have KPp := Lib.hid (box_new V.drew (.cells #[.slice none 0 0, .int .i64 0] 34))
      have hsz : V.heap.size < (V.drew.alloc (.cells #[.slice none 0 0, .int .i64 0] 34)).heap.size := by simp
      clear hbp hbp' hHeld hbd
      refine hK _ _ (by exact ⟨range_of HMp.out.box (moL_fl r A1 n1 c1 E1 m1 k1), box_cell HMp.out.box 11 _ rfl⟩) (fun hHeld => ?_)
      clear hK K
      try simp only [Act.put, pj]
      refine wpAnyH_ready (rs := [11]) (by kernel_rfl) (by simp) (AllReadyH.cons rfl (fun K hK => ?_) AllReadyH.nil)
      go_simp
      refine (CG.out A1 n1 c1 _ (by exact HMp.out.ps.podsAll) hn2).mono ?_
      rintro e w2 ⟨vv, S2, rfl, hO, hb⟩
      obtain ⟨A2, c2, rfl, ho, hs⟩ := hO.own
      have hin := hO.inn
      have HFR : Hid (∀ x, (Value.slice A2 D.1.length c2).ownBlock = some x → V.heap.size ≤ x) := fun x h => Nat.le_trans (Nat.le_of_lt hsz) (hin x (hs x h)).1
      have HNE : Hid (∀ x, (Value.slice A2 D.1.length c2).ownBlock = some x → x ≠ V.drew.heap.size) := fun x h e => absurd (Nat.lt_of_lt_of_le hsz (hin x (hs x h)).1) (by rw [show x = V.heap.size from e]; exact Nat.lt_irrefl _)
      have HM3 := Lib.hid (HMp.out.below hb)
      have HB3 := Lib.hid (bel_then HBp.out hb HBp.out.size)
      have HO := Lib.hid ho
      have KP := Lib.hid (box_below KPp.out hb)
      have hP : V.heap.size ≤ V.drew.heap.size := Nat.le_refl _
      clear hb hO ho hs hin hHeld HMp HBp KPp hsz
      refine hK _ _ (by exact ⟨range_of HM3.out.box (moL_fl r A1 n1 c1 E1 m1 k1), box_cell HM3.out.box 11 _ rfl⟩) (fun hHeld => ?_)
      clear hK K
      try simp only [Act.put, pj]
      clear HM3
      refine tkk (i := 12) rfl ?_
      try simp only [Act.put, pj]
      refine tkk (i := 13) rfl ?_
      try simp only [Act.put, pj]
      refine tkk (i := 14) rfl ?_
      try simp only [Act.put, pj]
      refine wpAnyH_ready (rs := [16]) (by kernel_rfl) (by simp) (AllReadyH.cons rfl (fun K hK => ?_) AllReadyH.nil)
      refine wp_put rfl 34 _ _ rfl (V.drew.heap.size) 0 (flL A2 D.1.length c2 D.2) rfl rfl KP.out (by kernel_rfl) (flL A2 D.1.length c2 D.2) rfl (Nat.le_of_ble_eq_true rfl) (flL_one _ _ _ _) ?_
      obtain ⟨X, hX⟩ : ∃ X, X = (w2).setRow (V.drew.heap.size) (flL A2 D.1.length c2 D.2).toArray := ⟨_, rfl⟩
      have KPX : Hid (X.heap[V.drew.heap.size]? = some (.cells (flL A2 D.1.length c2 D.2).toArray 34 (0, 0))) := by rw [hX]; exact row_box KP.out
      have HBX : Hid (Below V.heap.size V X) := by rw [hX]; exact row_below HB3.out _ _ hP HB3.out.size
      have HMX := Lib.hid (HM1.out.below HBX.out)
      have HOX : Hid (OwnP X 0 A2 D.1.length c2 D.1) := HO.out.same fun qq hq => by rw [hX]; exact setRow_other _ _ _ _ (HNE.out qq hq)
      rw [← hX]
      clear hX KP HO HNE hHeld
      refine hK _ _ (by exact ⟨range_of HMX.out.box (moL_fl r A1 n1 c1 E1 m1 k1), box_cell HMX.out.box 11 _ rfl⟩) (fun hHeld => ?_)
      clear hK K
      try simp only [Act.put, pj]
      refine tkk (i := 17) rfl ?_
      try simp only [Act.put, pj]
      refine wpAnyH_done (by kernel_rfl) ?_ _
      clear hHeld
      go_wp2_with fail
      go_meet
      case rel => exact ⟨_, A2, c2, rfl, KPX, HOX, HFR, HBX, hP⟩
  obtain ⟨P, A2, c2, rfl, KF, HO, HFR, HBX, hP⟩ := hcut
  obtain ⟨X, hX⟩ : ∃ X, X = wc := ⟨_, rfl⟩
  rw [← hX] at KF HO HBX ⊢
  clear hX
  have HM2 := Lib.hid (HM1.out.below HBX.out)
  have KP2 := Lib.hid (box_below KP.out HBX.out)
  have HT2 : Hid (Turned S w X) := HT1.out.trans (Turned.of_below HBX.out)
  have HK2 : Hid (Kept w X) := HK1.out.trans (Kept.below HBX.out)
  have hbp : P1 ≠ b := by omega
  clear HM1 HT1 HK1 KP HBX
  go_upto_region 3 with (first | (refine wpList_get rfl 34 _ rfl P 0 rfl KF.out (flL A2 D.1.length c2 D.2) rfl Tryz.underlying34 rfl (by kernel_rfl) ?_) | (refine wpList_put rfl rfl 34 _ _ rfl b 15 (flL A2 D.1.length c2 D.2) rfl rfl HM2.out.box (by kernel_rfl) (moL (r.setFl D) A2 D.1.length c2 E1 m1 k1) rfl (Nat.le_of_ble_eq_true rfl) (flL_one _ _ _ _) ?_))
  obtain ⟨W2, hW2⟩ : ∃ Y, Y = X.setRow b (moL (r.setFl D) A2 D.1.length c2 E1 m1 k1).toArray := ⟨_, rfl⟩
  have HM3 : Hid (ModAt W2 (fun x => S x ∨ w.heap.size ≤ x) b (r.setFl D) A2 D.1.length c2 E1 m1 k1) := by
    rw [hW2]
    exact HM2.out.pods HO.out (fun _ h => .inl h) (fun x h => .inr (by have := HFR.out x h; have := HB1.out.size; omega))
  have HT3 : Hid (Turned S w W2) := by rw [hW2]; exact HT2.out.trans (turned_row HM2.out _)
  have HK3 : Hid (Kept w W2) := by rw [hW2]; exact HK2.out.trans (Kept.row HM2.out.box (.inl rfl) _)
  have KP3 : Hid (W2.heap[P1]? = some (.cells [.int .i64 p0, .int .i64 p1, .int .i64 p2, .int .i64 p3, .int .i64 p4].toArray 85 (0, 0))) := by rw [hW2]; exact row_far KP2.out hbp
  rw [← hW2]
  clear hW2 HM2 HT2 HK2 KP2 KF HO HFR HB1
  have e1 : W2.cell? ⟨P1, 1, none⟩ = some (.int .i64 p1) := box_cell KP3.out 1 _ rfl
  clear KP3
  go_wp2_with fail
  refine (tell_any W2 _ b (r.setFl D) 1 id p1 ⟨_, _, _, _, _, _, HM3.out⟩ hl).mono ?_
  intro e w5 hmv
  have HMV := Lib.hid (Moved.step (fun q hq => hq) HT3.out HK3.out hmv)
  obtain ⟨rfl, _⟩ := hmv
  clear e1
  go_wp2
  go_end0
  rw [HM.out]
  exact HMV.out
end Go.Proofs.YtklgjjmcflgjeaaGreat.Mod
