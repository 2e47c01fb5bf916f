import Derived.Test.YtklgjjmcflgjeaaGreatQ
import Derived.Test.YtklgjjmcflgjeaaGreatR16
import Derived.Test.YtklgjjmcflgjeaaGreatR24
import Derived.Test.YtklgjjmcflgjeaaGreatR39
set_option linter.unusedVariables false
set_option linter.unusedSimpArgs false
namespace Go.Proofs.YtklgjjmcflgjeaaGreat.ModV
open Tick (inB in_t tokB tok_t sinceV)
open Pods
open FleetV hiding goodB
open EngV Eng EngInv
theorem loseN_bd (l : PList) : ∀ (r : Run) (T : Int), 0 ≤ r.e.tr → r.e.tr ≤ T → (0 ≤ (loseN r l).e.tr ∧ (loseN r l).e.tr ≤ T + l.length) ∧ (loseN r l).e.ps.length = r.e.ps.length := by
  induction l with
  | nil => intro r T h0 h1; exact ⟨⟨h0, by simpa [loseN] using h1⟩, rfl⟩
  | cons p l ih =>
    intro r T h0 h1
    have h : 0 ≤ (r.lose p).e.tr ∧ (r.lose p).e.tr ≤ T + 1 := by
      unfold Run.lose
      split
      · show 0 ≤ r.e.tr + 1 ∧ r.e.tr + 1 ≤ T + 1; omega
      · show 0 ≤ r.e.tr ∧ r.e.tr ≤ T + 1; omega
    obtain ⟨h2, h3⟩ := ih (r.lose p) (T + 1) h.1 h.2
    refine ⟨?_, h3.trans (lose_all r p).2⟩
    show 0 ≤ (loseN (r.lose p) l).e.tr ∧ (loseN (r.lose p) l).e.tr ≤ T + ((l.length + 1 : Nat) : Int)
    omega
theorem lost_ids (r : Run) (h : FGood r.e.ps r.e.nx) : Av.lostD r.e.sp.x0 r.e.sp.x1 r.e.sp.x2 r.e.sp.x3 r.e.sp.x4 r.e.sp.x5 r.e.sp.x6 r.e.sp.x7 r.e.sp.x8 r.e.sp.x9 r.e.sp.x10 r.e.now (r.e.ps, r.e.nx) = (lostP r).map (·.1) := by
  unfold Av.lostD
  rw [if_pos h]
  rfl
end Go.Proofs.YtklgjjmcflgjeaaGreat.ModV
namespace Go.Proofs.YtklgjjmcflgjeaaGreat.Mod
open Go.ChangeShapes Go.WideShapes Go.ChangeAt Go.RowKit
open LK Pods EngV Eng Seg
open Mach (OwnE own_ne rows_ne stuR stu_zero stu_all stu_len stu_get stu_no stu_yes stu_ev own_set4)
open Ints (IsInts)
theorem Kept.ints {w w' : World} (h : Kept w w') {A : Option Addr} {n c : Nat} {zs : List Int} (hp : Has.OwnI w 0 A n c zs) : Has.OwnI w' 0 A n c zs := IntTy.ownI_same hp fun q hq => h.own (by decide) (by decide) hp.2 q hq
set_option maxRecDepth 100000 in
set_option maxHeartbeats 25600000 in
theorem lost_any (w : World) (S : Nat → Prop) (b : Nat) (r : Run) (h : Mod w S b r) (hg : FleetV.FGood r.e.ps r.e.nx) (hnow : Tick.tokB r.e.now = true) (hev : r.ev.length ≤ 900000) (htr : 0 ≤ r.e.tr ∧ r.e.tr ≤ 900000) (hx7 : 1 ≤ r.e.sp.x7) :
    Calls Tryz.prog 142 #[.pointer (some ⟨b, 0, none⟩)] w (MovedT b r.giveUp.tellStuck (.tuple #[]) S w) := by
  obtain ⟨L, hL⟩ : ∃ L, L = ModV.lostP r := ⟨_, rfl⟩
  have hl30 : L.length ≤ 30 := by rw [hL]; exact Nat.le_trans (List.length_filter_le _ _) hg.1
  have HLI : Hid (Av.lostD r.e.sp.x0 r.e.sp.x1 r.e.sp.x2 r.e.sp.x3 r.e.sp.x4 r.e.sp.x5 r.e.sp.x6 r.e.sp.x7 r.e.sp.x8 r.e.sp.x9 r.e.sp.x10 r.e.now (r.e.ps, r.e.nx) = L.map (·.1)) := by show _ = _; rw [hL]; exact ModV.lost_ids r hg
  have HST : Hid (∀ k (hk : k < L.length), FleetV.FGood (ModV.loseN r (L.take k)).e.ps (ModV.loseN r (L.take k)).e.nx ∧ L[k] ∈ (ModV.loseN r (L.take k)).e.ps ∧ ModV.mlose (ModV.loseN r (L.take k)) (L[k]).1 = ModV.loseN r (L.take (k + 1))) := by
    subst hL
    exact fun k hk => ModV.lost_step hg hnow hk
  have HGU : Hid (r.giveUp = ModV.loseN r L) := by show _ = _; rw [hL]; exact ModV.giveUp_eq r
  have HBD : Hid (∀ k, (0 ≤ (ModV.loseN r (L.take k)).e.tr ∧ (ModV.loseN r (L.take k)).e.tr ≤ 900030) ∧ (ModV.loseN r (L.take k)).e.ps.length ≤ 30 ∧ (ModV.loseN r (L.take k)).ev.length ≤ 900030) := fun k => by
    have h1 := ModV.loseN_bd (L.take k) r 900000 htr.1 htr.2
    have h2 := (ModV.loseN_kp (L.take k) r).ev
    have h3 : (L.take k).length ≤ 30 := by simp; omega
    have h4 := hg.1
    exact ⟨⟨h1.1.1, by omega⟩, by omega, by omega⟩
  have HX7R := Lib.hid hx7
  have HSPE : Hid (∀ k, (ModV.loseN r (L.take k)).e.sp = r.e.sp) := fun k => (ModV.loseN_kp (L.take k) r).sp
  clear hL hev htr hx7
  obtain ⟨A, n, c, E, m, k, h⟩ := h
  have hn30 : n ≤ 30 := by rw [← h.ps.1]; exact hg.1
  have H := Lib.hid h
  have hbw : b < w.heap.size := h.lt
  clear h hg hnow
  go_enter Tryz.func142, Tryz.ntmps142
  go_wp2_with fail
  refine wp_region_held_drew (S := fun w' => w'.rangeAt b 0 (spL r.e.sp) ∧ w'.rangeAt b 15 (flL A n c r.e.nx) ∧ w'.cell? ⟨b, 11, none⟩ = some (.int .i64 r.e.now)) (by kernel_rfl) ⟨range_of H.out.box (moL_sp r A n c E m k), range_of H.out.box (moL_fl r A n c E m k), box_cell H.out.box 11 _ rfl⟩ (fun hHeld => ?_)
  refine tkk (i := 0) rfl ?_
  try simp only [Act.put, pj]
  refine tkk (i := 1) rfl ?_
  try simp only [Act.put, pj]
  refine tkk (i := 2) rfl ?_
  try simp only [Act.put, pj]
  refine tkk (i := 3) rfl ?_
  try simp only [Act.put, pj]
  refine tkj (i := 4) (v := .agg (spL r.e.sp).toArray) rfl (yieldsIf_load_mid (by rfl) 25 _ rfl b 0 rfl (spL r.e.sp) _ (fun w' h => h.1) Tryz.underlying25 rfl (by kernel_rfl)) ?_
  try simp only [Act.put, pj]
  refine tkk (i := 5) rfl ?_
  try simp only [Act.put, pj]
  refine tkk (i := 6) rfl ?_
  try simp only [Act.put, pj]
  refine tkk (i := 7) rfl ?_
  try simp only [Act.put, pj]
  refine tkk (i := 8) rfl ?_
  try simp only [Act.put, pj]
  refine tkj (i := 9) (v := .agg (flL A n c r.e.nx).toArray) rfl (yieldsIf_load_mid (by rfl) 34 _ rfl b 15 rfl (flL A n c r.e.nx) _ (fun w' h => h.2.1) Tryz.underlying34 rfl (by kernel_rfl)) ?_
  try simp only [Act.put, pj]
  refine tkk (i := 10) rfl ?_
  try simp only [Act.put, pj]
  refine tkk (i := 11) rfl ?_
  try simp only [Act.put, pj]
  refine tkk (i := 12) rfl ?_
  try simp only [Act.put, pj]
  refine tkk (i := 13) rfl ?_
  try simp only [Act.put, pj]
  refine tkk (i := 14) rfl ?_
  try simp only [Act.put, pj]
  refine wpAnyH_ready (rs := [15]) (by kernel_rfl) (by simp) (AllReadyH.cons rfl (fun K hK => ?_) AllReadyH.nil)
  have hbd : Below w.heap.size w w.drew := undrew (Below.refl _ _)
  have Hd := Lib.hid (H.out.below hbd)
  go_simp
  refine (Av.specLostOf_any r.e.sp.x0 r.e.sp.x1 r.e.sp.x2 r.e.sp.x3 r.e.sp.x4 r.e.sp.x5 r.e.sp.x6 r.e.sp.x7 r.e.sp.x8 r.e.sp.x9 r.e.sp.x10 r.e.now A n c r.e.nx r.e.ps w.heap.size _ (by exact Hd.out.ps.podsAll) (by exact Nat.le_refl _) (by omega)).mono ?_
  rintro e V ⟨v, S2, rfl, ⟨⟨A2, c2, rfl, hO, hS⟩, hin, _⟩, hb⟩
  have hb' : Below w.heap.size w V := undrew hb
  rw [HLI.out] at hO ⊢
  obtain ⟨N, hN⟩ : ∃ N, N = (L.map (·.1)).length := ⟨_, rfl⟩
  have HNL : Hid (N = L.length) := by show _ = _; rw [hN, List.length_map]
  rw [← hN] at hO ⊢
  have hN30 : N ≤ 30 := by rw [HNL.out]; exact hl30
  have HM := Lib.hid (H.out.below hb')
  have HO := Lib.hid hO
  have HBV := Lib.hid hb'
  have hwv : w.heap.size ≤ V.heap.size := hb'.size
  clear hb hb' hN hO hS hin H Hd hbd hHeld hl30 HLI
  refine hK _ _ (by exact ⟨range_of HM.out.box (moL_sp r A n c E m k), range_of HM.out.box (moL_fl r A n c E m k), box_cell HM.out.box 11 _ rfl⟩) (fun hHeld => ?_)
  clear hK K
  try simp only [Act.put, pj]
  refine tkk (i := 16) rfl ?_
  try simp only [Act.put, pj]
  refine wpAnyH_done (by kernel_rfl) ?_ _
  clear hHeld
  have HA0 : Hid (Amid V S b (ModV.loseN r (L.take 0)) V) := Amid.start ⟨_, _, _, _, _, _, HM.out⟩
  have HTV : Hid (Turned S w V) := Turned.of_below HBV.out
  clear HM HBV
  go_wp2_with fail
  go_loopw [3] (fun i wr => ∃ j : Nat, j ≤ N ∧ i = .int .i64 j ∧ Hid (Amid V S b (ModV.loseN r (L.take j)) wr)) (fun i _ => N - (RowKit.intOf i).toNat)
  case atStart => exact ⟨0, Nat.zero_le _, rfl, HA0⟩
  case round =>
    obtain ⟨j, hj, rfl, HA⟩ := hrel
    clear HA0
    by_cases hlt : j < N
    case neg =>
      have HJ : Hid (ModV.loseN r (L.take j) = r.giveUp) := by show _ = _; rw [HGU.out, List.take_of_length_le (by rw [← HNL.out]; omega)]
      obtain ⟨Q, hQ⟩ : ∃ Q, Q = r.giveUp := ⟨_, rfl⟩
      have HQB : Hid (Q.e.ps.length ≤ 30 ∧ Q.ev.length ≤ 900030) := by have h1 := HBD.out j; rw [HJ.out, ← hQ] at h1; exact ⟨h1.2.1, h1.2.2⟩
      have HA2 : Hid (AmidT w S b Q wr) := by
        obtain ⟨S', h1, h2, h3, _⟩ := HA.out
        rw [HJ.out, ← hQ] at h1
        refine ⟨S', h1, fun q hq => ?_, HTV.out.trans h3⟩
        rcases h2 q hq with h | h
        · exact .inl h
        · exact .inr (by omega)
      have HX7 : Hid (1 ≤ Q.e.sp.x7) := by have h1 := HSPE.out j; rw [HJ.out, ← hQ] at h1; show _ ≤ _; rw [h1]; exact HX7R.out
      have HQE0 := Lib.hid hQ
      have HWR : Hid (w.heap.size ≤ wr.heap.size) := by obtain ⟨_, _, _, h3, _⟩ := HA.out; have := h3.size; show _ ≤ _; omega
      clear hQ HA HJ HBD HST HGU HNL HO HTV
      have HA0 : Hid (AmidT w S b (stuR Q 0) wr) := by rw [stu_zero]; exact HA2
      have HN : Hid (∃ N2, Q.e.ps.length = N2 ∧ N2 ≤ 30) := ⟨_, rfl, HQB.out.1⟩
      obtain ⟨N2, hN2, hN230⟩ := HN.out
      have HN2 := Lib.hid hN2
      clear hN2 HN HA2
      go_wp2_with fail
      go_loopw [6] (fun i wr => ∃ k : Nat, k ≤ N2 ∧ i = .int .i64 k ∧ Hid (AmidT w S b (stuR Q k) wr)) (fun i _ => N2 - (RowKit.intOf i).toNat)
      case atStart => exact ⟨0, Nat.zero_le _, rfl, HA0⟩
      case round =>
        obtain ⟨k, hk, rfl, HA⟩ := hrel
        clear HA0 HWR
        obtain ⟨S1, hm1, hs1, ht1⟩ := HA.out
        have HS1 := Lib.hid hs1
        have HT1 := Lib.hid ht1
        obtain ⟨A1, n1, c1, E1, m1, k1, h1⟩ := hm1
        have HM1 := Lib.hid h1
        obtain rfl : n1 = N2 := by have h := h1.ps.1; rw [stu_len, HN2.out] at h; exact h.symm
        have hbr : b < wr.heap.size := h1.lt
        clear h1 hs1 ht1
        have c15 : wr.cell? ⟨b, 15, none⟩ = some (.slice A1 n1 c1) := box_cell HM1.out.box 15 _ rfl
        by_cases hlt : k < n1
        case neg =>
          have HK : Hid (stuR Q k = Q.tellStuck) := stu_all Q (by rw [HN2.out]; omega)
          go_wp2
          go_end0
          rw [← HQE0.out, ← HK.out]
          exact HA.out.fin
        obtain ⟨y0, y1, y2, y3, y4, hy⟩ : ∃ y0 y1 y2 y3 y4, Q.e.ps.getD k z5 = (y0, y1, y2, y3, y4) := ⟨_, _, _, _, _, rfl⟩
        obtain ⟨g1, hA1, _, hg1⟩ := HM1.out.ps.at0 (by omega)
        subst hA1
        have HGY : Hid ((stuR Q k).e.ps.getD k z5 = (y0, y1, y2, y3, y4)) := by show _ = _; rw [stu_get Q (by rw [HN2.out]; exact hlt)]; exact hy
        have HY := Lib.hid hy
        clear hy
        obtain ⟨off, ho⟩ : ∃ off, off = 0 := ⟨_, rfl⟩
        have hcc : ∀ i, i < 5 → wr.cell? ⟨g1, off + k * 5 + i, none⟩ = (cells5 (y0, y1, y2, y3, y4))[i]? := fun i hi => by
          rw [ho, Nat.zero_add, HM1.out.ps.2.cellAt (k * 5 + i) (by omega), flat_at _ k i (by rw [HM1.out.ps.1]; exact hlt) hi, HGY.out]
        have hc0 : wr.cell? ⟨g1, off + k * 5, none⟩ = some (.int .i64 y0) := hcc 0 (by omega)
        have hc1 : wr.cell? ⟨g1, off + k * 5 + 1, none⟩ = some (.int .i64 y1) := hcc 1 (by omega)
        have hc2 : wr.cell? ⟨g1, off + k * 5 + 2, none⟩ = some (.int .i64 y2) := hcc 2 (by omega)
        have hc3 : wr.cell? ⟨g1, off + k * 5 + 3, none⟩ = some (.int .i64 y3) := hcc 3 (by omega)
        have hc4 : wr.cell? ⟨g1, off + k * 5 + 4, none⟩ = some (.int .i64 y4) := hcc 4 (by omega)
        have HOFF := Lib.hid ho
        have c15' : wr.cell? ⟨b, 15, none⟩ = some (.slice (some ⟨g1, off, none⟩) n1 c1) := by rw [ho]; exact c15
        clear hcc ho c15
        have KP : Hid ((wr.alloc (.cells #[.int .i64 y0, .int .i64 y1, .int .i64 y2, .int .i64 y3, .int .i64 y4] 85)).heap[wr.heap.size]? = some (.cells [.int .i64 y0, .int .i64 y1, .int .i64 y2, .int .i64 y3, .int .i64 y4].toArray 85 (0, 0))) := box_new wr _
        have HBA : Hid (Below wr.heap.size wr (wr.alloc (.cells #[.int .i64 y0, .int .i64 y1, .int .i64 y2, .int .i64 y3, .int .i64 y4] 85))) := bel1 _ _
        go_upto_region 13 with fail
        obtain ⟨V2, hV2⟩ : ∃ V2, V2 = wr.alloc (.cells #[.int .i64 y0, .int .i64 y1, .int .i64 y2, .int .i64 y3, .int .i64 y4] 85) := ⟨_, rfl⟩
        rw [← hV2] at KP HBA ⊢
        clear hV2 hc0 hc1 hc2 hc3 hc4 c15'
        have HM2 := Lib.hid (HM1.out.below HBA.out)
        have HT2 : Hid (Turned S w V2) := HT1.out.trans (Turned.of_below HBA.out)
        have hpv : wr.heap.size < V2.heap.size := box_lt KP.out
        have hgp : g1 < wr.heap.size := hg1
        clear HM1 HT1 HBA HA hg1
        have p2 : V2.cell? ⟨wr.heap.size, 2, none⟩ = some (.int .i64 y2) := box_cell KP.out 2 _ rfl
        have hst : stuB Q.e.sp Q.e.now (y0, y1, y2, y3, y4) = (decide (y2 = 4) && decide (Q.e.sp.x7 ≤ Tick.sinceV y4 Q.e.now)) := rfl
        have HST := Lib.hid hst
        clear hst
        have hbd : Below V2.heap.size V2 V2.drew := undrew (Below.refl _ _)
        have HBD := Lib.hid hbd
        clear hbd
        cases hq : (y2 == 4)
        · refine wp_region_held_drew (S := fun w' => w'.cell? ⟨wr.heap.size, 2, none⟩ = some (.int .i64 y2)) (by kernel_rfl) p2 (fun hHeld => ?_)
          refine tkk (i := 0) rfl ?_
          try simp only [Act.put, pj]
          refine tkk (i := 1) rfl ?_
          try simp only [Act.put, pj]
          refine tkk (i := 2) rfl ?_
          try simp only [Act.put, pj]
          refine tkk (i := 3) rfl ?_
          try simp only [Act.put, pj]
          refine tkj (i := 4) (v := undef) rfl (Or.inr ⟨by rfl, rfl⟩) ?_
          try simp only [Act.put, pj]
          refine tkj (i := 5) (v := undef) rfl (Or.inr ⟨by rfl, rfl⟩) ?_
          try simp only [Act.put, pj]
          refine tkj (i := 6) (v := undef) rfl (Or.inr ⟨by rfl, rfl⟩) ?_
          try simp only [Act.put, pj]
          refine tkj (i := 7) (v := undef) rfl (Or.inr ⟨by rfl, rfl⟩) ?_
          try simp only [Act.put, pj]
          refine tkj (i := 8) (v := undef) rfl (Or.inr ⟨by rfl, rfl⟩) ?_
          try simp only [Act.put, pj]
          refine tkj (i := 9) (v := undef) rfl (Or.inr ⟨by rfl, rfl⟩) ?_
          try simp only [Act.put, pj]
          refine tkj (i := 10) (v := undef) rfl (Or.inr ⟨by rfl, rfl⟩) ?_
          try simp only [Act.put, pj]
          refine tkj (i := 11) (v := undef) rfl (Or.inr ⟨by rfl, rfl⟩) ?_
          try simp only [Act.put, pj]
          refine tkj (i := 12) (v := undef) rfl (Or.inr ⟨by rfl, rfl⟩) ?_
          try simp only [Act.put, pj]
          refine tkj (i := 13) (v := undef) rfl (Or.inr ⟨by rfl, rfl⟩) ?_
          try simp only [Act.put, pj]
          refine tkj (i := 14) (v := undef) rfl (Or.inr ⟨by rfl, rfl⟩) ?_
          try simp only [Act.put, pj]
          refine tkj (i := 15) (v := undef) rfl (Or.inr ⟨by rfl, rfl⟩) ?_
          try simp only [Act.put, pj]
          refine tkj (i := 16) (v := undef) rfl (Or.inr ⟨by rfl, rfl⟩) ?_
          try simp only [Act.put, pj]
          refine tkk (i := 17) rfl ?_
          try simp only [Act.put, pj]
          refine wpAnyH_done (by kernel_rfl) ?_ _
          have hne : ¬ y2 = 4 := by intro h; rw [h] at hq; exact absurd hq (by decide)
          have HS5 : Hid (stuR Q (k + 1) = stuR Q k) := stu_no Q (by rw [HN2.out]; exact hlt) (by rw [HY.out, HST.out]; simp [hne])
          have HA5 : Hid (AmidT w S b (stuR Q (k + 1)) V2.drew) := by rw [HS5.out]; exact ⟨S1, ⟨_, _, _, _, _, _, HM2.out.below HBD.out⟩, HS1.out, HT2.out.trans (Turned.of_below HBD.out)⟩
          clear hHeld hne HS5 HM2 HT2 HST HY HGY p2 KP hq HBD
          go_wp2
          go_roundw
          case rel => exact ⟨k + 1, by omega, by go_num, HA5⟩
          case measure => simp [RowKit.intOf]; omega
        have c11 : V2.cell? ⟨b, 11, none⟩ = some (.int .i64 Q.e.now) := box_cell HM2.out.box 11 _ rfl
        have c7 : V2.cell? ⟨b, 7, none⟩ = some (.int .i64 Q.e.sp.x7) := box_cell HM2.out.box 7 _ rfl
        refine wp_region_held_drew (S := fun w' => w'.rangeAt wr.heap.size 0 [.int .i64 y0, .int .i64 y1, .int .i64 y2, .int .i64 y3, .int .i64 y4] ∧ w'.cell? ⟨wr.heap.size, 2, none⟩ = some (.int .i64 y2) ∧ w'.cell? ⟨b, 11, none⟩ = some (.int .i64 Q.e.now) ∧ w'.cell? ⟨b, 7, none⟩ = some (.int .i64 Q.e.sp.x7)) (by kernel_rfl) ⟨range_of KP.out rfl, p2, c11, c7⟩ (fun hHeld => ?_)
        refine tkk (i := 0) rfl ?_
        try simp only [Act.put, pj]
        refine tkk (i := 1) rfl ?_
        try simp only [Act.put, pj]
        refine tkk (i := 2) rfl ?_
        try simp only [Act.put, pj]
        refine tkk (i := 3) rfl ?_
        try simp only [Act.put, pj]
        refine tkj (i := 4) (v := .agg ([.int .i64 y0, .int .i64 y1, .int .i64 y2, .int .i64 y3, .int .i64 y4]).toArray) rfl (yieldsIf_load_mid (by rfl) 85 _ rfl wr.heap.size 0 rfl ([.int .i64 y0, .int .i64 y1, .int .i64 y2, .int .i64 y3, .int .i64 y4]) _ (fun w' h => h.1) Tryz.underlying85 rfl (by kernel_rfl)) ?_
        try simp only [Act.put, pj]
        refine tkk (i := 5) rfl ?_
        try simp only [Act.put, pj]
        refine tkk (i := 6) rfl ?_
        try simp only [Act.put, pj]
        refine tkk (i := 7) rfl ?_
        try simp only [Act.put, pj]
        refine tkk (i := 8) rfl ?_
        try simp only [Act.put, pj]
        refine tkk (i := 9) rfl ?_
        try simp only [Act.put, pj]
        refine tkk (i := 10) rfl ?_
        try simp only [Act.put, pj]
        refine tkk (i := 11) rfl ?_
        try simp only [Act.put, pj]
        refine tkk (i := 12) rfl ?_
        try simp only [Act.put, pj]
        refine tkk (i := 13) rfl ?_
        try simp only [Act.put, pj]
        refine tkk (i := 14) rfl ?_
        try simp only [Act.put, pj]
        refine tkk (i := 15) rfl ?_
        try simp only [Act.put, pj]
        refine wpAnyH_ready (rs := [16]) (by kernel_rfl) (by simp) (AllReadyH.cons rfl (fun K hK => ?_) AllReadyH.nil)
        go_simp
        refine (Hl.long_any y0 y1 y2 y3 y4 Q.e.now Q.e.sp.x7 _).mono ?_
        rintro e w3 ⟨rfl, hb⟩
        have hb' : Below V2.heap.size V2 w3 := undrew hb
        have HM3 := Lib.hid (HM2.out.below hb')
        have HT3 : Hid (Turned S w w3) := HT2.out.trans (Turned.of_below hb')
        have KP3 := Lib.hid (box_below KP.out hb')
        obtain ⟨q2, hq2⟩ : ∃ q2, (decide (0 ≤ Tick.sinceV y4 Q.e.now) && decide (Q.e.sp.x7 ≤ Tick.sinceV y4 Q.e.now)) = q2 := ⟨_, rfl⟩
        have HQ2 := Lib.hid hq2
        rw [hq2]
        have hszv : V2.heap.size ≤ w3.heap.size := hb'.size
        clear hb hb' hq2 HM2 HT2 KP hHeld p2 c11 c7 HBD
        refine hK _ _ (by exact ⟨range_of KP3.out rfl, box_cell KP3.out 2 _ rfl, box_cell HM3.out.box 11 _ rfl, box_cell HM3.out.box 7 _ rfl⟩) (fun hHeld => ?_)
        clear hK K
        try simp only [Act.put, pj]
        refine tkk (i := 17) rfl ?_
        try simp only [Act.put, pj]
        refine wpAnyH_done (by kernel_rfl) ?_ _
        clear hHeld
        have he4 : y2 = 4 := eq_of_beq hq
        have HS5 : Hid (stuB Q.e.sp Q.e.now (y0, y1, y2, y3, y4) = q2) := by
          show _ = _
          have hx7 : 1 ≤ Q.e.sp.x7 := HX7.out
          rw [HST.out, ← HQ2.out, he4]
          by_cases h : Q.e.sp.x7 ≤ Tick.sinceV y4 Q.e.now
          · have h0 : 0 ≤ Tick.sinceV y4 Q.e.now := by omega
            simp [h, h0]
          · simp [h]
        clear HST he4 hq HQ2
        cases q2
        · have HS6 : Hid (stuR Q (k + 1) = stuR Q k) := stu_no Q (by rw [HN2.out]; exact hlt) (by rw [HY.out]; exact HS5.out)
          have HA5 : Hid (AmidT w S b (stuR Q (k + 1)) w3) := by rw [HS6.out]; exact ⟨S1, ⟨_, _, _, _, _, _, HM3.out⟩, HS1.out, HT3.out⟩
          clear HS5 HS6 HM3 HT3 HY HGY KP3
          go_wp2
          go_roundw
          case rel => exact ⟨k + 1, by omega, by go_num, HA5⟩
          case measure => simp [RowKit.intOf]; omega
        have hnb : g1 ≠ b := HM3.out.nea g1 (by rfl)
        have hnp : wr.heap.size ≠ g1 := by omega
        have HNE : Hid (∀ q, (Value.slice E1 m1 k1).ownBlock = some q → q ≠ g1) := fun q hq he => by
          have h := HM3.out.nae g1 (by rfl)
          rw [he] at hq
          exact h hq
        have hsg : S1 g1 := HM3.out.sa g1 (by rfl)
        have HOP := Lib.hid HM3.out.ps
        have hd4 : w3.cell? ⟨g1, k * 5 + 4, none⟩ = some (.int .i64 y4) := by
          rw [HOP.out.2.cellAt (k * 5 + 4) (by omega), flat_at _ k 4 (by rw [HOP.out.1]; exact hlt) (by omega), HGY.out]
          rfl
        have hz4 : w3.frozen? ⟨g1, k * 5 + 4, none⟩ = false := HOP.out.2.frozenAt _
        have c15 : w3.cell? ⟨b, 15, none⟩ = some (.slice (some ⟨g1, 0, none⟩) n1 c1) := box_cell HM3.out.box 15 _ rfl
        have c11 : w3.cell? ⟨b, 11, none⟩ = some (.int .i64 Q.e.now) := box_cell HM3.out.box 11 _ rfl
        obtain ⟨QQ, hQQ⟩ : ∃ QQ : Run, QQ = ⟨{ (stuR Q k).e with ps := (stuR Q k).e.ps.set k (y0, y1, y2, y3, Q.e.now) }, (stuR Q k).ev⟩ := ⟨_, rfl⟩
        have HSY : Hid (stuR Q (k + 1) = QQ.tell 1 y0 y1) := by rw [hQQ]; exact stu_yes Q (by rw [HN2.out]; exact hlt) HY.out HS5.out
        have HMQ : Hid (ModAt (w3.drew.setCell ⟨g1, k * 5 + 4, none⟩ (.int .i64 Q.e.now)) S1 b QQ (some ⟨g1, 0, none⟩) n1 c1 E1 m1 k1) := by
          have h4 := own_set4 HOP.out hlt Q.e.now
          rw [HGY.out] at h4
          refine ⟨?_, ?_, ?_, HM3.out.sb, HM3.out.sa, HM3.out.se⟩
          · rw [hQQ]; exact box_other HM3.out.box _ _ (Ne.symm hnb)
          · rw [hQQ]; exact h4
          · rw [hQQ]; exact HM3.out.ev.same fun q hq => Below.heap_setCell _ _ _ q (HNE.out q hq)
        have HTQ : Hid (Turned S w (w3.drew.setCell ⟨g1, k * 5 + 4, none⟩ (.int .i64 Q.e.now))) := turned_then HS1.out (show Turned S w w3.drew from HT3.out.trans (Turned.of_below (undrew (Below.refl _ _)))) (Turned.set w3.drew ⟨g1, k * 5 + 4, none⟩ _ hsg)
        have HPQ : Hid ((w3.drew.setCell ⟨g1, k * 5 + 4, none⟩ (.int .i64 Q.e.now)).heap[wr.heap.size]? = some (.cells [.int .i64 y0, .int .i64 y1, .int .i64 y2, .int .i64 y3, .int .i64 y4].toArray 85 (0, 0))) := box_other (w := w3.drew) KP3.out _ _ hnp
        have HQE : Hid (QQ.ev.length ≤ 1000000) := by show _ ≤ _; rw [hQQ]; have h1 := stu_ev Q k; have h2 := HQB.out; show (stuR Q k).ev.length ≤ _; omega
        have HQN : Hid (QQ.e.now = Q.e.now) := by show _ = _; rw [hQQ]; rfl
        clear hQQ HM3 HT3 KP3 HOP HNE HGY HY HS5
        go_wp2_with fail
        refine wp_region_held_drew (S := fun w' => w'.cell? ⟨b, 15, none⟩ = some (.slice (some ⟨g1, 0, none⟩) n1 c1) ∧ w'.cell? ⟨b, 11, none⟩ = some (.int .i64 Q.e.now)) (by kernel_rfl) ⟨c15, c11⟩ (fun hHeld => ?_)
        refine tkk (i := 0) rfl ?_
        try simp only [Act.put, pj]
        refine tkk (i := 1) rfl ?_
        try simp only [Act.put, pj]
        refine tkk (i := 2) rfl ?_
        try simp only [Act.put, pj]
        refine tkk (i := 3) rfl ?_
        try simp only [Act.put, pj]
        refine tkk (i := 4) rfl ?_
        try simp only [Act.put, pj]
        refine tkk (i := 5) rfl ?_
        try simp only [Act.put, pj]
        refine tkk (i := 6) rfl ?_
        try simp only [Act.put, pj]
        refine tkk (i := 7) rfl ?_
        try simp only [Act.put, pj]
        refine tkk (i := 8) rfl ?_
        try simp only [Act.put, pj]
        refine tkk (i := 9) rfl ?_
        try simp only [Act.put, pj]
        refine tkk (i := 10) rfl ?_
        try simp only [Act.put, pj]
        refine tkk (i := 11) rfl ?_
        try simp only [Act.put, pj]
        refine tkk (i := 12) rfl ?_
        try simp only [Act.put, pj]
        refine tkk (i := 13) rfl ?_
        try simp only [Act.put, pj]
        refine wpAnyH_ready (rs := [14]) (by kernel_rfl) (by simp) (AllReadyH.cons rfl (fun K hK => ?_) AllReadyH.nil)
        have hd4' : w3.drew.cell? ⟨g1, k * 5 + 4, none⟩ = some (.int .i64 y4) := hd4
        have hz4' : w3.drew.frozen? ⟨g1, k * 5 + 4, none⟩ = false := hz4
        go_simp
        obtain ⟨W, hW⟩ : ∃ W, W = w3.drew.setCell ⟨g1, k * 5 + 4, none⟩ (.int .i64 Q.e.now) := ⟨_, rfl⟩
        rw [← hW] at HMQ HTQ HPQ
        rw [show (w3.setCell ⟨g1, k * 5 + 4, none⟩ (.int .i64 Q.e.now)).drew = W from hW.symm]
        refine hK _ _ (by exact ⟨box_cell HMQ.out.box 15 _ rfl, by rw [← HQN.out]; exact box_cell HMQ.out.box 11 _ rfl⟩) (fun hHeld => ?_)
        clear hK K
        refine wpAnyH_done (by kernel_rfl) ?_ _
        clear hHeld hW hd4 hd4' hz4 hz4' c15 c11
        have e0 : W.cell? ⟨wr.heap.size, 0, none⟩ = some (.int .i64 y0) := box_cell HPQ.out 0 _ rfl
        have e1 : W.cell? ⟨wr.heap.size, 1, none⟩ = some (.int .i64 y1) := box_cell HPQ.out 1 _ rfl
        go_wp2_with fail
        refine (tell_any W S1 b QQ 1 y0 y1 ⟨_, _, _, _, _, _, HMQ.out⟩ HQE.out).mono ?_
        intro e w5 hmv
        obtain ⟨rfl, ha⟩ := AmidT.call HS1.out HTQ.out hmv.wide
        rw [← HSY.out] at ha
        have HA5 := Lib.hid ha
        clear hmv ha e0 e1 HMQ HTQ HPQ HQE HSY
        go_wp2
        go_roundw
        case rel => exact ⟨k + 1, by omega, by go_num, HA5⟩
        case measure => simp [RowKit.intOf]; omega
    have hjl : j < L.length := by rw [← HNL.out]; exact hlt
    obtain ⟨q, hq⟩ : ∃ q, q = ModV.loseN r (L.take j) := ⟨_, rfl⟩
    obtain ⟨p, hp⟩ : ∃ p, p = L[j] := ⟨_, rfl⟩
    have hst := HST.out j hjl
    have hbd := HBD.out j
    rw [← hq, ← hp] at hst
    rw [← hq] at hbd HA
    obtain ⟨p0, p1, p2, p3, p4⟩ := p
    have HFP : Hid (Crew.findP (q.e.ps, q.e.nx) p0 = (p0, p1, p2, p3, p4)) := ModV.find_of hst.1 hst.2.1
    have HML : Hid (ModV.mlose q p0 = ModV.loseN r (L.take (j + 1))) := hst.2.2
    have HQB : Hid ((0 ≤ q.e.tr ∧ q.e.tr ≤ 900030) ∧ q.e.ps.length ≤ 30 ∧ q.ev.length ≤ 900030) := hbd
    obtain ⟨S1, hm1, hs1, ht1, hk1⟩ := HA.out
    have HI := Lib.hid (IntTy.ownI_ints (B := wr.heap.size) (hk1.ints HO.out) (fun k hk => ((hk1.ints HO.out).lt k hk).2))
    have HX : Hid ((L.map (·.1)).getD j 0 = p0) := by
      show _ = _
      rw [List.getD_eq_getElem?_getD, List.getElem?_map, List.getElem?_eq_getElem hjl, ← hp]
      rfl
    obtain ⟨gb, off, hA2, _, hcx⟩ := HI.out.2 (by omega)
    have hcj := hcx j hlt
    rw [HX.out] at hcj
    have HA2 := Lib.hid hA2
    have HGX : Hid (wr.heap[gb]?.isSome = true ∧ gb < wr.heap.size) := by
      have h1 := World.block_lt_of_cell? wr _ hcj
      exact ⟨by simp [h1], h1⟩
    have HCK : Hid (∀ W, Below wr.heap.size wr W → W.cell? ⟨gb, off + j, none⟩ = some (.int .i64 p0)) := fun W hb => cell_keep hb hcj
    have HCJ := Lib.hid hcj
    have HS1 := Lib.hid hs1
    have HT1 := Lib.hid ht1
    have HK1 := Lib.hid hk1
    obtain ⟨A1, n1, c1, E1, m1, k1, h1⟩ := hm1
    have HM1 := Lib.hid h1
    have hn1 : n1 ≤ 1048576 := by have := h1.ps.1; have := hbd.2.1; omega
    have hbr : b < wr.heap.size := h1.lt
    clear hst hbd hq hp hs1 ht1 hk1 h1 HA HX hcx hcj HST
    obtain ⟨qb, hqb⟩ : ∃ qb, Crew.findB (q.e.ps, q.e.nx) p0 = qb := ⟨_, rfl⟩
    have CF : Hid (∀ (A : Option Addr) (n c : Nat) (W : World), IsPods W W.heap.size A n q.e.ps → n ≤ 1048576 → Calls Tryz.prog 182 #[.agg (flL A n c q.e.nx).toArray, .int .i64 p0] W (Says (.tuple #[.agg [.int .i64 p0, .int .i64 p1, .int .i64 p2, .int .i64 p3, .int .i64 p4].toArray, .bool qb]) W)) := fun A n c W h1 h2 => by
      have h := Crew.specFindPod_any A n c q.e.nx p0 q.e.ps W.heap.size W h1 (Nat.le_refl _) h2
      rw [HFP.out, hqb] at h
      exact h
    clear hqb
    subst hA2
    go_wp2_with fail
    go_cut [4] (fun s4 wx => ∃ (P : Nat), s4 = .pointer (some ⟨P, 0, none⟩) ∧ Hid (wx.heap[P]? = some (.cells ([.int .i64 p0, .int .i64 p1, .int .i64 p2, .int .i64 p3, .int .i64 p4]).toArray 85 (0, 0))) ∧ Hid (Below wr.heap.size wr wx) ∧ wr.heap.size ≤ P)
    case first =>
      refine wp_region_held_drew (S := fun w' => w'.rangeAt b 15 (flL A1 n1 c1 q.e.nx) ∧ w'.cell? ⟨gb, off + j, none⟩ = some (.int .i64 p0)) (by kernel_rfl) ⟨range_of HM1.out.box (moL_fl q A1 n1 c1 E1 m1 k1), HCJ.out⟩ (fun hHeld => ?_)
      refine tkk (i := 0) rfl ?_
      try simp only [Act.put, pj]
      refine tkk (i := 1) rfl ?_
      try simp only [Act.put, pj]
      refine tkk (i := 2) rfl ?_
      try simp only [Act.put, pj]
      refine tkk (i := 3) rfl ?_
      try simp only [Act.put, pj]
      refine tkj (i := 4) (v := .agg (flL A1 n1 c1 q.e.nx).toArray) rfl (yieldsIf_load_mid (by rfl) 34 _ rfl b 15 rfl (flL A1 n1 c1 q.e.nx) _ (fun w' h => h.1) Tryz.underlying34 rfl (by kernel_rfl)) ?_
      try simp only [Act.put, pj]
      refine tkk (i := 5) rfl ?_
      try simp only [Act.put, pj]
      refine tkk (i := 6) rfl ?_
      try simp only [Act.put, pj]
      refine tkk (i := 7) rfl ?_
      try simp only [Act.put, pj]
      refine tkk (i := 8) rfl ?_
      try simp only [Act.put, pj]
      have hbd : Below wr.heap.size wr wr.drew := undrew (Below.refl _ _)
      refine wpAnyH_ready (rs := [9, 13]) (by kernel_rfl) (by simp) (AllReadyH.cons rfl (fun K hK => ?_) (AllReadyH.cons rfl (fun K hK => ?_) AllReadyH.nil))
      · go_simp
        have HMd := Lib.hid (HM1.out.below hbd)
        refine (CF.out A1 n1 c1 _ (by exact HMd.out.ps.podsAll) hn1).mono ?_
        rintro e w2 ⟨rfl, hb⟩
        have hb' : Below wr.heap.size wr w2 := undrew hb
        have HM2 := Lib.hid (HM1.out.below hb')
        have HB2 := Lib.hid hb'
        clear hb hb' hHeld HMd hbd
        refine hK _ _ (by exact ⟨range_of HM2.out.box (moL_fl q A1 n1 c1 E1 m1 k1), HCK.out _ HB2.out⟩) (fun hHeld => ?_)
        clear hK K
        try simp only [Act.put, pj]
        refine tkk (i := 10) rfl ?_
        try simp only [Act.put, pj]
        refine tkk (i := 11) rfl ?_
        try simp only [Act.put, pj]
        refine tkk (i := 12) rfl ?_
        try simp only [Act.put, pj]
        refine wpAnyH_ready (rs := [13]) (by kernel_rfl) (by simp) (AllReadyH.cons rfl (fun K hK => ?_) AllReadyH.nil)
        go_simp
        have hbp := bel1 w2 (.cells #[.int .i64 0, .int .i64 0, .int .i64 0, .int .i64 0, .int .i64 0] 85)
        have HM3 := Lib.hid (HM2.out.below hbp)
        have HB3 := Lib.hid (bel_then HB2.out hbp HB2.out.size)
        have KP := Lib.hid (box_new w2 (.cells #[.int .i64 0, .int .i64 0, .int .i64 0, .int .i64 0, .int .i64 0] 85))
        have hP : wr.heap.size ≤ w2.heap.size := HB2.out.size
        clear hbp HM2 HB2 hHeld
        refine hK _ _ (by exact ⟨range_of HM3.out.box (moL_fl q A1 n1 c1 E1 m1 k1), HCK.out _ HB3.out⟩) (fun hHeld => ?_)
        clear hK K
        try simp only [Act.put, pj]
        clear HM3
        refine wpAnyH_ready (rs := [14]) (by kernel_rfl) (by simp) (AllReadyH.cons rfl (fun K hK => ?_) AllReadyH.nil)
        refine wp_put rfl 85 _ _ rfl (w2.heap.size) 0 ([.int .i64 p0, .int .i64 p1, .int .i64 p2, .int .i64 p3, .int .i64 p4]) rfl rfl KP.out (by kernel_rfl) ([.int .i64 p0, .int .i64 p1, .int .i64 p2, .int .i64 p3, .int .i64 p4]) rfl (Nat.le_of_ble_eq_true rfl) (by simp [Value.oneCell']) ?_
        obtain ⟨X, hX⟩ : ∃ X, X = (w2.alloc (.cells #[.int .i64 0, .int .i64 0, .int .i64 0, .int .i64 0, .int .i64 0] 85)).setRow (w2.heap.size) ([.int .i64 p0, .int .i64 p1, .int .i64 p2, .int .i64 p3, .int .i64 p4]).toArray := ⟨_, rfl⟩
        have KPX : Hid (X.heap[w2.heap.size]? = some (.cells ([.int .i64 p0, .int .i64 p1, .int .i64 p2, .int .i64 p3, .int .i64 p4]).toArray 85 (0, 0))) := by rw [hX]; exact row_box KP.out
        have HBX : Hid (Below wr.heap.size wr X) := by rw [hX]; exact row_below HB3.out _ _ hP HB3.out.size
        have HMX := Lib.hid (HM1.out.below HBX.out)
        rw [← hX]
        clear hX KP hHeld
        refine hK _ _ (by exact ⟨range_of HMX.out.box (moL_fl q A1 n1 c1 E1 m1 k1), HCK.out _ HBX.out⟩) (fun hHeld => ?_)
        clear hK K
        try simp only [Act.put, pj]
        refine tkk (i := 15) rfl ?_
        try simp only [Act.put, pj]
        refine wpAnyH_done (by kernel_rfl) ?_ _
        clear hHeld
        go_wp2_with fail
        go_meet
        case rel => exact ⟨_, rfl, KPX, HBX, hP⟩
      · go_simp
        have hbp := bel1 wr.drew (.cells #[.int .i64 0, .int .i64 0, .int .i64 0, .int .i64 0, .int .i64 0] 85)
        have hbp' : Below wr.heap.size wr (wr.drew.alloc (.cells #[.int .i64 0, .int .i64 0, .int .i64 0, .int .i64 0, .int .i64 0] 85)) := undrew hbp
        have HMp := Lib.hid (HM1.out.below hbp')
        have HBp := Lib.hid hbp'
        have KPp := Lib.hid (box_new wr.drew (.cells #[.int .i64 0, .int .i64 0, .int .i64 0, .int .i64 0, .int .i64 0] 85))
        clear hbp hbp' hHeld hbd
        refine hK _ _ (by exact ⟨range_of HMp.out.box (moL_fl q A1 n1 c1 E1 m1 k1), HCK.out _ HBp.out⟩) (fun hHeld => ?_)
        clear hK K
        try simp only [Act.put, pj]
        refine wpAnyH_ready (rs := [9]) (by kernel_rfl) (by simp) (AllReadyH.cons rfl (fun K hK => ?_) AllReadyH.nil)
        go_simp
        refine (CF.out A1 n1 c1 _ (by exact HMp.out.ps.podsAll) hn1).mono ?_
        rintro e w2 ⟨rfl, hb⟩
        have HM3 := Lib.hid (HMp.out.below hb)
        have HB3 := Lib.hid (bel_then HBp.out hb HBp.out.size)
        have KP := Lib.hid (box_below KPp.out hb)
        have hP : wr.heap.size ≤ wr.drew.heap.size := Nat.le_refl _
        clear hb hHeld HMp HBp KPp
        refine hK _ _ (by exact ⟨range_of HM3.out.box (moL_fl q A1 n1 c1 E1 m1 k1), HCK.out _ HB3.out⟩) (fun hHeld => ?_)
        clear hK K
        try simp only [Act.put, pj]
        clear HM3
        refine tkk (i := 10) rfl ?_
        try simp only [Act.put, pj]
        refine tkk (i := 11) rfl ?_
        try simp only [Act.put, pj]
        refine tkk (i := 12) rfl ?_
        try simp only [Act.put, pj]
        refine wpAnyH_ready (rs := [14]) (by kernel_rfl) (by simp) (AllReadyH.cons rfl (fun K hK => ?_) AllReadyH.nil)
        refine wp_put rfl 85 _ _ rfl (wr.drew.heap.size) 0 ([.int .i64 p0, .int .i64 p1, .int .i64 p2, .int .i64 p3, .int .i64 p4]) rfl rfl KP.out (by kernel_rfl) ([.int .i64 p0, .int .i64 p1, .int .i64 p2, .int .i64 p3, .int .i64 p4]) rfl (Nat.le_of_ble_eq_true rfl) (by simp [Value.oneCell']) ?_
        obtain ⟨X, hX⟩ : ∃ X, X = (w2).setRow (wr.drew.heap.size) ([.int .i64 p0, .int .i64 p1, .int .i64 p2, .int .i64 p3, .int .i64 p4]).toArray := ⟨_, rfl⟩
        have KPX : Hid (X.heap[wr.drew.heap.size]? = some (.cells ([.int .i64 p0, .int .i64 p1, .int .i64 p2, .int .i64 p3, .int .i64 p4]).toArray 85 (0, 0))) := by rw [hX]; exact row_box KP.out
        have HBX : Hid (Below wr.heap.size wr X) := by rw [hX]; exact row_below HB3.out _ _ hP HB3.out.size
        have HMX := Lib.hid (HM1.out.below HBX.out)
        rw [← hX]
        clear hX KP hHeld
        refine hK _ _ (by exact ⟨range_of HMX.out.box (moL_fl q A1 n1 c1 E1 m1 k1), HCK.out _ HBX.out⟩) (fun hHeld => ?_)
        clear hK K
        try simp only [Act.put, pj]
        refine tkk (i := 15) rfl ?_
        try simp only [Act.put, pj]
        refine wpAnyH_done (by kernel_rfl) ?_ _
        clear hHeld
        go_wp2_with fail
        go_meet
        case rel => exact ⟨_, rfl, KPX, HBX, hP⟩
    obtain ⟨P, rfl, KF, HBX, hP⟩ := hcut
    obtain ⟨X, hX⟩ : ∃ X, X = wc := ⟨_, rfl⟩
    rw [← hX] at KF HBX ⊢
    clear hX CF
    have HM2 := Lib.hid (HM1.out.below HBX.out)
    have HT2 : Hid (Turned S V X) := HT1.out.trans (Turned.of_below HBX.out)
    have HK2 : Hid (Kept V X) := HK1.out.trans (Kept.below HBX.out)
    have c0 := HCK.out X HBX.out
    clear HM1 HT1 HK1 HBX HCJ
    go_wp2_with fail
    refine (delete_any X S1 b q p0 ⟨_, _, _, _, _, _, HM2.out⟩ (by have := HQB.out; omega) (by have := HQB.out; omega)).mono ?_
    intro e w3 hmv
    have HPK : Hid (w3.heap[P]? = some (.cells [.int .i64 p0, .int .i64 p1, .int .i64 p2, .int .i64 p3, .int .i64 p4].toArray 85 (0, 0))) := hmv.2.choose_spec.2.2.2 _ _ _ _ (by decide) (by decide) KF.out
    obtain ⟨rfl, ha⟩ := Amid.call HS1.out HT2.out HK2.out hmv
    obtain ⟨q1, hq1⟩ : ∃ q1, q1 = ModV.mdel q p0 := ⟨_, rfl⟩
    rw [← hq1] at ha
    have HML2 : Hid ((if decide (p1 = q1.e.tg) && mvB q1.e.ph then q1.tryOn else q1) = ModV.loseN r (L.take (j + 1))) := by
      show _ = _
      rw [← HML.out, ModV.mlose, show Crew.findP q.fl p0 = _ from HFP.out, hq1]
      rfl
    have HTR : Hid (0 ≤ q1.e.tr ∧ q1.e.tr ≤ 900030) := by rw [hq1]; exact HQB.out.1
    have HA3 := Lib.hid ha
    clear hmv ha hq1 HM2 HT2 HK2 HML HFP HS1 HQB KF c0 hn1
    obtain ⟨S3, hm3, hs3, ht3, hk3⟩ := HA3.out
    have HS3 := Lib.hid hs3
    have HT3 := Lib.hid ht3
    have HK3 := Lib.hid hk3
    obtain ⟨A3, n3, c3, E3, m3, k3, h3⟩ := hm3
    have HM3 := Lib.hid h3
    clear hs3 ht3 hk3 h3
    have f1 : w3.cell? ⟨P, 1, none⟩ = some (.int .i64 p1) := box_cell HPK.out 1 _ rfl
    have c13 : w3.cell? ⟨b, 13, none⟩ = some (.int .i64 q1.e.tg) := box_cell HM3.out.box 13 _ rfl
    have c14 := range_of HM3.out.box (moL_en q1 A3 n3 c3 E3 m3 k3)
    obtain ⟨g, hg⟩ : ∃ g, (p1 == q1.e.tg) = g := ⟨_, rfl⟩
    have HG : Hid (decide (p1 = q1.e.tg) = g) := by rw [← hg]; rfl
    have hbd : Below w3.heap.size w3 w3.drew := undrew (Below.refl _ _)
    have HBD3 := Lib.hid hbd
    clear hbd
    go_wp2_with fail
    cases g
    · refine wp_region_held_drew (S := fun w' => w'.cell? ⟨P, 1, none⟩ = some (.int .i64 p1) ∧ w'.cell? ⟨b, 13, none⟩ = some (.int .i64 q1.e.tg)) (by kernel_rfl) ⟨f1, c13⟩ (fun hHeld => ?_)
      refine tkk (i := 0) rfl ?_
      try simp only [Act.put, pj]
      refine tkk (i := 1) rfl ?_
      try simp only [Act.put, pj]
      refine tkk (i := 2) rfl ?_
      try simp only [Act.put, pj]
      refine tkk (i := 3) rfl ?_
      try simp only [Act.put, pj]
      refine tkk (i := 4) rfl ?_
      try simp only [Act.put, pj]
      refine tkk (i := 5) rfl ?_
      try simp only [Act.put, pj]
      refine tkk (i := 6) rfl ?_
      try simp only [Act.put, pj]
      refine tkk (i := 7) rfl ?_
      try simp only [Act.put, pj]
      refine tkk (i := 8) rfl ?_
      try simp only [Act.put, pj]
      refine tkj (i := 9) (v := undef) rfl (Or.inr ⟨by rfl, rfl⟩) ?_
      try simp only [Act.put, pj]
      refine tkj (i := 10) (v := undef) rfl (Or.inr ⟨by rfl, rfl⟩) ?_
      try simp only [Act.put, pj]
      refine tkj (i := 11) (v := undef) rfl (Or.inr ⟨by rfl, rfl⟩) ?_
      try simp only [Act.put, pj]
      refine tkj (i := 12) (v := undef) rfl (Or.inr ⟨by rfl, rfl⟩) ?_
      try simp only [Act.put, pj]
      refine tkj (i := 13) (v := undef) rfl (Or.inr ⟨by rfl, rfl⟩) ?_
      try simp only [Act.put, pj]
      refine tkk (i := 14) rfl ?_
      try simp only [Act.put, pj]
      refine wpAnyH_done (by kernel_rfl) ?_ _
      have HE : Hid (ModV.loseN r (L.take (j + 1)) = q1) := by show _ = _; rw [← HML2.out, HG.out]; rfl
      have HA4 : Hid (Amid V S b (ModV.loseN r (L.take (j + 1))) w3.drew) := by rw [HE.out]; exact HA3.out.below HBD3.out
      clear hHeld f1 c13 c14 HG HML2 HE HTR HM3 HS3 HT3 HK3 HPK
      go_wp2
      go_roundw
      case rel => exact ⟨j + 1, by omega, by go_num, HA4⟩
      case measure => simp [RowKit.intOf]; omega
    refine wp_region_held_drew (S := fun w' => w'.cell? ⟨P, 1, none⟩ = some (.int .i64 p1) ∧ w'.cell? ⟨b, 13, none⟩ = some (.int .i64 q1.e.tg) ∧ w'.rangeAt b 0 (enL q1.e A3 n3 c3)) (by kernel_rfl) ⟨f1, c13, c14⟩ (fun hHeld => ?_)
    refine tkk (i := 0) rfl ?_
    try simp only [Act.put, pj]
    refine tkk (i := 1) rfl ?_
    try simp only [Act.put, pj]
    refine tkk (i := 2) rfl ?_
    try simp only [Act.put, pj]
    refine tkk (i := 3) rfl ?_
    try simp only [Act.put, pj]
    refine tkk (i := 4) rfl ?_
    try simp only [Act.put, pj]
    refine tkk (i := 5) rfl ?_
    try simp only [Act.put, pj]
    refine tkk (i := 6) rfl ?_
    try simp only [Act.put, pj]
    refine tkk (i := 7) rfl ?_
    try simp only [Act.put, pj]
    refine tkk (i := 8) rfl ?_
    try simp only [Act.put, pj]
    refine tkk (i := 9) rfl ?_
    try simp only [Act.put, pj]
    refine tkk (i := 10) rfl ?_
    try simp only [Act.put, pj]
    refine tkk (i := 11) rfl ?_
    try simp only [Act.put, pj]
    refine tkj (i := 12) (v := .agg (enL q1.e A3 n3 c3).toArray) rfl (yieldsIf_load_mid (by rfl) 36 _ rfl b 0 rfl (enL q1.e A3 n3 c3) _ (fun w' h => h.2.2) Tryz.underlying36 rfl (by kernel_rfl)) ?_
    try simp only [Act.put, pj]
    refine wpAnyH_ready (rs := [13]) (by kernel_rfl) (by simp) (AllReadyH.cons rfl (fun K hK => ?_) AllReadyH.nil)
    go_simp
    refine (EngSet.l08Moves_any A3 n3 c3 q1.e _).mono ?_
    rintro e w4 ⟨rfl, hb⟩
    have hb' : Below w3.heap.size w3 w4 := undrew hb
    have HM4 := Lib.hid (HM3.out.below hb')
    have KP4 := Lib.hid (box_below HPK.out hb')
    have HA4 := Lib.hid (HA3.out.below hb')
    have HT4 : Hid (Turned S V w4) := HT3.out.trans (Turned.of_below hb')
    have HK4 : Hid (Kept V w4) := HK3.out.trans (Kept.below hb')
    obtain ⟨g2, hg2⟩ : ∃ g2, mvB q1.e.ph = g2 := ⟨_, rfl⟩
    rw [hg2, HG.out] at HML2
    rw [hg2]
    clear hb hb' hHeld f1 c13 c14 HM3 HPK HA3 HT3 HK3 hg2 HG
    refine hK _ _ (by exact ⟨box_cell KP4.out 1 _ rfl, box_cell HM4.out.box 13 _ rfl, range_of HM4.out.box (moL_en q1 A3 n3 c3 E3 m3 k3)⟩) (fun hHeld => ?_)
    clear hK K
    try simp only [Act.put, pj]
    refine tkk (i := 14) rfl ?_
    try simp only [Act.put, pj]
    refine wpAnyH_done (by kernel_rfl) ?_ _
    clear hHeld KP4
    cases g2
    · have HE : Hid (ModV.loseN r (L.take (j + 1)) = q1) := HML2.out.symm
      rw [← HE.out] at HA4
      clear HML2 HE HTR HM4 HS3 HT4 HK4
      go_wp2
      go_roundw
      case rel => exact ⟨j + 1, by omega, by go_num, HA4⟩
      case measure => simp [RowKit.intOf]; omega
    have HE : Hid (ModV.loseN r (L.take (j + 1)) = q1.tryOn) := HML2.out.symm
    clear HML2 HA4
    have d18 : w4.cell? ⟨b, 18, none⟩ = some (.int .i64 q1.e.tr) := box_cell HM4.out.box 18 _ rfl
    have f18 := box_frozen HM4.out.box 18
    obtain ⟨x, hx⟩ : ∃ x, q1.e.tr + 1 = x := ⟨_, rfl⟩
    have hwx : IntKind.i64.wrap (q1.e.tr + 1) = x := by rw [hx]; exact FleetSpec.wrap_id (by have := HTR.out; omega) (by have := HTR.out; omega)
    have hxb : x ≤ 9223372036854775807 := by have := HTR.out; omega
    have HXE := Lib.hid hx
    clear hx
    go_upto_region 8 with fail
    (try rw [hwx])
    obtain ⟨W5, hW5⟩ : ∃ Y, Y = w4.setCell ⟨b, 18, none⟩ (.int .i64 x) := ⟨_, rfl⟩
    have HM5 : Hid (ModAt W5 S3 b ({ q1 with e := { q1.e with tr := x } } : Run) A3 n3 c3 E3 m3 k3) := by
      rw [hW5, set_row (i := 18) HM4.out.box (.int .i64 x) (moL ({ q1 with e := { q1.e with tr := x } } : Run) A3 n3 c3 E3 m3 k3) rfl]
      exact HM4.out.row rfl rfl
    have HT5 : Hid (Turned S V W5) := by rw [hW5]; exact turned_then HS3.out HT4.out (Turned.set _ _ _ HM4.out.sb)
    have HK5 : Hid (Kept V W5) := by rw [hW5]; exact HK4.out.trans (Kept.set HM4.out.box (.inl rfl) _)
    rw [← hW5]
    clear hW5 d18 f18 hwx HM4 HT4 HK4 HTR
    refine wp_region_held_drew (S := fun w' => w'.rangeAt b 0 (spL q1.e.sp) ∧ w'.cell? ⟨b, 11, none⟩ = some (.int .i64 q1.e.now) ∧ w'.cell? ⟨b, 18, none⟩ = some (.int .i64 x)) (by kernel_rfl) ⟨range_of HM5.out.box (moL_sp _ A3 n3 c3 E3 m3 k3), box_cell HM5.out.box 11 _ rfl, box_cell HM5.out.box 18 _ rfl⟩ (fun hHeld => ?_)
    refine tkk (i := 0) rfl ?_
    try simp only [Act.put, pj]
    refine tkk (i := 1) rfl ?_
    try simp only [Act.put, pj]
    refine tkk (i := 2) rfl ?_
    try simp only [Act.put, pj]
    refine tkk (i := 3) rfl ?_
    try simp only [Act.put, pj]
    refine tkk (i := 4) rfl ?_
    try simp only [Act.put, pj]
    refine tkk (i := 5) rfl ?_
    try simp only [Act.put, pj]
    refine tkk (i := 6) rfl ?_
    try simp only [Act.put, pj]
    refine tkk (i := 7) rfl ?_
    try simp only [Act.put, pj]
    refine tkk (i := 8) rfl ?_
    try simp only [Act.put, pj]
    refine tkk (i := 9) rfl ?_
    try simp only [Act.put, pj]
    refine tkj (i := 10) (v := .agg (spL q1.e.sp).toArray) rfl (yieldsIf_load_mid (by rfl) 25 _ rfl b 0 rfl (spL q1.e.sp) _ (fun w' h => h.1) Tryz.underlying25 rfl (by kernel_rfl)) ?_
    try simp only [Act.put, pj]
    refine tkk (i := 11) rfl ?_
    try simp only [Act.put, pj]
    refine tkk (i := 12) rfl ?_
    try simp only [Act.put, pj]
    refine tkk (i := 13) rfl ?_
    try simp only [Act.put, pj]
    refine tkk (i := 14) rfl ?_
    try simp only [Act.put, pj]
    refine tkk (i := 15) rfl ?_
    try simp only [Act.put, pj]
    refine wpAnyH_ready (rs := [16]) (by kernel_rfl) (by simp) (AllReadyH.cons rfl (fun K hK => ?_) AllReadyH.nil)
    go_simp
    refine (Rw.specRetryWait_any q1.e.sp.x0 q1.e.sp.x1 q1.e.sp.x2 q1.e.sp.x3 q1.e.sp.x4 q1.e.sp.x5 q1.e.sp.x6 q1.e.sp.x7 q1.e.sp.x8 q1.e.sp.x9 q1.e.sp.x10 x _ hxb).mono ?_
    rintro e w6 ⟨rfl, hb⟩
    have hb' : Below W5.heap.size W5 w6 := undrew hb
    have HM6 := Lib.hid (HM5.out.below hb')
    have HT6 : Hid (Turned S V w6) := HT5.out.trans (Turned.of_below hb')
    have HK6 : Hid (Kept V w6) := HK5.out.trans (Kept.below hb')
    obtain ⟨y, hy⟩ : ∃ y, y = waitS q1.e.sp x := ⟨_, rfl⟩
    have HY : Hid (y = waitS q1.e.sp x) := hy
    rw [show Rw.waitV q1.e.sp.x0 q1.e.sp.x1 q1.e.sp.x2 q1.e.sp.x3 q1.e.sp.x4 q1.e.sp.x5 q1.e.sp.x6 q1.e.sp.x7 q1.e.sp.x8 q1.e.sp.x9 q1.e.sp.x10 x = y from hy.symm]
    clear hb hb' HM5 HT5 HK5 hHeld hy
    refine hK _ _ (by exact ⟨range_of HM6.out.box (moL_sp _ A3 n3 c3 E3 m3 k3), box_cell HM6.out.box 11 _ rfl, box_cell HM6.out.box 18 _ rfl⟩) (fun hHeld => ?_)
    clear hK K
    try simp only [Act.put, pj]
    refine wpAnyH_ready (rs := [17]) (by kernel_rfl) (by simp) (AllReadyH.cons rfl (fun K hK => ?_) AllReadyH.nil)
    go_simp
    refine (Tick.specAddTick_any q1.e.now y _).mono ?_
    rintro e w7 ⟨rfl, rfl⟩
    obtain ⟨t, ht⟩ : ∃ t, t = Tick.addV q1.e.now y := ⟨_, rfl⟩
    rw [← ht]
    have HTT := Lib.hid ht
    clear ht
    refine hK _ _ (by exact hHeld) (fun hHeld => ?_)
    clear hK K
    try simp only [Act.put, pj]
    refine tkk (i := 18) rfl ?_
    try simp only [Act.put, pj]
    refine tkk (i := 19) rfl ?_
    try simp only [Act.put, pj]
    refine tkk (i := 20) rfl ?_
    try simp only [Act.put, pj]
    refine wpAnyH_ready (rs := [21]) (by kernel_rfl) (by simp) (AllReadyH.cons rfl (fun K hK => ?_) AllReadyH.nil)
    have d19 : w6.cell? ⟨b, 19, none⟩ = some (.int .i64 q1.e.wt) := box_cell HM6.out.box 19 _ rfl
    have f19 := box_frozen HM6.out.box 19
    go_simp
    obtain ⟨W8, hW8⟩ : ∃ Y, Y = w6.setCell ⟨b, 19, none⟩ (.int .i64 t) := ⟨_, rfl⟩
    have HM8 : Hid (ModAt W8 S3 b q1.tryOn A3 n3 c3 E3 m3 k3) := by
      have e : q1.tryOn = ({ q1 with e := { q1.e with tr := x, wt := t } } : Run) := by unfold Run.tryOn; rw [HXE.out, ← HY.out, ← HTT.out]
      rw [e, hW8, set_row (i := 19) HM6.out.box (.int .i64 t) (moL ({ q1 with e := { q1.e with tr := x, wt := t } } : Run) A3 n3 c3 E3 m3 k3) rfl]
      exact HM6.out.row rfl rfl
    have HT8 : Hid (Turned S V W8) := by rw [hW8]; exact turned_then HS3.out HT6.out (Turned.set _ _ _ HM6.out.sb)
    have HK8 : Hid (Kept V W8) := by rw [hW8]; exact HK6.out.trans (Kept.set HM6.out.box (.inl rfl) _)
    have HC8 : Hid (W8.cell? ⟨b, 18, none⟩ = some (.int .i64 x)) := by
      show _ = _
      rw [show x = q1.tryOn.e.tr from HXE.out.symm]
      exact box_cell HM8.out.box 18 _ rfl
    rw [← hW8]
    clear hW8 d19 f19 HM6 HT6 HK6 hHeld HY HTT HXE
    refine hK _ _ (by exact ⟨range_of HM8.out.box (moL_sp q1.tryOn A3 n3 c3 E3 m3 k3), box_cell HM8.out.box 11 _ rfl, HC8.out⟩) (fun hHeld => ?_)
    clear hK K
    refine wpAnyH_done (by kernel_rfl) ?_ _
    clear hHeld HC8
    have HA8 : Hid (Amid V S b (ModV.loseN r (L.take (j + 1))) W8) := by rw [HE.out]; exact ⟨S3, ⟨_, _, _, _, _, _, HM8.out⟩, HS3.out, HT8.out, HK8.out⟩
    clear HE HM8 HS3 HT8 HK8 hxb
    go_wp2
    go_roundw
    case rel => exact ⟨j + 1, by omega, by go_num, HA8⟩
    case measure => simp [RowKit.intOf]; omega
end Go.Proofs.YtklgjjmcflgjeaaGreat.Mod
