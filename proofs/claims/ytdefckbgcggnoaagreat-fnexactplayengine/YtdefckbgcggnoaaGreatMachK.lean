/-
  THE MACHINE's create over this seat's translation.
-/
import Derived.Test.YtdefckbgcggnoaaGreatMachH
import Derived.Test.YtdefckbgcggnoaaGreatFleetAdd
namespace Go.Proofs.YtdefckbgcggnoaaGreat.Mach
open Go.ChangeShapes Go.WideShapes Go.ChangeAt Go.RowKit
open Go.Proofs.YtdefckbgcggnoaaGreat.LK Go.Proofs.YtdefckbgcggnoaaGreat.Pods Go.Proofs.YtdefckbgcggnoaaGreat.EngV Go.Proofs.YtdefckbgcggnoaaGreat.EngCnt Go.Proofs.YtdefckbgcggnoaaGreat.Eng Go.Proofs.YtdefckbgcggnoaaGreat.Seg
set_option linter.unusedVariables false
set_option linter.unusedSimpArgs false
set_option maxRecDepth 100000 in
set_option maxHeartbeats 12800000 in
theorem create_any (w : World) (S : Nat → Prop) (b : Nat) (lk ot : Int) (r : Run) (N : Nat) (h : Mach w S b lk ot r) (hev : r.ev.length ≤ 900000) (hn : r.e.ps.length ≤ 1048576) (hN : N ≤ 1000) :
    Calls Tryz.prog 205 #[.pointer (some ⟨b, 0, none⟩), .int .i64 (N : Int)] w (Moved b lk ot (r.makeN N) (.tuple #[]) S w) := by
  obtain ⟨R, hR⟩ : ∃ R, R = r.makeN N := ⟨_, rfl⟩
  rw [← hR]
  have HR0 : Hid (R = r.makeN (N - 0)) := hR
  clear hR
  have HA0 := Lib.hid (Amid.start h)
  have HB0 : Hid (r.ev.length ≤ 900000 + 0 ∧ r.e.ps.length ≤ 1048576) := ⟨by omega, hn⟩
  clear h hev hn
  go_enter Tryz.func205, Tryz.ntmps205
  go_wp2_with fail
  go_loopw [7] (fun i wr => ∃ (k : Nat) (q : Run), k ≤ N ∧ i = .int .i64 k ∧ Hid (Amid w S b lk ot q wr) ∧ Hid (R = q.makeN (N - k)) ∧ Hid (q.ev.length ≤ 900000 + k ∧ q.e.ps.length ≤ 1048576)) (fun i _ => N - (RowKit.intOf i).toNat)
  case atStart => exact ⟨0, r, Nat.zero_le _, rfl, HA0, HR0, HB0⟩
  case round =>
    obtain ⟨k, q, hk, rfl, HA, HR, HB⟩ := hrel
    clear HR0 HB0 HA0
    by_cases hlt : k < N
    case neg =>
      have HE : Hid (R = q) := by have h := HR.out; rw [show N - k = 0 from by omega] at h; exact h
      clear HR
      go_wp2
      go_end0
      rw [HE.out]
      exact HA.out.fin
    obtain ⟨v, hv⟩ : ∃ v, v = Crew.addV q.fl q.e.tg q.e.now := ⟨_, rfl⟩
    obtain ⟨D, hD⟩ : ∃ D, D = Crew.addD q.fl q.e.tg q.e.now := ⟨_, rfl⟩
    have HS : Hid (R = if v = 0 then q else Run.makeN ((q.setFl D).tell 0 v q.e.tg) (N - (k + 1))) := by
      show _ = _
      rw [HR.out, show N - k = (N - (k + 1)) + 1 from by omega, hv, hD]
      rfl
    have HD1 : Hid (D.1.length ≤ 1048576) := by show _ ≤ _; rw [hD]; exact Crew.few_add (d := q.fl) q.e.tg q.e.now HB.out.2
    have CA : Hid (∀ (A : Option Addr) (n c : Nat) (W : World), IsPods W W.heap.size A n q.e.ps → n ≤ 1048576 → Calls Tryz.prog 218 #[.agg (flL A n c q.e.nx).toArray, .int .i64 q.e.tg, .int .i64 q.e.now] W (Made1 FleetTy.fty D (.int .i64 v) W)) := fun A n c W h1 h2 => by
      rw [hD, hv]; exact Crew.addPod_any A n c q.e.nx q.e.tg q.e.now q.e.ps W.heap.size W h1 (Nat.le_refl _) h2
    clear hv hD HR
    obtain ⟨S1, hm1, hs1, ht1, hk1⟩ := HA.out
    have HS1 := Lib.hid hs1
    have HT1 := Lib.hid ht1
    have HK1 := Lib.hid hk1
    obtain ⟨A1, n1, c1, E1, m1, k1, h1⟩ := hm1
    have HM1 := Lib.hid h1
    have hn1 : n1 ≤ 1048576 := by rw [← h1.ps.1]; exact HB.out.2
    have hbr : b < wr.heap.size := h1.lt
    clear hs1 ht1 hk1 h1 HA
    go_wp2_with fail
    refine wp_region_held_drew (S := fun w' => w'.rangeAt b 17 (flL A1 n1 c1 q.e.nx) ∧ w'.cell? ⟨b, 15, none⟩ = some (.int .i64 q.e.tg) ∧ w'.cell? ⟨b, 13, none⟩ = some (.int .i64 q.e.now)) (by kernel_rfl) ⟨range_of HM1.out.box (maL_fl lk ot q A1 n1 c1 E1 m1 k1), box_cell HM1.out.box 15 _ rfl, box_cell HM1.out.box 13 _ rfl⟩ (fun hHeld => ?_)
    refine wpAnyH_take (i := 0) (v := ?v1) rfl (by kernel_rfl) (by kernel_rfl) (by kernel_rfl) (fun _ _ _ h => h) (Or.inl ⟨by rfl, ?hy1⟩) (by assumption) ?_
    case hy1 => (intro w0 hSw; (try dsimp only at hSw); go_simp <;> with_reducible rfl)
    try simp only [Act.put, List.getElem_toArray, List.getElem_cons_zero, List.getElem_cons_succ, List.setIfInBounds_toArray, List.set_cons_zero, List.set_cons_succ]
    refine wpAnyH_take (i := 1) (v := ?v2) rfl (by kernel_rfl) (by kernel_rfl) (by kernel_rfl) (fun _ _ _ h => h) (Or.inl ⟨by rfl, ?hy2⟩) (by assumption) ?_
    case hy2 => (intro w0 hSw; (try dsimp only at hSw); go_simp <;> with_reducible rfl)
    try simp only [Act.put, List.getElem_toArray, List.getElem_cons_zero, List.getElem_cons_succ, List.setIfInBounds_toArray, List.set_cons_zero, List.set_cons_succ]
    refine wpAnyH_take (i := 2) (v := ?v3) rfl (by kernel_rfl) (by kernel_rfl) (by kernel_rfl) (fun _ _ _ h => h) (Or.inl ⟨by rfl, ?hy3⟩) (by assumption) ?_
    case hy3 => (intro w0 hSw; (try dsimp only at hSw); go_simp <;> with_reducible rfl)
    try simp only [Act.put, List.getElem_toArray, List.getElem_cons_zero, List.getElem_cons_succ, List.setIfInBounds_toArray, List.set_cons_zero, List.set_cons_succ]
    refine wpAnyH_take (i := 3) (v := ?v4) rfl (by kernel_rfl) (by kernel_rfl) (by kernel_rfl) (fun _ _ _ h => h) (Or.inl ⟨by rfl, ?hy4⟩) (by assumption) ?_
    case hy4 => (intro w0 hSw; (try dsimp only at hSw); go_simp <;> with_reducible rfl)
    try simp only [Act.put, List.getElem_toArray, List.getElem_cons_zero, List.getElem_cons_succ, List.setIfInBounds_toArray, List.set_cons_zero, List.set_cons_succ]
    refine wpAnyH_take (i := 4) (v := .agg (flL A1 n1 c1 q.e.nx).toArray) rfl (by kernel_rfl) (by kernel_rfl) (by kernel_rfl) (fun _ _ _ h => h) (yieldsIf_load_mid (by rfl) 34 _ rfl b 17 rfl (flL A1 n1 c1 q.e.nx) _ (fun w' h => h.1) Tryz.underlying34 rfl (by kernel_rfl)) (by assumption) ?_
    try simp only [Act.put, List.getElem_toArray, List.getElem_cons_zero, List.getElem_cons_succ, List.setIfInBounds_toArray, List.set_cons_zero, List.set_cons_succ]
    refine wpAnyH_take (i := 5) (v := ?v5) rfl (by kernel_rfl) (by kernel_rfl) (by kernel_rfl) (fun _ _ _ h => h) (Or.inl ⟨by rfl, ?hy5⟩) (by assumption) ?_
    case hy5 => (intro w0 hSw; (try dsimp only at hSw); go_simp <;> with_reducible rfl)
    try simp only [Act.put, List.getElem_toArray, List.getElem_cons_zero, List.getElem_cons_succ, List.setIfInBounds_toArray, List.set_cons_zero, List.set_cons_succ]
    refine wpAnyH_take (i := 6) (v := ?v6) rfl (by kernel_rfl) (by kernel_rfl) (by kernel_rfl) (fun _ _ _ h => h) (Or.inl ⟨by rfl, ?hy6⟩) (by assumption) ?_
    case hy6 => (intro w0 hSw; (try dsimp only at hSw); go_simp <;> with_reducible rfl)
    try simp only [Act.put, List.getElem_toArray, List.getElem_cons_zero, List.getElem_cons_succ, List.setIfInBounds_toArray, List.set_cons_zero, List.set_cons_succ]
    refine wpAnyH_take (i := 7) (v := ?v7) rfl (by kernel_rfl) (by kernel_rfl) (by kernel_rfl) (fun _ _ _ h => h) (Or.inl ⟨by rfl, ?hy7⟩) (by assumption) ?_
    case hy7 => (intro w0 hSw; (try dsimp only at hSw); go_simp <;> with_reducible rfl)
    try simp only [Act.put, List.getElem_toArray, List.getElem_cons_zero, List.getElem_cons_succ, List.setIfInBounds_toArray, List.set_cons_zero, List.set_cons_succ]
    refine wpAnyH_take (i := 8) (v := ?v8) rfl (by kernel_rfl) (by kernel_rfl) (by kernel_rfl) (fun _ _ _ h => h) (Or.inl ⟨by rfl, ?hy8⟩) (by assumption) ?_
    case hy8 => (intro w0 hSw; (try dsimp only at hSw); go_simp <;> with_reducible rfl)
    try simp only [Act.put, List.getElem_toArray, List.getElem_cons_zero, List.getElem_cons_succ, List.setIfInBounds_toArray, List.set_cons_zero, List.set_cons_succ]
    refine wpAnyH_take (i := 9) (v := ?v9) rfl (by kernel_rfl) (by kernel_rfl) (by kernel_rfl) (fun _ _ _ h => h) (Or.inl ⟨by rfl, ?hy9⟩) (by assumption) ?_
    case hy9 => (intro w0 hSw; (try dsimp only at hSw); go_simp <;> with_reducible rfl)
    try simp only [Act.put, List.getElem_toArray, List.getElem_cons_zero, List.getElem_cons_succ, List.setIfInBounds_toArray, List.set_cons_zero, List.set_cons_succ]
    refine wpAnyH_take (i := 10) (v := ?v10) rfl (by kernel_rfl) (by kernel_rfl) (by kernel_rfl) (fun _ _ _ h => h) (Or.inl ⟨by rfl, ?hy10⟩) (by assumption) ?_
    case hy10 => (intro w0 hSw; (try dsimp only at hSw); go_simp <;> with_reducible rfl)
    try simp only [Act.put, List.getElem_toArray, List.getElem_cons_zero, List.getElem_cons_succ, List.setIfInBounds_toArray, List.set_cons_zero, List.set_cons_succ]
    refine wpAnyH_take (i := 11) (v := ?v11) rfl (by kernel_rfl) (by kernel_rfl) (by kernel_rfl) (fun _ _ _ h => h) (Or.inl ⟨by rfl, ?hy11⟩) (by assumption) ?_
    case hy11 => (intro w0 hSw; (try dsimp only at hSw); go_simp <;> with_reducible rfl)
    try simp only [Act.put, List.getElem_toArray, List.getElem_cons_zero, List.getElem_cons_succ, List.setIfInBounds_toArray, List.set_cons_zero, List.set_cons_succ]
    refine wpAnyH_take (i := 12) (v := ?v12) rfl (by kernel_rfl) (by kernel_rfl) (by kernel_rfl) (fun _ _ _ h => h) (Or.inl ⟨by rfl, ?hy12⟩) (by assumption) ?_
    case hy12 => (intro w0 hSw; (try dsimp only at hSw); go_simp <;> with_reducible rfl)
    try simp only [Act.put, List.getElem_toArray, List.getElem_cons_zero, List.getElem_cons_succ, List.setIfInBounds_toArray, List.set_cons_zero, List.set_cons_succ]
    refine wpAnyH_take (i := 13) (v := ?v13) rfl (by kernel_rfl) (by kernel_rfl) (by kernel_rfl) (fun _ _ _ h => h) (Or.inl ⟨by rfl, ?hy13⟩) (by assumption) ?_
    case hy13 => (intro w0 hSw; (try dsimp only at hSw); go_simp <;> with_reducible rfl)
    try simp only [Act.put, List.getElem_toArray, List.getElem_cons_zero, List.getElem_cons_succ, List.setIfInBounds_toArray, List.set_cons_zero, List.set_cons_succ]
    refine wpAnyH_take (i := 14) (v := ?v14) rfl (by kernel_rfl) (by kernel_rfl) (by kernel_rfl) (fun _ _ _ h => h) (Or.inl ⟨by rfl, ?hy14⟩) (by assumption) ?_
    case hy14 => (intro w0 hSw; (try dsimp only at hSw); go_simp <;> with_reducible rfl)
    try simp only [Act.put, List.getElem_toArray, List.getElem_cons_zero, List.getElem_cons_succ, List.setIfInBounds_toArray, List.set_cons_zero, List.set_cons_succ]
    have hbd : Below wr.heap.size wr wr.drew := undrew (Below.refl _ _)
    refine wpAnyH_ready (rs := [15, 19]) (by kernel_rfl) (by simp) (AllReadyH.cons rfl (fun K hK => ?_) (AllReadyH.cons rfl (fun K hK => ?_) AllReadyH.nil))
    · go_simp
      have HMd := Lib.hid (HM1.out.below hbd)
      refine (CA.out A1 n1 c1 _ (by exact HMd.out.ps.podsAll) hn1).mono ?_
      rintro e w2 ⟨vv, S2, rfl, hO, hb⟩
      have hb' : Below wr.heap.size wr w2 := undrew hb
      obtain ⟨A2, c2, rfl, ho, hs⟩ := hO.own
      have hin := hO.inn
      have HFR : Hid (∀ x, (Value.slice A2 D.1.length c2).ownBlock = some x → wr.heap.size ≤ x) := fun x h => (hin x (hs x h)).1
      have hlt2 : ∀ x, (Value.slice A2 D.1.length c2).ownBlock = some x → x < w2.heap.size := fun x h => (ho.lt x h).2
      have HM2 := Lib.hid (HM1.out.below hb')
      have HB2 := Lib.hid hb'
      have HO2 := Lib.hid ho
      have HL2 := Lib.hid hlt2
      clear hb hb' hO ho hs hin hlt2 hHeld HMd hbd
      refine hK _ _ (by exact ⟨range_of HM2.out.box (maL_fl lk ot q A1 n1 c1 E1 m1 k1), box_cell HM2.out.box 15 _ rfl, box_cell HM2.out.box 13 _ rfl⟩) (fun hHeld => ?_)
      clear hK K
      try simp only [Act.put, List.getElem_toArray, List.getElem_cons_zero, List.getElem_cons_succ, List.setIfInBounds_toArray, List.set_cons_zero, List.set_cons_succ]
      refine wpAnyH_take (i := 16) (v := ?v15) rfl (by kernel_rfl) (by kernel_rfl) (by kernel_rfl) (fun _ _ _ h => h) (Or.inl ⟨by rfl, ?hy15⟩) (by assumption) ?_
      case hy15 => (intro w0 hSw; (try dsimp only at hSw); go_simp <;> with_reducible rfl)
      try simp only [Act.put, List.getElem_toArray, List.getElem_cons_zero, List.getElem_cons_succ, List.setIfInBounds_toArray, List.set_cons_zero, List.set_cons_succ]
      refine wpAnyH_take (i := 17) (v := ?v16) rfl (by kernel_rfl) (by kernel_rfl) (by kernel_rfl) (fun _ _ _ h => h) (Or.inl ⟨by rfl, ?hy16⟩) (by assumption) ?_
      case hy16 => (intro w0 hSw; (try dsimp only at hSw); go_simp <;> with_reducible rfl)
      try simp only [Act.put, List.getElem_toArray, List.getElem_cons_zero, List.getElem_cons_succ, List.setIfInBounds_toArray, List.set_cons_zero, List.set_cons_succ]
      refine wpAnyH_take (i := 18) (v := ?v17) rfl (by kernel_rfl) (by kernel_rfl) (by kernel_rfl) (fun _ _ _ h => h) (Or.inl ⟨by rfl, ?hy17⟩) (by assumption) ?_
      case hy17 => (intro w0 hSw; (try dsimp only at hSw); go_simp <;> with_reducible rfl)
      try simp only [Act.put, List.getElem_toArray, List.getElem_cons_zero, List.getElem_cons_succ, List.setIfInBounds_toArray, List.set_cons_zero, List.set_cons_succ]
      refine wpAnyH_ready (rs := [19]) (by kernel_rfl) (by simp) (AllReadyH.cons rfl (fun K hK => ?_) AllReadyH.nil)
      go_simp
      have hbp := bel1 w2 (.cells #[.slice none 0 0, .int .i64 0] 34)
      have HM3 := Lib.hid (HM2.out.below hbp)
      have HB3 := Lib.hid (bel_then HB2.out hbp HB2.out.size)
      have KP := Lib.hid (box_new w2 (.cells #[.slice none 0 0, .int .i64 0] 34))
      have HO : Hid (OwnP (w2.alloc (.cells #[.slice none 0 0, .int .i64 0] 34)) 0 A2 D.1.length c2 D.1) := HO2.out.below hbp
      have HNE : Hid (∀ x, (Value.slice A2 D.1.length c2).ownBlock = some x → x ≠ w2.heap.size) := fun x h => by have := HL2.out x h; omega
      have hP : wr.heap.size ≤ w2.heap.size := HB2.out.size
      clear hbp HM2 HB2 HO2 HL2 hHeld
      refine hK _ _ (by exact ⟨range_of HM3.out.box (maL_fl lk ot q A1 n1 c1 E1 m1 k1), box_cell HM3.out.box 15 _ rfl, box_cell HM3.out.box 13 _ rfl⟩) (fun hHeld => ?_)
      clear hK K
      try simp only [Act.put, List.getElem_toArray, List.getElem_cons_zero, List.getElem_cons_succ, List.setIfInBounds_toArray, List.set_cons_zero, List.set_cons_succ]
      clear HM3
      refine wpAnyH_ready (rs := [20]) (by kernel_rfl) (by simp) (AllReadyH.cons rfl (fun K hK => ?_) AllReadyH.nil)
      refine wp_put rfl 34 _ _ rfl w2.heap.size 0 (flL A2 D.1.length c2 D.2) rfl rfl KP.out (by kernel_rfl) (flL A2 D.1.length c2 D.2) rfl (Nat.le_of_ble_eq_true rfl) (flL_one _ _ _ _) ?_
      obtain ⟨W, hW⟩ : ∃ X, X = (w2.alloc (.cells #[.slice none 0 0, .int .i64 0] 34)).setRow (w2.heap.size) (flL A2 D.1.length c2 D.2).toArray := ⟨_, rfl⟩
      have KPW : Hid (W.heap[w2.heap.size]? = some (.cells (flL A2 D.1.length c2 D.2).toArray 34 (0, 0))) := by rw [hW]; exact row_box KP.out
      have HBW : Hid (Below wr.heap.size wr W) := by rw [hW]; exact row_below HB3.out _ _ hP HB3.out.size
      have HMW := Lib.hid (HM1.out.below HBW.out)
      have HOW : Hid (OwnP W 0 A2 D.1.length c2 D.1) := HO.out.same fun qq hq => by rw [hW]; exact setRow_other _ _ _ _ (HNE.out qq hq)
      rw [← hW]
      clear hW KP HO HNE hHeld
      refine hK _ _ (by exact ⟨range_of HMW.out.box (maL_fl lk ot q A1 n1 c1 E1 m1 k1), box_cell HMW.out.box 15 _ rfl, box_cell HMW.out.box 13 _ rfl⟩) (fun hHeld => ?_)
      clear hK K
      try simp only [Act.put, List.getElem_toArray, List.getElem_cons_zero, List.getElem_cons_succ, List.setIfInBounds_toArray, List.set_cons_zero, List.set_cons_succ]
      refine wpAnyH_take (i := 21) (v := ?v20) rfl (by kernel_rfl) (by kernel_rfl) (by kernel_rfl) (fun _ _ _ h => h) (Or.inl ⟨by rfl, ?hy20⟩) (by assumption) ?_
      case hy20 => (intro w0 hSw; (try dsimp only at hSw); go_simp <;> with_reducible rfl)
      try simp only [Act.put, List.getElem_toArray, List.getElem_cons_zero, List.getElem_cons_succ, List.setIfInBounds_toArray, List.set_cons_zero, List.set_cons_succ]
      refine wpAnyH_done (by kernel_rfl) ?_ _
      clear hHeld
      have HTW : Hid (Turned S w W) := HT1.out.trans (Turned.of_below HBW.out)
      have HKW : Hid (Kept w W) := HK1.out.trans (Kept.below HBW.out)
      by_cases hv0 : v = 0
      · have hq0 : (v == 0) = true := by simp [hv0]
        have HE : Hid (R = q) := by have h := HS.out; rw [if_pos hv0] at h; exact h
        clear hv0 HS HD1 CA
        go_wp2
        go_end0
        rw [HE.out]
        exact Amid.fin ⟨S1, ⟨_, _, _, _, _, _, HMW.out⟩, HS1.out, HTW.out, HKW.out⟩
      have hq0 : (v == 0) = false := by simp [hv0]
      have HE : Hid (R = Run.makeN ((q.setFl D).tell 0 v q.e.tg) (N - (k + 1))) := by have h := HS.out; rw [if_neg hv0] at h; exact h
      have HB2 : Hid (((q.setFl D).tell 0 v q.e.tg).ev.length ≤ 900000 + (k + 1) ∧ ((q.setFl D).tell 0 v q.e.tg).e.ps.length ≤ 1048576) := ⟨by have h := HB.out.1; simp [Run.tell, Run.setFl]; omega, HD1.out⟩
      clear hv0 HS HD1 CA
      go_upto_region 5 with (first | (refine wpList_get rfl 34 _ rfl (w2.heap.size) 0 rfl KPW.out (flL A2 D.1.length c2 D.2) rfl Tryz.underlying34 rfl (by kernel_rfl) ?_) | (refine wpList_put rfl rfl 34 _ _ rfl b 17 (flL A2 D.1.length c2 D.2) rfl rfl HMW.out.box (by kernel_rfl) (maL lk ot (q.setFl D) A2 D.1.length c2 E1 m1 k1) rfl (Nat.le_of_ble_eq_true rfl) (flL_one _ _ _ _) ?_))
      obtain ⟨W2, hW2⟩ : ∃ X, X = W.setRow b (maL lk ot (q.setFl D) A2 D.1.length c2 E1 m1 k1).toArray := ⟨_, rfl⟩
      have HM2 : Hid (MachAt W2 (fun x => S1 x ∨ wr.heap.size ≤ x) b lk ot (q.setFl D) A2 D.1.length c2 E1 m1 k1) := by
        rw [hW2]
        exact HMW.out.pods HOW.out (fun _ h => .inl h) (fun x h => .inr (HFR.out x h))
      have HT2 : Hid (Turned S w W2) := by rw [hW2]; exact turned_then HS1.out HTW.out (turned_row HMW.out _)
      have HK2 : Hid (Kept w W2) := by rw [hW2]; exact HKW.out.trans (Kept.row HMW.out.box (by decide) _)
      have HS2 : Hid (∀ x, (S1 x ∨ wr.heap.size ≤ x) → S x ∨ w.heap.size ≤ x) := fun x h => by
        rcases h with h | h
        · exact HS1.out x h
        · exact .inr (Nat.le_trans HT1.out.size h)
      rw [← hW2]
      clear hW2 HMW HOW HTW HKW KPW HBW
      have c15 : W2.cell? ⟨b, 15, none⟩ = some (.int .i64 q.e.tg) := box_cell HM2.out.box 15 _ rfl
      go_wp2_with fail
      refine (tell_any W2 _ b lk ot (q.setFl D) 0 v q.e.tg ⟨_, _, _, _, _, _, HM2.out⟩ (by have h := HB.out.1; show q.ev.length ≤ _; omega)).mono ?_
      intro e w5 hmv
      obtain ⟨rfl, ha⟩ := Amid.call HS2.out HT2.out HK2.out hmv
      have HA5 := Lib.hid ha
      clear hmv ha HM2 HT2 HK2 HS2 c15
      go_wp2
      go_roundw
      case rel => exact ⟨k + 1, _, by omega, by go_num, HA5, HE, HB2⟩
      case measure => simp [RowKit.intOf]; omega
    · go_simp
      have hbp := bel1 wr.drew (.cells #[.slice none 0 0, .int .i64 0] 34)
      have hbp' : Below wr.heap.size wr (wr.drew.alloc (.cells #[.slice none 0 0, .int .i64 0] 34)) := undrew hbp
      have HMp := Lib.hid (HM1.out.below hbp')
      have HBp := Lib.hid hbp'
      have KPp := Lib.hid (box_new wr.drew (.cells #[.slice none 0 0, .int .i64 0] 34))
      have hsz : wr.heap.size < (wr.drew.alloc (.cells #[.slice none 0 0, .int .i64 0] 34)).heap.size := by simp
      clear hbp hbp' hHeld hbd
      refine hK _ _ (by exact ⟨range_of HMp.out.box (maL_fl lk ot q A1 n1 c1 E1 m1 k1), box_cell HMp.out.box 15 _ rfl, box_cell HMp.out.box 13 _ rfl⟩) (fun hHeld => ?_)
      clear hK K
      try simp only [Act.put, List.getElem_toArray, List.getElem_cons_zero, List.getElem_cons_succ, List.setIfInBounds_toArray, List.set_cons_zero, List.set_cons_succ]
      refine wpAnyH_ready (rs := [15]) (by kernel_rfl) (by simp) (AllReadyH.cons rfl (fun K hK => ?_) AllReadyH.nil)
      go_simp
      refine (CA.out A1 n1 c1 _ (by exact HMp.out.ps.podsAll) hn1).mono ?_
      rintro e w2 ⟨vv, S2, rfl, hO, hb⟩
      obtain ⟨A2, c2, rfl, ho, hs⟩ := hO.own
      have hin := hO.inn
      have HFR : Hid (∀ x, (Value.slice A2 D.1.length c2).ownBlock = some x → wr.heap.size ≤ x) := fun x h => Nat.le_trans (Nat.le_of_lt hsz) (hin x (hs x h)).1
      have HNE : Hid (∀ x, (Value.slice A2 D.1.length c2).ownBlock = some x → x ≠ wr.drew.heap.size) := fun x h e => absurd (Nat.lt_of_lt_of_le hsz (hin x (hs x h)).1) (by rw [show x = wr.heap.size from e]; exact Nat.lt_irrefl _)
      have HM3 := Lib.hid (HMp.out.below hb)
      have HB3 := Lib.hid (bel_then HBp.out hb HBp.out.size)
      have HO := Lib.hid ho
      have KP := Lib.hid (box_below KPp.out hb)
      have hP : wr.heap.size ≤ wr.drew.heap.size := Nat.le_refl _
      clear hb hO ho hs hin hHeld HMp HBp KPp hsz
      refine hK _ _ (by exact ⟨range_of HM3.out.box (maL_fl lk ot q A1 n1 c1 E1 m1 k1), box_cell HM3.out.box 15 _ rfl, box_cell HM3.out.box 13 _ rfl⟩) (fun hHeld => ?_)
      clear hK K
      try simp only [Act.put, List.getElem_toArray, List.getElem_cons_zero, List.getElem_cons_succ, List.setIfInBounds_toArray, List.set_cons_zero, List.set_cons_succ]
      clear HM3
      refine wpAnyH_take (i := 16) (v := ?v22) rfl (by kernel_rfl) (by kernel_rfl) (by kernel_rfl) (fun _ _ _ h => h) (Or.inl ⟨by rfl, ?hy22⟩) (by assumption) ?_
      case hy22 => (intro w0 hSw; (try dsimp only at hSw); go_simp <;> with_reducible rfl)
      try simp only [Act.put, List.getElem_toArray, List.getElem_cons_zero, List.getElem_cons_succ, List.setIfInBounds_toArray, List.set_cons_zero, List.set_cons_succ]
      refine wpAnyH_take (i := 17) (v := ?v23) rfl (by kernel_rfl) (by kernel_rfl) (by kernel_rfl) (fun _ _ _ h => h) (Or.inl ⟨by rfl, ?hy23⟩) (by assumption) ?_
      case hy23 => (intro w0 hSw; (try dsimp only at hSw); go_simp <;> with_reducible rfl)
      try simp only [Act.put, List.getElem_toArray, List.getElem_cons_zero, List.getElem_cons_succ, List.setIfInBounds_toArray, List.set_cons_zero, List.set_cons_succ]
      refine wpAnyH_take (i := 18) (v := ?v24) rfl (by kernel_rfl) (by kernel_rfl) (by kernel_rfl) (fun _ _ _ h => h) (Or.inl ⟨by rfl, ?hy24⟩) (by assumption) ?_
      case hy24 => (intro w0 hSw; (try dsimp only at hSw); go_simp <;> with_reducible rfl)
      try simp only [Act.put, List.getElem_toArray, List.getElem_cons_zero, List.getElem_cons_succ, List.setIfInBounds_toArray, List.set_cons_zero, List.set_cons_succ]
      refine wpAnyH_ready (rs := [20]) (by kernel_rfl) (by simp) (AllReadyH.cons rfl (fun K hK => ?_) AllReadyH.nil)
      refine wp_put rfl 34 _ _ rfl wr.drew.heap.size 0 (flL A2 D.1.length c2 D.2) rfl rfl KP.out (by kernel_rfl) (flL A2 D.1.length c2 D.2) rfl (Nat.le_of_ble_eq_true rfl) (flL_one _ _ _ _) ?_
      obtain ⟨W, hW⟩ : ∃ X, X = (w2).setRow (wr.drew.heap.size) (flL A2 D.1.length c2 D.2).toArray := ⟨_, rfl⟩
      have KPW : Hid (W.heap[wr.drew.heap.size]? = some (.cells (flL A2 D.1.length c2 D.2).toArray 34 (0, 0))) := by rw [hW]; exact row_box KP.out
      have HBW : Hid (Below wr.heap.size wr W) := by rw [hW]; exact row_below HB3.out _ _ hP HB3.out.size
      have HMW := Lib.hid (HM1.out.below HBW.out)
      have HOW : Hid (OwnP W 0 A2 D.1.length c2 D.1) := HO.out.same fun qq hq => by rw [hW]; exact setRow_other _ _ _ _ (HNE.out qq hq)
      rw [← hW]
      clear hW KP HO HNE hHeld
      refine hK _ _ (by exact ⟨range_of HMW.out.box (maL_fl lk ot q A1 n1 c1 E1 m1 k1), box_cell HMW.out.box 15 _ rfl, box_cell HMW.out.box 13 _ rfl⟩) (fun hHeld => ?_)
      clear hK K
      try simp only [Act.put, List.getElem_toArray, List.getElem_cons_zero, List.getElem_cons_succ, List.setIfInBounds_toArray, List.set_cons_zero, List.set_cons_succ]
      refine wpAnyH_take (i := 21) (v := ?v26) rfl (by kernel_rfl) (by kernel_rfl) (by kernel_rfl) (fun _ _ _ h => h) (Or.inl ⟨by rfl, ?hy26⟩) (by assumption) ?_
      case hy26 => (intro w0 hSw; (try dsimp only at hSw); go_simp <;> with_reducible rfl)
      try simp only [Act.put, List.getElem_toArray, List.getElem_cons_zero, List.getElem_cons_succ, List.setIfInBounds_toArray, List.set_cons_zero, List.set_cons_succ]
      refine wpAnyH_done (by kernel_rfl) ?_ _
      clear hHeld
      have HTW : Hid (Turned S w W) := HT1.out.trans (Turned.of_below HBW.out)
      have HKW : Hid (Kept w W) := HK1.out.trans (Kept.below HBW.out)
      by_cases hv0 : v = 0
      · have hq0 : (v == 0) = true := by simp [hv0]
        have HE : Hid (R = q) := by have h := HS.out; rw [if_pos hv0] at h; exact h
        clear hv0 HS HD1 CA
        go_wp2
        go_end0
        rw [HE.out]
        exact Amid.fin ⟨S1, ⟨_, _, _, _, _, _, HMW.out⟩, HS1.out, HTW.out, HKW.out⟩
      have hq0 : (v == 0) = false := by simp [hv0]
      have HE : Hid (R = Run.makeN ((q.setFl D).tell 0 v q.e.tg) (N - (k + 1))) := by have h := HS.out; rw [if_neg hv0] at h; exact h
      have HB2 : Hid (((q.setFl D).tell 0 v q.e.tg).ev.length ≤ 900000 + (k + 1) ∧ ((q.setFl D).tell 0 v q.e.tg).e.ps.length ≤ 1048576) := ⟨by have h := HB.out.1; simp [Run.tell, Run.setFl]; omega, HD1.out⟩
      clear hv0 HS HD1 CA
      go_upto_region 5 with (first | (refine wpList_get rfl 34 _ rfl (wr.drew.heap.size) 0 rfl KPW.out (flL A2 D.1.length c2 D.2) rfl Tryz.underlying34 rfl (by kernel_rfl) ?_) | (refine wpList_put rfl rfl 34 _ _ rfl b 17 (flL A2 D.1.length c2 D.2) rfl rfl HMW.out.box (by kernel_rfl) (maL lk ot (q.setFl D) A2 D.1.length c2 E1 m1 k1) rfl (Nat.le_of_ble_eq_true rfl) (flL_one _ _ _ _) ?_))
      obtain ⟨W2, hW2⟩ : ∃ X, X = W.setRow b (maL lk ot (q.setFl D) A2 D.1.length c2 E1 m1 k1).toArray := ⟨_, rfl⟩
      have HM2 : Hid (MachAt W2 (fun x => S1 x ∨ wr.heap.size ≤ x) b lk ot (q.setFl D) A2 D.1.length c2 E1 m1 k1) := by
        rw [hW2]
        exact HMW.out.pods HOW.out (fun _ h => .inl h) (fun x h => .inr (HFR.out x h))
      have HT2 : Hid (Turned S w W2) := by rw [hW2]; exact turned_then HS1.out HTW.out (turned_row HMW.out _)
      have HK2 : Hid (Kept w W2) := by rw [hW2]; exact HKW.out.trans (Kept.row HMW.out.box (by decide) _)
      have HS2 : Hid (∀ x, (S1 x ∨ wr.heap.size ≤ x) → S x ∨ w.heap.size ≤ x) := fun x h => by
        rcases h with h | h
        · exact HS1.out x h
        · exact .inr (Nat.le_trans HT1.out.size h)
      rw [← hW2]
      clear hW2 HMW HOW HTW HKW KPW HBW
      have c15 : W2.cell? ⟨b, 15, none⟩ = some (.int .i64 q.e.tg) := box_cell HM2.out.box 15 _ rfl
      go_wp2_with fail
      refine (tell_any W2 _ b lk ot (q.setFl D) 0 v q.e.tg ⟨_, _, _, _, _, _, HM2.out⟩ (by have h := HB.out.1; show q.ev.length ≤ _; omega)).mono ?_
      intro e w5 hmv
      obtain ⟨rfl, ha⟩ := Amid.call HS2.out HT2.out HK2.out hmv
      have HA5 := Lib.hid ha
      clear hmv ha HM2 HT2 HK2 HS2 c15
      go_wp2
      go_roundw
      case rel => exact ⟨k + 1, _, by omega, by go_num, HA5, HE, HB2⟩
      case measure => simp [RowKit.intOf]; omega
end Go.Proofs.YtdefckbgcggnoaaGreat.Mach
