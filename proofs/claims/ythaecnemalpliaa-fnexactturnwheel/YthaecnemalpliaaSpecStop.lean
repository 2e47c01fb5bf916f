/-
  THE CONTRACT of the model's StopTimer over this seat's translation; nothing that was there has turned.
-/
import Derived.Test.YthaecnemalpliaaImplStop
import Derived.Test.YthaecnemalpliaaSpecCopy
namespace Go.Proofs.Ythaecnemalpliaa.WheelOk
open Go.ChangeShapes Go.WideShapes Go.ChangeAt Go.RowKit Go.Shelf
open Go.Proofs.Ythaecnemalpliaa.Timers Go.Proofs.Ythaecnemalpliaa.Ring
open Go.Proofs.Ythaecnemalpliaa.Tick (tokB tok_t)
open Go.Proofs.Ythaecnemalpliaa.Spoke (spokeV)
set_option linter.unusedVariables false

theorem stop_step (x : Int) (ss : List TList) (k : Nat) (h : k < ss.length) : ((stopL x ss).take k ++ ss.drop k).set k (offL x (ss.getD k [])) = (stopL x ss).take (k + 1) ++ ss.drop (k + 1) := by
  have hl : ((stopL x ss).take k).length = k := by rw [List.length_take, stopL_length]; omega
  rw [List.set_append_right _ _ (by omega), hl, Nat.sub_self, take_snoc (stopL x ss) k (by rw [stopL_length]; exact h), stopL_at, List.append_assoc]
  congr 1
  rw [List.drop_eq_getElem_cons h, List.set_cons_zero]
  rfl
theorem off_take_snoc (x : Int) (ts : TList) (i : Nat) (h : i < ts.length) {z y : Int} (hz : ts.getD i (0, 0) = (z, y)) : offL x (ts.take (i + 1)) = if z == x then offL x (ts.take i) else offL x (ts.take i) ++ [(z, y)] := by
  rw [off_snoc x ts i h, hz]

set_option maxRecDepth 100000 in
set_option maxHeartbeats 1500000 in
theorem specStop_any (now x : Int) (A : Option Addr) (n c : Nat) (ss : List TList) (B : Nat) (w : World) (hr : IsSlots w B A n ss) (hB : B ≤ w.heap.size) (hn : n ≤ 1048576) (hm : ∀ j, (ss.getD j []).length ≤ 1048576) :
    Calls Try.prog 34 #[.agg #[.int .i64 now, .slice A n c], .int .i64 x] w (AnsW w now (stopS now ss x) (.bool (stopB now ss x))) := by
  have HM := Lib.hid hm
  have HR := Lib.hid hr
  have HL : Hid (ss.length = n) := hr.1
  obtain ⟨i8, hi8, hy0, hy1, hy2⟩ := info_parts info68
  clear hm hr
  go_enter Try.func34, Try.ntmps34
  go_wp2_with fail
  obtain ⟨w1, hw1⟩ : ∃ w1, w1 = (w.alloc (.cells #[.int .i64 now, .slice A n c] 26)).alloc (.cells #[.int .i64 0, .slice none 0 0] 26) := ⟨_, rfl⟩
  have hb01 : Below w.heap.size w w1 := by rw [hw1]; exact below_a2 _ _ _
  have hs1 : w1.heap.size = w.heap.size + 1 + 1 := by rw [hw1]; simp
  have hx1 : w1.heap[w.heap.size]? = some (.cells #[.int .i64 now, .slice A n c] 26 (0, 0)) := by
    rw [hw1, Below.heap_alloc _ _ _ (by simp)]
    exact heap_alloc_new w _
  have hx2 : w1.heap[w.heap.size + 1]? = some (.cells #[.int .i64 0, .slice none 0 0] 26 (0, 0)) := ansBox (lo := 0) hw1 (Below.refl _ _)
  have HX1 := Lib.hid hx1
  have HX2 := Lib.hid hx2
  rw [← hw1]
  clear hx1 hx2 hw1
  refine (specWheelOk_any now A n c ss B _ (HR.out.below hb01 hB) (by omega) hn HM.out).mono ?_
  rintro e w2 ⟨rfl, hb2⟩
  have hs2 := hb2.size
  have no : ∀ W : World, Below w1.heap.size w1 W → stopB now ss x = false → Calls Try.prog 65 #[.agg #[.int .i64 now, .slice A n c]] W fun e w' =>
      ∃ A3 c3, e = .returned (.agg #[.int .i64 now, .slice A3 n c3]) ∧ w'.heap[w.heap.size + 1]? = some (.cells #[.int .i64 0, .slice none 0 0] 26 (0, 0)) ∧
        AnsW w now (stopS now ss x) (.bool (stopB now ss x)) (.returned (.tuple #[.agg #[.int .i64 now, .slice A3 n c3], .bool false])) ((w'.setCell ⟨w.heap.size + 1, 0, none⟩ (.int .i64 now)).setCell ⟨w.heap.size + 1, 1, none⟩ (.slice A3 n c3)) := by
    intro W hbW hV
    have hb0W : Below w.heap.size w W := hb01.trans (hbW.mono (by omega))
    have hsW := hbW.size
    refine (l02Copy_any now A n c ss B _ (HR.out.below hb0W hB) (by omega) hn HM.out).mono ?_
    rintro e w3 ⟨A3, c3, rfl, hO3, hb3⟩
    have hb03 : Below w.heap.size w w3 := hb0W.trans (hb3.mono hb0W.size)
    have hVS : stopS now ss x = ss := by unfold stopS; rw [hV]; rfl
    refine ⟨A3, c3, by rw [HL.out], (hb3.block _ (by omega)).trans ((hbW.block _ (by omega)).trans HX2.out), ?_⟩
    have h5 := ansW_end (now0 := now) (now := now) (r := .bool false) (b := w.heap.size + 1) (ss := ss) hO3 hb03 (by omega) (by omega) (by omega)
    rw [hVS, hV]
    rw [HL.out] at h5
    exact h5
  have NO := Lib.hid no
  obtain ⟨a0, a1, _, _⟩ := blk2 ((hb2.block w.heap.size (by omega)).trans HX1.out)
  clear no
  cases hw : wheelB now ss
  · have HV : Hid (stopB now ss x = false) := (by simp [stopB, hw] : stopB now ss x = false)
    go_wp2_with fail
    refine (NO.out _ hb2 HV.out).mono ?_
    rintro e w3 ⟨A3, c3, rfl, hblk, hans⟩
    obtain ⟨d0, d1, g0, g1⟩ := blk2 hblk
    have HA := Lib.hid hans
    clear hans hblk
    go_wp2_with fail
    exact bodyPost_ret (v := .tuple #[.agg #[.int .i64 now, .slice A3 n c3], .bool false]) (by simp [results, Try.results34, go_sem, d0, d1]) rfl HA.out
  · have HG := Lib.hid (wheelB_good hw)
    have hb02 : Below w.heap.size w w2 := hb01.trans (hb2.mono (by omega))
    have hsV : timerV now ss x = atV ss.flatten x := by unfold timerV; rw [hw]; rfl
    have hneg : (atV ss.flatten x < 0) ↔ (atV ss.flatten x == -1) = true := by
      rcases atV_cases ss x HG.out.spots with ⟨h1, _⟩ | ⟨k, p, h1, _, _, h2, _⟩
      · rw [h1]; decide
      · have := tok_t h2
        rw [h1]
        simp
        omega
    go_wp2_with fail
    refine (specTimerOf_any now x A n c ss B _ (HR.out.below hb02 hB) (by omega) hn HM.out).mono ?_
    rintro e w3 ⟨rfl, hb3⟩
    rw [hsV]
    have hb13 : Below w1.heap.size w1 w3 := hb2.trans (hb3.mono hs2)
    have hb03 : Below w.heap.size w w3 := hb01.trans (hb13.mono (by omega))
    have hs3 := hb13.size
    obtain ⟨a30, a31, _, _⟩ := blk2 ((hb13.block w.heap.size (by omega)).trans HX1.out)
    clear a0 a1 hsV
    obtain ⟨q, hq⟩ : ∃ q, q = atV ss.flatten x := ⟨_, rfl⟩
    rw [← hq] at hneg ⊢
    cases hv : (q == -1)
    · have hq0 : ¬ q < 0 := fun h => by rw [hneg.1 h] at hv; cases hv
      have HV : Hid (stopB now ss x = true) := (by simp only [stopB, hw, ← hq, hv]; rfl : stopB now ss x = true)
      have HVS : Hid (stopS now ss x = stopL x ss) := by show _ = _; unfold stopS; rw [HV.out]; rfl
      have HSL : Hid ((stopL x ss).length = n) := (stopL_length x ss).trans HL.out
      have HN8 : Hid (n = 8) := HL.out.symm.trans HG.out.len
      have hqd : decide (q < 0) = false := decide_eq_false hq0
      clear hneg hq hv
      go_wp2_with fail
      refine (l02Copy_any now A n c ss B _ (HR.out.below hb03 hB) (by omega) hn HM.out).mono ?_
      rintro e w4 ⟨A4, c4, rfl, hO4, hb4⟩
      rw [HL.out] at hO4 ⊢
      obtain ⟨ga, rfl, hga1, hga2⟩ := hO4.at_ (by have := HN8.out; omega)
      have HO4 := Lib.hid ((hO4.below (below_a1 w4 (.cells #[.int .i64 now, .slice (some ⟨ga, 0, none⟩) n c4] 26))).more (hi' := w4.heap.size + 1) (by omega))
      have hx4 := heap_alloc_new w4 (.cells #[.int .i64 now, .slice (some ⟨ga, 0, none⟩) n c4] 26)
      have HX4 := Lib.hid hx4
      have hs4 := hb4.size
      clear hO4 hx4 a30 a31
      go_wp2_with fail
      go_loopw [7] (fun v7 wr => ∃ k : Nat, k ≤ 8 ∧ v7 = .int .i64 k ∧ Hid (OwnS wr w3.heap.size wr.heap.size (some ⟨ga, 0, none⟩) n c4 ((stopL x ss).take k ++ ss.drop k)) ∧ Hid (wr.heap[w4.heap.size]? = some (.cells #[.int .i64 now, .slice (some ⟨ga, 0, none⟩) n c4] 26 (0, 0))) ∧ Below w3.heap.size w3 wr ∧ w4.heap.size < wr.heap.size) (fun v7 _ => 8 - (intOf v7).toNat)
      case atStart =>
        refine ⟨0, Nat.zero_le _, rfl, ?_, HX4, hb4.alloc (by omega) _, by simp⟩
        rw [World.size_alloc]
        exact HO4
      case round =>
        obtain ⟨k, hk, rfl, HO, HBX, hbr, hsr⟩ := hrel
        have hb1r : Below w1.heap.size w1 wr := hb13.trans (hbr.mono hs3)
        have hbwr : Below w.heap.size w wr := hb01.trans (hb1r.mono (by omega))
        obtain ⟨a0, a1, _, _⟩ := blk2 ((hb1r.block w.heap.size (by omega)).trans HX1.out)
        obtain ⟨o0, o1, of0, of1⟩ := blk2 HBX.out
        by_cases hlt : k < 8
        · have hk8 : decide ((k : Int) < 8) = true := decide_eq_true (by omega)
          have hkn : k < n := by have := HN8.out; omega
          obtain ⟨b, off, A2, c2, rfl, hbB, hc2, hT2⟩ := slots_at (HR.out.below hbwr hB) hkn
          obtain ⟨m, hm⟩ : ∃ m, m = (ss.getD k []).length := ⟨_, rfl⟩
          have hm1 : m ≤ 1048576 := by rw [hm]; exact HM.out k
          rw [← hm] at hc2 hT2
          have HMM := Lib.hid hm
          have HT2 := Lib.hid hT2
          clear hm hT2
          obtain ⟨wo, hwo⟩ : ∃ wo : World, wo = wr := ⟨_, rfl⟩
          subst hwo
          have HC2 := Lib.hid hc2
          have hbz : b < wo.heap.size := by have := hbwr.size; omega
          go_wp2_with fail
          go_loopw [8, 9] (fun v8 v9 wq => ∃ (i r5 : Nat) (A5 : Option Addr) (c5 : Nat), i ≤ m ∧ r5 ≤ i ∧ v9 = .int .i64 i ∧ v8 = .slice A5 r5 c5 ∧ Hid (OwnT wq wo.heap.size wq.heap.size A5 r5 c5 (offL x ((ss.getD k []).take i))) ∧ Below wo.heap.size wo wq) (fun _ v9 _ => m - (intOf v9).toNat)
          case atStart =>
            refine ⟨0, 0, _, 0, Nat.zero_le _, Nat.le_refl _, rfl, rfl, ⟨rfl, World.ownsRow_lit (base := wo.heap.size) (e := 68) (size := 2) wo #[] 0 (Nat.le_refl _) (Nat.zero_le _) rfl, fun p e => ?_⟩, below_a1 _ _⟩
            injection e with e
            subst e
            simp
          case round =>
            obtain ⟨i, r5, A5, c5, hi, hri, rfl, rfl, HT5, hbq⟩ := hrel
            have hq0' : wr.cell? ⟨w.heap.size, 0, none⟩ = some (.int .i64 now) := below_keep hbq a0
            have hq1' : wr.cell? ⟨w.heap.size, 1, none⟩ = some (.slice (some ⟨b, off, none⟩) n c) := below_keep hbq a1
            have hq2' : wr.cell? ⟨b, off + k, none⟩ = some (.slice A2 m c2) := below_keep hbq HC2.out
            have hp0 : wr.cell? ⟨w4.heap.size, 0, none⟩ = some (.int .i64 now) := below_keep hbq o0
            have hp1 : wr.cell? ⟨w4.heap.size, 1, none⟩ = some (.slice (some ⟨ga, 0, none⟩) n c4) := below_keep hbq o1
            have hszq := hbq.size
            have hszw := hbwr.size
            have hlw : w.heap.size < wr.heap.size := by omega
            have hbr2 : b < wr.heap.size := by omega
            by_cases hlt2 : i < m
            · obtain ⟨b2, off2, z, y, rfl, hbB2, hz, hd1, hd2⟩ := ((HT2.out.below hbq (by omega)).at_ hlt2)
              have hil : i < (ss.getD k []).length := by rw [← HMM.out]; exact hlt2
              have HZ := Lib.hid (off_take_snoc x _ i hil hz)
              have hb2r : b2 < wr.heap.size := by omega
              clear hz
              cases he : (z == x)
              · have hne : (z != x) = true := by simp [bne, he]
                have HZN : Hid (offL x ((ss.getD k []).take (i + 1)) = offL x ((ss.getD k []).take i) ++ [(z, y)]) := by show _ = _; rw [HZ.out, he]; rfl
                go_wp2_with (at_builtin; refine wpList_append_lies _ rfl (.tmp 49) (.tmp 58) _ rfl wo.heap.size 68 i8 _ 2 16 Try.underlying66 hi8 hy0 hy1 hy2 rfl (by omega) (.slice A5 r5 c5) r5 _ rfl (by exact own_below HT5.out.2.1 (below_a1 _ _)) ⟨wr.heap.size, 0, none⟩ 1 1 [.int .i64 z, .int .i64 y] rfl rfl ?o2 ?o3 (by omega) ?o4 ?o5 ?o6 (wr.heap.size + 1) ?o7 ?_)
                case o2 => exact World.news_of_block (cs := #[.int .i64 z, .int .i64 y]) (heap_alloc_new wr _)
                case o3 => intro u hu; simp at hu; rcases hu with rfl | rfl <;> rfl
                case o4 => unfold maxLen; omega
                case o5 => omega
                case o6 => simp; omega
                case o7 => simp
                intro g2 cap2 w2' hown2 hgr2 hat2 hlt3
                have HN : Hid (OwnT w2' wo.heap.size w2'.heap.size (some ⟨g2, 0, none⟩) (r5 + 1) cap2 (offL x ((ss.getD k []).take (i + 1)))) := by
                  refine ⟨by rw [HZN.out, List.length_append, HT5.out.1]; rfl, by rw [HZN.out, flat_app]; exact hown2, fun p e => ?_⟩
                  injection e with e
                  subst e
                  exact hlt3
                have hbn : Below wo.heap.size wo w2' := (hbq.alloc hszq _).grown hgr2 (by simp; omega) (fun q hq => (HT5.out.blk q hq).1)
                clear hown2 hgr2 hat2
                go_wp2_with fail
                go_roundw
                case rel => exact ⟨i + 1, r5 + 1, _, cap2, by omega, by omega, by go_num, rfl, HN, hbn⟩
                case measure => simp [intOf]; omega
              · have hne : (z != x) = false := by simp [bne, he]
                have HZN : Hid (offL x ((ss.getD k []).take (i + 1)) = offL x ((ss.getD k []).take i)) := by show _ = _; rw [HZ.out, he]; rfl
                go_wp2_with fail
                go_roundw
                case rel => exact ⟨i + 1, r5, A5, c5, by omega, by omega, by go_num, rfl, by rw [HZN.out]; exact HT5, hbq⟩
                case measure => simp [intOf]; omega
            · have HI : Hid (i = m) := (by omega : i = m)
              have HT6 : Hid (OwnT wr wo.heap.size wr.heap.size A5 r5 c5 (offL x (ss.getD k []))) := by
                have h5 := HT5.out
                rw [List.take_of_length_le (by rw [← HMM.out, HI.out]; exact Nat.le_refl _)] at h5
                exact h5
              obtain ⟨A7, c7, hcl, hfz, _⟩ := (HO.out.below hbq).cell hkn
              have HP := Lib.hid ((HO.out.below hbq).put hkn (HT6.out.base (lo' := w3.heap.size) (by omega)) (fun p e => (HT6.out.blk p.block (by rw [e]; rfl)).1) hszq)
              have hgar : ga < wr.heap.size := by omega
              have hwg : w.heap.size ≠ ga := by omega
              go_wp2_with fail
              go_roundw
              case rel =>
                have h5 : (wr.setCell ⟨ga, k, none⟩ (.slice A5 r5 c5)).heap.size = wr.heap.size := by simp [World.setCell]
                refine ⟨k + 1, by omega, by go_num, ?_, ?_, ?_, by rw [h5]; omega⟩
                · rw [h5, ← stop_step x ss k (by rw [HL.out]; exact hkn)]
                  exact HP
                · exact (Below.heap_setCell wr ⟨ga, k, none⟩ _ w4.heap.size (by show w4.heap.size ≠ ga; omega)).trans ((hbq.block _ hsr).trans HBX.out)
                · exact (hbr.trans (hbq.mono (by omega))).setCell (p := ⟨ga, k, none⟩) hga1 _
              case measure => simp [intOf]; omega
        · have HK : Hid (k = 8) := (by omega : k = 8)
          have hk8 : decide ((k : Int) < 8) = false := decide_eq_false (by omega)
          obtain ⟨r0, r1, rf0, rf1⟩ := blk2 ((hb1r.block (w.heap.size + 1) (by omega)).trans HX2.out)
          have hl1 : w.heap.size + 1 < wr.heap.size := by omega
          go_wp2_with fail
          rw [HVS.out, HV.out]
          refine bodyPost_ret (v := .tuple #[.agg #[.int .i64 now, .slice (some ⟨ga, 0, none⟩) n c4], .bool true]) (by simp [results, Try.results34, go_sem, r0, r1]) rfl ?_
          have h6 := HO.out
          rw [HK.out, ← HN8.out, ← HSL.out, List.take_length, HSL.out, ← HL.out, List.drop_length, List.append_nil, HL.out] at h6
          have h5 := ansW_end (now0 := now) (now := now) (r := .bool true) (b := w.heap.size + 1) (ss := stopL x ss) (by rw [HSL.out]; exact h6) hbwr (by omega) (by omega) (by omega)
          rw [HSL.out] at h5
          exact h5
    · have hq0 : q < 0 := hneg.2 hv
      have HV : Hid (stopB now ss x = false) := (by simp only [stopB, hw, ← hq, hv]; rfl : stopB now ss x = false)
      clear hneg hq hv
      go_wp2_with fail
      refine (NO.out _ hb13 HV.out).mono ?_
      rintro e w4 ⟨A4, c4, rfl, hblk, hans⟩
      obtain ⟨d0, d1, g0, g1⟩ := blk2 hblk
      have HA := Lib.hid hans
      clear hans hblk
      go_wp2_with fail
      exact bodyPost_ret (v := .tuple #[.agg #[.int .i64 now, .slice A4 n c4], .bool false]) (by simp [results, Try.results34, go_sem, d0, d1]) rfl HA.out
end Go.Proofs.Ythaecnemalpliaa.WheelOk
