import Derived.Test.YtklgjjmcflgjeaaGreatR07
set_option linter.unusedVariables false
set_option linter.unusedSimpArgs false
namespace Go.Proofs.YtklgjjmcflgjeaaGreat.CountS
open Go.ChangeShapes Go.WideShapes Go.ChangeAt Go.RowKit
open LK Pods FleetV Sp Hl CountI
open Tick (inB tokB l01In_any tickOk_any specTickOk_any)
open CountP
theorem take_get {ps : PList} {k : Nat} (h : k < ps.length) : ps.take (k + 1) = ps.take k ++ [ps.getD k z5] := by
  rw [List.take_succ_eq_append_getElem h]
  simp [List.getD, h]
set_option maxRecDepth 100000 in
set_option maxHeartbeats 12800000 in
theorem l07Count_false (x0 x1 x2 x3 x4 x5 x6 x7 x8 x9 x10 rev now : Int) (A : Option Addr) (n c : Nat) (nx : Int) (ps : PList) (B : Nat) (w : World) (hr : IsPods w B A n ps) (hB : B ≤ w.heap.size) (hn : n ≤ 1048576) : Calls Tryz.prog 219 #[.agg #[.int .i64 x0, .int .i64 x1, .int .i64 x2, .int .i64 x3, .int .i64 x4, .int .i64 x5, .int .i64 x6, .int .i64 x7, .int .i64 x8, .int .i64 x9, .int .i64 x10], .agg #[.slice A n c, .int .i64 nx], .int .i64 rev, .int .i64 now, .bool false] w (Says (countT x0 x1 x2 x3 x4 x5 x6 x7 x8 x9 x10 false rev now (ps, nx)) w) := by
  obtain ⟨T, hT⟩ : ∃ T, T = countT x0 x1 x2 x3 x4 x5 x6 x7 x8 x9 x10 false rev now (ps, nx) := ⟨_, rfl⟩
  rw [← hT]
  have HT := Lib.hid hT
  have HL : Hid (ps.length = n) := hr.1
  have HP := Lib.hid hr
  clear hT hr
  obtain ⟨V, hV⟩ : ∃ V, V = (((w.alloc (.cells #[.int .i64 x0, .int .i64 x1, .int .i64 x2, .int .i64 x3, .int .i64 x4, .int .i64 x5, .int .i64 x6, .int .i64 x7, .int .i64 x8, .int .i64 x9, .int .i64 x10] 25)).alloc (.cells #[.slice A n c, .int .i64 nx] 34)).alloc (.cells #[.int .i64 0, .int .i64 0] 231)) := ⟨_, rfl⟩
  have HB : Hid (Below w.heap.size w V) := by show Below _ _ _; rw [hV]; exact bel3 _ _ _ _
  have K0 : Hid (V.heap[w.heap.size]? = some (.cells #[.int .i64 x0, .int .i64 x1, .int .i64 x2, .int .i64 x3, .int .i64 x4, .int .i64 x5, .int .i64 x6, .int .i64 x7, .int .i64 x8, .int .i64 x9, .int .i64 x10] 25)) := by have h := box_alloc (box_alloc (box_new w (.cells #[.int .i64 x0, .int .i64 x1, .int .i64 x2, .int .i64 x3, .int .i64 x4, .int .i64 x5, .int .i64 x6, .int .i64 x7, .int .i64 x8, .int .i64 x9, .int .i64 x10] 25)) (.cells #[.slice A n c, .int .i64 nx] 34)) (.cells #[.int .i64 0, .int .i64 0] 231); (try simp only [World.size_alloc] at h); rw [hV]; exact h
  have K1 : Hid (V.heap[w.heap.size + 1]? = some (.cells #[.slice A n c, .int .i64 nx] 34)) := by have h := box_alloc (box_new (w.alloc (.cells #[.int .i64 x0, .int .i64 x1, .int .i64 x2, .int .i64 x3, .int .i64 x4, .int .i64 x5, .int .i64 x6, .int .i64 x7, .int .i64 x8, .int .i64 x9, .int .i64 x10] 25)) (.cells #[.slice A n c, .int .i64 nx] 34)) (.cells #[.int .i64 0, .int .i64 0] 231); (try simp only [World.size_alloc] at h); rw [hV]; exact h
  have K2 : Hid (V.heap[w.heap.size + 1 + 1]? = some (.cells #[.int .i64 0, .int .i64 0] 231)) := by have h := box_new ((w.alloc (.cells #[.int .i64 x0, .int .i64 x1, .int .i64 x2, .int .i64 x3, .int .i64 x4, .int .i64 x5, .int .i64 x6, .int .i64 x7, .int .i64 x8, .int .i64 x9, .int .i64 x10] 25)).alloc (.cells #[.slice A n c, .int .i64 nx] 34)) (.cells #[.int .i64 0, .int .i64 0] 231); (try simp only [World.size_alloc] at h); rw [hV]; exact h
  go_enter Tryz.func219, Tryz.ntmps219
  go_upto_region 1 with fail
  rw [← hV]
  clear hV
  go_wp2_with (first | (refine wpList_load_row rfl 25 _ rfl _ rfl _ _ (0, 0) _ K0.out Tryz.underlying25 rfl (by kernel_rfl) ?_) | (refine wpList_load_row rfl 34 _ rfl _ rfl _ _ (0, 0) _ K1.out Tryz.underlying34 rfl (by kernel_rfl) ?_))
  refine (specSpecOk_any x0 x1 x2 x3 x4 x5 x6 x7 x8 x9 x10 _).mono ?_
  rintro e w1 ⟨rfl, hb⟩
  have K0' := Lib.hid (box_below K0.out hb)
  clear K0
  have K0 := K0'
  clear K0'
  have K1' := Lib.hid (box_below K1.out hb)
  clear K1
  have K1 := K1'
  clear K1'
  have K2' := Lib.hid (box_below K2.out hb)
  clear K2
  have K2 := K2'
  clear K2'
  have HB' := Lib.hid (bel_then HB.out hb HB.out.size)
  clear HB hb
  have HB := HB'
  clear HB'
  cases h1 : specB x0 x1 x2 x3 x4 x5 x6 x7 x8 x9 x10
  · have HF : Hid (T = .tuple #[.agg #[.int .i64 0, .int .i64 0], .bool false]) := by show _ = _; rw [HT.out]; simp [countT, cabB, h1]
    clear h1
    have k0 := box_cell K2.out 0 _ rfl
    have g0 := box_frozen K2.out 0
    have k1 := box_cell K2.out 1 _ rfl
    have g1 := box_frozen K2.out 1
    have RB := set2B K2.out (.int .i64 0) (.int .i64 0)
    have r0 := box_cell RB 0 _ rfl
    have r1 := box_cell RB 1 _ rfl
    have HBF := Lib.hid (Turned.low HB.out (set2T (S := fun k => k = w.heap.size + 1 + 1) (b := w.heap.size + 1 + 1) rfl (.int .i64 0) (.int .i64 0)) (fun k hk => by omega) HB.out.size)
    clear RB
    go_wp2
    exact bodyPost_ret (v := .tuple #[.agg #[.int .i64 0, .int .i64 0], .bool false]) (by simp [results, Tryz.results219, go_sem, r0, r1]) rfl ⟨by rw [HF.out], HBF.out⟩
  have Hh1 := Lib.hid h1
  clear h1
  have f0 := box_cell K1.out 0 _ rfl
  have f1 := box_cell K1.out 1 _ rfl
  go_wp2_with fail
  clear f0 f1
  refine (FleetSpec.specFleetOk_any A n c nx ps B _ (HP.out.below HB.out hB) (Nat.le_trans hB HB.out.size) hn).mono ?_
  rintro e w2 ⟨rfl, hb⟩
  have K0' := Lib.hid (box_below K0.out hb)
  clear K0
  have K0 := K0'
  clear K0'
  have K1' := Lib.hid (box_below K1.out hb)
  clear K1
  have K1 := K1'
  clear K1'
  have K2' := Lib.hid (box_below K2.out hb)
  clear K2
  have K2 := K2'
  clear K2'
  have HB' := Lib.hid (bel_then HB.out hb HB.out.size)
  clear HB hb
  have HB := HB'
  clear HB'
  cases h2 : decide (FGood ps nx)
  · have HF : Hid (T = .tuple #[.agg #[.int .i64 0, .int .i64 0], .bool false]) := by show _ = _; rw [HT.out]; simp [countT, cabB, Hh1.out, h2]
    clear h2
    have k0 := box_cell K2.out 0 _ rfl
    have g0 := box_frozen K2.out 0
    have k1 := box_cell K2.out 1 _ rfl
    have g1 := box_frozen K2.out 1
    have RB := set2B K2.out (.int .i64 0) (.int .i64 0)
    have r0 := box_cell RB 0 _ rfl
    have r1 := box_cell RB 1 _ rfl
    have HBF := Lib.hid (Turned.low HB.out (set2T (S := fun k => k = w.heap.size + 1 + 1) (b := w.heap.size + 1 + 1) rfl (.int .i64 0) (.int .i64 0)) (fun k hk => by omega) HB.out.size)
    clear RB
    go_wp2
    exact bodyPost_ret (v := .tuple #[.agg #[.int .i64 0, .int .i64 0], .bool false]) (by simp [results, Tryz.results219, go_sem, r0, r1]) rfl ⟨by rw [HF.out], HBF.out⟩
  have Hh2 := Lib.hid h2
  clear h2
  go_wp2_with fail
  refine (l01In_any rev 1 1000 _).mono ?_
  rintro e w' ⟨rfl, rfl⟩
  cases h3 : inB rev 1 1000
  · have HF : Hid (T = .tuple #[.agg #[.int .i64 0, .int .i64 0], .bool false]) := by show _ = _; rw [HT.out]; simp [countT, cabB, Hh1.out, Hh2.out, h3]
    clear h3
    have k0 := box_cell K2.out 0 _ rfl
    have g0 := box_frozen K2.out 0
    have k1 := box_cell K2.out 1 _ rfl
    have g1 := box_frozen K2.out 1
    have RB := set2B K2.out (.int .i64 0) (.int .i64 0)
    have r0 := box_cell RB 0 _ rfl
    have r1 := box_cell RB 1 _ rfl
    have HBF := Lib.hid (Turned.low HB.out (set2T (S := fun k => k = w.heap.size + 1 + 1) (b := w.heap.size + 1 + 1) rfl (.int .i64 0) (.int .i64 0)) (fun k hk => by omega) HB.out.size)
    clear RB
    go_wp2
    exact bodyPost_ret (v := .tuple #[.agg #[.int .i64 0, .int .i64 0], .bool false]) (by simp [results, Tryz.results219, go_sem, r0, r1]) rfl ⟨by rw [HF.out], HBF.out⟩
  have Hh3 := Lib.hid h3
  clear h3
  go_wp2_with fail
  refine (specTickOk_any now _).mono ?_
  rintro e w' ⟨rfl, rfl⟩
  cases h4 : tokB now
  · have HF : Hid (T = .tuple #[.agg #[.int .i64 0, .int .i64 0], .bool false]) := by show _ = _; rw [HT.out]; simp [countT, cabB, Hh1.out, Hh2.out, Hh3.out, h4]
    clear h4
    have k0 := box_cell K2.out 0 _ rfl
    have g0 := box_frozen K2.out 0
    have k1 := box_cell K2.out 1 _ rfl
    have g1 := box_frozen K2.out 1
    have RB := set2B K2.out (.int .i64 0) (.int .i64 0)
    have r0 := box_cell RB 0 _ rfl
    have r1 := box_cell RB 1 _ rfl
    have HBF := Lib.hid (Turned.low HB.out (set2T (S := fun k => k = w.heap.size + 1 + 1) (b := w.heap.size + 1 + 1) rfl (.int .i64 0) (.int .i64 0)) (fun k hk => by omega) HB.out.size)
    clear RB
    go_wp2
    exact bodyPost_ret (v := .tuple #[.agg #[.int .i64 0, .int .i64 0], .bool false]) (by simp [results, Tryz.results219, go_sem, r0, r1]) rfl ⟨by rw [HF.out], HBF.out⟩
  have Hh4 := Lib.hid h4
  clear h4
  have HF : Hid (T = .tuple #[.agg #[.int .i64 (cntF (liveB false rev) ps), .int .i64 (cntF (goodB x0 x1 x2 x3 x4 x5 x6 x7 x8 x9 x10 false rev now) ps)], .bool true]) := by show _ = _; rw [HT.out]; simp [countT, cabB, Hh1.out, Hh2.out, Hh3.out, Hh4.out]
  clear HT Hh1 Hh2 Hh3 Hh4
  have L0 := Lib.hid (box_alloc K0.out (.cells #[.int .i64 0, .int .i64 0] 231))
  have L1 := Lib.hid (box_alloc K1.out (.cells #[.int .i64 0, .int .i64 0] 231))
  have L2 := Lib.hid (box_alloc K2.out (.cells #[.int .i64 0, .int .i64 0] 231))
  have L3 := Lib.hid (box_new w2 (.cells #[.int .i64 0, .int .i64 0] 231))
  have LB := Lib.hid (HB.out.alloc HB.out.size (.cells #[.int .i64 0, .int .i64 0] 231))
  have hl2 : w.heap.size + 1 + 1 < w2.heap.size := box_lt K2.out
  clear K0 K1 K2 HB
  have fz := box_cell L1.out 0 _ rfl
  go_wp2_with fail
  clear fz
  go_loopw [13] (fun v wr => ∃ k : Nat, k ≤ n ∧ v = .int .i64 k ∧ Hid (wr.heap[w.heap.size]? = some (.cells #[.int .i64 x0, .int .i64 x1, .int .i64 x2, .int .i64 x3, .int .i64 x4, .int .i64 x5, .int .i64 x6, .int .i64 x7, .int .i64 x8, .int .i64 x9, .int .i64 x10] 25)) ∧ Hid (wr.heap[w.heap.size + 1]? = some (.cells #[.slice A n c, .int .i64 nx] 34)) ∧ Hid (wr.heap[w.heap.size + 1 + 1]? = some (.cells #[.int .i64 0, .int .i64 0] 231)) ∧ Hid (wr.heap[w2.heap.size]? = some (.cells #[.int .i64 (cntF (liveB false rev) (ps.take k)), .int .i64 (cntF (goodB x0 x1 x2 x3 x4 x5 x6 x7 x8 x9 x10 false rev now) (ps.take k))] 231)) ∧ Hid (Below w.heap.size w wr)) (fun v _ => n - (RowKit.intOf v).toNat)
  case atStart => exact ⟨0, Nat.zero_le _, rfl, L0, L1, L2, by have h := L3.out; simpa [Hid, cntF] using h, LB⟩
  case round =>
    clear L0 L1 L2 L3 LB
    obtain ⟨k, hk, rfl, M0, M1, M2, M3, MB⟩ := hrel
    by_cases hlt : k < n
    case neg =>
      have HK : Hid (k = n) := (by omega : k = n)
      have hd : decide ((k : Int) < (n : Int)) = false := decide_eq_false (by omega)
      have hall : ps.take k = ps := List.take_of_length_le (by rw [HL.out, HK.out]; exact Nat.le_refl _)
      rw [hall] at M3
      clear hall
      obtain ⟨m1, hm1⟩ : ∃ m, m = cntF (liveB false rev) ps := ⟨_, rfl⟩
      obtain ⟨m2, hm2⟩ : ∃ m, m = cntF (goodB x0 x1 x2 x3 x4 x5 x6 x7 x8 x9 x10 false rev now) ps := ⟨_, rfl⟩
      rw [← hm1, ← hm2] at M3
      rw [← hm1, ← hm2] at HF
      clear hm1 hm2
      have fz := box_cell M1.out 0 _ rfl
      have k0 := box_cell M2.out 0 _ rfl
      have g0 := box_frozen M2.out 0
      have k1 := box_cell M2.out 1 _ rfl
      have g1 := box_frozen M2.out 1
      have RB := set2B M2.out (.int .i64 m1) (.int .i64 m2)
      have r0 := box_cell RB 0 _ rfl
      have r1 := box_cell RB 1 _ rfl
      have HBF := Lib.hid (Turned.low MB.out (set2T (S := fun k => k = w.heap.size + 1 + 1) (b := w.heap.size + 1 + 1) rfl (.int .i64 m1) (.int .i64 m2)) (fun k hk => by omega) MB.out.size)
      clear RB
      go_wp2_with (refine wpList_load_row rfl 231 _ rfl _ rfl _ _ (0, 0) _ M3.out Tryz.underlying231 rfl (by kernel_rfl) ?_)
      exact bodyPost_ret (v := .tuple #[.agg #[.int .i64 m1, .int .i64 m2], .bool true]) (by simp [results, Tryz.results219, go_sem, r0, r1]) rfl ⟨by rw [HF.out], HBF.out⟩
    have hd : decide ((k : Int) < (n : Int)) = true := decide_eq_true (by omega)
    have hkl : k < ps.length := by rw [HL.out]; exact hlt
    have htk := take_get hkl
    obtain ⟨b, off, y0, y1, y2, y3, y4, rfl, hbB, hz, hc0, hc1, hc2, hc3, hc4⟩ := (HP.out.below MB.out hB).at_ hlt
    rw [hz] at htk
    have hs1 := cnt_snoc (liveB false rev) (ps.take k) (y0, y1, y2, y3, y4)
    have hs2 := cnt_snoc (goodB x0 x1 x2 x3 x4 x5 x6 x7 x8 x9 x10 false rev now) (ps.take k) (y0, y1, y2, y3, y4)
    rw [← htk] at hs1 hs2
    have hm1 : cntF (liveB false rev) (ps.take k) ≤ 1048576 := Nat.le_trans (cnt_le _ _) (by rw [List.length_take]; omega)
    have hm2 : cntF (goodB x0 x1 x2 x3 x4 x5 x6 x7 x8 x9 x10 false rev now) (ps.take k) ≤ 1048576 := Nat.le_trans (cnt_le _ _) (by rw [List.length_take]; omega)
    obtain ⟨m1, hM1⟩ : ∃ m, m = cntF (liveB false rev) (ps.take k) := ⟨_, rfl⟩
    obtain ⟨m2, hM2⟩ : ∃ m, m = cntF (goodB x0 x1 x2 x3 x4 x5 x6 x7 x8 x9 x10 false rev now) (ps.take k) := ⟨_, rfl⟩
    rw [← hM1] at M3 hm1 hs1
    rw [← hM2] at M3 hm2 hs2
    have HS1 := Lib.hid hs1
    have HS2 := Lib.hid hs2
    clear hM1 hM2 hs1 hs2 htk hz hkl
    have fz := box_cell M1.out 0 _ rfl
    have b0 : (wr.alloc (.cells #[.int .i64 y0, .int .i64 y1, .int .i64 y2, .int .i64 y3, .int .i64 y4] 85)).cell? ⟨wr.heap.size, 0, none⟩ = some (.int .i64 y0) := box_cell (box_new wr (.cells #[.int .i64 y0, .int .i64 y1, .int .i64 y2, .int .i64 y3, .int .i64 y4] 85)) 0 _ rfl
    have b1 : (wr.alloc (.cells #[.int .i64 y0, .int .i64 y1, .int .i64 y2, .int .i64 y3, .int .i64 y4] 85)).cell? ⟨wr.heap.size, 1, none⟩ = some (.int .i64 y1) := box_cell (box_new wr (.cells #[.int .i64 y0, .int .i64 y1, .int .i64 y2, .int .i64 y3, .int .i64 y4] 85)) 1 _ rfl
    have b2 : (wr.alloc (.cells #[.int .i64 y0, .int .i64 y1, .int .i64 y2, .int .i64 y3, .int .i64 y4] 85)).cell? ⟨wr.heap.size, 2, none⟩ = some (.int .i64 y2) := box_cell (box_new wr (.cells #[.int .i64 y0, .int .i64 y1, .int .i64 y2, .int .i64 y3, .int .i64 y4] 85)) 2 _ rfl
    have b3 : (wr.alloc (.cells #[.int .i64 y0, .int .i64 y1, .int .i64 y2, .int .i64 y3, .int .i64 y4] 85)).cell? ⟨wr.heap.size, 3, none⟩ = some (.int .i64 y3) := box_cell (box_new wr (.cells #[.int .i64 y0, .int .i64 y1, .int .i64 y2, .int .i64 y3, .int .i64 y4] 85)) 3 _ rfl
    have b4 : (wr.alloc (.cells #[.int .i64 y0, .int .i64 y1, .int .i64 y2, .int .i64 y3, .int .i64 y4] 85)).cell? ⟨wr.heap.size, 4, none⟩ = some (.int .i64 y4) := box_cell (box_new wr (.cells #[.int .i64 y0, .int .i64 y1, .int .i64 y2, .int .i64 y3, .int .i64 y4] 85)) 4 _ rfl
    have N0 := Lib.hid (box_alloc M0.out (.cells #[.int .i64 y0, .int .i64 y1, .int .i64 y2, .int .i64 y3, .int .i64 y4] 85))
    have N1 := Lib.hid (box_alloc M1.out (.cells #[.int .i64 y0, .int .i64 y1, .int .i64 y2, .int .i64 y3, .int .i64 y4] 85))
    have N2 := Lib.hid (box_alloc M2.out (.cells #[.int .i64 y0, .int .i64 y1, .int .i64 y2, .int .i64 y3, .int .i64 y4] 85))
    have N3 := Lib.hid (box_alloc M3.out (.cells #[.int .i64 y0, .int .i64 y1, .int .i64 y2, .int .i64 y3, .int .i64 y4] 85))
    have NB := Lib.hid (MB.out.alloc MB.out.size (.cells #[.int .i64 y0, .int .i64 y1, .int .i64 y2, .int .i64 y3, .int .i64 y4] 85))
    have hl3 : w2.heap.size < wr.heap.size := box_lt M3.out
    cases hx : (y1 == rev)
    case false =>
      have hz1 : liveB false rev (y0, y1, y2, y3, y4) = false := by simp [liveB, selB, hx]
      have hz2 : goodB x0 x1 x2 x3 x4 x5 x6 x7 x8 x9 x10 false rev now (y0, y1, y2, y3, y4) = false := by simp [CountI.goodB, hz1]
      have HE1 : Hid (cntF (liveB false rev) (ps.take (k + 1)) = m1) := by show _ = _; rw [HS1.out, hz1]; rfl
      have HE2 : Hid (cntF (goodB x0 x1 x2 x3 x4 x5 x6 x7 x8 x9 x10 false rev now) (ps.take (k + 1)) = m2) := by show _ = _; rw [HS2.out, hz2]; rfl
      clear hz1 hz2
      go_wp2
      go_roundw
      case rel => exact ⟨k + 1, by omega, by go_num, N0, N1, N2, by rw [HE1.out, HE2.out]; exact N3, NB⟩
      case measure => simp [RowKit.intOf]; omega
    case true =>
      cases hq : (y2 == 4)
      case true =>
        have hz1 : liveB false rev (y0, y1, y2, y3, y4) = false := by simp [liveB, selB, hx, hq]
        have hz2 : goodB x0 x1 x2 x3 x4 x5 x6 x7 x8 x9 x10 false rev now (y0, y1, y2, y3, y4) = false := by simp [CountI.goodB, hz1]
        have HE1 : Hid (cntF (liveB false rev) (ps.take (k + 1)) = m1) := by show _ = _; rw [HS1.out, hz1]; rfl
        have HE2 : Hid (cntF (goodB x0 x1 x2 x3 x4 x5 x6 x7 x8 x9 x10 false rev now) (ps.take (k + 1)) = m2) := by show _ = _; rw [HS2.out, hz2]; rfl
        clear hz1 hz2
        go_wp2
        go_roundw
        case rel => exact ⟨k + 1, by omega, by go_num, N0, N1, N2, by rw [HE1.out, HE2.out]; exact N3, NB⟩
        case measure => simp [RowKit.intOf]; omega
      case false =>
        have hz1 : liveB false rev (y0, y1, y2, y3, y4) = true := by simp [liveB, selB, hx, hq]
        have HE1 : Hid (((cntF (liveB false rev) (ps.take (k + 1)) : Nat) : Int) = (m1 : Int) + 1) := by show _ = _; rw [HS1.out, hz1]; simp
        obtain ⟨Q, hQ⟩ : ∃ Q, Q = availB x0 x1 x2 x3 x4 x5 x6 x7 x8 x9 x10 y2 y4 now := ⟨_, rfl⟩
        have hz2 : goodB x0 x1 x2 x3 x4 x5 x6 x7 x8 x9 x10 false rev now (y0, y1, y2, y3, y4) = Q := by simp [CountI.goodB, hz1, hQ]
        have HE2 : Hid (cntF (goodB x0 x1 x2 x3 x4 x5 x6 x7 x8 x9 x10 false rev now) (ps.take (k + 1)) = m2 + if Q then 1 else 0) := by show _ = _; rw [HS2.out, hz2]
        have HA : Hid (∀ W : World, Calls Tryz.prog 106 #[.agg #[.int .i64 x0, .int .i64 x1, .int .i64 x2, .int .i64 x3, .int .i64 x4, .int .i64 x5, .int .i64 x6, .int .i64 x7, .int .i64 x8, .int .i64 x9, .int .i64 x10], .agg #[.int .i64 y0, .int .i64 y1, .int .i64 y2, .int .i64 y3, .int .i64 y4], .int .i64 now] W (Says (.bool Q) W)) := fun W => by rw [hQ]; exact specIsAvailable_any x0 x1 x2 x3 x4 x5 x6 x7 x8 x9 x10 y0 y1 y2 y3 y4 now W
        clear hz1 hz2 hQ
        have k0 := box_cell N3.out 0 _ rfl
        have g0 := box_frozen N3.out 0
        have T3 : Turned (fun k => k = w2.heap.size) wr (wr.setCell ⟨w2.heap.size, 0, none⟩ (.int .i64 ((m1 : Int) + 1))) := Turned.set _ _ _ rfl
        have J0 := Lib.hid (box_alloc (box_turned M0.out T3 (by omega)) (.cells #[.int .i64 y0, .int .i64 y1, .int .i64 y2, .int .i64 y3, .int .i64 y4] 85))
        have J1 := Lib.hid (box_alloc (box_turned M1.out T3 (by omega)) (.cells #[.int .i64 y0, .int .i64 y1, .int .i64 y2, .int .i64 y3, .int .i64 y4] 85))
        have J2 := Lib.hid (box_alloc (box_turned M2.out T3 (by omega)) (.cells #[.int .i64 y0, .int .i64 y1, .int .i64 y2, .int .i64 y3, .int .i64 y4] 85))
        have J3 := Lib.hid (box_alloc (set0B M3.out (.int .i64 ((m1 : Int) + 1))) (.cells #[.int .i64 y0, .int .i64 y1, .int .i64 y2, .int .i64 y3, .int .i64 y4] 85))
        have hsx : (wr.setCell ⟨w2.heap.size, 0, none⟩ (.int .i64 ((m1 : Int) + 1))).heap.size = wr.heap.size := by simp [World.setCell]
        have JX := box_new (wr.setCell ⟨w2.heap.size, 0, none⟩ (.int .i64 ((m1 : Int) + 1))) (.cells #[.int .i64 y0, .int .i64 y1, .int .i64 y2, .int .i64 y3, .int .i64 y4] 85)
        rw [hsx] at JX
        have JX' := Lib.hid JX
        clear JX
        have JX := JX'
        clear JX'
        have JB0 := Turned.low MB.out T3 (fun k hk => by omega) MB.out.size
        have JB := Lib.hid (JB0.alloc JB0.size (.cells #[.int .i64 y0, .int .i64 y1, .int .i64 y2, .int .i64 y3, .int .i64 y4] 85))
        clear T3 N0 N1 N2 N3 NB M0 M1 M2 M3 MB JB0 hsx
        have c0 := box_cell J0.out 0 _ rfl
        have c1 := box_cell J0.out 1 _ rfl
        have c2 := box_cell J0.out 2 _ rfl
        have c3 := box_cell J0.out 3 _ rfl
        have c4 := box_cell J0.out 4 _ rfl
        have c5 := box_cell J0.out 5 _ rfl
        have c6 := box_cell J0.out 6 _ rfl
        have c7 := box_cell J0.out 7 _ rfl
        have c8 := box_cell J0.out 8 _ rfl
        have c9 := box_cell J0.out 9 _ rfl
        have c10 := box_cell J0.out 10 _ rfl
        have d0 := box_cell JX.out 0 _ rfl
        have d1 := box_cell JX.out 1 _ rfl
        have d2 := box_cell JX.out 2 _ rfl
        have d3 := box_cell JX.out 3 _ rfl
        have d4 := box_cell JX.out 4 _ rfl
        go_wp2_with fail
        refine (HA.out _).mono ?_
        rintro e w4 ⟨rfl, hb⟩
        clear k0 g0 fz c0 c1 c2 c3 c4 c5 c6 c7 c8 c9 c10 d0 b0 hc0 d1 b1 hc1 d2 b2 hc2 d3 b3 hc3 d4 b4 hc4
        have Q0 := Lib.hid (box_below J0.out hb)
        have Q1 := Lib.hid (box_below J1.out hb)
        have Q2 := Lib.hid (box_below J2.out hb)
        have Q3 := Lib.hid (box_below J3.out hb)
        have QB := Lib.hid (bel_then JB.out hb JB.out.size)
        clear hb J0 J1 J2 J3 JX JB HA
        cases Q
        case false =>
          go_wp2
          go_roundw
          case rel => exact ⟨k + 1, by omega, by go_num, Q0, Q1, Q2, by rw [HE1.out, HE2.out]; exact Q3, QB⟩
          case measure => simp [RowKit.intOf]; omega
        case true =>
          have k1 := box_cell Q3.out 1 _ rfl
          have g1 := box_frozen Q3.out 1
          have T6 : Turned (fun k => k = w2.heap.size) w4 (w4.setCell ⟨w2.heap.size, 1, none⟩ (.int .i64 ((m2 : Int) + 1))) := Turned.set _ _ _ rfl
          have R0 := Lib.hid (box_turned Q0.out T6 (by omega))
          have R1 := Lib.hid (box_turned Q1.out T6 (by omega))
          have R2 := Lib.hid (box_turned Q2.out T6 (by omega))
          have R3 := Lib.hid (set1B Q3.out (.int .i64 ((m2 : Int) + 1)))
          have RB := Lib.hid (Turned.low QB.out T6 (fun k hk => by omega) QB.out.size)
          clear T6 Q0 Q1 Q2 Q3 QB
          go_wp2
          go_roundw
          case rel => exact ⟨k + 1, by omega, by go_num, R0, R1, R2, by rw [HE1.out, HE2.out]; exact R3, RB⟩
          case measure => simp [RowKit.intOf]; omega
set_option maxRecDepth 100000 in
set_option maxHeartbeats 12800000 in
theorem l07Count_true (x0 x1 x2 x3 x4 x5 x6 x7 x8 x9 x10 rev now : Int) (A : Option Addr) (n c : Nat) (nx : Int) (ps : PList) (B : Nat) (w : World) (hr : IsPods w B A n ps) (hB : B ≤ w.heap.size) (hn : n ≤ 1048576) : Calls Tryz.prog 219 #[.agg #[.int .i64 x0, .int .i64 x1, .int .i64 x2, .int .i64 x3, .int .i64 x4, .int .i64 x5, .int .i64 x6, .int .i64 x7, .int .i64 x8, .int .i64 x9, .int .i64 x10], .agg #[.slice A n c, .int .i64 nx], .int .i64 rev, .int .i64 now, .bool true] w (Says (countT x0 x1 x2 x3 x4 x5 x6 x7 x8 x9 x10 true rev now (ps, nx)) w) := by
  obtain ⟨T, hT⟩ : ∃ T, T = countT x0 x1 x2 x3 x4 x5 x6 x7 x8 x9 x10 true rev now (ps, nx) := ⟨_, rfl⟩
  rw [← hT]
  have HT := Lib.hid hT
  have HL : Hid (ps.length = n) := hr.1
  have HP := Lib.hid hr
  clear hT hr
  obtain ⟨V, hV⟩ : ∃ V, V = (((w.alloc (.cells #[.int .i64 x0, .int .i64 x1, .int .i64 x2, .int .i64 x3, .int .i64 x4, .int .i64 x5, .int .i64 x6, .int .i64 x7, .int .i64 x8, .int .i64 x9, .int .i64 x10] 25)).alloc (.cells #[.slice A n c, .int .i64 nx] 34)).alloc (.cells #[.int .i64 0, .int .i64 0] 231)) := ⟨_, rfl⟩
  have HB : Hid (Below w.heap.size w V) := by show Below _ _ _; rw [hV]; exact bel3 _ _ _ _
  have K0 : Hid (V.heap[w.heap.size]? = some (.cells #[.int .i64 x0, .int .i64 x1, .int .i64 x2, .int .i64 x3, .int .i64 x4, .int .i64 x5, .int .i64 x6, .int .i64 x7, .int .i64 x8, .int .i64 x9, .int .i64 x10] 25)) := by have h := box_alloc (box_alloc (box_new w (.cells #[.int .i64 x0, .int .i64 x1, .int .i64 x2, .int .i64 x3, .int .i64 x4, .int .i64 x5, .int .i64 x6, .int .i64 x7, .int .i64 x8, .int .i64 x9, .int .i64 x10] 25)) (.cells #[.slice A n c, .int .i64 nx] 34)) (.cells #[.int .i64 0, .int .i64 0] 231); (try simp only [World.size_alloc] at h); rw [hV]; exact h
  have K1 : Hid (V.heap[w.heap.size + 1]? = some (.cells #[.slice A n c, .int .i64 nx] 34)) := by have h := box_alloc (box_new (w.alloc (.cells #[.int .i64 x0, .int .i64 x1, .int .i64 x2, .int .i64 x3, .int .i64 x4, .int .i64 x5, .int .i64 x6, .int .i64 x7, .int .i64 x8, .int .i64 x9, .int .i64 x10] 25)) (.cells #[.slice A n c, .int .i64 nx] 34)) (.cells #[.int .i64 0, .int .i64 0] 231); (try simp only [World.size_alloc] at h); rw [hV]; exact h
  have K2 : Hid (V.heap[w.heap.size + 1 + 1]? = some (.cells #[.int .i64 0, .int .i64 0] 231)) := by have h := box_new ((w.alloc (.cells #[.int .i64 x0, .int .i64 x1, .int .i64 x2, .int .i64 x3, .int .i64 x4, .int .i64 x5, .int .i64 x6, .int .i64 x7, .int .i64 x8, .int .i64 x9, .int .i64 x10] 25)).alloc (.cells #[.slice A n c, .int .i64 nx] 34)) (.cells #[.int .i64 0, .int .i64 0] 231); (try simp only [World.size_alloc] at h); rw [hV]; exact h
  go_enter Tryz.func219, Tryz.ntmps219
  go_upto_region 1 with fail
  rw [← hV]
  clear hV
  go_wp2_with (first | (refine wpList_load_row rfl 25 _ rfl _ rfl _ _ (0, 0) _ K0.out Tryz.underlying25 rfl (by kernel_rfl) ?_) | (refine wpList_load_row rfl 34 _ rfl _ rfl _ _ (0, 0) _ K1.out Tryz.underlying34 rfl (by kernel_rfl) ?_))
  refine (specSpecOk_any x0 x1 x2 x3 x4 x5 x6 x7 x8 x9 x10 _).mono ?_
  rintro e w1 ⟨rfl, hb⟩
  have K0' := Lib.hid (box_below K0.out hb)
  clear K0
  have K0 := K0'
  clear K0'
  have K1' := Lib.hid (box_below K1.out hb)
  clear K1
  have K1 := K1'
  clear K1'
  have K2' := Lib.hid (box_below K2.out hb)
  clear K2
  have K2 := K2'
  clear K2'
  have HB' := Lib.hid (bel_then HB.out hb HB.out.size)
  clear HB hb
  have HB := HB'
  clear HB'
  cases h1 : specB x0 x1 x2 x3 x4 x5 x6 x7 x8 x9 x10
  · have HF : Hid (T = .tuple #[.agg #[.int .i64 0, .int .i64 0], .bool false]) := by show _ = _; rw [HT.out]; simp [countT, cabB, h1]
    clear h1
    have k0 := box_cell K2.out 0 _ rfl
    have g0 := box_frozen K2.out 0
    have k1 := box_cell K2.out 1 _ rfl
    have g1 := box_frozen K2.out 1
    have RB := set2B K2.out (.int .i64 0) (.int .i64 0)
    have r0 := box_cell RB 0 _ rfl
    have r1 := box_cell RB 1 _ rfl
    have HBF := Lib.hid (Turned.low HB.out (set2T (S := fun k => k = w.heap.size + 1 + 1) (b := w.heap.size + 1 + 1) rfl (.int .i64 0) (.int .i64 0)) (fun k hk => by omega) HB.out.size)
    clear RB
    go_wp2
    exact bodyPost_ret (v := .tuple #[.agg #[.int .i64 0, .int .i64 0], .bool false]) (by simp [results, Tryz.results219, go_sem, r0, r1]) rfl ⟨by rw [HF.out], HBF.out⟩
  have Hh1 := Lib.hid h1
  clear h1
  have f0 := box_cell K1.out 0 _ rfl
  have f1 := box_cell K1.out 1 _ rfl
  go_wp2_with fail
  clear f0 f1
  refine (FleetSpec.specFleetOk_any A n c nx ps B _ (HP.out.below HB.out hB) (Nat.le_trans hB HB.out.size) hn).mono ?_
  rintro e w2 ⟨rfl, hb⟩
  have K0' := Lib.hid (box_below K0.out hb)
  clear K0
  have K0 := K0'
  clear K0'
  have K1' := Lib.hid (box_below K1.out hb)
  clear K1
  have K1 := K1'
  clear K1'
  have K2' := Lib.hid (box_below K2.out hb)
  clear K2
  have K2 := K2'
  clear K2'
  have HB' := Lib.hid (bel_then HB.out hb HB.out.size)
  clear HB hb
  have HB := HB'
  clear HB'
  cases h2 : decide (FGood ps nx)
  · have HF : Hid (T = .tuple #[.agg #[.int .i64 0, .int .i64 0], .bool false]) := by show _ = _; rw [HT.out]; simp [countT, cabB, Hh1.out, h2]
    clear h2
    have k0 := box_cell K2.out 0 _ rfl
    have g0 := box_frozen K2.out 0
    have k1 := box_cell K2.out 1 _ rfl
    have g1 := box_frozen K2.out 1
    have RB := set2B K2.out (.int .i64 0) (.int .i64 0)
    have r0 := box_cell RB 0 _ rfl
    have r1 := box_cell RB 1 _ rfl
    have HBF := Lib.hid (Turned.low HB.out (set2T (S := fun k => k = w.heap.size + 1 + 1) (b := w.heap.size + 1 + 1) rfl (.int .i64 0) (.int .i64 0)) (fun k hk => by omega) HB.out.size)
    clear RB
    go_wp2
    exact bodyPost_ret (v := .tuple #[.agg #[.int .i64 0, .int .i64 0], .bool false]) (by simp [results, Tryz.results219, go_sem, r0, r1]) rfl ⟨by rw [HF.out], HBF.out⟩
  have Hh2 := Lib.hid h2
  clear h2
  go_wp2_with fail
  refine (l01In_any rev 1 1000 _).mono ?_
  rintro e w' ⟨rfl, rfl⟩
  cases h3 : inB rev 1 1000
  · have HF : Hid (T = .tuple #[.agg #[.int .i64 0, .int .i64 0], .bool false]) := by show _ = _; rw [HT.out]; simp [countT, cabB, Hh1.out, Hh2.out, h3]
    clear h3
    have k0 := box_cell K2.out 0 _ rfl
    have g0 := box_frozen K2.out 0
    have k1 := box_cell K2.out 1 _ rfl
    have g1 := box_frozen K2.out 1
    have RB := set2B K2.out (.int .i64 0) (.int .i64 0)
    have r0 := box_cell RB 0 _ rfl
    have r1 := box_cell RB 1 _ rfl
    have HBF := Lib.hid (Turned.low HB.out (set2T (S := fun k => k = w.heap.size + 1 + 1) (b := w.heap.size + 1 + 1) rfl (.int .i64 0) (.int .i64 0)) (fun k hk => by omega) HB.out.size)
    clear RB
    go_wp2
    exact bodyPost_ret (v := .tuple #[.agg #[.int .i64 0, .int .i64 0], .bool false]) (by simp [results, Tryz.results219, go_sem, r0, r1]) rfl ⟨by rw [HF.out], HBF.out⟩
  have Hh3 := Lib.hid h3
  clear h3
  go_wp2_with fail
  refine (specTickOk_any now _).mono ?_
  rintro e w' ⟨rfl, rfl⟩
  cases h4 : tokB now
  · have HF : Hid (T = .tuple #[.agg #[.int .i64 0, .int .i64 0], .bool false]) := by show _ = _; rw [HT.out]; simp [countT, cabB, Hh1.out, Hh2.out, Hh3.out, h4]
    clear h4
    have k0 := box_cell K2.out 0 _ rfl
    have g0 := box_frozen K2.out 0
    have k1 := box_cell K2.out 1 _ rfl
    have g1 := box_frozen K2.out 1
    have RB := set2B K2.out (.int .i64 0) (.int .i64 0)
    have r0 := box_cell RB 0 _ rfl
    have r1 := box_cell RB 1 _ rfl
    have HBF := Lib.hid (Turned.low HB.out (set2T (S := fun k => k = w.heap.size + 1 + 1) (b := w.heap.size + 1 + 1) rfl (.int .i64 0) (.int .i64 0)) (fun k hk => by omega) HB.out.size)
    clear RB
    go_wp2
    exact bodyPost_ret (v := .tuple #[.agg #[.int .i64 0, .int .i64 0], .bool false]) (by simp [results, Tryz.results219, go_sem, r0, r1]) rfl ⟨by rw [HF.out], HBF.out⟩
  have Hh4 := Lib.hid h4
  clear h4
  have HF : Hid (T = .tuple #[.agg #[.int .i64 (cntF (liveB true rev) ps), .int .i64 (cntF (goodB x0 x1 x2 x3 x4 x5 x6 x7 x8 x9 x10 true rev now) ps)], .bool true]) := by show _ = _; rw [HT.out]; simp [countT, cabB, Hh1.out, Hh2.out, Hh3.out, Hh4.out]
  clear HT Hh1 Hh2 Hh3 Hh4
  have L0 := Lib.hid (box_alloc K0.out (.cells #[.int .i64 0, .int .i64 0] 231))
  have L1 := Lib.hid (box_alloc K1.out (.cells #[.int .i64 0, .int .i64 0] 231))
  have L2 := Lib.hid (box_alloc K2.out (.cells #[.int .i64 0, .int .i64 0] 231))
  have L3 := Lib.hid (box_new w2 (.cells #[.int .i64 0, .int .i64 0] 231))
  have LB := Lib.hid (HB.out.alloc HB.out.size (.cells #[.int .i64 0, .int .i64 0] 231))
  have hl2 : w.heap.size + 1 + 1 < w2.heap.size := box_lt K2.out
  clear K0 K1 K2 HB
  have fz := box_cell L1.out 0 _ rfl
  go_wp2_with fail
  clear fz
  go_loopw [13] (fun v wr => ∃ k : Nat, k ≤ n ∧ v = .int .i64 k ∧ Hid (wr.heap[w.heap.size]? = some (.cells #[.int .i64 x0, .int .i64 x1, .int .i64 x2, .int .i64 x3, .int .i64 x4, .int .i64 x5, .int .i64 x6, .int .i64 x7, .int .i64 x8, .int .i64 x9, .int .i64 x10] 25)) ∧ Hid (wr.heap[w.heap.size + 1]? = some (.cells #[.slice A n c, .int .i64 nx] 34)) ∧ Hid (wr.heap[w.heap.size + 1 + 1]? = some (.cells #[.int .i64 0, .int .i64 0] 231)) ∧ Hid (wr.heap[w2.heap.size]? = some (.cells #[.int .i64 (cntF (liveB true rev) (ps.take k)), .int .i64 (cntF (goodB x0 x1 x2 x3 x4 x5 x6 x7 x8 x9 x10 true rev now) (ps.take k))] 231)) ∧ Hid (Below w.heap.size w wr)) (fun v _ => n - (RowKit.intOf v).toNat)
  case atStart => exact ⟨0, Nat.zero_le _, rfl, L0, L1, L2, by have h := L3.out; simpa [Hid, cntF] using h, LB⟩
  case round =>
    clear L0 L1 L2 L3 LB
    obtain ⟨k, hk, rfl, M0, M1, M2, M3, MB⟩ := hrel
    by_cases hlt : k < n
    case neg =>
      have HK : Hid (k = n) := (by omega : k = n)
      have hd : decide ((k : Int) < (n : Int)) = false := decide_eq_false (by omega)
      have hall : ps.take k = ps := List.take_of_length_le (by rw [HL.out, HK.out]; exact Nat.le_refl _)
      rw [hall] at M3
      clear hall
      obtain ⟨m1, hm1⟩ : ∃ m, m = cntF (liveB true rev) ps := ⟨_, rfl⟩
      obtain ⟨m2, hm2⟩ : ∃ m, m = cntF (goodB x0 x1 x2 x3 x4 x5 x6 x7 x8 x9 x10 true rev now) ps := ⟨_, rfl⟩
      rw [← hm1, ← hm2] at M3
      rw [← hm1, ← hm2] at HF
      clear hm1 hm2
      have fz := box_cell M1.out 0 _ rfl
      have k0 := box_cell M2.out 0 _ rfl
      have g0 := box_frozen M2.out 0
      have k1 := box_cell M2.out 1 _ rfl
      have g1 := box_frozen M2.out 1
      have RB := set2B M2.out (.int .i64 m1) (.int .i64 m2)
      have r0 := box_cell RB 0 _ rfl
      have r1 := box_cell RB 1 _ rfl
      have HBF := Lib.hid (Turned.low MB.out (set2T (S := fun k => k = w.heap.size + 1 + 1) (b := w.heap.size + 1 + 1) rfl (.int .i64 m1) (.int .i64 m2)) (fun k hk => by omega) MB.out.size)
      clear RB
      go_wp2_with (refine wpList_load_row rfl 231 _ rfl _ rfl _ _ (0, 0) _ M3.out Tryz.underlying231 rfl (by kernel_rfl) ?_)
      exact bodyPost_ret (v := .tuple #[.agg #[.int .i64 m1, .int .i64 m2], .bool true]) (by simp [results, Tryz.results219, go_sem, r0, r1]) rfl ⟨by rw [HF.out], HBF.out⟩
    have hd : decide ((k : Int) < (n : Int)) = true := decide_eq_true (by omega)
    have hkl : k < ps.length := by rw [HL.out]; exact hlt
    have htk := take_get hkl
    obtain ⟨b, off, y0, y1, y2, y3, y4, rfl, hbB, hz, hc0, hc1, hc2, hc3, hc4⟩ := (HP.out.below MB.out hB).at_ hlt
    rw [hz] at htk
    have hs1 := cnt_snoc (liveB true rev) (ps.take k) (y0, y1, y2, y3, y4)
    have hs2 := cnt_snoc (goodB x0 x1 x2 x3 x4 x5 x6 x7 x8 x9 x10 true rev now) (ps.take k) (y0, y1, y2, y3, y4)
    rw [← htk] at hs1 hs2
    have hm1 : cntF (liveB true rev) (ps.take k) ≤ 1048576 := Nat.le_trans (cnt_le _ _) (by rw [List.length_take]; omega)
    have hm2 : cntF (goodB x0 x1 x2 x3 x4 x5 x6 x7 x8 x9 x10 true rev now) (ps.take k) ≤ 1048576 := Nat.le_trans (cnt_le _ _) (by rw [List.length_take]; omega)
    obtain ⟨m1, hM1⟩ : ∃ m, m = cntF (liveB true rev) (ps.take k) := ⟨_, rfl⟩
    obtain ⟨m2, hM2⟩ : ∃ m, m = cntF (goodB x0 x1 x2 x3 x4 x5 x6 x7 x8 x9 x10 true rev now) (ps.take k) := ⟨_, rfl⟩
    rw [← hM1] at M3 hm1 hs1
    rw [← hM2] at M3 hm2 hs2
    have HS1 := Lib.hid hs1
    have HS2 := Lib.hid hs2
    clear hM1 hM2 hs1 hs2 htk hz hkl
    have fz := box_cell M1.out 0 _ rfl
    have b0 : (wr.alloc (.cells #[.int .i64 y0, .int .i64 y1, .int .i64 y2, .int .i64 y3, .int .i64 y4] 85)).cell? ⟨wr.heap.size, 0, none⟩ = some (.int .i64 y0) := box_cell (box_new wr (.cells #[.int .i64 y0, .int .i64 y1, .int .i64 y2, .int .i64 y3, .int .i64 y4] 85)) 0 _ rfl
    have b1 : (wr.alloc (.cells #[.int .i64 y0, .int .i64 y1, .int .i64 y2, .int .i64 y3, .int .i64 y4] 85)).cell? ⟨wr.heap.size, 1, none⟩ = some (.int .i64 y1) := box_cell (box_new wr (.cells #[.int .i64 y0, .int .i64 y1, .int .i64 y2, .int .i64 y3, .int .i64 y4] 85)) 1 _ rfl
    have b2 : (wr.alloc (.cells #[.int .i64 y0, .int .i64 y1, .int .i64 y2, .int .i64 y3, .int .i64 y4] 85)).cell? ⟨wr.heap.size, 2, none⟩ = some (.int .i64 y2) := box_cell (box_new wr (.cells #[.int .i64 y0, .int .i64 y1, .int .i64 y2, .int .i64 y3, .int .i64 y4] 85)) 2 _ rfl
    have b3 : (wr.alloc (.cells #[.int .i64 y0, .int .i64 y1, .int .i64 y2, .int .i64 y3, .int .i64 y4] 85)).cell? ⟨wr.heap.size, 3, none⟩ = some (.int .i64 y3) := box_cell (box_new wr (.cells #[.int .i64 y0, .int .i64 y1, .int .i64 y2, .int .i64 y3, .int .i64 y4] 85)) 3 _ rfl
    have b4 : (wr.alloc (.cells #[.int .i64 y0, .int .i64 y1, .int .i64 y2, .int .i64 y3, .int .i64 y4] 85)).cell? ⟨wr.heap.size, 4, none⟩ = some (.int .i64 y4) := box_cell (box_new wr (.cells #[.int .i64 y0, .int .i64 y1, .int .i64 y2, .int .i64 y3, .int .i64 y4] 85)) 4 _ rfl
    have N0 := Lib.hid (box_alloc M0.out (.cells #[.int .i64 y0, .int .i64 y1, .int .i64 y2, .int .i64 y3, .int .i64 y4] 85))
    have N1 := Lib.hid (box_alloc M1.out (.cells #[.int .i64 y0, .int .i64 y1, .int .i64 y2, .int .i64 y3, .int .i64 y4] 85))
    have N2 := Lib.hid (box_alloc M2.out (.cells #[.int .i64 y0, .int .i64 y1, .int .i64 y2, .int .i64 y3, .int .i64 y4] 85))
    have N3 := Lib.hid (box_alloc M3.out (.cells #[.int .i64 y0, .int .i64 y1, .int .i64 y2, .int .i64 y3, .int .i64 y4] 85))
    have NB := Lib.hid (MB.out.alloc MB.out.size (.cells #[.int .i64 y0, .int .i64 y1, .int .i64 y2, .int .i64 y3, .int .i64 y4] 85))
    have hl3 : w2.heap.size < wr.heap.size := box_lt M3.out
    cases hx : (y1 == rev)
    case false =>
      cases hq : (y2 == 4)
      case true =>
        have hz1 : liveB true rev (y0, y1, y2, y3, y4) = false := by simp [liveB, selB, hx, hq]
        have hz2 : goodB x0 x1 x2 x3 x4 x5 x6 x7 x8 x9 x10 true rev now (y0, y1, y2, y3, y4) = false := by simp [CountI.goodB, hz1]
        have HE1 : Hid (cntF (liveB true rev) (ps.take (k + 1)) = m1) := by show _ = _; rw [HS1.out, hz1]; rfl
        have HE2 : Hid (cntF (goodB x0 x1 x2 x3 x4 x5 x6 x7 x8 x9 x10 true rev now) (ps.take (k + 1)) = m2) := by show _ = _; rw [HS2.out, hz2]; rfl
        clear hz1 hz2
        go_wp2
        go_roundw
        case rel => exact ⟨k + 1, by omega, by go_num, N0, N1, N2, by rw [HE1.out, HE2.out]; exact N3, NB⟩
        case measure => simp [RowKit.intOf]; omega
      case false =>
        have hz1 : liveB true rev (y0, y1, y2, y3, y4) = true := by simp [liveB, selB, hx, hq]
        have HE1 : Hid (((cntF (liveB true rev) (ps.take (k + 1)) : Nat) : Int) = (m1 : Int) + 1) := by show _ = _; rw [HS1.out, hz1]; simp
        obtain ⟨Q, hQ⟩ : ∃ Q, Q = availB x0 x1 x2 x3 x4 x5 x6 x7 x8 x9 x10 y2 y4 now := ⟨_, rfl⟩
        have hz2 : goodB x0 x1 x2 x3 x4 x5 x6 x7 x8 x9 x10 true rev now (y0, y1, y2, y3, y4) = Q := by simp [CountI.goodB, hz1, hQ]
        have HE2 : Hid (cntF (goodB x0 x1 x2 x3 x4 x5 x6 x7 x8 x9 x10 true rev now) (ps.take (k + 1)) = m2 + if Q then 1 else 0) := by show _ = _; rw [HS2.out, hz2]
        have HA : Hid (∀ W : World, Calls Tryz.prog 106 #[.agg #[.int .i64 x0, .int .i64 x1, .int .i64 x2, .int .i64 x3, .int .i64 x4, .int .i64 x5, .int .i64 x6, .int .i64 x7, .int .i64 x8, .int .i64 x9, .int .i64 x10], .agg #[.int .i64 y0, .int .i64 y1, .int .i64 y2, .int .i64 y3, .int .i64 y4], .int .i64 now] W (Says (.bool Q) W)) := fun W => by rw [hQ]; exact specIsAvailable_any x0 x1 x2 x3 x4 x5 x6 x7 x8 x9 x10 y0 y1 y2 y3 y4 now W
        clear hz1 hz2 hQ
        have k0 := box_cell N3.out 0 _ rfl
        have g0 := box_frozen N3.out 0
        have T3 : Turned (fun k => k = w2.heap.size) wr (wr.setCell ⟨w2.heap.size, 0, none⟩ (.int .i64 ((m1 : Int) + 1))) := Turned.set _ _ _ rfl
        have J0 := Lib.hid (box_alloc (box_turned M0.out T3 (by omega)) (.cells #[.int .i64 y0, .int .i64 y1, .int .i64 y2, .int .i64 y3, .int .i64 y4] 85))
        have J1 := Lib.hid (box_alloc (box_turned M1.out T3 (by omega)) (.cells #[.int .i64 y0, .int .i64 y1, .int .i64 y2, .int .i64 y3, .int .i64 y4] 85))
        have J2 := Lib.hid (box_alloc (box_turned M2.out T3 (by omega)) (.cells #[.int .i64 y0, .int .i64 y1, .int .i64 y2, .int .i64 y3, .int .i64 y4] 85))
        have J3 := Lib.hid (box_alloc (set0B M3.out (.int .i64 ((m1 : Int) + 1))) (.cells #[.int .i64 y0, .int .i64 y1, .int .i64 y2, .int .i64 y3, .int .i64 y4] 85))
        have hsx : (wr.setCell ⟨w2.heap.size, 0, none⟩ (.int .i64 ((m1 : Int) + 1))).heap.size = wr.heap.size := by simp [World.setCell]
        have JX := box_new (wr.setCell ⟨w2.heap.size, 0, none⟩ (.int .i64 ((m1 : Int) + 1))) (.cells #[.int .i64 y0, .int .i64 y1, .int .i64 y2, .int .i64 y3, .int .i64 y4] 85)
        rw [hsx] at JX
        have JX' := Lib.hid JX
        clear JX
        have JX := JX'
        clear JX'
        have JB0 := Turned.low MB.out T3 (fun k hk => by omega) MB.out.size
        have JB := Lib.hid (JB0.alloc JB0.size (.cells #[.int .i64 y0, .int .i64 y1, .int .i64 y2, .int .i64 y3, .int .i64 y4] 85))
        clear T3 N0 N1 N2 N3 NB M0 M1 M2 M3 MB JB0 hsx
        have c0 := box_cell J0.out 0 _ rfl
        have c1 := box_cell J0.out 1 _ rfl
        have c2 := box_cell J0.out 2 _ rfl
        have c3 := box_cell J0.out 3 _ rfl
        have c4 := box_cell J0.out 4 _ rfl
        have c5 := box_cell J0.out 5 _ rfl
        have c6 := box_cell J0.out 6 _ rfl
        have c7 := box_cell J0.out 7 _ rfl
        have c8 := box_cell J0.out 8 _ rfl
        have c9 := box_cell J0.out 9 _ rfl
        have c10 := box_cell J0.out 10 _ rfl
        have d0 := box_cell JX.out 0 _ rfl
        have d1 := box_cell JX.out 1 _ rfl
        have d2 := box_cell JX.out 2 _ rfl
        have d3 := box_cell JX.out 3 _ rfl
        have d4 := box_cell JX.out 4 _ rfl
        go_wp2_with fail
        refine (HA.out _).mono ?_
        rintro e w4 ⟨rfl, hb⟩
        clear k0 g0 fz c0 c1 c2 c3 c4 c5 c6 c7 c8 c9 c10 d0 b0 hc0 d1 b1 hc1 d2 b2 hc2 d3 b3 hc3 d4 b4 hc4
        have Q0 := Lib.hid (box_below J0.out hb)
        have Q1 := Lib.hid (box_below J1.out hb)
        have Q2 := Lib.hid (box_below J2.out hb)
        have Q3 := Lib.hid (box_below J3.out hb)
        have QB := Lib.hid (bel_then JB.out hb JB.out.size)
        clear hb J0 J1 J2 J3 JX JB HA
        cases Q
        case false =>
          go_wp2
          go_roundw
          case rel => exact ⟨k + 1, by omega, by go_num, Q0, Q1, Q2, by rw [HE1.out, HE2.out]; exact Q3, QB⟩
          case measure => simp [RowKit.intOf]; omega
        case true =>
          have k1 := box_cell Q3.out 1 _ rfl
          have g1 := box_frozen Q3.out 1
          have T6 : Turned (fun k => k = w2.heap.size) w4 (w4.setCell ⟨w2.heap.size, 1, none⟩ (.int .i64 ((m2 : Int) + 1))) := Turned.set _ _ _ rfl
          have R0 := Lib.hid (box_turned Q0.out T6 (by omega))
          have R1 := Lib.hid (box_turned Q1.out T6 (by omega))
          have R2 := Lib.hid (box_turned Q2.out T6 (by omega))
          have R3 := Lib.hid (set1B Q3.out (.int .i64 ((m2 : Int) + 1)))
          have RB := Lib.hid (Turned.low QB.out T6 (fun k hk => by omega) QB.out.size)
          clear T6 Q0 Q1 Q2 Q3 QB
          go_wp2
          go_roundw
          case rel => exact ⟨k + 1, by omega, by go_num, R0, R1, R2, by rw [HE1.out, HE2.out]; exact R3, RB⟩
          case measure => simp [RowKit.intOf]; omega
    case true =>
      have hz1 : liveB true rev (y0, y1, y2, y3, y4) = false := by simp [liveB, selB, hx]
      have hz2 : goodB x0 x1 x2 x3 x4 x5 x6 x7 x8 x9 x10 true rev now (y0, y1, y2, y3, y4) = false := by simp [CountI.goodB, hz1]
      have HE1 : Hid (cntF (liveB true rev) (ps.take (k + 1)) = m1) := by show _ = _; rw [HS1.out, hz1]; rfl
      have HE2 : Hid (cntF (goodB x0 x1 x2 x3 x4 x5 x6 x7 x8 x9 x10 true rev now) (ps.take (k + 1)) = m2) := by show _ = _; rw [HS2.out, hz2]; rfl
      clear hz1 hz2
      go_wp2
      go_roundw
      case rel => exact ⟨k + 1, by omega, by go_num, N0, N1, N2, by rw [HE1.out, HE2.out]; exact N3, NB⟩
      case measure => simp [RowKit.intOf]; omega
set_option maxRecDepth 100000 in
set_option maxHeartbeats 6400000 in
theorem specCountOf_any (x0 x1 x2 x3 x4 x5 x6 x7 x8 x9 x10 rev now : Int) (A : Option Addr) (n c : Nat) (nx : Int) (ps : PList) (B : Nat) (w : World) (hr : IsPods w B A n ps) (hB : B ≤ w.heap.size) (hn : n ≤ 1048576) : Calls Tryz.prog 186 #[.agg #[.int .i64 x0, .int .i64 x1, .int .i64 x2, .int .i64 x3, .int .i64 x4, .int .i64 x5, .int .i64 x6, .int .i64 x7, .int .i64 x8, .int .i64 x9, .int .i64 x10], .agg #[.slice A n c, .int .i64 nx], .int .i64 rev, .int .i64 now] w (Says (countT x0 x1 x2 x3 x4 x5 x6 x7 x8 x9 x10 false rev now (ps, nx)) w) := by
  obtain ⟨v1, v2, v3, hT⟩ : ∃ (v1 v2 : Int) (v3 : Bool), countT x0 x1 x2 x3 x4 x5 x6 x7 x8 x9 x10 false rev now (ps, nx) = .tuple #[.agg #[.int .i64 v1, .int .i64 v2], .bool v3] := by unfold countT; split; exact ⟨_, _, _, rfl⟩; exact ⟨_, _, _, rfl⟩
  have HP := Lib.hid hr
  clear hr
  rw [hT]
  obtain ⟨V, hV⟩ : ∃ V, V = (((w.alloc (.cells #[.int .i64 x0, .int .i64 x1, .int .i64 x2, .int .i64 x3, .int .i64 x4, .int .i64 x5, .int .i64 x6, .int .i64 x7, .int .i64 x8, .int .i64 x9, .int .i64 x10] 25)).alloc (.cells #[.slice A n c, .int .i64 nx] 34)).alloc (.cells #[.int .i64 0, .int .i64 0] 231)) := ⟨_, rfl⟩
  have HB : Hid (Below w.heap.size w V) := by show Below _ _ _; rw [hV]; exact bel3 _ _ _ _
  have K0 : Hid (V.heap[w.heap.size]? = some (.cells #[.int .i64 x0, .int .i64 x1, .int .i64 x2, .int .i64 x3, .int .i64 x4, .int .i64 x5, .int .i64 x6, .int .i64 x7, .int .i64 x8, .int .i64 x9, .int .i64 x10] 25)) := by have h := box_alloc (box_alloc (box_new w (.cells #[.int .i64 x0, .int .i64 x1, .int .i64 x2, .int .i64 x3, .int .i64 x4, .int .i64 x5, .int .i64 x6, .int .i64 x7, .int .i64 x8, .int .i64 x9, .int .i64 x10] 25)) (.cells #[.slice A n c, .int .i64 nx] 34)) (.cells #[.int .i64 0, .int .i64 0] 231); (try simp only [World.size_alloc] at h); rw [hV]; exact h
  have K1 : Hid (V.heap[w.heap.size + 1]? = some (.cells #[.slice A n c, .int .i64 nx] 34)) := by have h := box_alloc (box_new (w.alloc (.cells #[.int .i64 x0, .int .i64 x1, .int .i64 x2, .int .i64 x3, .int .i64 x4, .int .i64 x5, .int .i64 x6, .int .i64 x7, .int .i64 x8, .int .i64 x9, .int .i64 x10] 25)) (.cells #[.slice A n c, .int .i64 nx] 34)) (.cells #[.int .i64 0, .int .i64 0] 231); (try simp only [World.size_alloc] at h); rw [hV]; exact h
  have K3 : Hid (V.heap[w.heap.size + 1 + 1]? = some (.cells #[.int .i64 0, .int .i64 0] 231)) := by have h := box_new ((w.alloc (.cells #[.int .i64 x0, .int .i64 x1, .int .i64 x2, .int .i64 x3, .int .i64 x4, .int .i64 x5, .int .i64 x6, .int .i64 x7, .int .i64 x8, .int .i64 x9, .int .i64 x10] 25)).alloc (.cells #[.slice A n c, .int .i64 nx] 34)) (.cells #[.int .i64 0, .int .i64 0] 231); (try simp only [World.size_alloc] at h); rw [hV]; exact h
  go_enter Tryz.func186, Tryz.ntmps186
  go_upto_region 1 with fail
  rw [← hV]
  clear hV
  go_wp2_with (first | (refine wpList_load_row rfl 25 _ rfl _ rfl _ _ (0, 0) _ K0.out Tryz.underlying25 rfl (by kernel_rfl) ?_) | (refine wpList_load_row rfl 34 _ rfl _ rfl _ _ (0, 0) _ K1.out Tryz.underlying34 rfl (by kernel_rfl) ?_))
  have HA := Lib.hid (l07Count_false x0 x1 x2 x3 x4 x5 x6 x7 x8 x9 x10 rev now A n c nx ps B V (HP.out.below HB.out hB) (Nat.le_trans hB HB.out.size) hn)
  rw [hT] at HA
  refine HA.out.mono ?_
  rintro e w1 ⟨rfl, hb⟩
  clear HA
  have K3' := Lib.hid (box_below K3.out hb)
  clear K3
  have K3 := K3'
  clear K3'
  have HB' := Lib.hid (bel_then HB.out hb HB.out.size)
  clear HB hb
  have HB := HB'
  clear HB'
  clear K0 K1
  have K2 := K3
  clear K3
  have k0 := box_cell K2.out 0 _ rfl
  have g0 := box_frozen K2.out 0
  have k1 := box_cell K2.out 1 _ rfl
  have g1 := box_frozen K2.out 1
  have RB := set2B K2.out (.int .i64 v1) (.int .i64 v2)
  have r0 := box_cell RB 0 _ rfl
  have r1 := box_cell RB 1 _ rfl
  have HBF := Lib.hid (Turned.low HB.out (set2T (S := fun k => k = w.heap.size + 1 + 1) (b := w.heap.size + 1 + 1) rfl (.int .i64 v1) (.int .i64 v2)) (fun k hk => by omega) HB.out.size)
  clear RB
  go_wp2
  exact bodyPost_ret (v := .tuple #[.agg #[.int .i64 v1, .int .i64 v2], .bool v3]) (by simp [results, Tryz.results186, go_sem, r0, r1]) rfl ⟨rfl, HBF.out⟩
set_option maxRecDepth 100000 in
set_option maxHeartbeats 6400000 in
theorem specRestOf_any (x0 x1 x2 x3 x4 x5 x6 x7 x8 x9 x10 rev now : Int) (A : Option Addr) (n c : Nat) (nx : Int) (ps : PList) (B : Nat) (w : World) (hr : IsPods w B A n ps) (hB : B ≤ w.heap.size) (hn : n ≤ 1048576) : Calls Tryz.prog 187 #[.agg #[.int .i64 x0, .int .i64 x1, .int .i64 x2, .int .i64 x3, .int .i64 x4, .int .i64 x5, .int .i64 x6, .int .i64 x7, .int .i64 x8, .int .i64 x9, .int .i64 x10], .agg #[.slice A n c, .int .i64 nx], .int .i64 rev, .int .i64 now] w (Says (countT x0 x1 x2 x3 x4 x5 x6 x7 x8 x9 x10 true rev now (ps, nx)) w) := by
  obtain ⟨v1, v2, v3, hT⟩ : ∃ (v1 v2 : Int) (v3 : Bool), countT x0 x1 x2 x3 x4 x5 x6 x7 x8 x9 x10 true rev now (ps, nx) = .tuple #[.agg #[.int .i64 v1, .int .i64 v2], .bool v3] := by unfold countT; split; exact ⟨_, _, _, rfl⟩; exact ⟨_, _, _, rfl⟩
  have HP := Lib.hid hr
  clear hr
  rw [hT]
  obtain ⟨V, hV⟩ : ∃ V, V = (((w.alloc (.cells #[.int .i64 x0, .int .i64 x1, .int .i64 x2, .int .i64 x3, .int .i64 x4, .int .i64 x5, .int .i64 x6, .int .i64 x7, .int .i64 x8, .int .i64 x9, .int .i64 x10] 25)).alloc (.cells #[.slice A n c, .int .i64 nx] 34)).alloc (.cells #[.int .i64 0, .int .i64 0] 231)) := ⟨_, rfl⟩
  have HB : Hid (Below w.heap.size w V) := by show Below _ _ _; rw [hV]; exact bel3 _ _ _ _
  have K0 : Hid (V.heap[w.heap.size]? = some (.cells #[.int .i64 x0, .int .i64 x1, .int .i64 x2, .int .i64 x3, .int .i64 x4, .int .i64 x5, .int .i64 x6, .int .i64 x7, .int .i64 x8, .int .i64 x9, .int .i64 x10] 25)) := by have h := box_alloc (box_alloc (box_new w (.cells #[.int .i64 x0, .int .i64 x1, .int .i64 x2, .int .i64 x3, .int .i64 x4, .int .i64 x5, .int .i64 x6, .int .i64 x7, .int .i64 x8, .int .i64 x9, .int .i64 x10] 25)) (.cells #[.slice A n c, .int .i64 nx] 34)) (.cells #[.int .i64 0, .int .i64 0] 231); (try simp only [World.size_alloc] at h); rw [hV]; exact h
  have K1 : Hid (V.heap[w.heap.size + 1]? = some (.cells #[.slice A n c, .int .i64 nx] 34)) := by have h := box_alloc (box_new (w.alloc (.cells #[.int .i64 x0, .int .i64 x1, .int .i64 x2, .int .i64 x3, .int .i64 x4, .int .i64 x5, .int .i64 x6, .int .i64 x7, .int .i64 x8, .int .i64 x9, .int .i64 x10] 25)) (.cells #[.slice A n c, .int .i64 nx] 34)) (.cells #[.int .i64 0, .int .i64 0] 231); (try simp only [World.size_alloc] at h); rw [hV]; exact h
  have K3 : Hid (V.heap[w.heap.size + 1 + 1]? = some (.cells #[.int .i64 0, .int .i64 0] 231)) := by have h := box_new ((w.alloc (.cells #[.int .i64 x0, .int .i64 x1, .int .i64 x2, .int .i64 x3, .int .i64 x4, .int .i64 x5, .int .i64 x6, .int .i64 x7, .int .i64 x8, .int .i64 x9, .int .i64 x10] 25)).alloc (.cells #[.slice A n c, .int .i64 nx] 34)) (.cells #[.int .i64 0, .int .i64 0] 231); (try simp only [World.size_alloc] at h); rw [hV]; exact h
  go_enter Tryz.func187, Tryz.ntmps187
  go_upto_region 1 with fail
  rw [← hV]
  clear hV
  go_wp2_with (first | (refine wpList_load_row rfl 25 _ rfl _ rfl _ _ (0, 0) _ K0.out Tryz.underlying25 rfl (by kernel_rfl) ?_) | (refine wpList_load_row rfl 34 _ rfl _ rfl _ _ (0, 0) _ K1.out Tryz.underlying34 rfl (by kernel_rfl) ?_))
  have HA := Lib.hid (l07Count_true x0 x1 x2 x3 x4 x5 x6 x7 x8 x9 x10 rev now A n c nx ps B V (HP.out.below HB.out hB) (Nat.le_trans hB HB.out.size) hn)
  rw [hT] at HA
  refine HA.out.mono ?_
  rintro e w1 ⟨rfl, hb⟩
  clear HA
  have K3' := Lib.hid (box_below K3.out hb)
  clear K3
  have K3 := K3'
  clear K3'
  have HB' := Lib.hid (bel_then HB.out hb HB.out.size)
  clear HB hb
  have HB := HB'
  clear HB'
  clear K0 K1
  have K2 := K3
  clear K3
  have k0 := box_cell K2.out 0 _ rfl
  have g0 := box_frozen K2.out 0
  have k1 := box_cell K2.out 1 _ rfl
  have g1 := box_frozen K2.out 1
  have RB := set2B K2.out (.int .i64 v1) (.int .i64 v2)
  have r0 := box_cell RB 0 _ rfl
  have r1 := box_cell RB 1 _ rfl
  have HBF := Lib.hid (Turned.low HB.out (set2T (S := fun k => k = w.heap.size + 1 + 1) (b := w.heap.size + 1 + 1) rfl (.int .i64 v1) (.int .i64 v2)) (fun k hk => by omega) HB.out.size)
  clear RB
  go_wp2
  exact bodyPost_ret (v := .tuple #[.agg #[.int .i64 v1, .int .i64 v2], .bool v3]) (by simp [results, Tryz.results187, go_sem, r0, r1]) rfl ⟨rfl, HBF.out⟩
end Go.Proofs.YtklgjjmcflgjeaaGreat.CountS
