/-
  THE MODEL'S NextEngine over this seat's translation.
-/
import Derived.Test.YtcedgjglpjgehaaEngTurn
import Derived.BigQuiet
import Derived.Deep.QuietTactic
namespace Go.Proofs.Ytcedgjglpjgehaa.EngNxS
open Go.ChangeShapes Go.WideShapes Go.ChangeAt Go.RowKit
open Go.Proofs.Ytcedgjglpjgehaa.LK Go.Proofs.Ytcedgjglpjgehaa.Pods Go.Proofs.Ytcedgjglpjgehaa.EngV Go.Proofs.Ytcedgjglpjgehaa.EngCnt Go.Proofs.Ytcedgjglpjgehaa.EngNext Go.Proofs.Ytcedgjglpjgehaa.Seg Go.Proofs.Ytcedgjglpjgehaa.EngOk Go.Proofs.Ytcedgjglpjgehaa.Has Go.Proofs.Ytcedgjglpjgehaa.EngTurn
open Go.Proofs.Ytcedgjglpjgehaa.FleetV hiding goodB
open Go.Proofs.Ytcedgjglpjgehaa.Tick (tok_t tokB)
set_option linter.unusedVariables false
set_option linter.unusedSimpArgs false
theorem mod_take {d : Eng} {ps : PList} {k : Nat} (h : k < ps.length) : (ps.take (k + 1)).flatMap (modP d) = (ps.take k).flatMap (modP d) ++ modP d (ps.getD k z5) := by
  rw [take_get h]
  simp
theorem mod_len (d : Eng) (ps : PList) : (ps.flatMap (modP d)).length ≤ 3 * ps.length := by
  induction ps with
  | nil => simp
  | cons p ps ih =>
    have : (modP d p).length ≤ 3 := by simp only [modP]; split <;> split <;> simp
    simp only [List.flatMap_cons, List.length_append, List.length_cons]
    omega
theorem pick_take (b : Int → Bool) (zs : List Int) (k : Nat) (h : k < zs.length) : (zs.take (k + 1)).foldl (pick b) (-1) = pick b ((zs.take k).foldl (pick b) (-1)) (zs.getD k 0) := by
  have e : zs.getD k 0 = zs[k] := by simp [List.getD, h]
  rw [e, List.take_succ_eq_append_getElem h, List.foldl_append]
  rfl
theorem own_getD {w : World} {lo g n c : Nat} {L : List Int} (h : OwnI w lo (some ⟨g, 0, none⟩) n c L) {j : Nat} (hj : j < n) : w.cell? ⟨g, j, none⟩ = some (.int .i64 (L.getD j 0)) := by
  have hl : j < L.length := by have := h.1; omega
  have e : L.getD j 0 = L[j] := by simp [List.getD, hl]
  rw [e, h.2.cellAt j (by omega), List.getElem?_map, List.getElem?_eq_getElem hl]
  rfl
theorem below_drewN {B : Nat} {a b : World} (h : Below B a b) (q : Nat) : Below B a (b.drewN q) := ⟨h.os, h.tape, h.output, h.size, h.block⟩
theorem own_drewN {w : World} {lo : Nat} {A : Option Addr} {n c : Nat} {L : List Int} (h : OwnI w lo A n c L) (q : Nat) : OwnI (w.drewN q) lo A n c L := h.below ⟨rfl, rfl, rfl, Nat.le_refl _, fun _ _ => rfl⟩
theorem own_int_ne {w : World} {lo : Nat} {A : Option Addr} {n c : Nat} {zs : List Int} {q : Nat} {cs : Array Value} {t : TypeId} {f : Nat × Nat} (h : OwnI w lo A n c zs) (hq : w.heap[q]? = some (.cells cs t f)) (ht : t ≠ 3) (k : Nat) (hk : (Value.slice A n c).ownBlock = some k) (e : k = q) : False := by
  subst e
  rcases h.2.2 with ⟨h', _⟩ | ⟨g', cap', cur, h', hb, hg, _⟩
  · injection h' with h1 _ _; subst h1; cases hk
  · injection h' with h1 _ _
    subst h1
    have hk2 : g' = k := by simpa [Value.ownBlock] using hk
    subst hk2
    rw [hg] at hq
    injection hq with hq
    injection hq with _ hq _
    exact ht hq.symm
set_option maxRecDepth 100000 in
set_option maxHeartbeats 12800000 in
theorem specNextEngine_any (A : Option Addr) (n c : Nat) (d : Eng) (B : Nat) (w : World) (hr : IsPods w B A n d.ps) (hB : B ≤ w.heap.size) (hn : n ≤ 1048576) : Calls Try.prog 19 #[.agg (enL d A n c).toArray] w (Says (.int .i64 (nextE d)) w) := by
  obtain ⟨i0, hi0, hz0, hz1, hz2⟩ := info_parts Has.infoInt
  obtain ⟨R, hR⟩ : ∃ R, R = nextE d := ⟨_, rfl⟩
  rw [← hR]
  have HR := Lib.hid hR
  have HP := Lib.hid hr
  have HL : Hid (d.ps.length = n) := hr.1
  clear hR hr
  obtain ⟨V, hV⟩ : ∃ V, V = w.alloc (.cells (enL d A n c).toArray 29) := ⟨_, rfl⟩
  have HB : Hid (Below w.heap.size w V) := by rw [hV]; exact bel1 _ _
  have K : Hid (V.heap[w.heap.size]? = some (.cells (enL d A n c).toArray 29 (0, 0))) := by rw [hV]; exact box_new w _
  go_enter Try.func19, Try.ntmps19
  go_upto_region 1 with fail
  rw [← hV]
  clear hV
  go_wp2_with (refine wpList_get rfl 29 _ rfl w.heap.size 0 rfl K.out (enL d A n c) List.take_length Try.underlying29 rfl (by kernel_rfl) ?_)
  refine (specEngineOk_any A n c d B _ (HP.out.below HB.out hB) (Nat.le_trans hB HB.out.size) hn).mono ?_
  rintro e w1 ⟨rfl, hb⟩
  have K1 := Lib.hid (box_below K.out hb)
  have HB1 := Lib.hid (bel_then HB.out hb HB.out.size)
  clear K HB hb
  cases h0 : d.okB
  · have HF : Hid (R = -1) := by show _ = _; rw [HR.out]; simp [nextE, h0]
    clear h0
    go_wp2
    go_ret
    exact ⟨by rw [HF.out]; rfl, HB1.out⟩
  have H0 := Lib.hid h0
  clear h0
  have c12 : w1.cell? ⟨w.heap.size, 12, none⟩ = some (.int .i64 d.ph) := box_cell K1.out 12 _ rfl
  by_cases h3 : d.ph = 3
  · have hq3 : (d.ph == 3) = true := by simp [h3]
    have HF : Hid (R = -1) := by show _ = _; rw [HR.out]; simp [nextE, H0.out, turnL, h3, mvB, TickList.soonF]
    clear h3
    go_wp2
    go_ret
    exact ⟨by rw [HF.out]; rfl, HB1.out⟩
  have hq3 : (d.ph == 3) = false := by simp [h3]
  have HE : Hid (R = (specL d).foldl (pick (aheadB d.now)) (-1)) := by show _ = _; rw [HR.out, next_eq H0.out h3]; simp [nextE, H0.out]
  have HSP := Lib.hid (Sp.specB_t (show Sp.specB d.sp.x0 d.sp.x1 d.sp.x2 d.sp.x3 d.sp.x4 d.sp.x5 d.sp.x6 d.sp.x7 d.sp.x8 d.sp.x9 d.sp.x10 = true from (okB_t H0.out).1))
  have HST := Lib.hid (tok_t (okB_t H0.out).2.2.2.1)
  have hn30 : n ≤ 30 := by have := (okB_t H0.out).2.1.1; have := HL.out; omega
  have HPT : Hid (∀ k, k < n → 0 ≤ (d.ps.getD k z5).2.2.2.2 ∧ (d.ps.getD k z5).2.2.2.2 ≤ 1000000000) := fun k hk => ((okB_t H0.out).2.1.2.2.1 _ (get_mem (show k < d.ps.length by rw [HL.out]; exact hk))).1.2.2.2.2
  clear h3 HR
  have c19 : w1.cell? ⟨w.heap.size, 19, none⟩ = some (.int .i64 d.wt) := box_cell K1.out 19 _ rfl
  go_upto_region 4 with fail
  obtain ⟨W0, hW0⟩ : ∃ V, V = w1.alloc (.cells #[.int .i64 d.wt] 3) := ⟨_, rfl⟩
  have K2 : Hid (W0.heap[w.heap.size]? = some (.cells (enL d A n c).toArray 29 (0, 0))) := by rw [hW0]; exact box_alloc K1.out _
  have HB2 : Hid (Below w.heap.size w W0) := by rw [hW0]; exact HB1.out.alloc HB1.out.size _
  have hlt1 : w.heap.size + 1 ≤ w1.heap.size := box_lt K1.out
  have HO : Hid (OwnI W0 (w.heap.size + 1) (some ⟨w1.heap.size, 0, none⟩) 1 1 [d.wt]) := by
    rw [hW0]
    exact ⟨rfl, rfl, .inr ⟨w1.heap.size, 1, #[.int .i64 d.wt], rfl, hlt1, box_new w1 _, Nat.le_refl _, by unfold maxLen; omega, rfl, by simp⟩⟩
  have hs2 : w.heap.size + 1 ≤ W0.heap.size := by rw [hW0, World.size_alloc]; omega
  rw [← hW0]
  clear hW0 K1 HB1 c12 c19
  go_wp2_with fail
  go_loopw [3, 4] (fun q i wr => ∃ (k m g : Nat) (c3 : Nat) (T : List Int), k ≤ n ∧ i = .int .i64 k ∧ q = .slice (some ⟨g, 0, none⟩) m c3 ∧ m ≤ 1 + 3 * k ∧ Hid (T = d.wt :: (d.ps.take k).flatMap (modP d)) ∧ Hid (OwnI wr (w.heap.size + 1) (some ⟨g, 0, none⟩) m c3 T) ∧ Hid (wr.heap[w.heap.size]? = some (.cells (enL d A n c).toArray 29 (0, 0))) ∧ Hid (Below w.heap.size w wr) ∧ w.heap.size + 1 ≤ wr.heap.size) (fun _ i _ => n - (RowKit.intOf i).toNat)
  case atStart => exact ⟨0, 1, w1.heap.size, 1, [d.wt], Nat.zero_le _, rfl, rfl, by omega, by simp [Hid], HO, K2, HB2, hs2⟩
  case round =>
    obtain ⟨k, m, g, c3, T, hk, rfl, rfl, hmk, HT, HO3, K3, HB3, hs3⟩ := hrel
    clear HO K2 HB2 hs2
    by_cases hlt : k < n
    case neg => 
      have HK : Hid (k = n) := (by omega : k = n)
      have HT0 : Hid (T = d.wt :: d.ps.flatMap (modP d)) := by
        have h := HT.out
        rw [List.take_of_length_le (by rw [HL.out, HK.out]; exact Nat.le_refl _)] at h
        exact h
      have c15 : wr.cell? ⟨w.heap.size, 15, none⟩ = some (.slice A n c) := box_cell K3.out 15 _ rfl
      have hmT : m ≤ 91 := by omega
      clear HT
      go_wp2_with (refine wpList_get rfl 29 _ rfl w.heap.size 0 rfl K3.out (enL d A n c) List.take_length Try.underlying29 rfl (by kernel_rfl) ?_)
      refine (EngSet.l08Moves_any A n c d _).mono ?_
      rintro e W0 ⟨rfl, hb⟩
      have K0 := Lib.hid (box_below K3.out hb)
      have HB0 := Lib.hid (bel_then HB3.out hb HB3.out.size)
      have HO0 := Lib.hid (HO3.out.below hb)
      have hs0 : w.heap.size + 1 ≤ W0.heap.size := by have := hb.size; omega
      clear K3 HB3 HO3 hb hs3 c15 HK hmk hk hlt
      cases hm : mvB d.ph
      · have HS : Hid (T = specL d) := by show _ = _; rw [HT0.out, specL, hm]; simp
        have hmm : m ≤ 92 := by omega
        clear hm HT0 hmT hs0
        have HLT : Hid (T.length = m) := HO0.out.1
        have HE1 : Hid (R = T.foldl (pick (aheadB d.now)) (-1)) := by show _ = _; rw [HS.out]; exact HE.out
        clear HS HE
        go_wp2_with fail
        go_loopw [6, 7] (fun q i wr => ∃ (k : Nat) (acc : Int), k ≤ m ∧ i = .int .i64 k ∧ q = .int .i64 acc ∧ Hid (acc = (T.take k).foldl (pick (aheadB d.now)) (-1)) ∧ Hid (OwnI wr (w.heap.size + 1) (some ⟨g, 0, none⟩) m c3 T) ∧ Hid (wr.heap[w.heap.size]? = some (.cells (enL d A n c).toArray 29 (0, 0))) ∧ Hid (Below w.heap.size w wr)) (fun _ i _ => m - (RowKit.intOf i).toNat)
        case atStart => exact ⟨0, -1, Nat.zero_le _, rfl, rfl, by simp [Hid], HO0, K0, HB0⟩
        case round =>
          obtain ⟨k2, acc, hk2, rfl, rfl, HAC, HO5, K5, HB5⟩ := hrel
          clear HO0 K0 HB0
          by_cases hlt2 : k2 < m
          case neg =>
            have HK2 : Hid (k2 = m) := (by omega : k2 = m)
            go_wp2
            go_ret
            refine ⟨?_, HB5.out⟩
            have h := HAC.out
            rw [List.take_of_length_le (by rw [HLT.out, HK2.out]; exact Nat.le_refl _)] at h
            rw [h, HE1.out]
            rfl
          obtain ⟨z, hz⟩ : ∃ z, z = T.getD k2 0 := ⟨_, rfl⟩
          have hpk := pick_take (aheadB d.now) T k2 (by rw [HLT.out]; exact hlt2)
          rw [← hz] at hpk
          have hd : wr.cell? ⟨g, k2, none⟩ = some (.int .i64 z) := by rw [hz]; exact own_getD HO5.out hlt2
          have HPK : Hid ((T.take (k2 + 1)).foldl (pick (aheadB d.now)) (-1) = pick (aheadB d.now) acc z) := by show _ = _; rw [hpk, HAC.out]
          clear hz hpk HAC
          have c11 : wr.cell? ⟨w.heap.size, 11, none⟩ = some (.int .i64 d.now) := box_cell K5.out 11 _ rfl
          have HTK : Hid (∀ W : World, Calls Try.prog 33 #[.int .i64 z] W fun e w' => e = .returned (.bool (tokB z)) ∧ w' = W) := fun W => (Tick.specTickOk_any z W).mono fun e w' h => ⟨h.1, h.2.symm⟩
          by_cases hzn : d.now < z
          case neg =>
            have hq1 : decide (d.now < z) = false := by simp; omega
            have HN : Hid (acc = (T.take (k2 + 1)).foldl (pick (aheadB d.now)) (-1)) := by show _ = _; rw [HPK.out]; simp [pick, aheadB, hzn]
            clear HPK hzn
            go_wp2_with fail
            go_quiet (fail)
            go_wp2
            go_roundw
            case rel => exact ⟨k2 + 1, acc, by omega, by go_num, rfl, HN, own_drewN HO5.out _, K5, below_drewN HB5.out _⟩
            case measure => simp [RowKit.intOf]; omega
          have hq1 : decide (d.now < z) = true := by simp [hzn]
          obtain ⟨tk, htk⟩ : ∃ tk, tk = tokB z := ⟨_, rfl⟩
          rw [← htk] at HTK
          cases tk
          · have HN : Hid (acc = (T.take (k2 + 1)).foldl (pick (aheadB d.now)) (-1)) := by show _ = _; rw [HPK.out]; simp [pick, aheadB, ← htk]
            clear HPK hzn htk
            go_wp2_with fail
            go_quiet (first | (go_at_call 33; exact Calls.quiet_of_same (HTK.out _)))
            go_wp2
            go_roundw
            case rel => exact ⟨k2 + 1, acc, by omega, by go_num, rfl, HN, own_drewN HO5.out _, K5, below_drewN HB5.out _⟩
            case measure => simp [RowKit.intOf]; omega
          have hah : aheadB d.now z = true := by simp [aheadB, hzn, ← htk]
          clear hzn htk
          by_cases ha : acc < 0
          · have hq2 : decide (acc < 0) = true := by simp [ha]
            have HN : Hid (z = (T.take (k2 + 1)).foldl (pick (aheadB d.now)) (-1)) := by show _ = _; rw [HPK.out]; simp [pick, hah, ha]
            clear HPK hah ha
            go_wp2_with fail
            go_quiet (first | (go_at_call 33; exact Calls.quiet_of_same (HTK.out _)))
            go_wp2
            go_roundw
            case rel => exact ⟨k2 + 1, z, by omega, by go_num, rfl, HN, own_drewN HO5.out _, K5, below_drewN HB5.out _⟩
            case measure => simp [RowKit.intOf]; omega
          have hq2 : decide (acc < 0) = false := by simp; omega
          by_cases hl2 : z < acc
          · have hq3 : decide (z < acc) = true := by simp [hl2]
            have HN : Hid (z = (T.take (k2 + 1)).foldl (pick (aheadB d.now)) (-1)) := by show _ = _; rw [HPK.out]; simp [pick, hah, hl2]
            clear HPK hah ha hl2
            go_wp2_with fail
            go_quiet (first | (go_at_call 33; exact Calls.quiet_of_same (HTK.out _)))
            go_wp2
            go_roundw
            case rel => exact ⟨k2 + 1, z, by omega, by go_num, rfl, HN, own_drewN HO5.out _, K5, below_drewN HB5.out _⟩
            case measure => simp [RowKit.intOf]; omega
          · have hq3 : decide (z < acc) = false := by simp; omega
            have HN : Hid (acc = (T.take (k2 + 1)).foldl (pick (aheadB d.now)) (-1)) := by show _ = _; rw [HPK.out]; simp [pick, ha, hl2]
            clear HPK hah ha hl2
            go_wp2_with fail
            go_quiet (first | (go_at_call 33; exact Calls.quiet_of_same (HTK.out _)))
            go_wp2
            go_roundw
            case rel => exact ⟨k2 + 1, acc, by omega, by go_num, rfl, HN, own_drewN HO5.out _, K5, below_drewN HB5.out _⟩
            case measure => simp [RowKit.intOf]; omega
      · have HS : Hid (T ++ [d.st + d.sp.x8] = specL d) := by show _ = _; rw [HT0.out, specL, hm]; simp
        have c17 : W0.cell? ⟨w.heap.size, 17, none⟩ = some (.int .i64 d.st) := box_cell K0.out 17 _ rfl
        have c8 : W0.cell? ⟨w.heap.size, 8, none⟩ = some (.int .i64 d.sp.x8) := box_cell K0.out 8 _ rfl
        have hsp := HSP.out
        have hst := HST.out
        have hwp : IntKind.i64.wrap (d.st + d.sp.x8) = d.st + d.sp.x8 := EngTurn.wrap_small (by omega) (by omega)
        clear hm hsp hst HT0
        have hTm : T.length = m := HO0.out.1
        go_wp2_with (at_builtin; refine wpList_append_own _ rfl (.tmp 82) (.tmp 89) _ rfl (w.heap.size + 1) 3 i0 _ 1 8 Try.underlying63 hi0 hz0 hz1 hz2 rfl (by omega) (.slice (some ⟨g, 0, none⟩) m c3) m (T.map (Value.int .i64)) rfl ?o1 ⟨W0.heap.size, 0, none⟩ 1 1 [.int .i64 (d.st + d.sp.x8)] rfl rfl (Crew.news_new W0 [.int .i64 (d.st + d.sp.x8)] 3) ?o3 ?o4 ?o5 ?o6 ?_)
        case o1 => exact (HO0.out.alloc _).2
        case o3 => first | rfl | (intro u hu; simp at hu; subst hu; rfl)
        case o4 => unfold maxLen; omega
        case o5 => omega
        case o6 => first | omega | (simp; omega)
        intro v1 W1 hown hgr hif
        have hown2 : W1.ownsRow (w.heap.size + 1) 3 1 v1 (m + ([d.st + d.sp.x8] : List Int).length) (T.map (Value.int .i64) ++ ([d.st + d.sp.x8] : List Int).map (Value.int .i64)) := by first | exact hown | simpa using hown
        have hnn : v1 ≠ .slice none 0 0 := by first | exact hif | (intro e; have h := (hif.1 e).1; cases h)
        obtain ⟨g1, m1, c1, T1, rfl, hO, hm, ht⟩ := of_app2 (zs := T) (ys := [d.st + d.sp.x8]) hTm hnn hown2
        have hmb1 : m1 ≤ m + 1 := Nat.le_of_eq hm
        have HT1 := Lib.hid ht
        have HO1 := Lib.hid hO
        have hne : ∀ q, (Value.slice (some ⟨g, 0, none⟩) m c3).ownBlock = some q → w.heap.size + 1 ≤ q := fun q hq => (HO0.out.lt q hq).1
        have K1 := Lib.hid ((hgr.block w.heap.size (by simp; omega) (fun e => by have := hne _ e.symm; omega)).trans (box_alloc K0.out _))
        have HB1 : Hid (Below w.heap.size w W1) := (HB0.out.alloc HB0.out.size _).grown hgr (by simp; omega) (fun qq hq => by have := hne qq hq; omega)
        have hs1 : w.heap.size + 1 ≤ W1.heap.size := by have := hgr.size; simp at this; omega
        clear hown hown2 hgr hif hnn hO hne hTm hm ht HO0 K0 HB0 hs0
        clear c17 c8 hwp
        have HS2 : Hid (T1 = specL d) := by show _ = _; rw [HT1.out]; exact HS.out
        have hmm : m1 ≤ 92 := by omega
        clear HS HT1 hmT hs1
        have HLT : Hid (T1.length = m1) := HO1.out.1
        have HE1 : Hid (R = T1.foldl (pick (aheadB d.now)) (-1)) := by show _ = _; rw [HS2.out]; exact HE.out
        clear HS2 HE
        go_wp2_with fail
        go_loopw [6, 7] (fun q i wr => ∃ (k : Nat) (acc : Int), k ≤ m1 ∧ i = .int .i64 k ∧ q = .int .i64 acc ∧ Hid (acc = (T1.take k).foldl (pick (aheadB d.now)) (-1)) ∧ Hid (OwnI wr (w.heap.size + 1) (some ⟨g1, 0, none⟩) m1 c1 T1) ∧ Hid (wr.heap[w.heap.size]? = some (.cells (enL d A n c).toArray 29 (0, 0))) ∧ Hid (Below w.heap.size w wr)) (fun _ i _ => m1 - (RowKit.intOf i).toNat)
        case atStart => exact ⟨0, -1, Nat.zero_le _, rfl, rfl, by simp [Hid], HO1, K1, HB1⟩
        case round =>
          obtain ⟨k2, acc, hk2, rfl, rfl, HAC, HO5, K5, HB5⟩ := hrel
          clear HO1 K1 HB1
          by_cases hlt2 : k2 < m1
          case neg =>
            have HK2 : Hid (k2 = m1) := (by omega : k2 = m1)
            go_wp2
            go_ret
            refine ⟨?_, HB5.out⟩
            have h := HAC.out
            rw [List.take_of_length_le (by rw [HLT.out, HK2.out]; exact Nat.le_refl _)] at h
            rw [h, HE1.out]
            rfl
          obtain ⟨z, hz⟩ : ∃ z, z = T1.getD k2 0 := ⟨_, rfl⟩
          have hpk := pick_take (aheadB d.now) T1 k2 (by rw [HLT.out]; exact hlt2)
          rw [← hz] at hpk
          have hd : wr.cell? ⟨g1, k2, none⟩ = some (.int .i64 z) := by rw [hz]; exact own_getD HO5.out hlt2
          have HPK : Hid ((T1.take (k2 + 1)).foldl (pick (aheadB d.now)) (-1) = pick (aheadB d.now) acc z) := by show _ = _; rw [hpk, HAC.out]
          clear hz hpk HAC
          have c11 : wr.cell? ⟨w.heap.size, 11, none⟩ = some (.int .i64 d.now) := box_cell K5.out 11 _ rfl
          have HTK : Hid (∀ W : World, Calls Try.prog 33 #[.int .i64 z] W fun e w' => e = .returned (.bool (tokB z)) ∧ w' = W) := fun W => (Tick.specTickOk_any z W).mono fun e w' h => ⟨h.1, h.2.symm⟩
          by_cases hzn : d.now < z
          case neg =>
            have hq1 : decide (d.now < z) = false := by simp; omega
            have HN : Hid (acc = (T1.take (k2 + 1)).foldl (pick (aheadB d.now)) (-1)) := by show _ = _; rw [HPK.out]; simp [pick, aheadB, hzn]
            clear HPK hzn
            go_wp2_with fail
            go_quiet (fail)
            go_wp2
            go_roundw
            case rel => exact ⟨k2 + 1, acc, by omega, by go_num, rfl, HN, own_drewN HO5.out _, K5, below_drewN HB5.out _⟩
            case measure => simp [RowKit.intOf]; omega
          have hq1 : decide (d.now < z) = true := by simp [hzn]
          obtain ⟨tk, htk⟩ : ∃ tk, tk = tokB z := ⟨_, rfl⟩
          rw [← htk] at HTK
          cases tk
          · have HN : Hid (acc = (T1.take (k2 + 1)).foldl (pick (aheadB d.now)) (-1)) := by show _ = _; rw [HPK.out]; simp [pick, aheadB, ← htk]
            clear HPK hzn htk
            go_wp2_with fail
            go_quiet (first | (go_at_call 33; exact Calls.quiet_of_same (HTK.out _)))
            go_wp2
            go_roundw
            case rel => exact ⟨k2 + 1, acc, by omega, by go_num, rfl, HN, own_drewN HO5.out _, K5, below_drewN HB5.out _⟩
            case measure => simp [RowKit.intOf]; omega
          have hah : aheadB d.now z = true := by simp [aheadB, hzn, ← htk]
          clear hzn htk
          by_cases ha : acc < 0
          · have hq2 : decide (acc < 0) = true := by simp [ha]
            have HN : Hid (z = (T1.take (k2 + 1)).foldl (pick (aheadB d.now)) (-1)) := by show _ = _; rw [HPK.out]; simp [pick, hah, ha]
            clear HPK hah ha
            go_wp2_with fail
            go_quiet (first | (go_at_call 33; exact Calls.quiet_of_same (HTK.out _)))
            go_wp2
            go_roundw
            case rel => exact ⟨k2 + 1, z, by omega, by go_num, rfl, HN, own_drewN HO5.out _, K5, below_drewN HB5.out _⟩
            case measure => simp [RowKit.intOf]; omega
          have hq2 : decide (acc < 0) = false := by simp; omega
          by_cases hl2 : z < acc
          · have hq3 : decide (z < acc) = true := by simp [hl2]
            have HN : Hid (z = (T1.take (k2 + 1)).foldl (pick (aheadB d.now)) (-1)) := by show _ = _; rw [HPK.out]; simp [pick, hah, hl2]
            clear HPK hah ha hl2
            go_wp2_with fail
            go_quiet (first | (go_at_call 33; exact Calls.quiet_of_same (HTK.out _)))
            go_wp2
            go_roundw
            case rel => exact ⟨k2 + 1, z, by omega, by go_num, rfl, HN, own_drewN HO5.out _, K5, below_drewN HB5.out _⟩
            case measure => simp [RowKit.intOf]; omega
          · have hq3 : decide (z < acc) = false := by simp; omega
            have HN : Hid (acc = (T1.take (k2 + 1)).foldl (pick (aheadB d.now)) (-1)) := by show _ = _; rw [HPK.out]; simp [pick, ha, hl2]
            clear HPK hah ha hl2
            go_wp2_with fail
            go_quiet (first | (go_at_call 33; exact Calls.quiet_of_same (HTK.out _)))
            go_wp2
            go_roundw
            case rel => exact ⟨k2 + 1, acc, by omega, by go_num, rfl, HN, own_drewN HO5.out _, K5, below_drewN HB5.out _⟩
            case measure => simp [RowKit.intOf]; omega

    have c15 : wr.cell? ⟨w.heap.size, 15, none⟩ = some (.slice A n c) := box_cell K3.out 15 _ rfl
    have hrw := HP.out.below HB3.out hB
    obtain ⟨b, off, y0, y1, y2, y3, y4, rfl, hbB, hz, hc0, hc1, hc2, hc3, hc4⟩ := hrw.at_ hlt
    have HTS := Lib.hid (mod_take (d := d) (ps := d.ps) (k := k) (by rw [HL.out]; exact hlt))
    have hpt := HPT.out k hlt
    rw [hz] at HTS hpt
    have hpt : 0 ≤ y4 ∧ y4 ≤ 1000000000 := hpt
    clear hz hrw
    obtain ⟨W, hW⟩ : ∃ W, W = wr.alloc (.cells #[.int .i64 y0, .int .i64 y1, .int .i64 y2, .int .i64 y3, .int .i64 y4] 65) := ⟨_, rfl⟩
    have HBa : Hid (Below w.heap.size w W) := by rw [hW]; exact HB3.out.alloc HB3.out.size _
    have KA : Hid (W.heap[w.heap.size]? = some (.cells (enL d (some ⟨b, off, none⟩) n c).toArray 29 (0, 0))) := by rw [hW]; exact box_alloc K3.out _
    have HOa : Hid (OwnI W (w.heap.size + 1) (some ⟨g, 0, none⟩) m c3 T) := by rw [hW]; exact HO3.out.alloc _
    have KY : Hid (W.heap[wr.heap.size]? = some (.cells [.int .i64 y0, .int .i64 y1, .int .i64 y2, .int .i64 y3, .int .i64 y4].toArray 65 (0, 0))) := by rw [hW]; exact box_new wr _
    have hsa : w.heap.size + 1 ≤ W.heap.size := by rw [hW]; simp; omega
    have hwr1 : w.heap.size + 1 ≤ wr.heap.size := hs3
    go_upto_region 8 with fail
    rw [← hW]
    clear hW hc0 hc1 hc2 hc3 hc4 c15 K3 HO3 HB3 hs3
    obtain ⟨Q, hQ⟩ : ∃ Q, Q = nxP d.sp (y0, y1, y2, y3, y4) := ⟨_, rfl⟩
    have HQ := Lib.hid hQ
    clear hQ
    go_wp2_with (first | (refine wpList_get rfl 24 _ rfl w.heap.size 0 rfl KA.out (spL d.sp) (enL_sp d (some ⟨b, off, none⟩) n c) Try.underlying24 rfl (by kernel_rfl) ?_) | (refine wpList_get rfl 65 _ rfl wr.heap.size 0 rfl KY.out [.int .i64 y0, .int .i64 y1, .int .i64 y2, .int .i64 y3, .int .i64 y4] rfl Try.underlying65 rfl (by kernel_rfl) ?_))
    refine (Hl.specNextHealth_any d.sp.x0 d.sp.x1 d.sp.x2 d.sp.x3 d.sp.x4 d.sp.x5 d.sp.x6 d.sp.x7 d.sp.x8 d.sp.x9 d.sp.x10 y0 y1 y2 y3 y4 _).mono ?_
    rw [show Hl.nextV d.sp.x0 d.sp.x1 d.sp.x2 d.sp.x3 d.sp.x4 d.sp.x5 d.sp.x6 d.sp.x7 d.sp.x8 d.sp.x9 d.sp.x10 y2 y4 = Q from HQ.out.symm]
    rintro e W0 ⟨rfl, hb2⟩
    have HO0 := Lib.hid (HOa.out.below hb2)
    have K0 := Lib.hid (box_below KA.out hb2)
    have KY0 := Lib.hid (box_below KY.out hb2)
    have HB0 := Lib.hid (bel_then HBa.out hb2 HBa.out.size)
    have hs0 : w.heap.size + 1 ≤ W0.heap.size := by have := hb2.size; omega
    have hwy0 : wr.heap.size < W0.heap.size := box_lt KY0.out
    clear hb2 HOa KA HBa hsa KY
    have hTm : T.length = m := HO0.out.1
    go_wp2_with (at_builtin; refine wpList_append_own _ rfl (.tmp 33) (.tmp 38) _ rfl (w.heap.size + 1) 3 i0 _ 1 8 Try.underlying63 hi0 hz0 hz1 hz2 rfl (by omega) (.slice (some ⟨g, 0, none⟩) m c3) m (T.map (Value.int .i64)) rfl ?o1 ⟨W0.heap.size, 0, none⟩ 1 1 [.int .i64 (Q)] rfl rfl (Crew.news_new W0 [.int .i64 (Q)] 3) ?o3 ?o4 ?o5 ?o6 ?_)
    case o1 => exact (HO0.out.alloc _).2
    case o3 => first | rfl | (intro u hu; simp at hu; subst hu; rfl)
    case o4 => unfold maxLen; omega
    case o5 => omega
    case o6 => first | omega | (simp; omega)
    intro v1 W1 hown hgr hif
    have hown2 : W1.ownsRow (w.heap.size + 1) 3 1 v1 (m + ([Q] : List Int).length) (T.map (Value.int .i64) ++ ([Q] : List Int).map (Value.int .i64)) := by first | exact hown | simpa using hown
    have hnn : v1 ≠ .slice none 0 0 := by first | exact hif | (intro e; have h := (hif.1 e).1; cases h)
    obtain ⟨g1, m1, c1, T1, rfl, hO, hm, ht⟩ := of_app2 (zs := T) (ys := [Q]) hTm hnn hown2
    have hmb1 : m1 ≤ m + 1 := Nat.le_of_eq hm
    have HT1 := Lib.hid ht
    have HO1 := Lib.hid hO
    have hne : ∀ q, (Value.slice (some ⟨g, 0, none⟩) m c3).ownBlock = some q → w.heap.size + 1 ≤ q := fun q hq => (HO0.out.lt q hq).1
    have K1 := Lib.hid ((hgr.block w.heap.size (by simp; omega) (fun e => by have := hne _ e.symm; omega)).trans (box_alloc K0.out _))
    have KY1 : Hid (W1.heap[wr.heap.size]? = some (.cells [.int .i64 y0, .int .i64 y1, .int .i64 y2, .int .i64 y3, .int .i64 y4].toArray 65 (0, 0))) := by
      refine (hgr.block wr.heap.size (by simp; omega) (fun e => ?_)).trans (box_alloc KY0.out _)
      exact own_int_ne HO0.out KY0.out (by decide) _ e.symm rfl
    have hwy1 : wr.heap.size < W1.heap.size := box_lt KY1.out
    have HB1 : Hid (Below w.heap.size w W1) := (HB0.out.alloc HB0.out.size _).grown hgr (by simp; omega) (fun qq hq => by have := hne qq hq; omega)
    have hs1 : w.heap.size + 1 ≤ W1.heap.size := by have := hgr.size; simp at this; omega
    clear hown hown2 hgr hif hnn hO hne hTm hm ht HO0 K0 HB0 hs0 KY0 hwy0
    have e2 : W1.cell? ⟨wr.heap.size, 2, none⟩ = some (.int .i64 y2) := box_cell KY1.out 2 _ rfl
    have e1 : W1.cell? ⟨wr.heap.size, 1, none⟩ = some (.int .i64 y1) := box_cell KY1.out 1 _ rfl
    have e4 : W1.cell? ⟨wr.heap.size, 4, none⟩ = some (.int .i64 y4) := box_cell KY1.out 4 _ rfl
    by_cases h4 : y2 = 4
    · have hq4 : (y2 == 4) = true := by simp [h4]
      have hq2 : (y2 == 2) = false := by simp [h4]
      have HTS2 := Lib.hid (show (d.ps.take (k + 1)).flatMap (modP d) = (d.ps.take k).flatMap (modP d) ++ [Q, y4 + d.sp.x7] by
        rw [HTS.out, HQ.out]; simp [modP, h4, bakeB])
      have c7 : W1.cell? ⟨w.heap.size, 7, none⟩ = some (.int .i64 d.sp.x7) := box_cell K1.out 7 _ rfl
      have hsp := HSP.out
      have hwp : IntKind.i64.wrap (y4 + d.sp.x7) = y4 + d.sp.x7 := EngTurn.wrap_small (by omega) (by omega)
      clear h4 HTS hsp
      have hTm : T1.length = m1 := HO1.out.1
      go_wp2_with (at_builtin; refine wpList_append_own _ rfl (.tmp 43) (.tmp 50) _ rfl (w.heap.size + 1) 3 i0 _ 1 8 Try.underlying63 hi0 hz0 hz1 hz2 rfl (by omega) (.slice (some ⟨g1, 0, none⟩) m1 c1) m1 (T1.map (Value.int .i64)) rfl ?o1 ⟨W1.heap.size, 0, none⟩ 1 1 [.int .i64 (y4 + d.sp.x7)] rfl rfl (Crew.news_new W1 [.int .i64 (y4 + d.sp.x7)] 3) ?o3 ?o4 ?o5 ?o6 ?_)
      case o1 => exact (HO1.out.alloc _).2
      case o3 => first | rfl | (intro u hu; simp at hu; subst hu; rfl)
      case o4 => unfold maxLen; omega
      case o5 => omega
      case o6 => first | omega | (simp; omega)
      intro v2 W2 hown hgr hif
      have hown2 : W2.ownsRow (w.heap.size + 1) 3 1 v2 (m1 + ([y4 + d.sp.x7] : List Int).length) (T1.map (Value.int .i64) ++ ([y4 + d.sp.x7] : List Int).map (Value.int .i64)) := by first | exact hown | simpa using hown
      have hnn : v2 ≠ .slice none 0 0 := by first | exact hif | (intro e; have h := (hif.1 e).1; cases h)
      obtain ⟨g2, m2, c2, T2, rfl, hO, hm, ht⟩ := of_app2 (zs := T1) (ys := [y4 + d.sp.x7]) hTm hnn hown2
      have hmb2 : m2 ≤ m1 + 1 := Nat.le_of_eq hm
      have HT2 := Lib.hid ht
      have HO2 := Lib.hid hO
      have hne : ∀ q, (Value.slice (some ⟨g1, 0, none⟩) m1 c1).ownBlock = some q → w.heap.size + 1 ≤ q := fun q hq => (HO1.out.lt q hq).1
      have K2 := Lib.hid ((hgr.block w.heap.size (by simp; omega) (fun e => by have := hne _ e.symm; omega)).trans (box_alloc K1.out _))
      have KY2 : Hid (W2.heap[wr.heap.size]? = some (.cells [.int .i64 y0, .int .i64 y1, .int .i64 y2, .int .i64 y3, .int .i64 y4].toArray 65 (0, 0))) := by
        refine (hgr.block wr.heap.size (by simp; omega) (fun e => ?_)).trans (box_alloc KY1.out _)
        exact own_int_ne HO1.out KY1.out (by decide) _ e.symm rfl
      have hwy2 : wr.heap.size < W2.heap.size := box_lt KY2.out
      have HB2 : Hid (Below w.heap.size w W2) := (HB1.out.alloc HB1.out.size _).grown hgr (by simp; omega) (fun qq hq => by have := hne qq hq; omega)
      have hs2 : w.heap.size + 1 ≤ W2.heap.size := by have := hgr.size; simp at this; omega
      clear hown hown2 hgr hif hnn hO hne hTm hm ht HO1 K1 HB1 hs1 KY1 hwy1
      have f2 : W2.cell? ⟨wr.heap.size, 2, none⟩ = some (.int .i64 y2) := box_cell KY2.out 2 _ rfl
      clear e1 e2 e4 c7 hwp
      have HS3 : Hid (T2 = d.wt :: (d.ps.take (k + 1)).flatMap (modP d)) := by show _ = _; rw [HT2.out, HT1.out, HT.out, HTS2.out]; simp
      clear HTS2 HT2 HT1 HT HQ
      go_wp2
      go_roundw
      case rel => exact ⟨k + 1, m2, g2, c2, T2, by omega, by go_num, rfl, by omega, HS3, HO2, K2, HB2, hs2⟩
      case measure => simp [RowKit.intOf]; omega
    have hq4 : (y2 == 4) = false := by simp [h4]
    by_cases hbk : y2 = 2 ∧ y1 = d.tg ∧ d.ph = 1
    · have hq2 : (y2 == 2) = true := by simp [hbk.1]
      have hq1 : (y1 == d.tg) = true := by simp [hbk.2.1]
      have hqp : (d.ph == 1) = true := by simp [hbk.2.2]
      have HTS2 := Lib.hid (show (d.ps.take (k + 1)).flatMap (modP d) = (d.ps.take k).flatMap (modP d) ++ [Q, y4 + d.sp.x3 + d.sp.x10] by
        rw [HTS.out, HQ.out]; simp [modP, hbk.1, bakeB, hbk.2.1, hbk.2.2])
      have c3_ : W1.cell? ⟨w.heap.size, 3, none⟩ = some (.int .i64 d.sp.x3) := box_cell K1.out 3 _ rfl
      have c10_ : W1.cell? ⟨w.heap.size, 10, none⟩ = some (.int .i64 d.sp.x10) := box_cell K1.out 10 _ rfl
      have c12_ : W1.cell? ⟨w.heap.size, 12, none⟩ = some (.int .i64 d.ph) := box_cell K1.out 12 _ rfl
      have c13_ : W1.cell? ⟨w.heap.size, 13, none⟩ = some (.int .i64 d.tg) := box_cell K1.out 13 _ rfl
      have hsp := HSP.out
      have hwp : IntKind.i64.wrap (y4 + d.sp.x3) = y4 + d.sp.x3 := EngTurn.wrap_small (by omega) (by omega)
      have hwp2 : IntKind.i64.wrap (y4 + d.sp.x3 + d.sp.x10) = y4 + d.sp.x3 + d.sp.x10 := EngTurn.wrap_small (by omega) (by omega)
      clear h4 hbk HTS hsp
      have hTm : T1.length = m1 := HO1.out.1
      go_wp2_with (at_builtin; refine wpList_append_own _ rfl (.tmp 67) (.tmp 78) _ rfl (w.heap.size + 1) 3 i0 _ 1 8 Try.underlying63 hi0 hz0 hz1 hz2 rfl (by omega) (.slice (some ⟨g1, 0, none⟩) m1 c1) m1 (T1.map (Value.int .i64)) rfl ?o1 ⟨W1.heap.size, 0, none⟩ 1 1 [.int .i64 (y4 + d.sp.x3 + d.sp.x10)] rfl rfl (Crew.news_new W1 [.int .i64 (y4 + d.sp.x3 + d.sp.x10)] 3) ?o3 ?o4 ?o5 ?o6 ?_)
      case o1 => exact (HO1.out.alloc _).2
      case o3 => first | rfl | (intro u hu; simp at hu; subst hu; rfl)
      case o4 => unfold maxLen; omega
      case o5 => omega
      case o6 => first | omega | (simp; omega)
      intro v2 W2 hown hgr hif
      have hown2 : W2.ownsRow (w.heap.size + 1) 3 1 v2 (m1 + ([y4 + d.sp.x3 + d.sp.x10] : List Int).length) (T1.map (Value.int .i64) ++ ([y4 + d.sp.x3 + d.sp.x10] : List Int).map (Value.int .i64)) := by first | exact hown | simpa using hown
      have hnn : v2 ≠ .slice none 0 0 := by first | exact hif | (intro e; have h := (hif.1 e).1; cases h)
      obtain ⟨g2, m2, c2, T2, rfl, hO, hm, ht⟩ := of_app2 (zs := T1) (ys := [y4 + d.sp.x3 + d.sp.x10]) hTm hnn hown2
      have hmb2 : m2 ≤ m1 + 1 := Nat.le_of_eq hm
      have HT2 := Lib.hid ht
      have HO2 := Lib.hid hO
      have hne : ∀ q, (Value.slice (some ⟨g1, 0, none⟩) m1 c1).ownBlock = some q → w.heap.size + 1 ≤ q := fun q hq => (HO1.out.lt q hq).1
      have K2 := Lib.hid ((hgr.block w.heap.size (by simp; omega) (fun e => by have := hne _ e.symm; omega)).trans (box_alloc K1.out _))
      have KY2 : Hid (W2.heap[wr.heap.size]? = some (.cells [.int .i64 y0, .int .i64 y1, .int .i64 y2, .int .i64 y3, .int .i64 y4].toArray 65 (0, 0))) := by
        refine (hgr.block wr.heap.size (by simp; omega) (fun e => ?_)).trans (box_alloc KY1.out _)
        exact own_int_ne HO1.out KY1.out (by decide) _ e.symm rfl
      have hwy2 : wr.heap.size < W2.heap.size := box_lt KY2.out
      have HB2 : Hid (Below w.heap.size w W2) := (HB1.out.alloc HB1.out.size _).grown hgr (by simp; omega) (fun qq hq => by have := hne qq hq; omega)
      have hs2 : w.heap.size + 1 ≤ W2.heap.size := by have := hgr.size; simp at this; omega
      clear hown hown2 hgr hif hnn hO hne hTm hm ht HO1 K1 HB1 hs1 KY1 hwy1
      clear e1 e2 e4 c3_ c10_ c12_ c13_ hwp hwp2
      have HS3 : Hid (T2 = d.wt :: (d.ps.take (k + 1)).flatMap (modP d)) := by show _ = _; rw [HT2.out, HT1.out, HT.out, HTS2.out]; simp
      clear HTS2 HT2 HT1 HT HQ
      go_wp2
      go_roundw
      case rel => exact ⟨k + 1, m2, g2, c2, T2, by omega, by go_num, rfl, by omega, HS3, HO2, K2, HB2, hs2⟩
      case measure => simp [RowKit.intOf]; omega
    · have HTS2 := Lib.hid (show (d.ps.take (k + 1)).flatMap (modP d) = (d.ps.take k).flatMap (modP d) ++ [Q] by
        rw [HTS.out, HQ.out]
        have hb : (bakeB d (y0, y1, y2, y3, y4) && decide (d.ph = 1)) = false := by
          simp only [bakeB, Bool.and_eq_false_iff, decide_eq_false_iff_not]
          by_cases a : y2 = 2
          · by_cases b : y1 = d.tg
            · exact .inr (fun hp => hbk ⟨a, b, hp⟩)
            · exact .inl (.inr b)
          · exact .inl (.inl a)
        simp only [modP, hb]; simp [h4])
      have c12_ : W1.cell? ⟨w.heap.size, 12, none⟩ = some (.int .i64 d.ph) := box_cell K1.out 12 _ rfl
      have c13_ : W1.cell? ⟨w.heap.size, 13, none⟩ = some (.int .i64 d.tg) := box_cell K1.out 13 _ rfl
      have HS3 : Hid (T1 = d.wt :: (d.ps.take (k + 1)).flatMap (modP d)) := by show _ = _; rw [HT1.out, HT.out, HTS2.out]; simp
      clear h4 HTS HTS2 HT1 HT HQ
      by_cases a : y2 = 2
      · have hq2 : (y2 == 2) = true := by simp [a]
        by_cases b1 : y1 = d.tg
        · have hq1 : (y1 == d.tg) = true := by simp [b1]
          have hqp : (d.ph == 1) = false := by simp; exact fun h => hbk ⟨a, b1, h⟩
          clear hbk a b1
          go_wp2
          go_roundw
          case rel => exact ⟨k + 1, m1, g1, c1, T1, by omega, by go_num, rfl, by omega, HS3, HO1, K1, HB1, hs1⟩
          case measure => simp [RowKit.intOf]; omega
        · have hq1 : (y1 == d.tg) = false := by simp [b1]
          clear hbk a b1
          go_wp2
          go_roundw
          case rel => exact ⟨k + 1, m1, g1, c1, T1, by omega, by go_num, rfl, by omega, HS3, HO1, K1, HB1, hs1⟩
          case measure => simp [RowKit.intOf]; omega
      · have hq2 : (y2 == 2) = false := by simp [a]
        clear hbk a
        go_wp2
        go_roundw
        case rel => exact ⟨k + 1, m1, g1, c1, T1, by omega, by go_num, rfl, by omega, HS3, HO1, K1, HB1, hs1⟩
        case measure => simp [RowKit.intOf]; omega
end Go.Proofs.Ytcedgjglpjgehaa.EngNxS
