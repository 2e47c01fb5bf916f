/-
  THE PROGRAM'S LISTS OF TICKS for NextEngine over this seat's translation: bakesOf, podTurnsOf, turnsOf.
-/
import Derived.Test.YtdefckbgcggnoaaGreatEngOk
import Derived.Test.YtdefckbgcggnoaaGreatEngNext
import Derived.Test.YtdefckbgcggnoaaGreatEngSet
namespace Go.Proofs.YtdefckbgcggnoaaGreat.EngTurn
open Go.ChangeShapes Go.WideShapes Go.ChangeAt Go.RowKit
open Go.Proofs.YtdefckbgcggnoaaGreat.LK Go.Proofs.YtdefckbgcggnoaaGreat.Pods Go.Proofs.YtdefckbgcggnoaaGreat.EngV Go.Proofs.YtdefckbgcggnoaaGreat.EngCnt Go.Proofs.YtdefckbgcggnoaaGreat.EngNext Go.Proofs.YtdefckbgcggnoaaGreat.Seg Go.Proofs.YtdefckbgcggnoaaGreat.Has Go.Proofs.YtdefckbgcggnoaaGreat.Ints
open Go.Proofs.YtdefckbgcggnoaaGreat.FleetV hiding goodB
open Go.Proofs.YtdefckbgcggnoaaGreat.Tick (tok_t)
open Go.Proofs.YtdefckbgcggnoaaGreat.Hl (cutV)
set_option linter.unusedVariables false
set_option linter.unusedSimpArgs false

/-- A list of ints of one's own, in new memory; its row is there even where it is empty. -/
def Grew (T : List Int) (w : World) (e : Ending) (w' : World) : Prop := ∃ g m c, e = .returned (.slice (some ⟨g, 0, none⟩) m c) ∧ OwnI w' w.heap.size (some ⟨g, 0, none⟩) m c T ∧ Below w.heap.size w w'
theorem own_new (W : World) (lo : Nat) (h : lo ≤ W.heap.size) : OwnI (W.alloc (.cells #[] 3)) lo (some ⟨W.heap.size, 0, none⟩) 0 0 [] :=
  ⟨rfl, by simp, .inr ⟨W.heap.size, 0, #[], rfl, h, box_new W _, Nat.le_refl _, Nat.zero_le _, rfl, by simp⟩⟩
theorem of_app {w' : World} {base n : Nat} {v' : Value} {zs ys : List Int} (hl : zs.length = n) (hp : 0 < n + ys.length) (h : w'.ownsRow base 3 1 v' (n + ys.length) (zs.map (Value.int .i64) ++ ys.map (Value.int .i64))) : ∃ g c, v' = .slice (some ⟨g, 0, none⟩) (n + ys.length) c ∧ OwnI w' base (some ⟨g, 0, none⟩) (n + ys.length) c (zs ++ ys) := by
  obtain ⟨g, cap, rfl, _⟩ := h.form hp
  exact ⟨_, _, rfl, by simp [hl], by simpa using h⟩
theorem ownI_down {w : World} {b b' : Nat} {A : Option Addr} {n c : Nat} {zs : List Int} (h : OwnI w b A n c zs) (hb : b' ≤ b) : OwnI w b' A n c zs := Rec.ownI_base h hb
theorem wrap_small {x : Int} (h0 : -9223372036854775808 ≤ x) (h1 : x ≤ 9223372036854775807) : IntKind.i64.wrap x = x := FleetSpec.wrap_id h0 h1
theorem take_get {ps : PList} {k : Nat} (h : k < ps.length) : ps.take (k + 1) = ps.take k ++ [ps.getD k z5] := by
  rw [List.take_succ_eq_append_getElem h]; simp [List.getD, h]
theorem bake_take {d : Eng} {ps : PList} {k : Nat} (h : k < ps.length) : bakeL d (ps.take (k + 1)) = bakeL d (ps.take k) ++ (if bakeB d (ps.getD k z5) then [cutV ((ps.getD k z5).2.2.2.2 + (d.sp.x3 + d.sp.x10))] else []) := by
  rw [take_get h]
  generalize ps.getD k z5 = p
  simp only [bakeL, List.filter_append, List.map_append]
  cases hb : bakeB d p <;> simp [hb]
theorem pod_take {d : Eng} {ps : PList} {k : Nat} (h : k < ps.length) : podL d (ps.take (k + 1)) = podL d (ps.take k) ++ [podT d (ps.getD k z5)] := by
  rw [take_get h]
  simp [podL]
theorem bake_len (d : Eng) (ps : PList) : (bakeL d ps).length ≤ ps.length := by simp [bakeL]; exact List.length_filter_le _ _
theorem get_mem {m : PList} {k : Nat} (h : k < m.length) : m.getD k z5 ∈ m := by simp [List.getD, h]
set_option maxRecDepth 100000 in
set_option maxHeartbeats 6400000 in
theorem bakesOf_any (A : Option Addr) (n c : Nat) (d : Eng) (B : Nat) (w : World) (hok : d.okB = true) (hr : IsPods w B A n d.ps) (hB : B ≤ w.heap.size) (hn : n ≤ 1048576) : Calls Tryz.prog 83 #[.agg (enL d A n c).toArray] w (Grew (bakeL d d.ps) w) := by
  obtain ⟨i0, hi0, hz0, hz1, hz2⟩ := info_parts Has.infoInt
  have HP := Lib.hid hr
  have HL : Hid (d.ps.length = n) := hr.1
  obtain ⟨hsok, hgood, hnow, hst, hwt, _⟩ := okB_t hok
  have hsp := Sp.specB_t (show Sp.specB d.sp.x0 d.sp.x1 d.sp.x2 d.sp.x3 d.sp.x4 d.sp.x5 d.sp.x6 d.sp.x7 d.sp.x8 d.sp.x9 d.sp.x10 = true from hsok)
  have HSP := Lib.hid hsp
  have HPT : Hid (∀ k, k < n → 0 ≤ (d.ps.getD k z5).2.2.2.2 ∧ (d.ps.getD k z5).2.2.2.2 ≤ 1000000000) := fun k hk => by
    have h := (hgood.2.2.1 _ (get_mem (show k < d.ps.length by rw [HL.out]; exact hk))).1.2.2.2.2
    exact h
  clear hr hok hsok hgood hnow hst hwt hsp
  obtain ⟨V, hV⟩ : ∃ V, V = (w.alloc (.cells (enL d A n c).toArray 36)).alloc (.cells #[] 3) := ⟨_, rfl⟩
  have HB : Hid (Below w.heap.size w V) := by rw [hV]; exact bel2 _ _ _
  have K : Hid (V.heap[w.heap.size]? = some (.cells (enL d A n c).toArray 36 (0, 0))) := by rw [hV]; exact box_alloc (box_new w _) _
  have HO : Hid (OwnI V (w.heap.size + 1) (some ⟨w.heap.size + 1, 0, none⟩) 0 0 []) := by rw [hV]; have h := own_new (w.alloc (.cells (enL d A n c).toArray 36)) (w.heap.size + 1) (by simp); simp only [World.size_alloc] at h; exact h
  have hs : w.heap.size + 1 ≤ V.heap.size := by rw [hV]; simp
  go_enter Tryz.func83, Tryz.ntmps83
  go_upto_region 2 with fail
  rw [← hV]
  clear hV
  have c15 : V.cell? ⟨w.heap.size, 15, none⟩ = some (.slice A n c) := box_cell K.out 15 _ rfl
  go_wp2_with fail
  clear c15
  go_loopw [3, 11] (fun q i wr => ∃ (k m g : Nat) (c3 : Nat) (T : List Int), k ≤ n ∧ i = .int .i64 k ∧ q = .slice (some ⟨g, 0, none⟩) m c3 ∧ m ≤ k ∧ Hid (T = bakeL d (d.ps.take k)) ∧ Hid (OwnI wr (w.heap.size + 1) (some ⟨g, 0, none⟩) m c3 T) ∧ Hid (wr.heap[w.heap.size]? = some (.cells (enL d A n c).toArray 36 (0, 0))) ∧ Hid (Below w.heap.size w wr) ∧ w.heap.size + 1 ≤ wr.heap.size) (fun _ i _ => n - (RowKit.intOf i).toNat)
  case atStart => exact ⟨0, 0, w.heap.size + 1, 0, [], Nat.zero_le _, rfl, rfl, Nat.le_refl _, by simp [Hid, bakeL], HO, K, HB, hs⟩
  case round =>
    obtain ⟨k, m, g, c3, T, hk, rfl, rfl, hmk, HT, HO3, K3, HB3, hs3⟩ := hrel
    clear HO K HB hs
    by_cases hlt : k < n
    case neg =>
      have HK : Hid (k = n) := (by omega : k = n)
      go_wp2
      go_ret
      have h := HT.out
      rw [List.take_of_length_le (by rw [HL.out, HK.out]; exact Nat.le_refl _)] at h
      rw [← h]
      refine ⟨g, m, c3, rfl, ⟨HO3.out.1, ?_⟩, HB3.out⟩
      exact (ownI_down HO3.out (by omega)).2
    have hrw := HP.out.below HB3.out hB
    obtain ⟨b, off, y0, y1, y2, y3, y4, rfl, hbB, hz, hc0, hc1, hc2, hc3, hc4⟩ := hrw.at_ hlt
    have HTS := Lib.hid (bake_take (d := d) (ps := d.ps) (k := k) (by rw [HL.out]; exact hlt))
    have hpt := HPT.out k hlt
    rw [hz] at HTS hpt
    have hpt : 0 ≤ y4 ∧ y4 ≤ 1000000000 := hpt
    clear hz hrw
    obtain ⟨W, hW⟩ : ∃ W, W = wr.alloc (.cells #[.int .i64 y0, .int .i64 y1, .int .i64 y2, .int .i64 y3, .int .i64 y4] 77) := ⟨_, rfl⟩
    have HBa : Hid (Below w.heap.size w W) := by rw [hW]; exact HB3.out.alloc HB3.out.size _
    have KA : Hid (W.heap[w.heap.size]? = some (.cells (enL d (some ⟨b, off, none⟩) n c).toArray 36 (0, 0))) := by rw [hW]; exact box_alloc K3.out _
    have HOa : Hid (OwnI W (w.heap.size + 1) (some ⟨g, 0, none⟩) m c3 T) := by rw [hW]; exact HO3.out.alloc _
    have KY : Hid (W.heap[wr.heap.size]? = some (.cells [.int .i64 y0, .int .i64 y1, .int .i64 y2, .int .i64 y3, .int .i64 y4].toArray 77 (0, 0))) := by rw [hW]; exact box_new wr _
    have hsa : w.heap.size + 1 ≤ W.heap.size := by rw [hW]; simp; omega
    have d1 : W.cell? ⟨wr.heap.size, 1, none⟩ = some (.int .i64 y1) := box_cell KY.out 1 _ rfl
    have d2 : W.cell? ⟨wr.heap.size, 2, none⟩ = some (.int .i64 y2) := box_cell KY.out 2 _ rfl
    have d4 : W.cell? ⟨wr.heap.size, 4, none⟩ = some (.int .i64 y4) := box_cell KY.out 4 _ rfl
    go_upto_region 5 with fail
    rw [← hW]
    clear hW hc0 hc1 hc2 hc3 hc4
    clear K3 HO3 HB3
    have c13 : W.cell? ⟨w.heap.size, 13, none⟩ = some (.int .i64 d.tg) := box_cell KA.out 13 _ rfl
    have c3_ : W.cell? ⟨w.heap.size, 3, none⟩ = some (.int .i64 d.sp.x3) := box_cell KA.out 3 _ rfl
    have c10 : W.cell? ⟨w.heap.size, 10, none⟩ = some (.int .i64 d.sp.x10) := box_cell KA.out 10 _ rfl
    by_cases h2 : y2 = 2
    case neg =>
      have hq : (y2 == 2) = false := by simp [h2]
      have HS3 : Hid (T = bakeL d (d.ps.take (k + 1))) := by show _ = _; rw [HTS.out]; simp [bakeB, h2]; exact HT.out
      clear h2 HTS
      go_wp2
      go_roundw
      case rel => exact ⟨k + 1, m, g, c3, T, by omega, by go_num, rfl, by omega, HS3, HOa, KA, HBa, hsa⟩
      case measure => simp [RowKit.intOf]; omega
    by_cases h1 : y1 = d.tg
    case neg =>
      have hq : (y2 == 2) = true := by simp [h2]
      have hq1 : (y1 == d.tg) = false := by simp [h1]
      have HS3 : Hid (T = bakeL d (d.ps.take (k + 1))) := by show _ = _; rw [HTS.out]; simp [bakeB, h1]; exact HT.out
      clear h2 h1 HTS
      go_wp2
      go_roundw
      case rel => exact ⟨k + 1, m, g, c3, T, by omega, by go_num, rfl, by omega, HS3, HOa, KA, HBa, hsa⟩
      case measure => simp [RowKit.intOf]; omega
    · have hq : (y2 == 2) = true := by simp [h2]
      have hq1 : (y1 == d.tg) = true := by simp [h1]
      have HTS2 := Lib.hid (show bakeL d (d.ps.take (k + 1)) = bakeL d (d.ps.take k) ++ [cutV (y4 + (d.sp.x3 + d.sp.x10))] by
        have hb : bakeB d (y0, y1, y2, y3, y4) = true := by simp [bakeB, h1, h2]
        rw [HTS.out, hb]; rfl)
      have hsp := HSP.out
      have hwr : IntKind.i64.wrap (d.sp.x3 + d.sp.x10) = d.sp.x3 + d.sp.x10 := wrap_small (by omega) (by omega)
      obtain ⟨Q, hQ⟩ : ∃ Q, Q = cutV (y4 + (d.sp.x3 + d.sp.x10)) := ⟨_, rfl⟩
      have HQ := Lib.hid hQ
      clear h2 h1 hQ hsp HTS
      go_wp2_with fail
      refine (Hl.tickAfter_any y4 (d.sp.x3 + d.sp.x10) _ hpt (by have := HSP.out; omega)).mono ?_
      rw [← HQ.out]
      rintro e w2 ⟨rfl, rfl⟩
      have hTm : T.length = m := HOa.out.1
      go_wp2_with (at_builtin; refine wpList_append_own _ rfl (.tmp 25) (.tmp 36) _ rfl (w.heap.size + 1) 3 i0 _ 1 8 Tryz.underlying38 hi0 hz0 hz1 hz2 rfl (by omega) (.slice (some ⟨g, 0, none⟩) m c3) m (T.map (Value.int .i64)) rfl ?o1 ⟨W.heap.size, 0, none⟩ 1 1 [.int .i64 Q] rfl rfl (Crew.news_new W [.int .i64 Q] 3) ?o3 ?o4 ?o5 ?o6 ?_)
      case o1 => exact (HOa.out.alloc _).2
      case o3 => first | rfl | (intro u hu; simp at hu; subst hu; rfl)
      case o4 => unfold maxLen; omega
      case o5 => omega
      case o6 => first | omega | (simp; omega)
      intro v2 w5 hown hgr _
      obtain ⟨g5, c5, rfl, hO5⟩ := of_app (zs := T) (ys := [Q]) hTm (by simp) hown
      have HO5 := Lib.hid hO5
      have hne : ∀ q, (Value.slice (some ⟨g, 0, none⟩) m c3).ownBlock = some q → w.heap.size + 1 ≤ q := fun q hq => (HOa.out.lt q hq).1
      have K5 := Lib.hid ((hgr.block w.heap.size (by simp; omega) (fun e => by have := hne _ e.symm; omega)).trans (box_alloc KA.out _))
      have HB5 : Hid (Below w.heap.size w w5) := (HBa.out.alloc HBa.out.size _).grown hgr (by simp; omega) (fun qq hq => by have := hne qq hq; omega)
      have hs5 : w.heap.size + 1 ≤ w5.heap.size := by have := hgr.size; simp at this; omega
      have HS3 : Hid (T ++ [Q] = bakeL d (d.ps.take (k + 1))) := by show _ = _; have h := HTS2.out; rw [h, HT.out, HQ.out]
      clear hown hgr hO5 hne c13 c3_ c10 hwr d1 d2 d4 HTS2
      go_wp2
      go_roundw
      case rel => exact ⟨k + 1, m + 1, g5, c5, T ++ [Q], by omega, by go_num, rfl, by omega, HS3, HO5, K5, HB5, hs5⟩
      case measure => simp [RowKit.intOf]; omega
set_option maxRecDepth 100000 in
set_option maxHeartbeats 6400000 in
theorem podTurnsOf_any (A : Option Addr) (n c : Nat) (d : Eng) (B : Nat) (w : World) (hok : d.okB = true) (hr : IsPods w B A n d.ps) (hB : B ≤ w.heap.size) (hn : n ≤ 1048576) : Calls Tryz.prog 85 #[.agg (enL d A n c).toArray] w (Grew (podL d d.ps) w) := by
  obtain ⟨i0, hi0, hz0, hz1, hz2⟩ := info_parts Has.infoInt
  have HP := Lib.hid hr
  have HL : Hid (d.ps.length = n) := hr.1
  obtain ⟨hsok, hgood, hnow, hst, hwt, _⟩ := okB_t hok
  have hsp := Sp.specB_t (show Sp.specB d.sp.x0 d.sp.x1 d.sp.x2 d.sp.x3 d.sp.x4 d.sp.x5 d.sp.x6 d.sp.x7 d.sp.x8 d.sp.x9 d.sp.x10 = true from hsok)
  have HSP := Lib.hid hsp
  have HPT : Hid (∀ k, k < n → 0 ≤ (d.ps.getD k z5).2.2.2.2 ∧ (d.ps.getD k z5).2.2.2.2 ≤ 1000000000) := fun k hk => by
    have h := (hgood.2.2.1 _ (get_mem (show k < d.ps.length by rw [HL.out]; exact hk))).1.2.2.2.2
    exact h
  clear hr hok hsok hgood hnow hst hwt hsp
  obtain ⟨V, hV⟩ : ∃ V, V = (w.alloc (.cells (enL d A n c).toArray 36)).alloc (.cells #[] 3) := ⟨_, rfl⟩
  have HB : Hid (Below w.heap.size w V) := by rw [hV]; exact bel2 _ _ _
  have K : Hid (V.heap[w.heap.size]? = some (.cells (enL d A n c).toArray 36 (0, 0))) := by rw [hV]; exact box_alloc (box_new w _) _
  have HO : Hid (OwnI V (w.heap.size + 1) (some ⟨w.heap.size + 1, 0, none⟩) 0 0 []) := by rw [hV]; have h := own_new (w.alloc (.cells (enL d A n c).toArray 36)) (w.heap.size + 1) (by simp); simp only [World.size_alloc] at h; exact h
  have hs : w.heap.size + 1 ≤ V.heap.size := by rw [hV]; simp
  go_enter Tryz.func85, Tryz.ntmps85
  go_upto_region 2 with fail
  rw [← hV]
  clear hV
  have c15 : V.cell? ⟨w.heap.size, 15, none⟩ = some (.slice A n c) := box_cell K.out 15 _ rfl
  go_wp2_with fail
  clear c15
  go_loopw [3, 11] (fun q i wr => ∃ (k m g : Nat) (c3 : Nat) (T : List Int), k ≤ n ∧ i = .int .i64 k ∧ q = .slice (some ⟨g, 0, none⟩) m c3 ∧ m ≤ k ∧ Hid (T = podL d (d.ps.take k)) ∧ Hid (OwnI wr (w.heap.size + 1) (some ⟨g, 0, none⟩) m c3 T) ∧ Hid (wr.heap[w.heap.size]? = some (.cells (enL d A n c).toArray 36 (0, 0))) ∧ Hid (Below w.heap.size w wr) ∧ w.heap.size + 1 ≤ wr.heap.size) (fun _ i _ => n - (RowKit.intOf i).toNat)
  case atStart => exact ⟨0, 0, w.heap.size + 1, 0, [], Nat.zero_le _, rfl, rfl, Nat.le_refl _, by simp [Hid, podL], HO, K, HB, hs⟩
  case round =>
    obtain ⟨k, m, g, c3, T, hk, rfl, rfl, hmk, HT, HO3, K3, HB3, hs3⟩ := hrel
    clear HO K HB hs
    by_cases hlt : k < n
    case neg =>
      have HK : Hid (k = n) := (by omega : k = n)
      go_wp2
      go_ret
      have h := HT.out
      rw [List.take_of_length_le (by rw [HL.out, HK.out]; exact Nat.le_refl _)] at h
      rw [← h]
      refine ⟨g, m, c3, rfl, ⟨HO3.out.1, ?_⟩, HB3.out⟩
      exact (ownI_down HO3.out (by omega)).2
    have hrw := HP.out.below HB3.out hB
    obtain ⟨b, off, y0, y1, y2, y3, y4, rfl, hbB, hz, hc0, hc1, hc2, hc3, hc4⟩ := hrw.at_ hlt
    have HTS := Lib.hid (pod_take (d := d) (ps := d.ps) (k := k) (by rw [HL.out]; exact hlt))
    have hpt := HPT.out k hlt
    rw [hz] at HTS hpt
    have hpt : 0 ≤ y4 ∧ y4 ≤ 1000000000 := hpt
    clear hz hrw
    obtain ⟨W, hW⟩ : ∃ W, W = wr.alloc (.cells #[.int .i64 y0, .int .i64 y1, .int .i64 y2, .int .i64 y3, .int .i64 y4] 77) := ⟨_, rfl⟩
    have HBa : Hid (Below w.heap.size w W) := by rw [hW]; exact HB3.out.alloc HB3.out.size _
    have KA : Hid (W.heap[w.heap.size]? = some (.cells (enL d (some ⟨b, off, none⟩) n c).toArray 36 (0, 0))) := by rw [hW]; exact box_alloc K3.out _
    have HOa : Hid (OwnI W (w.heap.size + 1) (some ⟨g, 0, none⟩) m c3 T) := by rw [hW]; exact HO3.out.alloc _
    have KY : Hid (W.heap[wr.heap.size]? = some (.cells [.int .i64 y0, .int .i64 y1, .int .i64 y2, .int .i64 y3, .int .i64 y4].toArray 77 (0, 0))) := by rw [hW]; exact box_new wr _
    have hsa : w.heap.size + 1 ≤ W.heap.size := by rw [hW]; simp; omega
    have d1 : W.cell? ⟨wr.heap.size, 1, none⟩ = some (.int .i64 y1) := box_cell KY.out 1 _ rfl
    have d2 : W.cell? ⟨wr.heap.size, 2, none⟩ = some (.int .i64 y2) := box_cell KY.out 2 _ rfl
    have d4 : W.cell? ⟨wr.heap.size, 4, none⟩ = some (.int .i64 y4) := box_cell KY.out 4 _ rfl
    go_upto_region 5 with fail
    rw [← hW]
    clear hW hc0 hc1 hc2 hc3 hc4
    clear K3 HO3 HB3
    by_cases h4 : y2 = 4
    · have c7 : W.cell? ⟨w.heap.size, 7, none⟩ = some (.int .i64 d.sp.x7) := box_cell KA.out 7 _ rfl
      have hq : (y2 == 4) = true := by simp [h4]
      have HTS2 := Lib.hid (show podL d (d.ps.take (k + 1)) = podL d (d.ps.take k) ++ [cutV (y4 + d.sp.x7)] by rw [HTS.out]; simp [podT, h4])
      obtain ⟨Q, hQ⟩ : ∃ Q, Q = cutV (y4 + d.sp.x7) := ⟨_, rfl⟩
      have HQ := Lib.hid hQ
      clear h4 hQ HTS
      go_wp2_with fail
      refine (Hl.tickAfter_any y4 d.sp.x7 _ hpt (by have := HSP.out; omega)).mono ?_
      rw [← HQ.out]
      rintro e w2 ⟨rfl, rfl⟩
      have hTm : T.length = m := HOa.out.1
      go_wp2_with (at_builtin; refine wpList_append_own _ rfl (.tmp 18) (.tmp 25) _ rfl (w.heap.size + 1) 3 i0 _ 1 8 Tryz.underlying38 hi0 hz0 hz1 hz2 rfl (by omega) (.slice (some ⟨g, 0, none⟩) m c3) m (T.map (Value.int .i64)) rfl ?o1 ⟨W.heap.size, 0, none⟩ 1 1 [.int .i64 Q] rfl rfl (Crew.news_new W [.int .i64 Q] 3) ?o3 ?o4 ?o5 ?o6 ?_)
      case o1 => exact (HOa.out.alloc _).2
      case o3 => first | rfl | (intro u hu; simp at hu; subst hu; rfl)
      case o4 => unfold maxLen; omega
      case o5 => omega
      case o6 => first | omega | (simp; omega)
      intro v2 w5 hown hgr _
      obtain ⟨g5, c5, rfl, hO5⟩ := of_app (zs := T) (ys := [Q]) hTm (by simp) hown
      have HO5 := Lib.hid hO5
      have hne : ∀ q, (Value.slice (some ⟨g, 0, none⟩) m c3).ownBlock = some q → w.heap.size + 1 ≤ q := fun q hq => (HOa.out.lt q hq).1
      have K5 := Lib.hid ((hgr.block w.heap.size (by simp; omega) (fun e => by have := hne _ e.symm; omega)).trans (box_alloc KA.out _))
      have HB5 : Hid (Below w.heap.size w w5) := (HBa.out.alloc HBa.out.size _).grown hgr (by simp; omega) (fun qq hq => by have := hne qq hq; omega)
      have hs5 : w.heap.size + 1 ≤ w5.heap.size := by have := hgr.size; simp at this; omega
      have HS3 : Hid (T ++ [Q] = podL d (d.ps.take (k + 1))) := by show _ = _; have h := HTS2.out; rw [h, HT.out, HQ.out]
      clear hown hgr hO5 hne c7 d1 d2 d4 HTS2
      go_wp2
      go_roundw
      case rel => exact ⟨k + 1, m + 1, g5, c5, T ++ [Q], by omega, by go_num, rfl, by omega, HS3, HO5, K5, HB5, hs5⟩
      case measure => simp [RowKit.intOf]; omega
    · have hq : (y2 == 4) = false := by simp [h4]
      obtain ⟨Q, hQ⟩ : ∃ Q, Q = nxP d.sp (y0, y1, y2, y3, y4) := ⟨_, rfl⟩
      have HTS2 := Lib.hid (show podL d (d.ps.take (k + 1)) = podL d (d.ps.take k) ++ [Q] by rw [HTS.out, hQ]; simp [podT, h4])
      have HQ := Lib.hid hQ
      clear h4 hQ HTS
      go_wp2_with (first | (refine wpList_get rfl 25 _ rfl w.heap.size 0 rfl KA.out (spL d.sp) (enL_sp d (some ⟨b, off, none⟩) n c) Tryz.underlying25 rfl (by kernel_rfl) ?_) | (refine wpList_get rfl 77 _ rfl wr.heap.size 0 rfl KY.out [.int .i64 y0, .int .i64 y1, .int .i64 y2, .int .i64 y3, .int .i64 y4] rfl Tryz.underlying77 rfl (by kernel_rfl) ?_))
      refine (Hl.nextHealth_any d.sp.x0 d.sp.x1 d.sp.x2 d.sp.x3 d.sp.x4 d.sp.x5 d.sp.x6 d.sp.x7 d.sp.x8 d.sp.x9 d.sp.x10 y0 y1 y2 y3 y4 _).mono ?_
      rw [show Hl.nextV d.sp.x0 d.sp.x1 d.sp.x2 d.sp.x3 d.sp.x4 d.sp.x5 d.sp.x6 d.sp.x7 d.sp.x8 d.sp.x9 d.sp.x10 y2 y4 = Q from HQ.out.symm]
      rintro e w2 ⟨rfl, hb2⟩
      have HO2 := Lib.hid (HOa.out.below hb2)
      have K2 := Lib.hid (box_below KA.out hb2)
      have HB2 := Lib.hid (bel_then HBa.out hb2 HBa.out.size)
      have hs2 : w.heap.size + 1 ≤ w2.heap.size := by have := hb2.size; omega
      clear hb2 HOa KA HBa hsa KY d1 d2 d4
      have hTm : T.length = m := HO2.out.1
      go_wp2_with (at_builtin; refine wpList_append_own _ rfl (.tmp 27) (.tmp 32) _ rfl (w.heap.size + 1) 3 i0 _ 1 8 Tryz.underlying38 hi0 hz0 hz1 hz2 rfl (by omega) (.slice (some ⟨g, 0, none⟩) m c3) m (T.map (Value.int .i64)) rfl ?o1 ⟨w2.heap.size, 0, none⟩ 1 1 [.int .i64 Q] rfl rfl (Crew.news_new w2 [.int .i64 Q] 3) ?o3 ?o4 ?o5 ?o6 ?_)
      case o1 => exact (HO2.out.alloc _).2
      case o3 => first | rfl | (intro u hu; simp at hu; subst hu; rfl)
      case o4 => unfold maxLen; omega
      case o5 => omega
      case o6 => first | omega | (simp; omega)
      intro v2 w5 hown hgr _
      obtain ⟨g5, c5, rfl, hO5⟩ := of_app (zs := T) (ys := [Q]) hTm (by simp) hown
      have HO5 := Lib.hid hO5
      have hne : ∀ q, (Value.slice (some ⟨g, 0, none⟩) m c3).ownBlock = some q → w.heap.size + 1 ≤ q := fun q hq => (HO2.out.lt q hq).1
      have K5 := Lib.hid ((hgr.block w.heap.size (by simp; omega) (fun e => by have := hne _ e.symm; omega)).trans (box_alloc K2.out _))
      have HB5 : Hid (Below w.heap.size w w5) := (HB2.out.alloc HB2.out.size _).grown hgr (by simp; omega) (fun qq hq => by have := hne qq hq; omega)
      have hs5 : w.heap.size + 1 ≤ w5.heap.size := by have := hgr.size; simp at this; omega
      have HS3 : Hid (T ++ [Q] = podL d (d.ps.take (k + 1))) := by show _ = _; have h := HTS2.out; rw [h, HT.out]
      clear hown hgr hO5 hne hs2 HTS2
      go_wp2
      go_roundw
      case rel => exact ⟨k + 1, m + 1, g5, c5, T ++ [Q], by omega, by go_num, rfl, by omega, HS3, HO5, K5, HB5, hs5⟩
      case measure => simp [RowKit.intOf]; omega
theorem of_app2 {w' : World} {base n : Nat} {v' : Value} {zs ys : List Int} (hl : zs.length = n) (hp : v' ≠ .slice none 0 0) (h : w'.ownsRow base 3 1 v' (n + ys.length) (zs.map (Value.int .i64) ++ ys.map (Value.int .i64))) : ∃ g m c T, v' = .slice (some ⟨g, 0, none⟩) m c ∧ OwnI w' base (some ⟨g, 0, none⟩) m c T ∧ m = n + ys.length ∧ T = zs ++ ys := by
  rcases h.2 with ⟨h1, _⟩ | ⟨g, cap, cur, rfl, _⟩
  · exact absurd h1 hp
  · exact ⟨_, _, _, _, rfl, ⟨by simp [hl], by simpa using h⟩, rfl, rfl⟩
theorem news_own {w : World} {lo g m c : Nat} {T : List Int} (h : OwnI w lo (some ⟨g, 0, none⟩) m c T) : ∀ j u, (T.map (Value.int .i64))[j]? = some u → w.cell? ((⟨g, 0, none⟩ : Addr).add j) = some u := fun j u hj => by
  have hl : j < m := by have := (List.getElem?_eq_some_iff.1 hj).1; simp at this; have := h.1; omega
  rw [FlatOpen.add_off, Nat.zero_add, h.2.cellAt j (by omega)]
  exact hj
theorem news_one (T : List Int) : ∀ u ∈ T.map (Value.int .i64), u.oneCell' = true := by simp [Value.oneCell']
set_option maxRecDepth 100000 in
set_option maxHeartbeats 12800000 in
theorem turnsOf_any (A : Option Addr) (n c : Nat) (d : Eng) (B : Nat) (w : World) (hok : d.okB = true) (hr : IsPods w B A n d.ps) (hB : B ≤ w.heap.size) (hn : n ≤ 1048576) : Calls Tryz.prog 41 #[.agg (enL d A n c).toArray] w (Grew (turnL d) w) := by
  obtain ⟨i0, hi0, hz0, hz1, hz2⟩ := info_parts Has.infoInt
  have HP := Lib.hid hr
  have HL : Hid (d.ps.length = n) := hr.1
  have HOK := Lib.hid hok
  obtain ⟨hsok, hgood, hnow, hst, hwt, hph, _⟩ := okB_t hok
  have HSP := Lib.hid (Sp.specB_t (show Sp.specB d.sp.x0 d.sp.x1 d.sp.x2 d.sp.x3 d.sp.x4 d.sp.x5 d.sp.x6 d.sp.x7 d.sp.x8 d.sp.x9 d.sp.x10 = true from hsok))
  have HST := Lib.hid (tok_t hst)
  have hn30 : n ≤ 30 := by have := hgood.1; have := HL.out; omega
  clear hr hok hsok hgood hnow hst hwt
  obtain ⟨R, hR⟩ : ∃ R, R = turnL d := ⟨_, rfl⟩
  rw [← hR]
  have HR := Lib.hid hR
  clear hR
  obtain ⟨W0, hV⟩ : ∃ V, V = (w.alloc (.cells (enL d A n c).toArray 36)).alloc (.cells #[] 3) := ⟨_, rfl⟩
  have HB0 : Hid (Below w.heap.size w W0) := by rw [hV]; exact bel2 _ _ _
  have K0 : Hid (W0.heap[w.heap.size]? = some (.cells (enL d A n c).toArray 36 (0, 0))) := by rw [hV]; exact box_alloc (box_new w _) _
  have HO0 : Hid (OwnI W0 (w.heap.size + 1) (some ⟨w.heap.size + 1, 0, none⟩) 0 0 []) := by rw [hV]; have h := own_new (w.alloc (.cells (enL d A n c).toArray 36)) (w.heap.size + 1) (by simp); simp only [World.size_alloc] at h; exact h
  have hs0 : w.heap.size + 1 ≤ W0.heap.size := by rw [hV]; simp
  go_enter Tryz.func41, Tryz.ntmps41
  go_upto_region 2 with fail
  rw [← hV]
  clear hV
  have c12 : W0.cell? ⟨w.heap.size, 12, none⟩ = some (.int .i64 d.ph) := box_cell K0.out 12 _ rfl
  have hg0 : True := trivial
  by_cases h1 : d.ph = 1
  · have hq1 : (d.ph == 1) = true := by simp [h1]
    have HH := Lib.hid h1
    clear h1
    go_wp2_with (refine wpList_get rfl 36 _ rfl w.heap.size 0 rfl K0.out (enL d A n c) List.take_length Tryz.underlying36 rfl (by kernel_rfl) ?_)
    refine (bakesOf_any A n c d B _ HOK.out (HP.out.below HB0.out hB) (Nat.le_trans hB HB0.out.size) hn).mono ?_
    rintro e X0 ⟨gx0, mx0, cx0, rfl, hox, hb⟩
    obtain ⟨Y0, hY⟩ : ∃ Y, Y = bakeL d d.ps := ⟨_, rfl⟩
    rw [← hY] at hox
    have HY0 := Lib.hid hY
    have hyl0 : Y0.length ≤ 30 := by rw [hY]; have h1 := HL.out; have h2 := bake_len d d.ps; omega
    have hym : Y0.length = mx0 := hox.1
    subst hym
    have HX := Lib.hid hox
    have KX0 := Lib.hid (box_below K0.out hb)
    have HBX0 := Lib.hid (bel_then HB0.out hb HB0.out.size)
    have HOX0 := Lib.hid (HO0.out.below hb)
    have hsx0 : w.heap.size + 1 ≤ X0.heap.size := by have := hb.size; omega
    clear hb hox hY K0 HB0 HO0 hs0
    have hTm1 : ([] : List Int).length = 0 := HOX0.out.1
    go_wp2_with (at_builtin; refine wpList_append_own _ rfl (.tmp 13) (.tmp 15) _ rfl (w.heap.size + 1) 3 i0 _ 1 8 Tryz.underlying38 hi0 hz0 hz1 hz2 rfl (by omega) (.slice (some ⟨w.heap.size + 1, 0, none⟩) (0) (0)) (0) (([] : List Int).map (Value.int .i64)) rfl ?o1 ⟨gx0, 0, none⟩ Y0.length cx0 (Y0.map (Value.int .i64)) rfl (by simp) (news_own HX.out) ?o3 ?o4 ?o5 ?o6 ?_)
    case o1 => exact HOX0.out.2
    case o3 => first | exact news_one _ | rfl | (intro u hu; simp at hu; subst hu; rfl)
    case o4 => first | (unfold maxLen; omega) | (unfold maxLen; simp; omega)
    case o5 => first | omega | (simp; omega)
    case o6 => first | omega | (simp; omega)
    intro v1 W1 hown hgr hif
    have hown2 : W1.ownsRow (w.heap.size + 1) 3 1 v1 (0 + (Y0 : List Int).length) (([] : List Int).map (Value.int .i64) ++ (Y0 : List Int).map (Value.int .i64)) := by first | exact hown | simpa using hown
    obtain ⟨g1, m1, c1, T1, rfl, hO, hm, ht⟩ := of_app2 (zs := []) (ys := Y0) hTm1 hif hown2
    have hmb1 : m1 ≤ 31 := by rw [hm]; first | omega | (simp; done) | (simp; omega)
    have HT1 := Lib.hid ht
    have HO1 := Lib.hid hO
    have hne : ∀ q, (Value.slice (some ⟨w.heap.size + 1, 0, none⟩) (0) (0)).ownBlock = some q → w.heap.size + 1 ≤ q := fun q hq => (HOX0.out.lt q hq).1
    have K1 := Lib.hid ((hgr.block w.heap.size (by first | (simp; omega) | omega) (fun e => by have := hne _ e.symm; omega)).trans KX0.out)
    have HB1 : Hid (Below w.heap.size w W1) := HBX0.out.grown hgr (by first | (simp; omega) | omega) (fun qq hq => by have := hne qq hq; omega)
    have hs1 : w.heap.size + 1 ≤ W1.heap.size := by have := hgr.size; first | omega | (simp at this; omega)
    clear hown hown2 hgr hif hO hne hTm1 hm ht
    clear HX KX0 HBX0 HOX0 hsx0
    have z17 : W1.cell? ⟨w.heap.size, 17, none⟩ = some (.int .i64 d.st) := box_cell K1.out 17 _ rfl
    have z8 : W1.cell? ⟨w.heap.size, 8, none⟩ = some (.int .i64 d.sp.x8) := box_cell K1.out 8 _ rfl
    obtain ⟨Q, hQ⟩ : ∃ Q, Q = cutV (d.st + d.sp.x8) := ⟨_, rfl⟩
    have HQ := Lib.hid hQ
    clear hQ
    go_wp2_with fail
    refine (Hl.tickAfter_any d.st d.sp.x8 _ (by have := HST.out; omega) (by have := HSP.out; omega)).mono ?_
    rw [← HQ.out]
    rintro e Z7 ⟨rfl, rfl⟩
    have hTm2 : (T1 : List Int).length = m1 := HO1.out.1
    go_wp2_with (at_builtin; refine wpList_append_own _ rfl (.tmp 17) (.tmp 24) _ rfl (w.heap.size + 1) 3 i0 _ 1 8 Tryz.underlying38 hi0 hz0 hz1 hz2 rfl (by omega) (.slice (some ⟨g1, 0, none⟩) (m1) (c1)) (m1) ((T1 : List Int).map (Value.int .i64)) rfl ?o1 ⟨W1.heap.size, 0, none⟩ 1 1 [.int .i64 (Q)] rfl rfl (Crew.news_new W1 [.int .i64 (Q)] 3) ?o3 ?o4 ?o5 ?o6 ?_)
    case o1 => exact (HO1.out.alloc _).2
    case o3 => first | exact news_one _ | rfl | (intro u hu; simp at hu; subst hu; rfl)
    case o4 => first | (unfold maxLen; omega) | (unfold maxLen; simp; omega)
    case o5 => first | omega | (simp; omega)
    case o6 => first | omega | (simp; omega)
    intro v2 W2 hown hgr hif
    have hown2 : W2.ownsRow (w.heap.size + 1) 3 1 v2 (m1 + ([Q] : List Int).length) ((T1 : List Int).map (Value.int .i64) ++ ([Q] : List Int).map (Value.int .i64)) := by first | exact hown | simpa using hown
    obtain ⟨g2, m2, c2, T2, rfl, hO, hm, ht⟩ := of_app2 (zs := T1) (ys := [Q]) hTm2 hif hown2
    have hmb2 : m2 ≤ 62 := by rw [hm]; first | omega | (simp; done) | (simp; omega)
    have HT2 := Lib.hid ht
    have HO2 := Lib.hid hO
    have hne : ∀ q, (Value.slice (some ⟨g1, 0, none⟩) (m1) (c1)).ownBlock = some q → w.heap.size + 1 ≤ q := fun q hq => (HO1.out.lt q hq).1
    have K2 := Lib.hid ((hgr.block w.heap.size (by first | (simp; omega) | omega) (fun e => by have := hne _ e.symm; omega)).trans (box_alloc K1.out _))
    have HB2 : Hid (Below w.heap.size w W2) := (HB1.out.alloc HB1.out.size _).grown hgr (by first | (simp; omega) | omega) (fun qq hq => by have := hne qq hq; omega)
    have hs2 : w.heap.size + 1 ≤ W2.heap.size := by have := hgr.size; first | omega | (simp at this; omega)
    clear hown hown2 hgr hif hO hne hTm2 hm ht
    clear z17 z8
    have z19 : W2.cell? ⟨w.heap.size, 19, none⟩ = some (.int .i64 d.wt) := box_cell K2.out 19 _ rfl
    have hTm3 : (T2 : List Int).length = m2 := HO2.out.1
    go_wp2_with (at_builtin; refine wpList_append_own _ rfl (.tmp 26) (.tmp 29) _ rfl (w.heap.size + 1) 3 i0 _ 1 8 Tryz.underlying38 hi0 hz0 hz1 hz2 rfl (by omega) (.slice (some ⟨g2, 0, none⟩) (m2) (c2)) (m2) ((T2 : List Int).map (Value.int .i64)) rfl ?o1 ⟨W2.heap.size, 0, none⟩ 1 1 [.int .i64 (d.wt)] rfl rfl (Crew.news_new W2 [.int .i64 (d.wt)] 3) ?o3 ?o4 ?o5 ?o6 ?_)
    case o1 => exact (HO2.out.alloc _).2
    case o3 => first | exact news_one _ | rfl | (intro u hu; simp at hu; subst hu; rfl)
    case o4 => first | (unfold maxLen; omega) | (unfold maxLen; simp; omega)
    case o5 => first | omega | (simp; omega)
    case o6 => first | omega | (simp; omega)
    intro v3 W3 hown hgr hif
    have hown2 : W3.ownsRow (w.heap.size + 1) 3 1 v3 (m2 + ([d.wt] : List Int).length) ((T2 : List Int).map (Value.int .i64) ++ ([d.wt] : List Int).map (Value.int .i64)) := by first | exact hown | simpa using hown
    obtain ⟨g3, m3, c3, T3, rfl, hO, hm, ht⟩ := of_app2 (zs := T2) (ys := [d.wt]) hTm3 hif hown2
    have hmb3 : m3 ≤ 93 := by rw [hm]; first | omega | (simp; done) | (simp; omega)
    have HT3 := Lib.hid ht
    have HO3 := Lib.hid hO
    have hne : ∀ q, (Value.slice (some ⟨g2, 0, none⟩) (m2) (c2)).ownBlock = some q → w.heap.size + 1 ≤ q := fun q hq => (HO2.out.lt q hq).1
    have K3 := Lib.hid ((hgr.block w.heap.size (by first | (simp; omega) | omega) (fun e => by have := hne _ e.symm; omega)).trans (box_alloc K2.out _))
    have HB3 : Hid (Below w.heap.size w W3) := (HB2.out.alloc HB2.out.size _).grown hgr (by first | (simp; omega) | omega) (fun qq hq => by have := hne qq hq; omega)
    have hs3 : w.heap.size + 1 ≤ W3.heap.size := by have := hgr.size; first | omega | (simp at this; omega)
    clear hown hown2 hgr hif hO hne hTm3 hm ht
    clear z19
    go_wp2_with (refine wpList_get rfl 36 _ rfl w.heap.size 0 rfl K3.out (enL d A n c) List.take_length Tryz.underlying36 rfl (by kernel_rfl) ?_)
    refine (podTurnsOf_any A n c d B _ HOK.out (HP.out.below HB3.out hB) (Nat.le_trans hB HB3.out.size) hn).mono ?_
    rintro e X3 ⟨gx3, mx3, cx3, rfl, hox, hb⟩
    obtain ⟨Y3, hY⟩ : ∃ Y, Y = podL d d.ps := ⟨_, rfl⟩
    rw [← hY] at hox
    have HY3 := Lib.hid hY
    have hyl3 : Y3.length ≤ 30 := by rw [hY]; have h1 := HL.out; simp [podL]; omega
    have hym : Y3.length = mx3 := hox.1
    subst hym
    have HX := Lib.hid hox
    have KX3 := Lib.hid (box_below K3.out hb)
    have HBX3 := Lib.hid (bel_then HB3.out hb HB3.out.size)
    have HOX3 := Lib.hid (HO3.out.below hb)
    have hsx3 : w.heap.size + 1 ≤ X3.heap.size := by have := hb.size; omega
    clear hb hox hY K3 HB3 HO3 hs3
    have hTm4 : (T3 : List Int).length = m3 := HOX3.out.1
    go_wp2_with (at_builtin; refine wpList_append_own _ rfl (.tmp 31) (.tmp 33) _ rfl (w.heap.size + 1) 3 i0 _ 1 8 Tryz.underlying38 hi0 hz0 hz1 hz2 rfl (by omega) (.slice (some ⟨g3, 0, none⟩) (m3) (c3)) (m3) ((T3 : List Int).map (Value.int .i64)) rfl ?o1 ⟨gx3, 0, none⟩ Y3.length cx3 (Y3.map (Value.int .i64)) rfl (by simp) (news_own HX.out) ?o3 ?o4 ?o5 ?o6 ?_)
    case o1 => exact HOX3.out.2
    case o3 => first | exact news_one _ | rfl | (intro u hu; simp at hu; subst hu; rfl)
    case o4 => first | (unfold maxLen; omega) | (unfold maxLen; simp; omega)
    case o5 => first | omega | (simp; omega)
    case o6 => first | omega | (simp; omega)
    intro v4 W4 hown hgr hif
    have hown2 : W4.ownsRow (w.heap.size + 1) 3 1 v4 (m3 + (Y3 : List Int).length) ((T3 : List Int).map (Value.int .i64) ++ (Y3 : List Int).map (Value.int .i64)) := by first | exact hown | simpa using hown
    obtain ⟨g4, m4, c4, T4, rfl, hO, hm, ht⟩ := of_app2 (zs := T3) (ys := Y3) hTm4 hif hown2
    have hmb4 : m4 ≤ 124 := by rw [hm]; first | omega | (simp; done) | (simp; omega)
    have HT4 := Lib.hid ht
    have HO4 := Lib.hid hO
    have hne : ∀ q, (Value.slice (some ⟨g3, 0, none⟩) (m3) (c3)).ownBlock = some q → w.heap.size + 1 ≤ q := fun q hq => (HOX3.out.lt q hq).1
    have K4 := Lib.hid ((hgr.block w.heap.size (by first | (simp; omega) | omega) (fun e => by have := hne _ e.symm; omega)).trans KX3.out)
    have HB4 : Hid (Below w.heap.size w W4) := HBX3.out.grown hgr (by first | (simp; omega) | omega) (fun qq hq => by have := hne qq hq; omega)
    have hs4 : w.heap.size + 1 ≤ W4.heap.size := by have := hgr.size; first | omega | (simp at this; omega)
    clear hown hown2 hgr hif hO hne hTm4 hm ht
    clear HX KX3 HBX3 HOX3 hsx3
    go_wp2
    go_ret
    refine ⟨g4, _, c4, rfl, ?_, HB4.out⟩
    have hT : T4 = R := by rw [HT4.out, HT3.out, HT2.out, HT1.out]; rw [HR.out]; rw [turnL, if_pos HH.out, HY0.out, HQ.out, HY3.out]; simp [mvB, HH.out]
    rw [← hT]
    exact ownI_down HO4.out (by omega)
  by_cases h2 : d.ph = 2
  · have hq1 : (d.ph == 1) = false := by simp [h1]
    have hq2 : (d.ph == 2) = true := by simp [h2]
    have HH := Lib.hid h2
    clear h1 h2
    have z17 : W0.cell? ⟨w.heap.size, 17, none⟩ = some (.int .i64 d.st) := box_cell K0.out 17 _ rfl
    have z8 : W0.cell? ⟨w.heap.size, 8, none⟩ = some (.int .i64 d.sp.x8) := box_cell K0.out 8 _ rfl
    obtain ⟨Q, hQ⟩ : ∃ Q, Q = cutV (d.st + d.sp.x8) := ⟨_, rfl⟩
    have HQ := Lib.hid hQ
    clear hQ
    go_wp2_with fail
    refine (Hl.tickAfter_any d.st d.sp.x8 _ (by have := HST.out; omega) (by have := HSP.out; omega)).mono ?_
    rw [← HQ.out]
    rintro e Z7 ⟨rfl, rfl⟩
    have hTm1 : ([] : List Int).length = 0 := HO0.out.1
    go_wp2_with (at_builtin; refine wpList_append_own _ rfl (.tmp 17) (.tmp 24) _ rfl (w.heap.size + 1) 3 i0 _ 1 8 Tryz.underlying38 hi0 hz0 hz1 hz2 rfl (by omega) (.slice (some ⟨w.heap.size + 1, 0, none⟩) (0) (0)) (0) (([] : List Int).map (Value.int .i64)) rfl ?o1 ⟨W0.heap.size, 0, none⟩ 1 1 [.int .i64 (Q)] rfl rfl (Crew.news_new W0 [.int .i64 (Q)] 3) ?o3 ?o4 ?o5 ?o6 ?_)
    case o1 => exact (HO0.out.alloc _).2
    case o3 => first | exact news_one _ | rfl | (intro u hu; simp at hu; subst hu; rfl)
    case o4 => first | (unfold maxLen; omega) | (unfold maxLen; simp; omega)
    case o5 => first | omega | (simp; omega)
    case o6 => first | omega | (simp; omega)
    intro v1 W1 hown hgr hif
    have hown2 : W1.ownsRow (w.heap.size + 1) 3 1 v1 (0 + ([Q] : List Int).length) (([] : List Int).map (Value.int .i64) ++ ([Q] : List Int).map (Value.int .i64)) := by first | exact hown | simpa using hown
    obtain ⟨g1, m1, c1, T1, rfl, hO, hm, ht⟩ := of_app2 (zs := []) (ys := [Q]) hTm1 hif hown2
    have hmb1 : m1 ≤ 31 := by rw [hm]; first | omega | (simp; done) | (simp; omega)
    have HT1 := Lib.hid ht
    have HO1 := Lib.hid hO
    have hne : ∀ q, (Value.slice (some ⟨w.heap.size + 1, 0, none⟩) (0) (0)).ownBlock = some q → w.heap.size + 1 ≤ q := fun q hq => (HO0.out.lt q hq).1
    have K1 := Lib.hid ((hgr.block w.heap.size (by first | (simp; omega) | omega) (fun e => by have := hne _ e.symm; omega)).trans (box_alloc K0.out _))
    have HB1 : Hid (Below w.heap.size w W1) := (HB0.out.alloc HB0.out.size _).grown hgr (by first | (simp; omega) | omega) (fun qq hq => by have := hne qq hq; omega)
    have hs1 : w.heap.size + 1 ≤ W1.heap.size := by have := hgr.size; first | omega | (simp at this; omega)
    clear hown hown2 hgr hif hO hne hTm1 hm ht
    clear z17 z8
    have z19 : W1.cell? ⟨w.heap.size, 19, none⟩ = some (.int .i64 d.wt) := box_cell K1.out 19 _ rfl
    have hTm2 : (T1 : List Int).length = m1 := HO1.out.1
    go_wp2_with (at_builtin; refine wpList_append_own _ rfl (.tmp 26) (.tmp 29) _ rfl (w.heap.size + 1) 3 i0 _ 1 8 Tryz.underlying38 hi0 hz0 hz1 hz2 rfl (by omega) (.slice (some ⟨g1, 0, none⟩) (m1) (c1)) (m1) ((T1 : List Int).map (Value.int .i64)) rfl ?o1 ⟨W1.heap.size, 0, none⟩ 1 1 [.int .i64 (d.wt)] rfl rfl (Crew.news_new W1 [.int .i64 (d.wt)] 3) ?o3 ?o4 ?o5 ?o6 ?_)
    case o1 => exact (HO1.out.alloc _).2
    case o3 => first | exact news_one _ | rfl | (intro u hu; simp at hu; subst hu; rfl)
    case o4 => first | (unfold maxLen; omega) | (unfold maxLen; simp; omega)
    case o5 => first | omega | (simp; omega)
    case o6 => first | omega | (simp; omega)
    intro v2 W2 hown hgr hif
    have hown2 : W2.ownsRow (w.heap.size + 1) 3 1 v2 (m1 + ([d.wt] : List Int).length) ((T1 : List Int).map (Value.int .i64) ++ ([d.wt] : List Int).map (Value.int .i64)) := by first | exact hown | simpa using hown
    obtain ⟨g2, m2, c2, T2, rfl, hO, hm, ht⟩ := of_app2 (zs := T1) (ys := [d.wt]) hTm2 hif hown2
    have hmb2 : m2 ≤ 62 := by rw [hm]; first | omega | (simp; done) | (simp; omega)
    have HT2 := Lib.hid ht
    have HO2 := Lib.hid hO
    have hne : ∀ q, (Value.slice (some ⟨g1, 0, none⟩) (m1) (c1)).ownBlock = some q → w.heap.size + 1 ≤ q := fun q hq => (HO1.out.lt q hq).1
    have K2 := Lib.hid ((hgr.block w.heap.size (by first | (simp; omega) | omega) (fun e => by have := hne _ e.symm; omega)).trans (box_alloc K1.out _))
    have HB2 : Hid (Below w.heap.size w W2) := (HB1.out.alloc HB1.out.size _).grown hgr (by first | (simp; omega) | omega) (fun qq hq => by have := hne qq hq; omega)
    have hs2 : w.heap.size + 1 ≤ W2.heap.size := by have := hgr.size; first | omega | (simp at this; omega)
    clear hown hown2 hgr hif hO hne hTm2 hm ht
    clear z19
    go_wp2_with (refine wpList_get rfl 36 _ rfl w.heap.size 0 rfl K2.out (enL d A n c) List.take_length Tryz.underlying36 rfl (by kernel_rfl) ?_)
    refine (podTurnsOf_any A n c d B _ HOK.out (HP.out.below HB2.out hB) (Nat.le_trans hB HB2.out.size) hn).mono ?_
    rintro e X2 ⟨gx2, mx2, cx2, rfl, hox, hb⟩
    obtain ⟨Y2, hY⟩ : ∃ Y, Y = podL d d.ps := ⟨_, rfl⟩
    rw [← hY] at hox
    have HY2 := Lib.hid hY
    have hyl2 : Y2.length ≤ 30 := by rw [hY]; have h1 := HL.out; simp [podL]; omega
    have hym : Y2.length = mx2 := hox.1
    subst hym
    have HX := Lib.hid hox
    have KX2 := Lib.hid (box_below K2.out hb)
    have HBX2 := Lib.hid (bel_then HB2.out hb HB2.out.size)
    have HOX2 := Lib.hid (HO2.out.below hb)
    have hsx2 : w.heap.size + 1 ≤ X2.heap.size := by have := hb.size; omega
    clear hb hox hY K2 HB2 HO2 hs2
    have hTm3 : (T2 : List Int).length = m2 := HOX2.out.1
    go_wp2_with (at_builtin; refine wpList_append_own _ rfl (.tmp 31) (.tmp 33) _ rfl (w.heap.size + 1) 3 i0 _ 1 8 Tryz.underlying38 hi0 hz0 hz1 hz2 rfl (by omega) (.slice (some ⟨g2, 0, none⟩) (m2) (c2)) (m2) ((T2 : List Int).map (Value.int .i64)) rfl ?o1 ⟨gx2, 0, none⟩ Y2.length cx2 (Y2.map (Value.int .i64)) rfl (by simp) (news_own HX.out) ?o3 ?o4 ?o5 ?o6 ?_)
    case o1 => exact HOX2.out.2
    case o3 => first | exact news_one _ | rfl | (intro u hu; simp at hu; subst hu; rfl)
    case o4 => first | (unfold maxLen; omega) | (unfold maxLen; simp; omega)
    case o5 => first | omega | (simp; omega)
    case o6 => first | omega | (simp; omega)
    intro v3 W3 hown hgr hif
    have hown2 : W3.ownsRow (w.heap.size + 1) 3 1 v3 (m2 + (Y2 : List Int).length) ((T2 : List Int).map (Value.int .i64) ++ (Y2 : List Int).map (Value.int .i64)) := by first | exact hown | simpa using hown
    obtain ⟨g3, m3, c3, T3, rfl, hO, hm, ht⟩ := of_app2 (zs := T2) (ys := Y2) hTm3 hif hown2
    have hmb3 : m3 ≤ 93 := by rw [hm]; first | omega | (simp; done) | (simp; omega)
    have HT3 := Lib.hid ht
    have HO3 := Lib.hid hO
    have hne : ∀ q, (Value.slice (some ⟨g2, 0, none⟩) (m2) (c2)).ownBlock = some q → w.heap.size + 1 ≤ q := fun q hq => (HOX2.out.lt q hq).1
    have K3 := Lib.hid ((hgr.block w.heap.size (by first | (simp; omega) | omega) (fun e => by have := hne _ e.symm; omega)).trans KX2.out)
    have HB3 : Hid (Below w.heap.size w W3) := HBX2.out.grown hgr (by first | (simp; omega) | omega) (fun qq hq => by have := hne qq hq; omega)
    have hs3 : w.heap.size + 1 ≤ W3.heap.size := by have := hgr.size; first | omega | (simp at this; omega)
    clear hown hown2 hgr hif hO hne hTm3 hm ht
    clear HX KX2 HBX2 HOX2 hsx2
    go_wp2
    go_ret
    refine ⟨g3, _, c3, rfl, ?_, HB3.out⟩
    have hT : T3 = R := by rw [HT3.out, HT2.out, HT1.out]; rw [HR.out]; rw [turnL, HQ.out, HY2.out]; simp [mvB, HH.out]
    rw [← hT]
    exact ownI_down HO3.out (by omega)
  by_cases h0 : d.ph = 0
  · have hq1 : (d.ph == 1) = false := by simp [h1]
    have hq2 : (d.ph == 2) = false := by simp [h2]
    have hq3 : (d.ph == 0) = true := by simp [h0]
    have HH := Lib.hid h0
    clear h1 h2 h0
    have z19 : W0.cell? ⟨w.heap.size, 19, none⟩ = some (.int .i64 d.wt) := box_cell K0.out 19 _ rfl
    have hTm1 : ([] : List Int).length = 0 := HO0.out.1
    go_wp2_with (at_builtin; refine wpList_append_own _ rfl (.tmp 26) (.tmp 29) _ rfl (w.heap.size + 1) 3 i0 _ 1 8 Tryz.underlying38 hi0 hz0 hz1 hz2 rfl (by omega) (.slice (some ⟨w.heap.size + 1, 0, none⟩) (0) (0)) (0) (([] : List Int).map (Value.int .i64)) rfl ?o1 ⟨W0.heap.size, 0, none⟩ 1 1 [.int .i64 (d.wt)] rfl rfl (Crew.news_new W0 [.int .i64 (d.wt)] 3) ?o3 ?o4 ?o5 ?o6 ?_)
    case o1 => exact (HO0.out.alloc _).2
    case o3 => first | exact news_one _ | rfl | (intro u hu; simp at hu; subst hu; rfl)
    case o4 => first | (unfold maxLen; omega) | (unfold maxLen; simp; omega)
    case o5 => first | omega | (simp; omega)
    case o6 => first | omega | (simp; omega)
    intro v1 W1 hown hgr hif
    have hown2 : W1.ownsRow (w.heap.size + 1) 3 1 v1 (0 + ([d.wt] : List Int).length) (([] : List Int).map (Value.int .i64) ++ ([d.wt] : List Int).map (Value.int .i64)) := by first | exact hown | simpa using hown
    obtain ⟨g1, m1, c1, T1, rfl, hO, hm, ht⟩ := of_app2 (zs := []) (ys := [d.wt]) hTm1 hif hown2
    have hmb1 : m1 ≤ 31 := by rw [hm]; first | omega | (simp; done) | (simp; omega)
    have HT1 := Lib.hid ht
    have HO1 := Lib.hid hO
    have hne : ∀ q, (Value.slice (some ⟨w.heap.size + 1, 0, none⟩) (0) (0)).ownBlock = some q → w.heap.size + 1 ≤ q := fun q hq => (HO0.out.lt q hq).1
    have K1 := Lib.hid ((hgr.block w.heap.size (by first | (simp; omega) | omega) (fun e => by have := hne _ e.symm; omega)).trans (box_alloc K0.out _))
    have HB1 : Hid (Below w.heap.size w W1) := (HB0.out.alloc HB0.out.size _).grown hgr (by first | (simp; omega) | omega) (fun qq hq => by have := hne qq hq; omega)
    have hs1 : w.heap.size + 1 ≤ W1.heap.size := by have := hgr.size; first | omega | (simp at this; omega)
    clear hown hown2 hgr hif hO hne hTm1 hm ht
    clear z19
    go_wp2_with (refine wpList_get rfl 36 _ rfl w.heap.size 0 rfl K1.out (enL d A n c) List.take_length Tryz.underlying36 rfl (by kernel_rfl) ?_)
    refine (podTurnsOf_any A n c d B _ HOK.out (HP.out.below HB1.out hB) (Nat.le_trans hB HB1.out.size) hn).mono ?_
    rintro e X1 ⟨gx1, mx1, cx1, rfl, hox, hb⟩
    obtain ⟨Y1, hY⟩ : ∃ Y, Y = podL d d.ps := ⟨_, rfl⟩
    rw [← hY] at hox
    have HY1 := Lib.hid hY
    have hyl1 : Y1.length ≤ 30 := by rw [hY]; have h1 := HL.out; simp [podL]; omega
    have hym : Y1.length = mx1 := hox.1
    subst hym
    have HX := Lib.hid hox
    have KX1 := Lib.hid (box_below K1.out hb)
    have HBX1 := Lib.hid (bel_then HB1.out hb HB1.out.size)
    have HOX1 := Lib.hid (HO1.out.below hb)
    have hsx1 : w.heap.size + 1 ≤ X1.heap.size := by have := hb.size; omega
    clear hb hox hY K1 HB1 HO1 hs1
    have hTm2 : (T1 : List Int).length = m1 := HOX1.out.1
    go_wp2_with (at_builtin; refine wpList_append_own _ rfl (.tmp 31) (.tmp 33) _ rfl (w.heap.size + 1) 3 i0 _ 1 8 Tryz.underlying38 hi0 hz0 hz1 hz2 rfl (by omega) (.slice (some ⟨g1, 0, none⟩) (m1) (c1)) (m1) ((T1 : List Int).map (Value.int .i64)) rfl ?o1 ⟨gx1, 0, none⟩ Y1.length cx1 (Y1.map (Value.int .i64)) rfl (by simp) (news_own HX.out) ?o3 ?o4 ?o5 ?o6 ?_)
    case o1 => exact HOX1.out.2
    case o3 => first | exact news_one _ | rfl | (intro u hu; simp at hu; subst hu; rfl)
    case o4 => first | (unfold maxLen; omega) | (unfold maxLen; simp; omega)
    case o5 => first | omega | (simp; omega)
    case o6 => first | omega | (simp; omega)
    intro v2 W2 hown hgr hif
    have hown2 : W2.ownsRow (w.heap.size + 1) 3 1 v2 (m1 + (Y1 : List Int).length) ((T1 : List Int).map (Value.int .i64) ++ (Y1 : List Int).map (Value.int .i64)) := by first | exact hown | simpa using hown
    obtain ⟨g2, m2, c2, T2, rfl, hO, hm, ht⟩ := of_app2 (zs := T1) (ys := Y1) hTm2 hif hown2
    have hmb2 : m2 ≤ 62 := by rw [hm]; first | omega | (simp; done) | (simp; omega)
    have HT2 := Lib.hid ht
    have HO2 := Lib.hid hO
    have hne : ∀ q, (Value.slice (some ⟨g1, 0, none⟩) (m1) (c1)).ownBlock = some q → w.heap.size + 1 ≤ q := fun q hq => (HOX1.out.lt q hq).1
    have K2 := Lib.hid ((hgr.block w.heap.size (by first | (simp; omega) | omega) (fun e => by have := hne _ e.symm; omega)).trans KX1.out)
    have HB2 : Hid (Below w.heap.size w W2) := HBX1.out.grown hgr (by first | (simp; omega) | omega) (fun qq hq => by have := hne qq hq; omega)
    have hs2 : w.heap.size + 1 ≤ W2.heap.size := by have := hgr.size; first | omega | (simp at this; omega)
    clear hown hown2 hgr hif hO hne hTm2 hm ht
    clear HX KX1 HBX1 HOX1 hsx1
    go_wp2
    go_ret
    refine ⟨g2, _, c2, rfl, ?_, HB2.out⟩
    have hT : T2 = R := by rw [HT2.out, HT1.out]; rw [HR.out]; rw [turnL, HY1.out]; simp [mvB, HH.out]
    rw [← hT]
    exact ownI_down HO2.out (by omega)
  · have hq1 : (d.ph == 1) = false := by simp [h1]
    have hq2 : (d.ph == 2) = false := by simp [h2]
    have hq3 : (d.ph == 0) = false := by simp [h0]
    have HH : Hid (d.ph = 3) := (by omega : d.ph = 3)
    clear h1 h2 h0
    go_wp2
    go_ret
    refine ⟨w.heap.size + 1, _, 0, rfl, ?_, HB0.out⟩
    have hT : [] = R := by rw [HR.out]; rw [turnL]; simp [mvB, HH.out]
    rw [← hT]
    exact ownI_down HO0.out (by omega)
end Go.Proofs.YtdefckbgcggnoaaGreat.EngTurn
