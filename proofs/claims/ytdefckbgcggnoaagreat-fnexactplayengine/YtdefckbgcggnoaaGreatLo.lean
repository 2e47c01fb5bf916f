/-
  LostOf, the program's and the model's, over this seat's translation.
-/
import Derived.Test.YtdefckbgcggnoaaGreatHi
import Derived.Test.YtdefckbgcggnoaaGreatFleetTop
import Derived.Test.YtdefckbgcggnoaaGreatFleetSpec
import Derived.Test.YtdefckbgcggnoaaGreatAv
import Derived.Test.YtdefckbgcggnoaaGreatIntTy
namespace Go.Proofs.YtdefckbgcggnoaaGreat.Av
open Go.ChangeShapes Go.WideShapes Go.ChangeAt Go.RowKit
open Go.Proofs.YtdefckbgcggnoaaGreat.LK Go.Proofs.YtdefckbgcggnoaaGreat.Pods Go.Proofs.YtdefckbgcggnoaaGreat.FleetV Go.Proofs.YtdefckbgcggnoaaGreat.Sp Go.Proofs.YtdefckbgcggnoaaGreat.Hl Go.Proofs.YtdefckbgcggnoaaGreat.Has Go.Proofs.YtdefckbgcggnoaaGreat.Ints
set_option linter.unusedVariables false
set_option linter.unusedSimpArgs false
def loL (x0 x1 x2 x3 x4 x5 x6 x7 x8 x9 x10 now : Int) (ps : PList) : List Int := (ps.filter fun p => lostB x0 x1 x2 x3 x4 x5 x6 x7 x8 x9 x10 p.2.2.1 p.2.2.2.2 now).map (·.1)
theorem lo_take {x0 x1 x2 x3 x4 x5 x6 x7 x8 x9 x10 now : Int} {ps : PList} {k : Nat} (h : k < ps.length) : loL x0 x1 x2 x3 x4 x5 x6 x7 x8 x9 x10 now (ps.take (k + 1)) = loL x0 x1 x2 x3 x4 x5 x6 x7 x8 x9 x10 now (ps.take k) ++ if lostB x0 x1 x2 x3 x4 x5 x6 x7 x8 x9 x10 (ps.getD k z5).2.2.1 (ps.getD k z5).2.2.2.2 now then [(ps.getD k z5).1] else [] := by
  unfold loL
  rw [Crew.take_get h, List.filter_append, List.map_append]
  by_cases hm : lostB x0 x1 x2 x3 x4 x5 x6 x7 x8 x9 x10 (ps.getD k z5).2.2.1 (ps.getD k z5).2.2.2.2 now = true
  · rw [if_pos hm, List.filter_cons_of_pos (by exact hm)]; rfl
  · rw [if_neg hm, List.filter_cons_of_neg (by exact hm)]; rfl
def lostD (x0 x1 x2 x3 x4 x5 x6 x7 x8 x9 x10 now : Int) (d : PList × Int) : List Int := if FGood d.1 d.2 then loL x0 x1 x2 x3 x4 x5 x6 x7 x8 x9 x10 now d.1 else []
theorem lost_len (x0 x1 x2 x3 x4 x5 x6 x7 x8 x9 x10 now : Int) (d : PList × Int) : (lostD x0 x1 x2 x3 x4 x5 x6 x7 x8 x9 x10 now d).length ≤ d.1.length := by
  unfold lostD
  split
  · unfold loL; rw [List.length_map]; exact List.length_filter_le _ _
  · exact Nat.zero_le _
set_option maxRecDepth 100000 in
set_option maxHeartbeats 6400000 in
theorem specLostOf_any (x0 x1 x2 x3 x4 x5 x6 x7 x8 x9 x10 now : Int) (A : Option Addr) (n c : Nat) (nx : Int) (ps : PList) (B : Nat) (w : World) (hr : IsPods w B A n ps) (hB : B ≤ w.heap.size) (hn : n ≤ 1048576) :
    Calls Tryz.prog 144 #[.agg #[.int .i64 x0, .int .i64 x1, .int .i64 x2, .int .i64 x3, .int .i64 x4, .int .i64 x5, .int .i64 x6, .int .i64 x7, .int .i64 x8, .int .i64 x9, .int .i64 x10], .agg #[.slice A n c, .int .i64 nx], .int .i64 now] w (Made IntTy.ity (lostD x0 x1 x2 x3 x4 x5 x6 x7 x8 x9 x10 now (ps, nx)) w) := by
  have HL : Hid (ps.length = n) := hr.1
  have HR := Lib.hid hr
  clear hr
  obtain ⟨i0, hi0, hz0, hz1, hz2⟩ := info_parts infoInt
  have HA : Hid (∀ (y0 y1 y2 y3 y4 : Int) (W : World), Calls Tryz.prog 171 #[.agg #[.int .i64 x0, .int .i64 x1, .int .i64 x2, .int .i64 x3, .int .i64 x4, .int .i64 x5, .int .i64 x6, .int .i64 x7, .int .i64 x8, .int .i64 x9, .int .i64 x10], .agg #[.int .i64 y0, .int .i64 y1, .int .i64 y2, .int .i64 y3, .int .i64 y4], .int .i64 now] W (Says (.bool (lostB x0 x1 x2 x3 x4 x5 x6 x7 x8 x9 x10 y2 y4 now)) W)) := fun y0 y1 y2 y3 y4 W => specIsLost_any x0 x1 x2 x3 x4 x5 x6 x7 x8 x9 x10 y0 y1 y2 y3 y4 now W
  obtain ⟨R, hR⟩ : ∃ R, R = lostD x0 x1 x2 x3 x4 x5 x6 x7 x8 x9 x10 now (ps, nx) := ⟨_, rfl⟩
  rw [← hR]
  have HRV := Lib.hid hR
  clear hR
  obtain ⟨V, hV⟩ : ∃ V, V = (((w.alloc (.cells #[.int .i64 x0, .int .i64 x1, .int .i64 x2, .int .i64 x3, .int .i64 x4, .int .i64 x5, .int .i64 x6, .int .i64 x7, .int .i64 x8, .int .i64 x9, .int .i64 x10] 25)).alloc (.cells #[.slice A n c, .int .i64 nx] 34)).alloc (.cells #[] 3)) := ⟨_, rfl⟩
  have hbV : Below w.heap.size w V := by rw [hV]; exact bel3 _ _ _ _
  have BS : Hid (V.heap[w.heap.size]? = some (.cells #[.int .i64 x0, .int .i64 x1, .int .i64 x2, .int .i64 x3, .int .i64 x4, .int .i64 x5, .int .i64 x6, .int .i64 x7, .int .i64 x8, .int .i64 x9, .int .i64 x10] 25)) := by have h := box_alloc (box_alloc (box_new w (.cells #[.int .i64 x0, .int .i64 x1, .int .i64 x2, .int .i64 x3, .int .i64 x4, .int .i64 x5, .int .i64 x6, .int .i64 x7, .int .i64 x8, .int .i64 x9, .int .i64 x10] 25)) (.cells #[.slice A n c, .int .i64 nx] 34)) (.cells #[] 3); (try simp only [World.size_alloc] at h); rw [hV]; exact h
  have BF : Hid (V.heap[w.heap.size + 1]? = some (.cells #[.slice A n c, .int .i64 nx] 34)) := by have h := box_alloc (box_new (w.alloc (.cells #[.int .i64 x0, .int .i64 x1, .int .i64 x2, .int .i64 x3, .int .i64 x4, .int .i64 x5, .int .i64 x6, .int .i64 x7, .int .i64 x8, .int .i64 x9, .int .i64 x10] 25)) (.cells #[.slice A n c, .int .i64 nx] 34)) (.cells #[] 3); (try simp only [World.size_alloc] at h); rw [hV]; exact h
  have BE : Hid (V.heap[w.heap.size + 1 + 1]? = some (.cells #[] 3)) := by have h := box_new ((w.alloc (.cells #[.int .i64 x0, .int .i64 x1, .int .i64 x2, .int .i64 x3, .int .i64 x4, .int .i64 x5, .int .i64 x6, .int .i64 x7, .int .i64 x8, .int .i64 x9, .int .i64 x10] 25)).alloc (.cells #[.slice A n c, .int .i64 nx] 34)) (.cells #[] 3); (try simp only [World.size_alloc] at h); rw [hV]; exact h
  go_enter Tryz.func144, Tryz.ntmps144
  go_wp2_with fail
  rw [← hV]
  clear hV
  refine (FleetSpec.specFleetOk_any A n c nx ps B _ (HR.out.below hbV hB) (Nat.le_trans hB hbV.size) hn).mono ?_
  rintro e w1 ⟨rfl, hbs⟩
  have BS' := Lib.hid (box_below BS.out hbs)
  have BF' := Lib.hid (box_below BF.out hbs)
  have BE' := Lib.hid (box_below BE.out hbs)
  have hbn1 : Below w.heap.size w w1 := bel_then hbV hbs hbV.size
  clear BS
  have BS := BS'
  clear BS'
  clear BF
  have BF := BF'
  clear BF'
  clear BE
  have BE := BE'
  clear BE'
  clear hbs
  have hO0 : OwnI w1 (w.heap.size + 1 + 1) (some ⟨w.heap.size + 1 + 1, 0, none⟩) 0 0 [] := ⟨by simp, by simp, .inr ⟨w.heap.size + 1 + 1, 0, #[], rfl, Nat.le_refl _, BE.out, Nat.le_refl _, Nat.zero_le _, rfl, by simp⟩⟩
  have hs1 : w.heap.size + 1 + 1 < w1.heap.size := box_lt BE.out
  clear BE
  by_cases hg : FGood ps nx
  case neg =>
    have HV : Hid (R = []) := by show R = _; rw [HRV.out]; exact if_neg hg
    rw [decide_eq_false hg]
    clear hg
    have HO0 := Lib.hid hO0
    clear hO0
    go_wp2
    go_ret
    rw [HV.out]
    exact IntTy.made_of (lo := w.heap.size) hbn1 ⟨rfl, World.ownsRow_nil _ _ _ _⟩ (Nat.le_refl _)
  have HV : Hid (R = loL x0 x1 x2 x3 x4 x5 x6 x7 x8 x9 x10 now ps) := by show R = _; rw [HRV.out]; exact if_pos hg
  clear HRV
  rw [decide_eq_true hg]
  clear hg
  have cBF_0 : w1.cell? ⟨w.heap.size + 1, 0, none⟩ = some (.slice A n c) := box_cell BF.out 0 _ rfl
  go_wp2_with fail
  clear cBF_0
  go_loopw [7, 8] (fun q i wr => ∃ (k m : Nat) (A3 : Option Addr) (c3 : Nat) (T : List Int), k ≤ n ∧ i = .int .i64 k ∧ q = .slice A3 m c3 ∧ m ≤ k ∧ Hid (T = loL x0 x1 x2 x3 x4 x5 x6 x7 x8 x9 x10 now (ps.take k)) ∧ Hid (OwnI wr (w.heap.size + 1 + 1) A3 m c3 T) ∧ Hid (wr.heap[w.heap.size]? = some (.cells #[.int .i64 x0, .int .i64 x1, .int .i64 x2, .int .i64 x3, .int .i64 x4, .int .i64 x5, .int .i64 x6, .int .i64 x7, .int .i64 x8, .int .i64 x9, .int .i64 x10] 25)) ∧ Hid (wr.heap[w.heap.size + 1]? = some (.cells #[.slice A n c, .int .i64 nx] 34)) ∧ Below w.heap.size w wr ∧ w.heap.size + 1 + 1 ≤ wr.heap.size) (fun _ i _ => n - (RowKit.intOf i).toNat)
  case atStart => exact ⟨0, 0, _, 0, [], Nat.zero_le _, rfl, rfl, Nat.le_refl _, by simp [Hid, loL], hO0, BS, BF, hbn1, by omega⟩
  case round =>
    obtain ⟨k, m, A3, c3, T, hk, rfl, rfl, hmk, HM, HO, FS, FF, hbr, hsr⟩ := hrel
    clear BS BF hO0 hs1 hbn1
    by_cases hlt : k < n
    case neg =>
      have HK : Hid (k = n) := (by omega : k = n)
      have cFF_0 : wr.cell? ⟨w.heap.size + 1, 0, none⟩ = some (.slice A n c) := box_cell FF.out 0 _ rfl
      go_wp2
      go_ret
      have h := HM.out
      rw [List.take_of_length_le (by rw [HL.out, HK.out]; exact Nat.le_refl _)] at h
      rw [HV.out, ← h]
      exact IntTy.made_of hbr HO.out (by omega)
    have hrw := HR.out.below hbr hB
    obtain ⟨b, off, y0, y1, y2, y3, y4, rfl, hbB, hz, hc0, hc1, hc2, hc3, hc4⟩ := hrw.at_ hlt
    have HS := Lib.hid (lo_take (now := now) (x0 := x0) (x1 := x1) (x2 := x2) (x3 := x3) (x4 := x4) (x5 := x5) (x6 := x6) (x7 := x7) (x8 := x8) (x9 := x9) (x10 := x10) (ps := ps) (k := k) (by rw [HL.out]; exact hlt))
    rw [hz] at HS
    clear hz hrw
    obtain ⟨Q, hQ⟩ : ∃ Q, Q = lostB x0 x1 x2 x3 x4 x5 x6 x7 x8 x9 x10 y2 y4 now := ⟨_, rfl⟩
    have HQ : Hid (∀ W : World, Calls Tryz.prog 171 #[.agg #[.int .i64 x0, .int .i64 x1, .int .i64 x2, .int .i64 x3, .int .i64 x4, .int .i64 x5, .int .i64 x6, .int .i64 x7, .int .i64 x8, .int .i64 x9, .int .i64 x10], .agg #[.int .i64 y0, .int .i64 y1, .int .i64 y2, .int .i64 y3, .int .i64 y4], .int .i64 now] W (Says (.bool Q) W)) := fun W => by rw [hQ]; exact HA.out y0 y1 y2 y3 y4 W
    have HS2 : Hid (loL x0 x1 x2 x3 x4 x5 x6 x7 x8 x9 x10 now (ps.take (k + 1)) = loL x0 x1 x2 x3 x4 x5 x6 x7 x8 x9 x10 now (ps.take k) ++ if Q then [y0] else []) := by show _ = _; rw [hQ]; exact HS.out
    clear hQ HS
    have cFS_0 : wr.cell? ⟨w.heap.size, 0, none⟩ = some (.int .i64 x0) := box_cell FS.out 0 _ rfl
    have cFS_1 : wr.cell? ⟨w.heap.size, 1, none⟩ = some (.int .i64 x1) := box_cell FS.out 1 _ rfl
    have cFS_2 : wr.cell? ⟨w.heap.size, 2, none⟩ = some (.int .i64 x2) := box_cell FS.out 2 _ rfl
    have cFS_3 : wr.cell? ⟨w.heap.size, 3, none⟩ = some (.int .i64 x3) := box_cell FS.out 3 _ rfl
    have cFS_4 : wr.cell? ⟨w.heap.size, 4, none⟩ = some (.int .i64 x4) := box_cell FS.out 4 _ rfl
    have cFS_5 : wr.cell? ⟨w.heap.size, 5, none⟩ = some (.int .i64 x5) := box_cell FS.out 5 _ rfl
    have cFS_6 : wr.cell? ⟨w.heap.size, 6, none⟩ = some (.int .i64 x6) := box_cell FS.out 6 _ rfl
    have cFS_7 : wr.cell? ⟨w.heap.size, 7, none⟩ = some (.int .i64 x7) := box_cell FS.out 7 _ rfl
    have cFS_8 : wr.cell? ⟨w.heap.size, 8, none⟩ = some (.int .i64 x8) := box_cell FS.out 8 _ rfl
    have cFS_9 : wr.cell? ⟨w.heap.size, 9, none⟩ = some (.int .i64 x9) := box_cell FS.out 9 _ rfl
    have cFS_10 : wr.cell? ⟨w.heap.size, 10, none⟩ = some (.int .i64 x10) := box_cell FS.out 10 _ rfl
    have cFF_0 : wr.cell? ⟨w.heap.size + 1, 0, none⟩ = some (.slice (some ⟨b, off, none⟩) n c) := box_cell FF.out 0 _ rfl
    have cFF_1 : wr.cell? ⟨w.heap.size + 1, 1, none⟩ = some (.int .i64 nx) := box_cell FF.out 1 _ rfl
    go_wp2_with fail
    refine wp_region_held_drew (S := fun w' => w'.cell? ⟨w.heap.size, 0, none⟩ = some (.int .i64 x0) ∧ w'.cell? ⟨w.heap.size, 1, none⟩ = some (.int .i64 x1) ∧ w'.cell? ⟨w.heap.size, 2, none⟩ = some (.int .i64 x2) ∧ w'.cell? ⟨w.heap.size, 3, none⟩ = some (.int .i64 x3) ∧ w'.cell? ⟨w.heap.size, 4, none⟩ = some (.int .i64 x4) ∧ w'.cell? ⟨w.heap.size, 5, none⟩ = some (.int .i64 x5) ∧ w'.cell? ⟨w.heap.size, 6, none⟩ = some (.int .i64 x6) ∧ w'.cell? ⟨w.heap.size, 7, none⟩ = some (.int .i64 x7) ∧ w'.cell? ⟨w.heap.size, 8, none⟩ = some (.int .i64 x8) ∧ w'.cell? ⟨w.heap.size, 9, none⟩ = some (.int .i64 x9) ∧ w'.cell? ⟨w.heap.size, 10, none⟩ = some (.int .i64 x10) ∧ w'.cell? ⟨w.heap.size + 1, 0, none⟩ = some (.slice (some ⟨b, off, none⟩) n c) ∧ w'.cell? ⟨b, off + k * 5, none⟩ = some (.int .i64 y0) ∧ w'.cell? ⟨b, off + k * 5 + 1, none⟩ = some (.int .i64 y1) ∧ w'.cell? ⟨b, off + k * 5 + 2, none⟩ = some (.int .i64 y2) ∧ w'.cell? ⟨b, off + k * 5 + 3, none⟩ = some (.int .i64 y3) ∧ w'.cell? ⟨b, off + k * 5 + 4, none⟩ = some (.int .i64 y4)) (by kernel_rfl) ⟨cFS_0, cFS_1, cFS_2, cFS_3, cFS_4, cFS_5, cFS_6, cFS_7, cFS_8, cFS_9, cFS_10, cFF_0, hc0, hc1, hc2, hc3, hc4⟩ (fun hHeld => ?_)
    refine wpAnyH_take (i := 0) (v := ?v1) rfl (by kernel_rfl) (by kernel_rfl) (by kernel_rfl) (fun _ _ _ h => h) (Or.inl ⟨by rfl, ?hy1⟩) (by assumption) ?_
    case hy1 => (intro w0 hSw; (try dsimp only at hSw); go_simp <;> with_reducible rfl)
    try simp only [Act.put, List.getElem_toArray, List.getElem_cons_zero, List.getElem_cons_succ, List.setIfInBounds_toArray, List.set_cons_zero, List.set_cons_succ]
    refine wpAnyH_take (i := 1) (v := ?v2) rfl (by kernel_rfl) (by kernel_rfl) (by kernel_rfl) (fun _ _ _ h => h) (Or.inl ⟨by rfl, ?hy2⟩) (by assumption) ?_
    case hy2 => (intro w0 hSw; (try dsimp only at hSw); go_simp <;> with_reducible rfl)
    try simp only [Act.put, List.getElem_toArray, List.getElem_cons_zero, List.getElem_cons_succ, List.setIfInBounds_toArray, List.set_cons_zero, List.set_cons_succ]
    refine wpAnyH_take (i := 2) (v := ?v3) rfl (by kernel_rfl) (by kernel_rfl) (by kernel_rfl) (fun _ _ _ h => h) (Or.inl ⟨by rfl, ?hy3⟩) (by assumption) ?_
    case hy3 => (intro w0 hSw; (try dsimp only at hSw); go_simp <;> with_reducible rfl)
    try simp only [Act.put, List.getElem_toArray, List.getElem_cons_zero, List.getElem_cons_succ, List.setIfInBounds_toArray, List.set_cons_zero, List.set_cons_succ]
    refine wpAnyH_take (i := 3) (v := ?v4) rfl (by kernel_rfl) (by kernel_rfl) (by kernel_rfl) (fun _ _ _ h => h) (Or.inl ⟨by rfl, ?hy4⟩) (by assumption) ?_
    case hy4 => (intro w0 hSw; (try dsimp only at hSw); go_simp <;> with_reducible rfl)
    try simp only [Act.put, List.getElem_toArray, List.getElem_cons_zero, List.getElem_cons_succ, List.setIfInBounds_toArray, List.set_cons_zero, List.set_cons_succ]
    refine wpAnyH_take (i := 4) (v := ?v5) rfl (by kernel_rfl) (by kernel_rfl) (by kernel_rfl) (fun _ _ _ h => h) (Or.inl ⟨by rfl, ?hy5⟩) (by assumption) ?_
    case hy5 => (intro w0 hSw; (try dsimp only at hSw); go_simp <;> with_reducible rfl)
    try simp only [Act.put, List.getElem_toArray, List.getElem_cons_zero, List.getElem_cons_succ, List.setIfInBounds_toArray, List.set_cons_zero, List.set_cons_succ]
    refine wpAnyH_take (i := 5) (v := ?v6) rfl (by kernel_rfl) (by kernel_rfl) (by kernel_rfl) (fun _ _ _ h => h) (Or.inl ⟨by rfl, ?hy6⟩) (by assumption) ?_
    case hy6 => (intro w0 hSw; (try dsimp only at hSw); go_simp <;> with_reducible rfl)
    try simp only [Act.put, List.getElem_toArray, List.getElem_cons_zero, List.getElem_cons_succ, List.setIfInBounds_toArray, List.set_cons_zero, List.set_cons_succ]
    refine wpAnyH_take (i := 6) (v := ?v7) rfl (by kernel_rfl) (by kernel_rfl) (by kernel_rfl) (fun _ _ _ h => h) (Or.inl ⟨by rfl, ?hy7⟩) (by assumption) ?_
    case hy7 => (intro w0 hSw; (try dsimp only at hSw); go_simp <;> with_reducible rfl)
    try simp only [Act.put, List.getElem_toArray, List.getElem_cons_zero, List.getElem_cons_succ, List.setIfInBounds_toArray, List.set_cons_zero, List.set_cons_succ]
    refine wpAnyH_ready (rs := [7]) (by kernel_rfl) (by simp) (AllReadyH.cons rfl (fun K hK => ?_) AllReadyH.nil)
    go_simp
    refine (HQ.out _).mono ?_
    rintro e w2 ⟨rfl, hb2⟩
    have hb3 : Below wr.heap.size wr w2 := undrew hb2
    clear hHeld
    refine hK _ _ (by exact ⟨cell_keep hb3 cFS_0, cell_keep hb3 cFS_1, cell_keep hb3 cFS_2, cell_keep hb3 cFS_3, cell_keep hb3 cFS_4, cell_keep hb3 cFS_5, cell_keep hb3 cFS_6, cell_keep hb3 cFS_7, cell_keep hb3 cFS_8, cell_keep hb3 cFS_9, cell_keep hb3 cFS_10, cell_keep hb3 cFF_0, cell_keep hb3 hc0, cell_keep hb3 hc1, cell_keep hb3 hc2, cell_keep hb3 hc3, cell_keep hb3 hc4⟩) (fun hHeld => ?_)
    clear hK K
    try simp only [Act.put, List.getElem_toArray, List.getElem_cons_zero, List.getElem_cons_succ, List.setIfInBounds_toArray, List.set_cons_zero, List.set_cons_succ]
    refine wpAnyH_done (by kernel_rfl) ?_ _
    have FS2 := Lib.hid (box_below FS.out hb3)
    have FF2 := Lib.hid (box_below FF.out hb3)
    have HO2 := Lib.hid (HO.out.below hb3)
    have hbr2 := bel_then hbr hb3 hbr.size
    have hs2 : w.heap.size + 1 + 1 ≤ w2.heap.size := by have := hb3.size; omega
    have g0 := box_cell FF2.out 0 _ rfl
    have g1 := cell_keep hb3 hc0
    clear hb2 hb3 hHeld FS FF HO hbr hc0 hc1 hc2 hc3 hc4
    clear cFS_0 cFS_1 cFS_2 cFS_3 cFS_4 cFS_5 cFS_6 cFS_7 cFS_8 cFS_9 cFS_10 cFF_0 cFF_1
    cases Q
    · have HS3 : Hid (T = loL x0 x1 x2 x3 x4 x5 x6 x7 x8 x9 x10 now (ps.take (k + 1))) := by show _ = _; have h := HS2.out; simp at h; rw [h]; exact HM.out
      clear HS2
      go_wp2
      go_roundw
      case rel => exact ⟨k + 1, m, A3, c3, T, by omega, by go_num, rfl, by omega, HS3, HO2, FS2, FF2, hbr2, hs2⟩
      case measure => simp [RowKit.intOf]; omega
    · have HS3 : Hid (T ++ [y0] = loL x0 x1 x2 x3 x4 x5 x6 x7 x8 x9 x10 now (ps.take (k + 1))) := by show _ = _; have h := HS2.out; simp at h; rw [h, HM.out]
      clear HS2
      have hTm : T.length = m := HO2.out.1
      go_wp2_with (at_builtin; refine wpList_append_own _ rfl (.tmp 28) (.tmp 35) _ rfl (w.heap.size + 1 + 1) 3 i0 _ 1 8 Tryz.underlying38 hi0 hz0 hz1 hz2 rfl (by omega) (.slice A3 m c3) m (T.map (Value.int .i64)) rfl ?o1 ⟨w2.heap.size, 0, none⟩ 1 1 [.int .i64 y0] rfl rfl (Crew.news_new w2 [.int .i64 y0] 3) ?o3 ?o4 ?o5 ?o6 ?_)
      case o1 => exact (HO2.out.alloc _).2
      case o3 => first | rfl | (intro u hu; simp at hu; subst hu; rfl)
      case o4 => unfold maxLen; omega
      case o5 => omega
      case o6 => first | omega | (simp; omega)
      intro v2 w5 hown hgr _
      obtain ⟨A5, c5, rfl, hO5⟩ := OwnI.of_append (zs := T) (x := y0) hTm hown
      have HO5 := Lib.hid hO5
      have hne : ∀ q, (Value.slice A3 m c3).ownBlock = some q → w.heap.size + 1 + 1 ≤ q := fun q hq => (HO2.out.lt q hq).1
      have FS5 := Lib.hid ((hgr.block w.heap.size (by simp; omega) (fun e => by have := hne _ e.symm; omega)).trans (box_alloc FS2.out _))
      have FF5 := Lib.hid ((hgr.block (w.heap.size + 1) (by simp; omega) (fun e => by have := hne _ e.symm; omega)).trans (box_alloc FF2.out _))
      have hb5 : Below w.heap.size w w5 := (hbr2.alloc hbr2.size _).grown hgr (by simp; omega) (fun qq hq => by have := hne qq hq; omega)
      have hs5 : w.heap.size + 1 + 1 ≤ w5.heap.size := by have := hgr.size; simp at this; omega
      clear hown hgr hO5 hne g0
      go_wp2
      go_roundw
      case rel => exact ⟨k + 1, m + 1, A5, c5, T ++ [y0], by omega, by go_num, rfl, by omega, HS3, HO5, FS5, FF5, hb5, hs5⟩
      case measure => simp [RowKit.intOf]; omega
end Go.Proofs.YtdefckbgcggnoaaGreat.Av
