/-
  THE MACHINE's limit and plan over this seat's translation.
-/
import Derived.Test.YtdefckbgcggnoaaGreatMachP
namespace Go.Proofs.YtdefckbgcggnoaaGreat.Mach
open Go.ChangeShapes Go.WideShapes Go.ChangeAt Go.RowKit
open Go.Proofs.YtdefckbgcggnoaaGreat.LK Go.Proofs.YtdefckbgcggnoaaGreat.Pods Go.Proofs.YtdefckbgcggnoaaGreat.EngV Go.Proofs.YtdefckbgcggnoaaGreat.EngCnt Go.Proofs.YtdefckbgcggnoaaGreat.Eng Go.Proofs.YtdefckbgcggnoaaGreat.Seg
set_option linter.unusedVariables false
set_option linter.unusedSimpArgs false
theorem limS_bd {e : Eng} (h : e.okB = true) : 0 ≤ limS e ∧ limS e ≤ e.sp.x0 := by
  have hs := Sp.specB_t (show Sp.specB e.sp.x0 e.sp.x1 e.sp.x2 e.sp.x3 e.sp.x4 e.sp.x5 e.sp.x6 e.sp.x7 e.sp.x8 e.sp.x9 e.sp.x10 = true from (okB_t h).1)
  have h1 : Sp.specB e.sp.x0 e.sp.x1 e.sp.x2 e.sp.x3 e.sp.x4 e.sp.x5 e.sp.x6 e.sp.x7 e.sp.x8 e.sp.x9 e.sp.x10 = true := (okB_t h).1
  unfold limS
  split
  · simp only [Cnt.limV, h1, if_true]
    split <;> omega
  · omega
theorem planT_ok {e : Eng} (h : e.okB = true) : Cnt.planT e.sp.x0 e.sp.x1 e.sp.x2 e.sp.x3 e.sp.x4 e.sp.x5 e.sp.x6 e.sp.x7 e.sp.x8 e.sp.x9 e.sp.x10 (live e false) (good e false) (live e true) (good e true) (going e) (limS e) = .tuple #[.agg #[.int .i64 (plCr e), .int .i64 (plDr e), .int .i64 (plDa e), .int .i64 (plDf e)], .bool true] := by
  have h1 : Sp.specB e.sp.x0 e.sp.x1 e.sp.x2 e.sp.x3 e.sp.x4 e.sp.x5 e.sp.x6 e.sp.x7 e.sp.x8 e.sp.x9 e.sp.x10 = true := (okB_t h).1
  have hp := EngCnt.part e
  have g0 := good_le e false
  have g1 := good_le e true
  have hl := (okB_t h).2.1.1
  have hb := limS_bd h
  have hB : Cnt.planB e.sp.x0 e.sp.x1 e.sp.x2 e.sp.x3 e.sp.x4 e.sp.x5 e.sp.x6 e.sp.x7 e.sp.x8 e.sp.x9 e.sp.x10 (live e false) (good e false) (live e true) (good e true) (going e) (limS e) = true := by
    simp only [Cnt.planB, Cnt.countB, Tick.inB, h1, Bool.true_and, Bool.and_eq_true, decide_eq_true_eq]
    omega
  simp only [Cnt.planT, hB, if_true]
  rfl
set_option maxRecDepth 100000 in
set_option maxHeartbeats 12800000 in
theorem limit_any (w : World) (S : Nat → Prop) (b : Nat) (lk ot : Int) (r : Run) (h : Mach w S b lk ot r) (hok : r.e.okB = true) :
    Calls Tryz.prog 208 #[.pointer (some ⟨b, 0, none⟩)] w (Says (.int .i64 (limS r.e)) w) := by
  obtain ⟨A, n, c, E, m, k, h⟩ := h
  have hn : n ≤ 1048576 := by have := h.ps.1; have := (okB_t hok).2.1.1; omega
  have HP : Hid (IsPods w w.heap.size A n r.e.ps) := h.ps.podsAll
  have hbw : b < w.heap.size := h.lt
  have H := Lib.hid h
  clear h hok
  obtain ⟨R, hR⟩ : ∃ R, R = limS r.e := ⟨_, rfl⟩
  rw [← hR]
  have HR := Lib.hid hR
  clear hR
  have KZ : Hid ((w.alloc (.cells (enL zeroE none 0 0).toArray 36)).heap[w.heap.size]? = some (.cells (enL zeroE none 0 0).toArray 36 (0, 0))) := box_new w _
  go_enter Tryz.func208, Tryz.ntmps208
  go_upto_region 2 with (first | (refine wpList_get rfl 36 _ rfl b 2 rfl H.out.box (enL { r.e with tr := ot } A n c) (maL_en lk ot r A n c E m k) Tryz.underlying36 rfl (by kernel_rfl) ?_) | (refine wpList_put rfl rfl 36 _ _ rfl w.heap.size 0 (enL { r.e with tr := ot } A n c) rfl rfl KZ.out (by kernel_rfl) (enL { r.e with tr := ot } A n c) rfl (Nat.le_of_ble_eq_true rfl) (enL_one _ _ _ _) ?_))
  obtain ⟨V1, hV1⟩ : ∃ X, X = (w.alloc (.cells #[.int .i64 0, .int .i64 0, .int .i64 0, .int .i64 0, .int .i64 0, .int .i64 0, .int .i64 0, .int .i64 0, .int .i64 0, .int .i64 0, .int .i64 0, .int .i64 0, .int .i64 0, .int .i64 0, .int .i64 0, .slice none 0 0, .int .i64 0, .int .i64 0, .int .i64 0, .int .i64 0] 36)).setRow w.heap.size (enL { r.e with tr := ot } A n c).toArray := ⟨_, rfl⟩
  have KE : Hid (V1.heap[w.heap.size]? = some (.cells (enL { r.e with tr := ot } A n c).toArray 36 (0, 0))) := by rw [hV1]; exact row_box KZ.out
  have HB1 : Hid (Below w.heap.size w V1) := by rw [hV1]; exact row_below (bel1 w _) _ _ (Nat.le_refl _) (by simp)
  rw [← hV1]
  clear hV1 KZ H
  have c12 : V1.cell? ⟨w.heap.size, 12, none⟩ = some (.int .i64 r.e.ph) := box_cell KE.out 12 _ rfl
  by_cases hp : r.e.ph = 1
  case neg =>
    have hq : (r.e.ph == 1) = false := by simp [hp]
    have c0 : V1.cell? ⟨w.heap.size, 0, none⟩ = some (.int .i64 r.e.sp.x0) := box_cell KE.out 0 _ rfl
    have HF : Hid (R = r.e.sp.x0) := by show _ = _; rw [HR.out, limS, if_neg hp]
    clear hp
    go_wp2
    go_ret
    exact ⟨by rw [HF.out]; rfl, HB1.out⟩
  have hq : (r.e.ph == 1) = true := by simp [hp]
  have HF : Hid (R = Cnt.limV r.e.sp.x0 r.e.sp.x1 r.e.sp.x2 r.e.sp.x3 r.e.sp.x4 r.e.sp.x5 r.e.sp.x6 r.e.sp.x7 r.e.sp.x8 r.e.sp.x9 r.e.sp.x10 (bakS r.e)) := by show _ = _; rw [HR.out, limS, if_pos hp]
  clear hp HR
  go_wp2_with fail
  clear c12
  refine wp_region_held_drew (S := fun w' => w'.rangeAt w.heap.size 0 (spL r.e.sp) ∧ w'.rangeAt w.heap.size 15 (flL A n c r.e.nx) ∧ w'.cell? ⟨w.heap.size, 13, none⟩ = some (.int .i64 r.e.tg) ∧ w'.cell? ⟨w.heap.size, 11, none⟩ = some (.int .i64 r.e.now)) (by kernel_rfl) ⟨range_of KE.out rfl, range_of KE.out rfl, box_cell KE.out 13 _ rfl, box_cell KE.out 11 _ rfl⟩ (fun hHeld => ?_)
  refine wpAnyH_take (i := 0) (v := ?v1) rfl (by kernel_rfl) (by kernel_rfl) (by kernel_rfl) (fun _ _ _ h => h) (Or.inl ⟨by rfl, ?hy1⟩) (by assumption) ?_
  case hy1 => (intro w0 hSw; (try dsimp only at hSw); go_simp <;> with_reducible rfl)
  try simp only [Act.put, List.getElem_toArray, List.getElem_cons_zero, List.getElem_cons_succ, List.setIfInBounds_toArray, List.set_cons_zero, List.set_cons_succ]
  refine wpAnyH_take (i := 1) (v := .agg (spL r.e.sp).toArray) rfl (by kernel_rfl) (by kernel_rfl) (by kernel_rfl) (fun _ _ _ h => h) (yieldsIf_load_mid (by rfl) 25 _ rfl w.heap.size 0 rfl (spL r.e.sp) _ (fun w' h => h.1) Tryz.underlying25 rfl (by kernel_rfl)) (by assumption) ?_
  try simp only [Act.put, List.getElem_toArray, List.getElem_cons_zero, List.getElem_cons_succ, List.setIfInBounds_toArray, List.set_cons_zero, List.set_cons_succ]
  refine wpAnyH_take (i := 2) (v := ?v2) rfl (by kernel_rfl) (by kernel_rfl) (by kernel_rfl) (fun _ _ _ h => h) (Or.inl ⟨by rfl, ?hy2⟩) (by assumption) ?_
  case hy2 => (intro w0 hSw; (try dsimp only at hSw); go_simp <;> with_reducible rfl)
  try simp only [Act.put, List.getElem_toArray, List.getElem_cons_zero, List.getElem_cons_succ, List.setIfInBounds_toArray, List.set_cons_zero, List.set_cons_succ]
  refine wpAnyH_take (i := 3) (v := .agg (spL r.e.sp).toArray) rfl (by kernel_rfl) (by kernel_rfl) (by kernel_rfl) (fun _ _ _ h => h) (yieldsIf_load_mid (by rfl) 25 _ rfl w.heap.size 0 rfl (spL r.e.sp) _ (fun w' h => h.1) Tryz.underlying25 rfl (by kernel_rfl)) (by assumption) ?_
  try simp only [Act.put, List.getElem_toArray, List.getElem_cons_zero, List.getElem_cons_succ, List.setIfInBounds_toArray, List.set_cons_zero, List.set_cons_succ]
  refine wpAnyH_take (i := 4) (v := ?v3) rfl (by kernel_rfl) (by kernel_rfl) (by kernel_rfl) (fun _ _ _ h => h) (Or.inl ⟨by rfl, ?hy3⟩) (by assumption) ?_
  case hy3 => (intro w0 hSw; (try dsimp only at hSw); go_simp <;> with_reducible rfl)
  try simp only [Act.put, List.getElem_toArray, List.getElem_cons_zero, List.getElem_cons_succ, List.setIfInBounds_toArray, List.set_cons_zero, List.set_cons_succ]
  refine wpAnyH_take (i := 5) (v := .agg (flL A n c r.e.nx).toArray) rfl (by kernel_rfl) (by kernel_rfl) (by kernel_rfl) (fun _ _ _ h => h) (yieldsIf_load_mid (by rfl) 34 _ rfl w.heap.size 15 rfl (flL A n c r.e.nx) _ (fun w' h => h.2.1) Tryz.underlying34 rfl (by kernel_rfl)) (by assumption) ?_
  try simp only [Act.put, List.getElem_toArray, List.getElem_cons_zero, List.getElem_cons_succ, List.setIfInBounds_toArray, List.set_cons_zero, List.set_cons_succ]
  refine wpAnyH_take (i := 6) (v := ?v4) rfl (by kernel_rfl) (by kernel_rfl) (by kernel_rfl) (fun _ _ _ h => h) (Or.inl ⟨by rfl, ?hy4⟩) (by assumption) ?_
  case hy4 => (intro w0 hSw; (try dsimp only at hSw); go_simp <;> with_reducible rfl)
  try simp only [Act.put, List.getElem_toArray, List.getElem_cons_zero, List.getElem_cons_succ, List.setIfInBounds_toArray, List.set_cons_zero, List.set_cons_succ]
  refine wpAnyH_take (i := 7) (v := ?v5) rfl (by kernel_rfl) (by kernel_rfl) (by kernel_rfl) (fun _ _ _ h => h) (Or.inl ⟨by rfl, ?hy5⟩) (by assumption) ?_
  case hy5 => (intro w0 hSw; (try dsimp only at hSw); go_simp <;> with_reducible rfl)
  try simp only [Act.put, List.getElem_toArray, List.getElem_cons_zero, List.getElem_cons_succ, List.setIfInBounds_toArray, List.set_cons_zero, List.set_cons_succ]
  refine wpAnyH_take (i := 8) (v := ?v6) rfl (by kernel_rfl) (by kernel_rfl) (by kernel_rfl) (fun _ _ _ h => h) (Or.inl ⟨by rfl, ?hy6⟩) (by assumption) ?_
  case hy6 => (intro w0 hSw; (try dsimp only at hSw); go_simp <;> with_reducible rfl)
  try simp only [Act.put, List.getElem_toArray, List.getElem_cons_zero, List.getElem_cons_succ, List.setIfInBounds_toArray, List.set_cons_zero, List.set_cons_succ]
  refine wpAnyH_take (i := 9) (v := ?v7) rfl (by kernel_rfl) (by kernel_rfl) (by kernel_rfl) (fun _ _ _ h => h) (Or.inl ⟨by rfl, ?hy7⟩) (by assumption) ?_
  case hy7 => (intro w0 hSw; (try dsimp only at hSw); go_simp <;> with_reducible rfl)
  try simp only [Act.put, List.getElem_toArray, List.getElem_cons_zero, List.getElem_cons_succ, List.setIfInBounds_toArray, List.set_cons_zero, List.set_cons_succ]
  refine wpAnyH_ready (rs := [10]) (by kernel_rfl) (by simp) (AllReadyH.cons rfl (fun K hK => ?_) AllReadyH.nil)
  go_simp
  refine (BakI.baked_any r.e.sp.x0 r.e.sp.x1 r.e.sp.x2 r.e.sp.x3 r.e.sp.x4 r.e.sp.x5 r.e.sp.x6 r.e.sp.x7 r.e.sp.x8 r.e.sp.x9 r.e.sp.x10 r.e.tg r.e.now A n c r.e.nx r.e.ps w.heap.size _ (HP.out.below HB1.out.drew (Nat.le_refl _)) (by exact HB1.out.size) hn).mono ?_
  obtain ⟨q, hq1⟩ : ∃ q, q = bakS r.e := ⟨_, rfl⟩
  rw [← hq1] at HF
  rw [show BakI.bakedV r.e.sp.x0 r.e.sp.x1 r.e.sp.x2 r.e.sp.x3 r.e.sp.x4 r.e.sp.x5 r.e.sp.x6 r.e.sp.x7 r.e.sp.x8 r.e.sp.x9 r.e.sp.x10 r.e.tg r.e.now (r.e.ps, r.e.nx) = q from hq1.symm]
  clear hq1
  rintro e w2 ⟨rfl, hb⟩
  have hb' : Below V1.heap.size V1 w2 := undrew hb
  have KE2 := Lib.hid (box_below KE.out hb')
  have HB2 := Lib.hid (bel_then HB1.out hb' HB1.out.size)
  clear hb hb' KE HB1 hHeld
  refine hK _ _ (by exact ⟨range_of KE2.out rfl, range_of KE2.out rfl, box_cell KE2.out 13 _ rfl, box_cell KE2.out 11 _ rfl⟩) (fun hHeld => ?_)
  clear hK K
  try simp only [Act.put, List.getElem_toArray, List.getElem_cons_zero, List.getElem_cons_succ, List.setIfInBounds_toArray, List.set_cons_zero, List.set_cons_succ]
  refine wpAnyH_ready (rs := [11]) (by kernel_rfl) (by simp) (AllReadyH.cons rfl (fun K hK => ?_) AllReadyH.nil)
  go_simp
  refine (Cnt.LimitOf_any r.e.sp.x0 r.e.sp.x1 r.e.sp.x2 r.e.sp.x3 r.e.sp.x4 r.e.sp.x5 r.e.sp.x6 r.e.sp.x7 r.e.sp.x8 r.e.sp.x9 r.e.sp.x10 q _).mono ?_
  rw [← HF.out]
  rintro e w3 ⟨rfl, hb⟩
  have KE3 := Lib.hid (box_below KE2.out hb)
  have HB3 := Lib.hid (bel_then HB2.out hb HB2.out.size)
  clear hb KE2 HB2 hHeld
  refine hK _ _ (by exact ⟨range_of KE3.out rfl, range_of KE3.out rfl, box_cell KE3.out 13 _ rfl, box_cell KE3.out 11 _ rfl⟩) (fun hHeld => ?_)
  clear hK K
  try simp only [Act.put, List.getElem_toArray, List.getElem_cons_zero, List.getElem_cons_succ, List.setIfInBounds_toArray, List.set_cons_zero, List.set_cons_succ]
  refine wpAnyH_take (i := 12) (v := ?v10) rfl (by kernel_rfl) (by kernel_rfl) (by kernel_rfl) (fun _ _ _ h => h) (Or.inl ⟨by rfl, ?hy10⟩) (by assumption) ?_
  case hy10 => (intro w0 hSw; (try dsimp only at hSw); go_simp <;> with_reducible rfl)
  try simp only [Act.put, List.getElem_toArray, List.getElem_cons_zero, List.getElem_cons_succ, List.setIfInBounds_toArray, List.set_cons_zero, List.set_cons_succ]
  refine wpAnyH_done (by kernel_rfl) ?_ _
  clear hHeld
  go_wp2
  go_ret
  exact ⟨rfl, HB3.out⟩
end Go.Proofs.YtdefckbgcggnoaaGreat.Mach
