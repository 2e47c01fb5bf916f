/-
  THE MODEL's l08Over over this seat's translation.
-/
import Derived.Test.YtdefckbgcggnoaaGreatModF
import Derived.Test.YtdefckbgcggnoaaGreatMachQ
import Derived.Test.YtdefckbgcggnoaaGreatCountS
import Derived.Test.YtdefckbgcggnoaaGreatBakS
namespace Go.Proofs.YtdefckbgcggnoaaGreat.Mod
open Go.ChangeShapes Go.WideShapes Go.ChangeAt Go.RowKit
open Go.Proofs.YtdefckbgcggnoaaGreat.LK Go.Proofs.YtdefckbgcggnoaaGreat.Pods Go.Proofs.YtdefckbgcggnoaaGreat.EngV Go.Proofs.YtdefckbgcggnoaaGreat.EngCnt Go.Proofs.YtdefckbgcggnoaaGreat.Eng Go.Proofs.YtdefckbgcggnoaaGreat.Seg
set_option linter.unusedVariables false
set_option linter.unusedSimpArgs false
theorem over_spec {e : Eng} (h : e.okB = true) : Cnt.overB e.sp.x0 e.sp.x1 e.sp.x2 e.sp.x3 e.sp.x4 e.sp.x5 e.sp.x6 e.sp.x7 e.sp.x8 e.sp.x9 e.sp.x10 (live e false) (good e false) (live e true) (good e true) (going e) = overE e := by
  obtain ⟨h1, h2, _⟩ := okB_t h
  have h1' : Sp.specB e.sp.x0 e.sp.x1 e.sp.x2 e.sp.x3 e.sp.x4 e.sp.x5 e.sp.x6 e.sp.x7 e.sp.x8 e.sp.x9 e.sp.x10 = true := h1
  have hp := EngCnt.part e
  have g0 := good_le e false
  have g1 := good_le e true
  have hl := h2.1
  have c0 : Cnt.countB (live e false) (good e false) = true := by simp [Cnt.countB, Tick.inB]; omega
  have c1 : Cnt.countB (live e true) (good e true) = true := by simp [Cnt.countB, Tick.inB]; omega
  simp only [Cnt.overB, h1', c0, c1, Bool.true_and, overE]
  rw [Bool.eq_iff_iff]
  simp only [Bool.and_eq_true, decide_eq_true_eq]
  omega
theorem moved_id {w w' : World} {S : Nat → Prop} {b : Nat} {r r' : Run} {x : Value} (h : Mod w' S b r) (he : r' = r) (ht : Turned S w w') (hk : Kept w w') : Moved b r' x S w (.returned x) w' := by
  rw [he]
  exact ⟨rfl, S, h, fun q hq => .inl hq, ht, hk⟩
set_option maxRecDepth 100000 in
set_option maxHeartbeats 12800000 in
theorem over_any (w : World) (S : Nat → Prop) (b : Nat) (r : Run) (h : Mod w S b r) (hok : r.e.okB = true) (hl : r.ev.length ≤ 900000) :
    Calls Tryz.prog 120 #[.pointer (some ⟨b, 0, none⟩)] w (Moved b (if mvB r.e.ph then r.over else r) (.tuple #[]) S w) := by
  obtain ⟨R, hR⟩ : ∃ R, R = if mvB r.e.ph then r.over else r := ⟨_, rfl⟩
  rw [← hR]
  have HRR := Lib.hid hR
  clear hR
  obtain ⟨f1, hf1⟩ : ∃ x : Int, x = (live r.e false : Int) := ⟨_, rfl⟩
  obtain ⟨f2, hf2⟩ : ∃ x : Int, x = (good r.e false : Int) := ⟨_, rfl⟩
  obtain ⟨o1, ho1⟩ : ∃ x : Int, x = (live r.e true : Int) := ⟨_, rfl⟩
  obtain ⟨o2, ho2⟩ : ∃ x : Int, x = (good r.e true : Int) := ⟨_, rfl⟩
  obtain ⟨gg, hgg⟩ : ∃ x : Int, x = (going r.e : Int) := ⟨_, rfl⟩
  have CF : Hid (∀ (A : Option Addr) (n c : Nat) (W : World), IsPods W W.heap.size A n r.e.ps → n ≤ 1048576 → Calls Tryz.prog 149 #[.agg (spL r.e.sp).toArray, .agg (flL A n c r.e.nx).toArray, .int .i64 r.e.tg, .int .i64 r.e.now] W (Says (.tuple #[.agg #[.int .i64 f1, .int .i64 f2], .bool true]) W)) := fun A n c W h1 h2 => by
    have h := CountS.specCountOf_any r.e.sp.x0 r.e.sp.x1 r.e.sp.x2 r.e.sp.x3 r.e.sp.x4 r.e.sp.x5 r.e.sp.x6 r.e.sp.x7 r.e.sp.x8 r.e.sp.x9 r.e.sp.x10 r.e.tg r.e.now A n c r.e.nx r.e.ps W.heap.size W h1 (Nat.le_refl _) h2
    rw [Mach.countT_ok hok false] at h
    rw [hf1, hf2]
    exact h
  have CO : Hid (∀ (A : Option Addr) (n c : Nat) (W : World), IsPods W W.heap.size A n r.e.ps → n ≤ 1048576 → Calls Tryz.prog 150 #[.agg (spL r.e.sp).toArray, .agg (flL A n c r.e.nx).toArray, .int .i64 r.e.tg, .int .i64 r.e.now] W (Says (.tuple #[.agg #[.int .i64 o1, .int .i64 o2], .bool true]) W)) := fun A n c W h1 h2 => by
    have h := CountS.specRestOf_any r.e.sp.x0 r.e.sp.x1 r.e.sp.x2 r.e.sp.x3 r.e.sp.x4 r.e.sp.x5 r.e.sp.x6 r.e.sp.x7 r.e.sp.x8 r.e.sp.x9 r.e.sp.x10 r.e.tg r.e.now A n c r.e.nx r.e.ps W.heap.size W h1 (Nat.le_refl _) h2
    rw [Mach.countT_ok hok true] at h
    rw [ho1, ho2]
    exact h
  have CG : Hid (∀ (A : Option Addr) (n c : Nat) (W : World), IsPods W W.heap.size A n r.e.ps → n ≤ 1048576 → Calls Tryz.prog 56 #[.agg (flL A n c r.e.nx).toArray] W (Says (.int .i64 gg) W)) := fun A n c W h1 h2 => by
    have h := EngSet.l08Going_any A n c r.e.nx r.e.ps W.heap.size W h1 (Nat.le_refl _) h2
    rw [going_eq (okB_t hok).2.1] at h
    rw [hgg]
    exact h
  obtain ⟨ov, hov⟩ : ∃ v, v = overE r.e := ⟨_, rfl⟩
  have HOV := Lib.hid hov
  have CP : Hid (∀ W, Calls Tryz.prog 156 #[.agg (spL r.e.sp).toArray, .agg #[.int .i64 f1, .int .i64 f2], .agg #[.int .i64 o1, .int .i64 o2], .int .i64 gg] W (Says (.bool ov) W)) := fun W => by
    have h := Cnt.specPlanOver_any r.e.sp.x0 r.e.sp.x1 r.e.sp.x2 r.e.sp.x3 r.e.sp.x4 r.e.sp.x5 r.e.sp.x6 r.e.sp.x7 r.e.sp.x8 r.e.sp.x9 r.e.sp.x10 f1 f2 o1 o2 gg W
    rw [hov, ← over_spec hok, ← hf1, ← hf2, ← ho1, ← ho2, ← hgg]
    exact h
  clear hf1 hf2 ho1 ho2 hgg hov
  obtain ⟨A, n, c, E, m, k, h⟩ := h
  have hn30 : n ≤ 30 := by rw [← h.ps.1]; exact (okB_t hok).2.1.1
  have H := Lib.hid h
  have hbw : b < w.heap.size := h.lt
  clear h hok
  obtain ⟨P0, hP0⟩ : ∃ P0, P0 = w.heap.size := ⟨_, rfl⟩
  go_enter Tryz.func120, Tryz.ntmps120
  have KZ : Hid ((w.alloc (.cells #[.int .i64 0, .int .i64 0, .int .i64 0, .int .i64 0, .int .i64 0, .int .i64 0, .int .i64 0, .int .i64 0, .int .i64 0, .int .i64 0, .int .i64 0, .int .i64 0, .int .i64 0, .int .i64 0, .int .i64 0, .slice none 0 0, .int .i64 0, .int .i64 0, .int .i64 0, .int .i64 0] 36)).heap[w.heap.size]? = some (.cells [.int .i64 0, .int .i64 0, .int .i64 0, .int .i64 0, .int .i64 0, .int .i64 0, .int .i64 0, .int .i64 0, .int .i64 0, .int .i64 0, .int .i64 0, .int .i64 0, .int .i64 0, .int .i64 0, .int .i64 0, .slice none 0 0, .int .i64 0, .int .i64 0, .int .i64 0, .int .i64 0].toArray 36 (0, 0))) := box_new w _
  go_upto_region 1 with (first | (refine wpList_get rfl 36 _ rfl b 0 rfl H.out.box (enL r.e A n c) (moL_en r A n c E m k) Tryz.underlying36 rfl (by kernel_rfl) ?_) | (refine wpList_put rfl rfl 36 _ _ rfl w.heap.size 0 (enL r.e A n c) rfl rfl KZ.out (by kernel_rfl) (enL r.e A n c) rfl (Nat.le_of_ble_eq_true rfl) (enL_one _ _ _ _) ?_))
  obtain ⟨V, hV⟩ : ∃ V, V = (w.alloc (.cells #[.int .i64 0, .int .i64 0, .int .i64 0, .int .i64 0, .int .i64 0, .int .i64 0, .int .i64 0, .int .i64 0, .int .i64 0, .int .i64 0, .int .i64 0, .int .i64 0, .int .i64 0, .int .i64 0, .int .i64 0, .slice none 0 0, .int .i64 0, .int .i64 0, .int .i64 0, .int .i64 0] 36)).setRow w.heap.size (enL r.e A n c).toArray := ⟨_, rfl⟩
  have HBV : Hid (Below w.heap.size w V) := by rw [hV]; exact row_below (bel1 w _) _ _ (Nat.le_refl _) (by simp)
  have KE : Hid (V.heap[P0]? = some (.cells (enL r.e A n c).toArray 36 (0, 0))) := by rw [hV, hP0]; exact row_box KZ.out
  have hbp : b ≠ P0 := by omega
  rw [← hV, ← hP0]
  clear hV KZ hP0
  have H1 := Lib.hid (H.out.below HBV.out)
  have hpv : P0 < V.heap.size := box_lt KE.out
  clear H
  have e11 : V.cell? ⟨P0, 11, none⟩ = some (.int .i64 r.e.now) := box_cell KE.out 11 _ rfl
  have e13 : V.cell? ⟨P0, 13, none⟩ = some (.int .i64 r.e.tg) := box_cell KE.out 13 _ rfl
  go_wp2_with (first | (refine wpList_get rfl 25 _ rfl P0 0 rfl KE.out (spL r.e.sp) (enL_sp r.e A n c) Tryz.underlying25 rfl (by kernel_rfl) ?_) | (refine wpList_get rfl 34 _ rfl P0 15 rfl KE.out (flL A n c r.e.nx) (enL_fl r.e A n c) Tryz.underlying34 rfl (by kernel_rfl) ?_))
  refine (CF.out A n c V H1.out.ps.podsAll (by omega)).mono ?_
  rintro e V20 ⟨rfl, hb⟩
  have KC0 : Hid ((V20.alloc (.cells #[.int .i64 0, .int .i64 0] 190)).heap[V20.heap.size]? = some (.cells [.int .i64 0, .int .i64 0].toArray 190 (0, 0))) := box_new _ _
  clear e11 e13
  go_upto_region 2 with (refine wpList_put rfl rfl 190 _ _ rfl V20.heap.size 0 [.int .i64 f1, .int .i64 f2] rfl rfl KC0.out (by kernel_rfl) [.int .i64 f1, .int .i64 f2] rfl (Nat.le_of_ble_eq_true rfl) (by simp [Value.oneCell']) ?_)
  obtain ⟨V2, hV⟩ : ∃ X, X = (V20.alloc (.cells #[.int .i64 0, .int .i64 0] 190)).setRow V20.heap.size [.int .i64 f1, .int .i64 f2].toArray := ⟨_, rfl⟩
  have hb2 : Below V.heap.size V V2 := by rw [hV]; exact row_below (bel_then hb (bel1 _ _) hb.size) _ _ hb.size (by have := hb.size; simp; omega)
  have KC : Hid (V2.heap[V20.heap.size]? = some (.cells [.int .i64 f1, .int .i64 f2].toArray 190 (0, 0))) := by rw [hV]; exact row_box KC0.out
  have H2 := Lib.hid (H1.out.below hb2)
  have KE2 := Lib.hid (box_below KE.out hb2)
  have HBV2 : Hid (Below w.heap.size w V2) := bel_then HBV.out hb2 HBV.out.size
  obtain ⟨PV2, hPV2⟩ : ∃ X, X = V20.heap.size := ⟨_, rfl⟩
  rw [← hPV2] at KC
  rw [← hV, ← hPV2]
  clear hV hPV2 hb hb2 KC0 H1 KE HBV 
  have e11 : V2.cell? ⟨P0, 11, none⟩ = some (.int .i64 r.e.now) := box_cell KE2.out 11 _ rfl
  have e13 : V2.cell? ⟨P0, 13, none⟩ = some (.int .i64 r.e.tg) := box_cell KE2.out 13 _ rfl
  go_wp2_with (first | (refine wpList_get rfl 25 _ rfl P0 0 rfl KE2.out (spL r.e.sp) (enL_sp r.e A n c) Tryz.underlying25 rfl (by kernel_rfl) ?_) | (refine wpList_get rfl 34 _ rfl P0 15 rfl KE2.out (flL A n c r.e.nx) (enL_fl r.e A n c) Tryz.underlying34 rfl (by kernel_rfl) ?_))
  refine (CO.out A n c V2 H2.out.ps.podsAll (by omega)).mono ?_
  rintro e V30 ⟨rfl, hb⟩
  have KC0 : Hid ((V30.alloc (.cells #[.int .i64 0, .int .i64 0] 190)).heap[V30.heap.size]? = some (.cells [.int .i64 0, .int .i64 0].toArray 190 (0, 0))) := box_new _ _
  clear e11 e13
  go_upto_region 3 with (refine wpList_put rfl rfl 190 _ _ rfl V30.heap.size 0 [.int .i64 o1, .int .i64 o2] rfl rfl KC0.out (by kernel_rfl) [.int .i64 o1, .int .i64 o2] rfl (Nat.le_of_ble_eq_true rfl) (by simp [Value.oneCell']) ?_)
  obtain ⟨V3, hV⟩ : ∃ X, X = (V30.alloc (.cells #[.int .i64 0, .int .i64 0] 190)).setRow V30.heap.size [.int .i64 o1, .int .i64 o2].toArray := ⟨_, rfl⟩
  have hb2 : Below V2.heap.size V2 V3 := by rw [hV]; exact row_below (bel_then hb (bel1 _ _) hb.size) _ _ hb.size (by have := hb.size; simp; omega)
  have KD : Hid (V3.heap[V30.heap.size]? = some (.cells [.int .i64 o1, .int .i64 o2].toArray 190 (0, 0))) := by rw [hV]; exact row_box KC0.out
  have H3 := Lib.hid (H2.out.below hb2)
  have KE3 := Lib.hid (box_below KE2.out hb2)
  have KC3 := Lib.hid (box_below KC.out hb2)
  have HBV3 : Hid (Below w.heap.size w V3) := bel_then HBV2.out hb2 HBV2.out.size
  obtain ⟨PV3, hPV3⟩ : ∃ X, X = V30.heap.size := ⟨_, rfl⟩
  rw [← hPV3] at KD
  rw [← hV, ← hPV3]
  clear hV hPV3 hb hb2 KC0 H2 KE2 HBV2 KC
  have hbd : Below V3.heap.size V3 V3.drew := undrew (Below.refl _ _)
  have HBD := Lib.hid hbd
  clear hbd CF CO
  refine wp_region_held_drew (S := fun w' => w'.rangeAt P0 0 (enL r.e A n c) ∧ w'.rangeAt P0 0 (spL r.e.sp) ∧ w'.rangeAt P0 15 (flL A n c r.e.nx) ∧ w'.rangeAt PV2 0 [.int .i64 f1, .int .i64 f2] ∧ w'.rangeAt PV3 0 [.int .i64 o1, .int .i64 o2]) (by kernel_rfl) ⟨range_of KE3.out (enL_all r.e A n c), range_of KE3.out (enL_sp r.e A n c), range_of KE3.out (enL_fl r.e A n c), range_of KC3.out rfl, range_of KD.out rfl⟩ (fun hHeld => ?_)
  refine wpAnyH_take (i := 0) (v := .agg (enL r.e A n c).toArray) rfl (by kernel_rfl) (by kernel_rfl) (by kernel_rfl) (fun _ _ _ h => h) (yieldsIf_load_mid (by rfl) 36 _ rfl P0 0 rfl (enL r.e A n c) _ (fun w' h => h.1) Tryz.underlying36 rfl (by kernel_rfl)) (by assumption) ?_
  try simp only [Act.put, List.getElem_toArray, List.getElem_cons_zero, List.getElem_cons_succ, List.setIfInBounds_toArray, List.set_cons_zero, List.set_cons_succ]
  refine wpAnyH_ready (rs := [1]) (by kernel_rfl) (by simp) (AllReadyH.cons rfl (fun K hK => ?_) AllReadyH.nil)
  go_simp
  refine (EngSet.l08Moves_any A n c r.e _).mono ?_
  rintro e w4 ⟨rfl, hb⟩
  have hb' : Below V3.heap.size V3 w4 := undrew hb
  have H4 := Lib.hid (H3.out.below hb')
  have KE4 := Lib.hid (box_below KE3.out hb')
  have KC4 := Lib.hid (box_below KC3.out hb')
  have KD4 := Lib.hid (box_below KD.out hb')
  have HB4 : Hid (Below w.heap.size w w4) := bel_then HBV3.out hb' HBV3.out.size
  obtain ⟨mv, hmv⟩ : ∃ mv, mvB r.e.ph = mv := ⟨_, rfl⟩
  rw [hmv] at HRR ⊢
  have HMVB := Lib.hid hmv
  clear hb hb' hHeld H3 KE3 KC3 KD HBV3 HBD hmv
  refine hK _ _ (by exact ⟨range_of KE4.out (enL_all r.e A n c), range_of KE4.out (enL_sp r.e A n c), range_of KE4.out (enL_fl r.e A n c), range_of KC4.out rfl, range_of KD4.out rfl⟩) (fun hHeld => ?_)
  clear hK K
  try simp only [Act.put, List.getElem_toArray, List.getElem_cons_zero, List.getElem_cons_succ, List.setIfInBounds_toArray, List.set_cons_zero, List.set_cons_succ]
  cases mv
  · skip
    refine wpAnyH_take (i := 2) (v := ?v2) rfl (by kernel_rfl) (by kernel_rfl) (by kernel_rfl) (fun _ _ _ h => h) (Or.inl ⟨by rfl, ?hy2⟩) (by assumption) ?_
    case hy2 => (intro w0 hSw; (try dsimp only at hSw); go_simp <;> with_reducible rfl)
    try simp only [Act.put, List.getElem_toArray, List.getElem_cons_zero, List.getElem_cons_succ, List.setIfInBounds_toArray, List.set_cons_zero, List.set_cons_succ]
    refine wpAnyH_take (i := 3) (v := ?v3) rfl (by kernel_rfl) (by kernel_rfl) (by kernel_rfl) (fun _ _ _ h => h) (Or.inl ⟨by rfl, ?hy3⟩) (by assumption) ?_
    case hy3 => (intro w0 hSw; (try dsimp only at hSw); go_simp <;> with_reducible rfl)
    try simp only [Act.put, List.getElem_toArray, List.getElem_cons_zero, List.getElem_cons_succ, List.setIfInBounds_toArray, List.set_cons_zero, List.set_cons_succ]
    refine wpAnyH_take (i := 4) (v := undef) rfl (by kernel_rfl) (by kernel_rfl) (by kernel_rfl) (fun _ _ _ h => h) (Or.inr ⟨by rfl, rfl⟩) (by assumption) ?_
    try simp only [Act.put, List.getElem_toArray, List.getElem_cons_zero, List.getElem_cons_succ, List.setIfInBounds_toArray, List.set_cons_zero, List.set_cons_succ]
    refine wpAnyH_take (i := 5) (v := undef) rfl (by kernel_rfl) (by kernel_rfl) (by kernel_rfl) (fun _ _ _ h => h) (Or.inr ⟨by rfl, rfl⟩) (by assumption) ?_
    try simp only [Act.put, List.getElem_toArray, List.getElem_cons_zero, List.getElem_cons_succ, List.setIfInBounds_toArray, List.set_cons_zero, List.set_cons_succ]
    refine wpAnyH_take (i := 6) (v := undef) rfl (by kernel_rfl) (by kernel_rfl) (by kernel_rfl) (fun _ _ _ h => h) (Or.inr ⟨by rfl, rfl⟩) (by assumption) ?_
    try simp only [Act.put, List.getElem_toArray, List.getElem_cons_zero, List.getElem_cons_succ, List.setIfInBounds_toArray, List.set_cons_zero, List.set_cons_succ]
    refine wpAnyH_take (i := 7) (v := undef) rfl (by kernel_rfl) (by kernel_rfl) (by kernel_rfl) (fun _ _ _ h => h) (Or.inr ⟨by rfl, rfl⟩) (by assumption) ?_
    try simp only [Act.put, List.getElem_toArray, List.getElem_cons_zero, List.getElem_cons_succ, List.setIfInBounds_toArray, List.set_cons_zero, List.set_cons_succ]
    refine wpAnyH_take (i := 8) (v := undef) rfl (by kernel_rfl) (by kernel_rfl) (by kernel_rfl) (fun _ _ _ h => h) (Or.inr ⟨by rfl, rfl⟩) (by assumption) ?_
    try simp only [Act.put, List.getElem_toArray, List.getElem_cons_zero, List.getElem_cons_succ, List.setIfInBounds_toArray, List.set_cons_zero, List.set_cons_succ]
    refine wpAnyH_take (i := 9) (v := undef) rfl (by kernel_rfl) (by kernel_rfl) (by kernel_rfl) (fun _ _ _ h => h) (Or.inr ⟨by rfl, rfl⟩) (by assumption) ?_
    try simp only [Act.put, List.getElem_toArray, List.getElem_cons_zero, List.getElem_cons_succ, List.setIfInBounds_toArray, List.set_cons_zero, List.set_cons_succ]
    refine wpAnyH_take (i := 10) (v := undef) rfl (by kernel_rfl) (by kernel_rfl) (by kernel_rfl) (fun _ _ _ h => h) (Or.inr ⟨by rfl, rfl⟩) (by assumption) ?_
    try simp only [Act.put, List.getElem_toArray, List.getElem_cons_zero, List.getElem_cons_succ, List.setIfInBounds_toArray, List.set_cons_zero, List.set_cons_succ]
    refine wpAnyH_take (i := 11) (v := undef) rfl (by kernel_rfl) (by kernel_rfl) (by kernel_rfl) (fun _ _ _ h => h) (Or.inr ⟨by rfl, rfl⟩) (by assumption) ?_
    try simp only [Act.put, List.getElem_toArray, List.getElem_cons_zero, List.getElem_cons_succ, List.setIfInBounds_toArray, List.set_cons_zero, List.set_cons_succ]
    refine wpAnyH_take (i := 12) (v := undef) rfl (by kernel_rfl) (by kernel_rfl) (by kernel_rfl) (fun _ _ _ h => h) (Or.inr ⟨by rfl, rfl⟩) (by assumption) ?_
    try simp only [Act.put, List.getElem_toArray, List.getElem_cons_zero, List.getElem_cons_succ, List.setIfInBounds_toArray, List.set_cons_zero, List.set_cons_succ]
    refine wpAnyH_take (i := 13) (v := ?v13) rfl (by kernel_rfl) (by kernel_rfl) (by kernel_rfl) (fun _ _ _ h => h) (Or.inl ⟨by rfl, ?hy13⟩) (by assumption) ?_
    case hy13 => (intro w0 hSw; (try dsimp only at hSw); go_simp <;> with_reducible rfl)
    try simp only [Act.put, List.getElem_toArray, List.getElem_cons_zero, List.getElem_cons_succ, List.setIfInBounds_toArray, List.set_cons_zero, List.set_cons_succ]
    refine wpAnyH_done (by kernel_rfl) ?_ _
    have HE : Hid (R = r) := HRR.out
    have HT4 : Hid (Turned S w w4) := Turned.of_below HB4.out
    have HK4 : Hid (Kept w w4) := Kept.below HB4.out
    clear hHeld HRR CP CG
    go_wp2
    go_end0
    exact moved_id ⟨_, _, _, _, _, _, H4.out⟩ HE.out HT4.out HK4.out
  refine wpAnyH_take (i := 2) (v := ?v14) rfl (by kernel_rfl) (by kernel_rfl) (by kernel_rfl) (fun _ _ _ h => h) (Or.inl ⟨by rfl, ?hy14⟩) (by assumption) ?_
  case hy14 => (intro w0 hSw; (try dsimp only at hSw); go_simp <;> with_reducible rfl)
  try simp only [Act.put, List.getElem_toArray, List.getElem_cons_zero, List.getElem_cons_succ, List.setIfInBounds_toArray, List.set_cons_zero, List.set_cons_succ]
  refine wpAnyH_take (i := 3) (v := ?v15) rfl (by kernel_rfl) (by kernel_rfl) (by kernel_rfl) (fun _ _ _ h => h) (Or.inl ⟨by rfl, ?hy15⟩) (by assumption) ?_
  case hy15 => (intro w0 hSw; (try dsimp only at hSw); go_simp <;> with_reducible rfl)
  try simp only [Act.put, List.getElem_toArray, List.getElem_cons_zero, List.getElem_cons_succ, List.setIfInBounds_toArray, List.set_cons_zero, List.set_cons_succ]
  refine wpAnyH_take (i := 4) (v := ?v16) rfl (by kernel_rfl) (by kernel_rfl) (by kernel_rfl) (fun _ _ _ h => h) (Or.inl ⟨by rfl, ?hy16⟩) (by assumption) ?_
  case hy16 => (intro w0 hSw; (try dsimp only at hSw); go_simp <;> with_reducible rfl)
  try simp only [Act.put, List.getElem_toArray, List.getElem_cons_zero, List.getElem_cons_succ, List.setIfInBounds_toArray, List.set_cons_zero, List.set_cons_succ]
  refine wpAnyH_take (i := 5) (v := .agg (spL r.e.sp).toArray) rfl (by kernel_rfl) (by kernel_rfl) (by kernel_rfl) (fun _ _ _ h => h) (yieldsIf_load_mid (by rfl) 25 _ rfl P0 0 rfl (spL r.e.sp) _ (fun w' h => h.2.1) Tryz.underlying25 rfl (by kernel_rfl)) (by assumption) ?_
  try simp only [Act.put, List.getElem_toArray, List.getElem_cons_zero, List.getElem_cons_succ, List.setIfInBounds_toArray, List.set_cons_zero, List.set_cons_succ]
  refine wpAnyH_take (i := 6) (v := .agg ([.int .i64 f1, .int .i64 f2]).toArray) rfl (by kernel_rfl) (by kernel_rfl) (by kernel_rfl) (fun _ _ _ h => h) (yieldsIf_load_mid (by rfl) 190 _ rfl PV2 0 rfl ([.int .i64 f1, .int .i64 f2]) _ (fun w' h => h.2.2.2.1) Tryz.underlying190 rfl (by kernel_rfl)) (by assumption) ?_
  try simp only [Act.put, List.getElem_toArray, List.getElem_cons_zero, List.getElem_cons_succ, List.setIfInBounds_toArray, List.set_cons_zero, List.set_cons_succ]
  refine wpAnyH_take (i := 7) (v := .agg ([.int .i64 o1, .int .i64 o2]).toArray) rfl (by kernel_rfl) (by kernel_rfl) (by kernel_rfl) (fun _ _ _ h => h) (yieldsIf_load_mid (by rfl) 190 _ rfl PV3 0 rfl ([.int .i64 o1, .int .i64 o2]) _ (fun w' h => h.2.2.2.2) Tryz.underlying190 rfl (by kernel_rfl)) (by assumption) ?_
  try simp only [Act.put, List.getElem_toArray, List.getElem_cons_zero, List.getElem_cons_succ, List.setIfInBounds_toArray, List.set_cons_zero, List.set_cons_succ]
  refine wpAnyH_take (i := 8) (v := ?v17) rfl (by kernel_rfl) (by kernel_rfl) (by kernel_rfl) (fun _ _ _ h => h) (Or.inl ⟨by rfl, ?hy17⟩) (by assumption) ?_
  case hy17 => (intro w0 hSw; (try dsimp only at hSw); go_simp <;> with_reducible rfl)
  try simp only [Act.put, List.getElem_toArray, List.getElem_cons_zero, List.getElem_cons_succ, List.setIfInBounds_toArray, List.set_cons_zero, List.set_cons_succ]
  refine wpAnyH_take (i := 9) (v := .agg (flL A n c r.e.nx).toArray) rfl (by kernel_rfl) (by kernel_rfl) (by kernel_rfl) (fun _ _ _ h => h) (yieldsIf_load_mid (by rfl) 34 _ rfl P0 15 rfl (flL A n c r.e.nx) _ (fun w' h => h.2.2.1) Tryz.underlying34 rfl (by kernel_rfl)) (by assumption) ?_
  try simp only [Act.put, List.getElem_toArray, List.getElem_cons_zero, List.getElem_cons_succ, List.setIfInBounds_toArray, List.set_cons_zero, List.set_cons_succ]
  refine wpAnyH_ready (rs := [10]) (by kernel_rfl) (by simp) (AllReadyH.cons rfl (fun K hK => ?_) AllReadyH.nil)
  go_simp
  refine (CG.out A n c _ (by exact H4.out.ps.podsAll) (by omega)).mono ?_
  rintro e w5 ⟨rfl, hb⟩
  have H5 := Lib.hid (H4.out.below hb)
  have KE5 := Lib.hid (box_below KE4.out hb)
  have KC5 := Lib.hid (box_below KC4.out hb)
  have KD5 := Lib.hid (box_below KD4.out hb)
  have HB5 : Hid (Below w.heap.size w w5) := bel_then HB4.out hb HB4.out.size
  clear hb hHeld H4 KE4 KC4 KD4 HB4 CG
  refine hK _ _ (by exact ⟨range_of KE5.out (enL_all r.e A n c), range_of KE5.out (enL_sp r.e A n c), range_of KE5.out (enL_fl r.e A n c), range_of KC5.out rfl, range_of KD5.out rfl⟩) (fun hHeld => ?_)
  clear hK K
  try simp only [Act.put, List.getElem_toArray, List.getElem_cons_zero, List.getElem_cons_succ, List.setIfInBounds_toArray, List.set_cons_zero, List.set_cons_succ]
  refine wpAnyH_ready (rs := [11]) (by kernel_rfl) (by simp) (AllReadyH.cons rfl (fun K hK => ?_) AllReadyH.nil)
  go_simp
  refine (CP.out _).mono ?_
  rintro e w6 ⟨rfl, hb⟩
  have H6 := Lib.hid (H5.out.below hb)
  have KE6 := Lib.hid (box_below KE5.out hb)
  have KC6 := Lib.hid (box_below KC5.out hb)
  have KD6 := Lib.hid (box_below KD5.out hb)
  have HB6 : Hid (Below w.heap.size w w6) := bel_then HB5.out hb HB5.out.size
  clear hb hHeld H5 KE5 KC5 KD5 HB5 CP
  refine hK _ _ (by exact ⟨range_of KE6.out (enL_all r.e A n c), range_of KE6.out (enL_sp r.e A n c), range_of KE6.out (enL_fl r.e A n c), range_of KC6.out rfl, range_of KD6.out rfl⟩) (fun hHeld => ?_)
  clear hK K
  try simp only [Act.put, List.getElem_toArray, List.getElem_cons_zero, List.getElem_cons_succ, List.setIfInBounds_toArray, List.set_cons_zero, List.set_cons_succ]
  refine wpAnyH_take (i := 12) (v := ?v20) rfl (by kernel_rfl) (by kernel_rfl) (by kernel_rfl) (fun _ _ _ h => h) (Or.inl ⟨by rfl, ?hy20⟩) (by assumption) ?_
  case hy20 => (intro w0 hSw; (try dsimp only at hSw); go_simp <;> with_reducible rfl)
  try simp only [Act.put, List.getElem_toArray, List.getElem_cons_zero, List.getElem_cons_succ, List.setIfInBounds_toArray, List.set_cons_zero, List.set_cons_succ]
  refine wpAnyH_take (i := 13) (v := ?v21) rfl (by kernel_rfl) (by kernel_rfl) (by kernel_rfl) (fun _ _ _ h => h) (Or.inl ⟨by rfl, ?hy21⟩) (by assumption) ?_
  case hy21 => (intro w0 hSw; (try dsimp only at hSw); go_simp <;> with_reducible rfl)
  try simp only [Act.put, List.getElem_toArray, List.getElem_cons_zero, List.getElem_cons_succ, List.setIfInBounds_toArray, List.set_cons_zero, List.set_cons_succ]
  refine wpAnyH_done (by kernel_rfl) ?_ _
  have HT6 : Hid (Turned S w w6) := Turned.of_below HB6.out
  have HK6 : Hid (Kept w w6) := Kept.below HB6.out
  have HR6 : Hid (R = if ov then (if r.e.ph = 1 then r.makeGood.enter 0 else if r.e.ph = 2 then r.enter 3 else r) else r) := by show _ = _; rw [HRR.out, HOV.out]; rfl
  clear hHeld HRR HOV KC6 KD6 HB6
  cases ov
  · have HE : Hid (R = r) := HR6.out
    clear HR6
    go_wp2
    go_end0
    exact moved_id ⟨_, _, _, _, _, _, H6.out⟩ HE.out HT6.out HK6.out
  have HR7 : Hid (R = if r.e.ph = 1 then r.makeGood.enter 0 else if r.e.ph = 2 then r.enter 3 else r) := HR6.out
  clear HR6
  have e12 : w6.cell? ⟨P0, 12, none⟩ = some (.int .i64 r.e.ph) := box_cell KE6.out 12 _ rfl
  by_cases hp2 : r.e.ph = 2
  · have hq2 : (r.e.ph == 2) = true := by simp [hp2]
    have HE : Hid (R = r.enter 3) := by show _ = _; rw [HR7.out, if_neg (by omega), if_pos hp2]
    clear hp2 HR7
    go_wp2_with fail
    refine (phase_any w6 S b r 3 ⟨_, _, _, _, _, _, H6.out⟩ (by omega)).mono ?_
    intro e w7 hmv
    have HMV := Lib.hid (Moved.step (fun q hq => .inl hq) HT6.out HK6.out hmv)
    obtain ⟨rfl, _⟩ := hmv
    clear e12 hq2
    go_wp2
    go_end0
    rw [HE.out]
    exact HMV.out
  have hq2 : (r.e.ph == 2) = false := by simp [hp2]
  have HE : Hid (R = r.makeGood.enter 0) := by
    show _ = _
    have h1 := HMVB.out
    simp only [mvB, Bool.or_eq_true, decide_eq_true_eq] at h1
    rw [HR7.out, if_pos (by omega)]
  clear hp2 HR7
  have e13 : w6.cell? ⟨P0, 13, none⟩ = some (.int .i64 r.e.tg) := box_cell KE6.out 13 _ rfl
  have e14 : w6.cell? ⟨P0, 14, none⟩ = some (.int .i64 r.e.gd) := box_cell KE6.out 14 _ rfl
  by_cases hgt : r.e.gd = r.e.tg
  · have hq3 : (r.e.gd != r.e.tg) = false := by simp [hgt]
    have HE2 : Hid (R = r.enter 0) := by show _ = _; rw [HE.out, Run.makeGood, if_pos hgt]
    clear hgt HE
    go_wp2_with fail
    refine (phase_any w6 S b r 0 ⟨_, _, _, _, _, _, H6.out⟩ (by omega)).mono ?_
    intro e w7 hmv
    have HMV := Lib.hid (Moved.step (fun q hq => .inl hq) HT6.out HK6.out hmv)
    obtain ⟨rfl, _⟩ := hmv
    clear e12 e13 e14 hq2 hq3
    go_wp2
    go_end0
    rw [HE2.out]
    exact HMV.out
  have hq3 : (r.e.gd != r.e.tg) = true := by simp [hgt]
  have HE2 : Hid (R = (({ r with e := { r.e with gd := r.e.tg } } : Run).tell 3 r.e.tg r.e.gd).enter 0) := by show _ = _; rw [HE.out, Run.makeGood, if_neg hgt]
  clear hgt HE
  go_wp2_with fail
  refine (tell_any w6 S b r 3 r.e.tg r.e.gd ⟨_, _, _, _, _, _, H6.out⟩ (by omega)).mono ?_
  intro e w7 hmv
  have KE7 : Hid (w7.heap[P0]? = some (.cells (enL r.e A n c).toArray 36 (0, 0))) := hmv.2.choose_spec.2.2.2 _ _ _ _ (by decide) (by decide) KE6.out
  obtain ⟨rfl, ha⟩ := Amid.call (fun q hq => .inl hq) HT6.out HK6.out hmv
  obtain ⟨S7, hm7, hs7, ht7, hk7⟩ := ha
  have HS7 := Lib.hid hs7
  have HT7 := Lib.hid ht7
  have HK7 := Lib.hid hk7
  obtain ⟨A7, n7, c7, E7, m7, k7, h7⟩ := hm7
  have H7 := Lib.hid h7
  clear hmv hs7 ht7 hk7 h7 e12 e13 e14 hq2 hq3 H6 HT6 HK6 KE6
  have e13 : w7.cell? ⟨P0, 13, none⟩ = some (.int .i64 r.e.tg) := box_cell KE7.out 13 _ rfl
  have d14 : w7.cell? ⟨b, 14, none⟩ = some (.int .i64 r.e.gd) := box_cell H7.out.box 14 _ rfl
  have f14 := box_frozen H7.out.box 14
  go_upto_region 9 with fail
  obtain ⟨W, hW⟩ : ∃ W, W = w7.setCell ⟨b, 14, none⟩ (.int .i64 r.e.tg) := ⟨_, rfl⟩
  have H8 : Hid (ModAt W S7 b (({ r with e := { r.e with gd := r.e.tg } } : Run).tell 3 r.e.tg r.e.gd) A7 n7 c7 E7 m7 k7) := by
    rw [hW, set_row (i := 14) H7.out.box (.int .i64 r.e.tg) (moL (({ r with e := { r.e with gd := r.e.tg } } : Run).tell 3 r.e.tg r.e.gd) A7 n7 c7 E7 m7 k7) rfl]
    exact H7.out.row rfl rfl
  have HT8 : Hid (Turned S w W) := by rw [hW]; exact turned_then HS7.out HT7.out (Turned.set _ _ _ H7.out.sb)
  have HK8 : Hid (Kept w W) := by rw [hW]; exact HK7.out.trans (Kept.set H7.out.box (.inl rfl) _)
  rw [← hW]
  clear hW e13 d14 f14 H7 HT7 HK7 KE7
  go_wp2_with fail
  refine (phase_any W S7 b (({ r with e := { r.e with gd := r.e.tg } } : Run).tell 3 r.e.tg r.e.gd) 0 ⟨_, _, _, _, _, _, H8.out⟩ (by simp [Run.tell]; omega)).mono ?_
  intro e w9 hmv
  have HMV := Lib.hid (Moved.step HS7.out HT8.out HK8.out hmv)
  obtain ⟨rfl, _⟩ := hmv
  go_wp2
  go_end0
  rw [HE2.out]
  exact HMV.out
end Go.Proofs.YtdefckbgcggnoaaGreat.Mod
