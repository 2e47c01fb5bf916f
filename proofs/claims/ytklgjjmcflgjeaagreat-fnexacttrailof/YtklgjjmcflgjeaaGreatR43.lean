import Derived.Test.YtklgjjmcflgjeaaGreatQ
import Derived.Test.YtklgjjmcflgjeaaGreatR01
import Derived.Test.YtklgjjmcflgjeaaGreatR15
import Derived.Test.YtklgjjmcflgjeaaGreatR22
import Derived.Test.YtklgjjmcflgjeaaGreatR39
import Derived.Test.YtklgjjmcflgjeaaGreatR41
import Derived.Test.YtklgjjmcflgjeaaGreatR42
set_option linter.unusedVariables false
set_option linter.unusedSimpArgs false
namespace Go.Proofs.YtklgjjmcflgjeaaGreat.Mod
open Go.ChangeShapes Go.WideShapes Go.ChangeAt Go.RowKit
open LK Pods EngV EngCnt Eng Seg
theorem over_spec {e : Eng} (h : e.okB = true) : Cnt.overB e.sp.x0 e.sp.x1 e.sp.x2 e.sp.x3 e.sp.x4 e.sp.x5 e.sp.x6 e.sp.x7 e.sp.x8 e.sp.x9 e.sp.x10 (live e false) (good e false) (live e true) (good e true) (going e) = overE e := by
  obtain ⟨h1, h2, _⟩ := okB_t h
  have h1' : Sp.specB e.sp.x0 e.sp.x1 e.sp.x2 e.sp.x3 e.sp.x4 e.sp.x5 e.sp.x6 e.sp.x7 e.sp.x8 e.sp.x9 e.sp.x10 = true := h1
  have hp := EngCnt.part e
  have g0 := good_le e false
  have g1 := good_le e true
  have hl := h2.1
  have c0 : Cnt.countB (live e false) (good e false) = true := by simp [Cnt.countB, Tick.inB]; omega
  have c1 : Cnt.countB (live e true) (good e true) = true := by simp [Cnt.countB, Tick.inB]; omega
  simp only [Cnt.overB, h1', c0, c1, Bool.true_and, overE]
  rw [Bool.eq_iff_iff]
  simp only [Bool.and_eq_true, decide_eq_true_eq]
  omega
theorem moved_id {w w' : World} {S : Nat → Prop} {b : Nat} {r r' : Run} {x : Value} (h : Mod w' S b r) (he : r' = r) (ht : Turned S w w') (hk : Kept w w') : Moved b r' x S w (.returned x) w' := by
  rw [he]
  exact ⟨rfl, S, h, fun q hq => .inl hq, ht, hk⟩
set_option maxRecDepth 100000 in
set_option maxHeartbeats 12800000 in
theorem over_any (w : World) (S : Nat → Prop) (b : Nat) (r : Run) (h : Mod w S b r) (hok : r.e.okB = true) (hl : r.ev.length ≤ 900000) :
    Calls Tryz.prog 145 #[.pointer (some ⟨b, 0, none⟩)] w (Moved b (if mvB r.e.ph then r.over else r) (.tuple #[]) S w) := by
  obtain ⟨R, hR⟩ : ∃ R, R = if mvB r.e.ph then r.over else r := ⟨_, rfl⟩
  rw [← hR]
  have HRR := Lib.hid hR
  clear hR
  obtain ⟨f1, hf1⟩ : ∃ x : Int, x = (live r.e false : Int) := ⟨_, rfl⟩
  obtain ⟨f2, hf2⟩ : ∃ x : Int, x = (good r.e false : Int) := ⟨_, rfl⟩
  obtain ⟨o1, ho1⟩ : ∃ x : Int, x = (live r.e true : Int) := ⟨_, rfl⟩
  obtain ⟨o2, ho2⟩ : ∃ x : Int, x = (good r.e true : Int) := ⟨_, rfl⟩
  obtain ⟨gg, hgg⟩ : ∃ x : Int, x = (going r.e : Int) := ⟨_, rfl⟩
  have CF : Hid (∀ (A : Option Addr) (n c : Nat) (W : World), IsPods W W.heap.size A n r.e.ps → n ≤ 1048576 → Calls Tryz.prog 186 #[.agg (spL r.e.sp).toArray, .agg (flL A n c r.e.nx).toArray, .int .i64 r.e.tg, .int .i64 r.e.now] W (Says (.tuple #[.agg #[.int .i64 f1, .int .i64 f2], .bool true]) W)) := fun A n c W h1 h2 => by
    have h := CountS.specCountOf_any r.e.sp.x0 r.e.sp.x1 r.e.sp.x2 r.e.sp.x3 r.e.sp.x4 r.e.sp.x5 r.e.sp.x6 r.e.sp.x7 r.e.sp.x8 r.e.sp.x9 r.e.sp.x10 r.e.tg r.e.now A n c r.e.nx r.e.ps W.heap.size W h1 (Nat.le_refl _) h2
    rw [Mach.countT_ok hok false] at h
    rw [hf1, hf2]
    exact h
  have CO : Hid (∀ (A : Option Addr) (n c : Nat) (W : World), IsPods W W.heap.size A n r.e.ps → n ≤ 1048576 → Calls Tryz.prog 187 #[.agg (spL r.e.sp).toArray, .agg (flL A n c r.e.nx).toArray, .int .i64 r.e.tg, .int .i64 r.e.now] W (Says (.tuple #[.agg #[.int .i64 o1, .int .i64 o2], .bool true]) W)) := fun A n c W h1 h2 => by
    have h := CountS.specRestOf_any r.e.sp.x0 r.e.sp.x1 r.e.sp.x2 r.e.sp.x3 r.e.sp.x4 r.e.sp.x5 r.e.sp.x6 r.e.sp.x7 r.e.sp.x8 r.e.sp.x9 r.e.sp.x10 r.e.tg r.e.now A n c r.e.nx r.e.ps W.heap.size W h1 (Nat.le_refl _) h2
    rw [Mach.countT_ok hok true] at h
    rw [ho1, ho2]
    exact h
  have CG : Hid (∀ (A : Option Addr) (n c : Nat) (W : World), IsPods W W.heap.size A n r.e.ps → n ≤ 1048576 → Calls Tryz.prog 55 #[.agg (flL A n c r.e.nx).toArray] W (Says (.int .i64 gg) W)) := fun A n c W h1 h2 => by
    have h := EngSet.l08Going_any A n c r.e.nx r.e.ps W.heap.size W h1 (Nat.le_refl _) h2
    rw [going_eq (okB_t hok).2.1] at h
    rw [hgg]
    exact h
  obtain ⟨ov, hov⟩ : ∃ v, v = overE r.e := ⟨_, rfl⟩
  have HOV := Lib.hid hov
  have CP : Hid (∀ W, Calls Tryz.prog 193 #[.agg (spL r.e.sp).toArray, .agg #[.int .i64 f1, .int .i64 f2], .agg #[.int .i64 o1, .int .i64 o2], .int .i64 gg] W (Says (.bool ov) W)) := fun W => by
    have h := Cnt.specPlanOver_any r.e.sp.x0 r.e.sp.x1 r.e.sp.x2 r.e.sp.x3 r.e.sp.x4 r.e.sp.x5 r.e.sp.x6 r.e.sp.x7 r.e.sp.x8 r.e.sp.x9 r.e.sp.x10 f1 f2 o1 o2 gg W
    rw [hov, ← over_spec hok, ← hf1, ← hf2, ← ho1, ← ho2, ← hgg]
    exact h
  clear hf1 hf2 ho1 ho2 hgg hov
  obtain ⟨A, n, c, E, m, k, h⟩ := h
  have hn30 : n ≤ 30 := by rw [← h.ps.1]; exact (okB_t hok).2.1.1
  have H := Lib.hid h
  have hbw : b < w.heap.size := h.lt
  clear h hok
  obtain ⟨P0, hP0⟩ : ∃ P0, P0 = w.heap.size := ⟨_, rfl⟩
  go_enter Tryz.func145, Tryz.ntmps145
  have KZ : Hid ((w.alloc (.cells #[.int .i64 0, .int .i64 0, .int .i64 0, .int .i64 0, .int .i64 0, .int .i64 0, .int .i64 0, .int .i64 0, .int .i64 0, .int .i64 0, .int .i64 0, .int .i64 0, .int .i64 0, .int .i64 0, .int .i64 0, .slice none 0 0, .int .i64 0, .int .i64 0, .int .i64 0, .int .i64 0] 36)).heap[w.heap.size]? = some (.cells [.int .i64 0, .int .i64 0, .int .i64 0, .int .i64 0, .int .i64 0, .int .i64 0, .int .i64 0, .int .i64 0, .int .i64 0, .int .i64 0, .int .i64 0, .int .i64 0, .int .i64 0, .int .i64 0, .int .i64 0, .slice none 0 0, .int .i64 0, .int .i64 0, .int .i64 0, .int .i64 0].toArray 36 (0, 0))) := box_new w _
  go_upto_region 1 with (first | (refine wpList_get rfl 36 _ rfl b 0 rfl H.out.box (enL r.e A n c) (moL_en r A n c E m k) Tryz.underlying36 rfl (by kernel_rfl) ?_) | (refine wpList_put rfl rfl 36 _ _ rfl w.heap.size 0 (enL r.e A n c) rfl rfl KZ.out (by kernel_rfl) (enL r.e A n c) rfl (Nat.le_of_ble_eq_true rfl) (enL_one _ _ _ _) ?_))
  obtain ⟨V, hV⟩ : ∃ V, V = (w.alloc (.cells #[.int .i64 0, .int .i64 0, .int .i64 0, .int .i64 0, .int .i64 0, .int .i64 0, .int .i64 0, .int .i64 0, .int .i64 0, .int .i64 0, .int .i64 0, .int .i64 0, .int .i64 0, .int .i64 0, .int .i64 0, .slice none 0 0, .int .i64 0, .int .i64 0, .int .i64 0, .int .i64 0] 36)).setRow w.heap.size (enL r.e A n c).toArray := ⟨_, rfl⟩
  have HBV : Hid (Below w.heap.size w V) := by rw [hV]; exact row_below (bel1 w _) _ _ (Nat.le_refl _) (by simp)
  have KE : Hid (V.heap[P0]? = some (.cells (enL r.e A n c).toArray 36 (0, 0))) := by rw [hV, hP0]; exact row_box KZ.out
  have hbp : b ≠ P0 := by omega
  rw [← hV, ← hP0]
  clear hV KZ hP0
  have H1 := Lib.hid (H.out.below HBV.out)
  have hpv : P0 < V.heap.size := box_lt KE.out
  clear H
  have e11 : V.cell? ⟨P0, 11, none⟩ = some (.int .i64 r.e.now) := box_cell KE.out 11 _ rfl
  have e13 : V.cell? ⟨P0, 13, none⟩ = some (.int .i64 r.e.tg) := box_cell KE.out 13 _ rfl
  go_wp2_with (first | (refine wpList_get rfl 25 _ rfl P0 0 rfl KE.out (spL r.e.sp) (enL_sp r.e A n c) Tryz.underlying25 rfl (by kernel_rfl) ?_) | (refine wpList_get rfl 34 _ rfl P0 15 rfl KE.out (flL A n c r.e.nx) (enL_fl r.e A n c) Tryz.underlying34 rfl (by kernel_rfl) ?_))
  refine (CF.out A n c V H1.out.ps.podsAll (by omega)).mono ?_
  rintro e V20 ⟨rfl, hb⟩
  have KC0 : Hid ((V20.alloc (.cells #[.int .i64 0, .int .i64 0] 231)).heap[V20.heap.size]? = some (.cells [.int .i64 0, .int .i64 0].toArray 231 (0, 0))) := box_new _ _
  clear e11 e13
  go_upto_region 2 with (refine wpList_put rfl rfl 231 _ _ rfl V20.heap.size 0 [.int .i64 f1, .int .i64 f2] rfl rfl KC0.out (by kernel_rfl) [.int .i64 f1, .int .i64 f2] rfl (Nat.le_of_ble_eq_true rfl) (by simp [Value.oneCell']) ?_)
  obtain ⟨V2, hV⟩ : ∃ X, X = (V20.alloc (.cells #[.int .i64 0, .int .i64 0] 231)).setRow V20.heap.size [.int .i64 f1, .int .i64 f2].toArray := ⟨_, rfl⟩
  have hb2 : Below V.heap.size V V2 := by rw [hV]; exact row_below (bel_then hb (bel1 _ _) hb.size) _ _ hb.size (by have := hb.size; simp; omega)
  have KC : Hid (V2.heap[V20.heap.size]? = some (.cells [.int .i64 f1, .int .i64 f2].toArray 231 (0, 0))) := by rw [hV]; exact row_box KC0.out
  have H2 := Lib.hid (H1.out.below hb2)
  have KE2 := Lib.hid (box_below KE.out hb2)
  have HBV2 : Hid (Below w.heap.size w V2) := bel_then HBV.out hb2 HBV.out.size
  obtain ⟨PV2, hPV2⟩ : ∃ X, X = V20.heap.size := ⟨_, rfl⟩
  rw [← hPV2] at KC
  rw [← hV, ← hPV2]
  clear hV hPV2 hb hb2 KC0 H1 KE HBV 
  have e11 : V2.cell? ⟨P0, 11, none⟩ = some (.int .i64 r.e.now) := box_cell KE2.out 11 _ rfl
  have e13 : V2.cell? ⟨P0, 13, none⟩ = some (.int .i64 r.e.tg) := box_cell KE2.out 13 _ rfl
  go_wp2_with (first | (refine wpList_get rfl 25 _ rfl P0 0 rfl KE2.out (spL r.e.sp) (enL_sp r.e A n c) Tryz.underlying25 rfl (by kernel_rfl) ?_) | (refine wpList_get rfl 34 _ rfl P0 15 rfl KE2.out (flL A n c r.e.nx) (enL_fl r.e A n c) Tryz.underlying34 rfl (by kernel_rfl) ?_))
  refine (CO.out A n c V2 H2.out.ps.podsAll (by omega)).mono ?_
  rintro e V30 ⟨rfl, hb⟩
  have KC0 : Hid ((V30.alloc (.cells #[.int .i64 0, .int .i64 0] 231)).heap[V30.heap.size]? = some (.cells [.int .i64 0, .int .i64 0].toArray 231 (0, 0))) := box_new _ _
  clear e11 e13
  go_upto_region 3 with (refine wpList_put rfl rfl 231 _ _ rfl V30.heap.size 0 [.int .i64 o1, .int .i64 o2] rfl rfl KC0.out (by kernel_rfl) [.int .i64 o1, .int .i64 o2] rfl (Nat.le_of_ble_eq_true rfl) (by simp [Value.oneCell']) ?_)
  obtain ⟨V3, hV⟩ : ∃ X, X = (V30.alloc (.cells #[.int .i64 0, .int .i64 0] 231)).setRow V30.heap.size [.int .i64 o1, .int .i64 o2].toArray := ⟨_, rfl⟩
  have hb2 : Below V2.heap.size V2 V3 := by rw [hV]; exact row_below (bel_then hb (bel1 _ _) hb.size) _ _ hb.size (by have := hb.size; simp; omega)
  have KD : Hid (V3.heap[V30.heap.size]? = some (.cells [.int .i64 o1, .int .i64 o2].toArray 231 (0, 0))) := by rw [hV]; exact row_box KC0.out
  have H3 := Lib.hid (H2.out.below hb2)
  have KE3 := Lib.hid (box_below KE2.out hb2)
  have KC3 := Lib.hid (box_below KC.out hb2)
  have HBV3 : Hid (Below w.heap.size w V3) := bel_then HBV2.out hb2 HBV2.out.size
  obtain ⟨PV3, hPV3⟩ : ∃ X, X = V30.heap.size := ⟨_, rfl⟩
  rw [← hPV3] at KD
  rw [← hV, ← hPV3]
  clear hV hPV3 hb hb2 KC0 H2 KE2 HBV2 KC
  have hbd : Below V3.heap.size V3 V3.drew := undrew (Below.refl _ _)
  have HBD := Lib.hid hbd
  clear hbd CF CO
  refine wp_region_held_drew (S := fun w' => w'.rangeAt P0 0 (enL r.e A n c) ∧ w'.rangeAt P0 0 (spL r.e.sp) ∧ w'.rangeAt P0 15 (flL A n c r.e.nx) ∧ w'.rangeAt PV2 0 [.int .i64 f1, .int .i64 f2] ∧ w'.rangeAt PV3 0 [.int .i64 o1, .int .i64 o2]) (by kernel_rfl) ⟨range_of KE3.out (enL_all r.e A n c), range_of KE3.out (enL_sp r.e A n c), range_of KE3.out (enL_fl r.e A n c), range_of KC3.out rfl, range_of KD.out rfl⟩ (fun hHeld => ?_)
  refine tkj (i := 0) (v := .agg (enL r.e A n c).toArray) rfl (yieldsIf_load_mid (by rfl) 36 _ rfl P0 0 rfl (enL r.e A n c) _ (fun w' h => h.1) Tryz.underlying36 rfl (by kernel_rfl)) ?_
  try simp only [Act.put, pj]
  refine wpAnyH_ready (rs := [1]) (by kernel_rfl) (by simp) (AllReadyH.cons rfl (fun K hK => ?_) AllReadyH.nil)
  go_simp
  refine (EngSet.l08Moves_any A n c r.e _).mono ?_
  rintro e w4 ⟨rfl, hb⟩
  have hb' : Below V3.heap.size V3 w4 := undrew hb
  have H4 := Lib.hid (H3.out.below hb')
  have KE4 := Lib.hid (box_below KE3.out hb')
  have KC4 := Lib.hid (box_below KC3.out hb')
  have KD4 := Lib.hid (box_below KD.out hb')
  have HB4 : Hid (Below w.heap.size w w4) := bel_then HBV3.out hb' HBV3.out.size
  obtain ⟨mv, hmv⟩ : ∃ mv, mvB r.e.ph = mv := ⟨_, rfl⟩
  rw [hmv] at HRR ⊢
  have HMVB := Lib.hid hmv
  clear hb hb' hHeld H3 KE3 KC3 KD HBV3 HBD hmv
  refine hK _ _ (by exact ⟨range_of KE4.out (enL_all r.e A n c), range_of KE4.out (enL_sp r.e A n c), range_of KE4.out (enL_fl r.e A n c), range_of KC4.out rfl, range_of KD4.out rfl⟩) (fun hHeld => ?_)
  clear hK K
  try simp only [Act.put, pj]
  cases mv
  · skip
    refine tkk (i := 2) rfl ?_
    try simp only [Act.put, pj]
    refine tkk (i := 3) rfl ?_
    try simp only [Act.put, pj]
    refine tkj (i := 4) (v := undef) rfl (Or.inr ⟨by rfl, rfl⟩) ?_
    try simp only [Act.put, pj]
    refine tkj (i := 5) (v := undef) rfl (Or.inr ⟨by rfl, rfl⟩) ?_
    try simp only [Act.put, pj]
    refine tkj (i := 6) (v := undef) rfl (Or.inr ⟨by rfl, rfl⟩) ?_
    try simp only [Act.put, pj]
    refine tkj (i := 7) (v := undef) rfl (Or.inr ⟨by rfl, rfl⟩) ?_
    try simp only [Act.put, pj]
    refine tkj (i := 8) (v := undef) rfl (Or.inr ⟨by rfl, rfl⟩) ?_
    try simp only [Act.put, pj]
    refine tkj (i := 9) (v := undef) rfl (Or.inr ⟨by rfl, rfl⟩) ?_
    try simp only [Act.put, pj]
    refine tkj (i := 10) (v := undef) rfl (Or.inr ⟨by rfl, rfl⟩) ?_
    try simp only [Act.put, pj]
    refine tkj (i := 11) (v := undef) rfl (Or.inr ⟨by rfl, rfl⟩) ?_
    try simp only [Act.put, pj]
    refine tkj (i := 12) (v := undef) rfl (Or.inr ⟨by rfl, rfl⟩) ?_
    try simp only [Act.put, pj]
    refine tkk (i := 13) rfl ?_
    try simp only [Act.put, pj]
    refine wpAnyH_done (by kernel_rfl) ?_ _
    have HE : Hid (R = r) := HRR.out
    have HT4 : Hid (Turned S w w4) := Turned.of_below HB4.out
    have HK4 : Hid (Kept w w4) := Kept.below HB4.out
    clear hHeld HRR CP CG
    go_wp2
    go_end0
    exact moved_id ⟨_, _, _, _, _, _, H4.out⟩ HE.out HT4.out HK4.out
  refine tkk (i := 2) rfl ?_
  try simp only [Act.put, pj]
  refine tkk (i := 3) rfl ?_
  try simp only [Act.put, pj]
  refine tkk (i := 4) rfl ?_
  try simp only [Act.put, pj]
  refine tkj (i := 5) (v := .agg (spL r.e.sp).toArray) rfl (yieldsIf_load_mid (by rfl) 25 _ rfl P0 0 rfl (spL r.e.sp) _ (fun w' h => h.2.1) Tryz.underlying25 rfl (by kernel_rfl)) ?_
  try simp only [Act.put, pj]
  refine tkj (i := 6) (v := .agg ([.int .i64 f1, .int .i64 f2]).toArray) rfl (yieldsIf_load_mid (by rfl) 231 _ rfl PV2 0 rfl ([.int .i64 f1, .int .i64 f2]) _ (fun w' h => h.2.2.2.1) Tryz.underlying231 rfl (by kernel_rfl)) ?_
  try simp only [Act.put, pj]
  refine tkj (i := 7) (v := .agg ([.int .i64 o1, .int .i64 o2]).toArray) rfl (yieldsIf_load_mid (by rfl) 231 _ rfl PV3 0 rfl ([.int .i64 o1, .int .i64 o2]) _ (fun w' h => h.2.2.2.2) Tryz.underlying231 rfl (by kernel_rfl)) ?_
  try simp only [Act.put, pj]
  refine tkk (i := 8) rfl ?_
  try simp only [Act.put, pj]
  refine tkj (i := 9) (v := .agg (flL A n c r.e.nx).toArray) rfl (yieldsIf_load_mid (by rfl) 34 _ rfl P0 15 rfl (flL A n c r.e.nx) _ (fun w' h => h.2.2.1) Tryz.underlying34 rfl (by kernel_rfl)) ?_
  try simp only [Act.put, pj]
  refine wpAnyH_ready (rs := [10]) (by kernel_rfl) (by simp) (AllReadyH.cons rfl (fun K hK => ?_) AllReadyH.nil)
  go_simp
  refine (CG.out A n c _ (by exact H4.out.ps.podsAll) (by omega)).mono ?_
  rintro e w5 ⟨rfl, hb⟩
  have H5 := Lib.hid (H4.out.below hb)
  have KE5 := Lib.hid (box_below KE4.out hb)
  have KC5 := Lib.hid (box_below KC4.out hb)
  have KD5 := Lib.hid (box_below KD4.out hb)
  have HB5 : Hid (Below w.heap.size w w5) := bel_then HB4.out hb HB4.out.size
  clear hb hHeld H4 KE4 KC4 KD4 HB4 CG
  refine hK _ _ (by exact ⟨range_of KE5.out (enL_all r.e A n c), range_of KE5.out (enL_sp r.e A n c), range_of KE5.out (enL_fl r.e A n c), range_of KC5.out rfl, range_of KD5.out rfl⟩) (fun hHeld => ?_)
  clear hK K
  try simp only [Act.put, pj]
  refine wpAnyH_ready (rs := [11]) (by kernel_rfl) (by simp) (AllReadyH.cons rfl (fun K hK => ?_) AllReadyH.nil)
  go_simp
  refine (CP.out _).mono ?_
  rintro e w6 ⟨rfl, hb⟩
  have H6 := Lib.hid (H5.out.below hb)
  have KE6 := Lib.hid (box_below KE5.out hb)
  have KC6 := Lib.hid (box_below KC5.out hb)
  have KD6 := Lib.hid (box_below KD5.out hb)
  have HB6 : Hid (Below w.heap.size w w6) := bel_then HB5.out hb HB5.out.size
  clear hb hHeld H5 KE5 KC5 KD5 HB5 CP
  refine hK _ _ (by exact ⟨range_of KE6.out (enL_all r.e A n c), range_of KE6.out (enL_sp r.e A n c), range_of KE6.out (enL_fl r.e A n c), range_of KC6.out rfl, range_of KD6.out rfl⟩) (fun hHeld => ?_)
  clear hK K
  try simp only [Act.put, pj]
  refine tkk (i := 12) rfl ?_
  try simp only [Act.put, pj]
  refine tkk (i := 13) rfl ?_
  try simp only [Act.put, pj]
  refine wpAnyH_done (by kernel_rfl) ?_ _
  have HT6 : Hid (Turned S w w6) := Turned.of_below HB6.out
  have HK6 : Hid (Kept w w6) := Kept.below HB6.out
  have HR6 : Hid (R = if ov then (if r.e.ph = 1 then r.makeGood.enter 0 else if r.e.ph = 2 then r.enter 3 else r) else r) := by show _ = _; rw [HRR.out, HOV.out]; rfl
  clear hHeld HRR HOV KC6 KD6 HB6
  cases ov
  · have HE : Hid (R = r) := HR6.out
    clear HR6
    go_wp2
    go_end0
    exact moved_id ⟨_, _, _, _, _, _, H6.out⟩ HE.out HT6.out HK6.out
  have HR7 : Hid (R = if r.e.ph = 1 then r.makeGood.enter 0 else if r.e.ph = 2 then r.enter 3 else r) := HR6.out
  clear HR6
  have e12 : w6.cell? ⟨P0, 12, none⟩ = some (.int .i64 r.e.ph) := box_cell KE6.out 12 _ rfl
  by_cases hp2 : r.e.ph = 2
  · have hq2 : (r.e.ph == 2) = true := by simp [hp2]
    have HE : Hid (R = r.enter 3) := by show _ = _; rw [HR7.out, if_neg (by omega), if_pos hp2]
    clear hp2 HR7
    go_wp2_with fail
    refine (phase_any w6 S b r 3 ⟨_, _, _, _, _, _, H6.out⟩ (by omega)).mono ?_
    intro e w7 hmv
    have HMV := Lib.hid (Moved.step (fun q hq => .inl hq) HT6.out HK6.out hmv)
    obtain ⟨rfl, _⟩ := hmv
    clear e12 hq2
    go_wp2
    go_end0
    rw [HE.out]
    exact HMV.out
  have hq2 : (r.e.ph == 2) = false := by simp [hp2]
  have HE : Hid (R = r.makeGood.enter 0) := by
    show _ = _
    have h1 := HMVB.out
    simp only [mvB, Bool.or_eq_true, decide_eq_true_eq] at h1
    rw [HR7.out, if_pos (by omega)]
  clear hp2 HR7
  have e13 : w6.cell? ⟨P0, 13, none⟩ = some (.int .i64 r.e.tg) := box_cell KE6.out 13 _ rfl
  have e14 : w6.cell? ⟨P0, 14, none⟩ = some (.int .i64 r.e.gd) := box_cell KE6.out 14 _ rfl
  by_cases hgt : r.e.gd = r.e.tg
  · have hq3 : (r.e.gd != r.e.tg) = false := by simp [hgt]
    have HE2 : Hid (R = r.enter 0) := by show _ = _; rw [HE.out, Run.makeGood, if_pos hgt]
    clear hgt HE
    go_wp2_with fail
    refine (phase_any w6 S b r 0 ⟨_, _, _, _, _, _, H6.out⟩ (by omega)).mono ?_
    intro e w7 hmv
    have HMV := Lib.hid (Moved.step (fun q hq => .inl hq) HT6.out HK6.out hmv)
    obtain ⟨rfl, _⟩ := hmv
    clear e12 e13 e14 hq2 hq3
    go_wp2
    go_end0
    rw [HE2.out]
    exact HMV.out
  have hq3 : (r.e.gd != r.e.tg) = true := by simp [hgt]
  have HE2 : Hid (R = (({ r with e := { r.e with gd := r.e.tg } } : Run).tell 3 r.e.tg r.e.gd).enter 0) := by show _ = _; rw [HE.out, Run.makeGood, if_neg hgt]
  clear hgt HE
  go_wp2_with fail
  refine (tell_any w6 S b r 3 r.e.tg r.e.gd ⟨_, _, _, _, _, _, H6.out⟩ (by omega)).mono ?_
  intro e w7 hmv
  have KE7 : Hid (w7.heap[P0]? = some (.cells (enL r.e A n c).toArray 36 (0, 0))) := hmv.2.choose_spec.2.2.2 _ _ _ _ (by decide) (by decide) KE6.out
  obtain ⟨rfl, ha⟩ := Amid.call (fun q hq => .inl hq) HT6.out HK6.out hmv
  obtain ⟨S7, hm7, hs7, ht7, hk7⟩ := ha
  have HS7 := Lib.hid hs7
  have HT7 := Lib.hid ht7
  have HK7 := Lib.hid hk7
  obtain ⟨A7, n7, c7, E7, m7, k7, h7⟩ := hm7
  have H7 := Lib.hid h7
  clear hmv hs7 ht7 hk7 h7 e12 e13 e14 hq2 hq3 H6 HT6 HK6 KE6
  have e13 : w7.cell? ⟨P0, 13, none⟩ = some (.int .i64 r.e.tg) := box_cell KE7.out 13 _ rfl
  have d14 : w7.cell? ⟨b, 14, none⟩ = some (.int .i64 r.e.gd) := box_cell H7.out.box 14 _ rfl
  have f14 := box_frozen H7.out.box 14
  go_upto_region 9 with fail
  obtain ⟨W, hW⟩ : ∃ W, W = w7.setCell ⟨b, 14, none⟩ (.int .i64 r.e.tg) := ⟨_, rfl⟩
  have H8 : Hid (ModAt W S7 b (({ r with e := { r.e with gd := r.e.tg } } : Run).tell 3 r.e.tg r.e.gd) A7 n7 c7 E7 m7 k7) := by
    rw [hW, set_row (i := 14) H7.out.box (.int .i64 r.e.tg) (moL (({ r with e := { r.e with gd := r.e.tg } } : Run).tell 3 r.e.tg r.e.gd) A7 n7 c7 E7 m7 k7) rfl]
    exact H7.out.row rfl rfl
  have HT8 : Hid (Turned S w W) := by rw [hW]; exact turned_then HS7.out HT7.out (Turned.set _ _ _ H7.out.sb)
  have HK8 : Hid (Kept w W) := by rw [hW]; exact HK7.out.trans (Kept.set H7.out.box (.inl rfl) _)
  rw [← hW]
  clear hW e13 d14 f14 H7 HT7 HK7 KE7
  go_wp2_with fail
  refine (phase_any W S7 b (({ r with e := { r.e with gd := r.e.tg } } : Run).tell 3 r.e.tg r.e.gd) 0 ⟨_, _, _, _, _, _, H8.out⟩ (by simp [Run.tell]; omega)).mono ?_
  intro e w9 hmv
  have HMV := Lib.hid (Moved.step HS7.out HT8.out HK8.out hmv)
  obtain ⟨rfl, _⟩ := hmv
  go_wp2
  go_end0
  rw [HE2.out]
  exact HMV.out
end Go.Proofs.YtklgjjmcflgjeaaGreat.Mod
namespace Go.Proofs.YtklgjjmcflgjeaaGreat.Mod
open Go.ChangeShapes Go.WideShapes Go.ChangeAt Go.RowKit
open LK Pods EngV Eng Seg
open ModV (mdropN mdel)
def selB (e : Eng) (mine avail : Bool) (p : Pd) : Bool := (decide (p.2.1 = e.tg) == mine) && (avP e.sp e.now p == avail)
theorem enL_sp0 (e : Eng) (A : Option Addr) (n c : Nat) : ((enL e A n c).drop 0).take (spL e.sp).length = spL e.sp := rfl
theorem mdel_ev (q : Run) (id : Int) : (mdel q id).ev.length = q.ev.length + 1 := by simp [mdel, Run.tell, Run.setFl]
theorem mdel_ps (q : Run) (id : Int) : (mdel q id).e.ps.length = q.e.ps.length := EngInv.len_goD _ _ _
set_option maxRecDepth 100000 in
set_option maxHeartbeats 12800000 in
theorem dropSome_any (w : World) (S : Nat → Prop) (b : Nat) (q : Run) (e : Eng) (A0 : Option Addr) (n0 c0 : Nat) (N : Int) (mine avail : Bool) (h : Mod w S b q) (hp : OwnP w 0 A0 n0 c0 e.ps) (hev : q.ev.length ≤ 900000) (hn : q.e.ps.length ≤ 30) (hn0 : e.ps.length ≤ 30) (hN : -1000 ≤ N ∧ N ≤ 1000) :
    Calls Tryz.prog 191 #[.pointer (some ⟨b, 0, none⟩), .agg (enL e A0 n0 c0).toArray, .int .i64 N, .bool mine, .bool avail] w (Moved b (mdropN q (selB e mine avail) N e.ps).1 (.int .i64 (mdropN q (selB e mine avail) N e.ps).2) S w) := by
  obtain ⟨f, hf⟩ : ∃ f, f = selB e mine avail := ⟨_, rfl⟩
  rw [← hf]
  obtain ⟨R, RN, hR⟩ : ∃ R RN, (R, RN) = mdropN q f N e.ps := ⟨_, _, rfl⟩
  rw [← hR]
  have HR0 : Hid ((R, RN) = mdropN q f N (e.ps.drop 0)) := hR
  have HF := Lib.hid hf
  clear hR hf
  obtain ⟨V, hV⟩ : ∃ V, V = w.alloc (.cells (enL e A0 n0 c0).toArray 36) := ⟨_, rfl⟩
  have HBV : Hid (Below w.heap.size w V) := by rw [hV]; exact bel1 _ _
  have HE0 : Hid (V.heap[w.heap.size]? = some (.cells (enL e A0 n0 c0).toArray 36 (0, 0))) := by rw [hV]; exact box_new w _
  have HM0 : Hid (Mod V S b q) := h.below HBV.out
  have HP0 : Hid (OwnP V 0 A0 n0 c0 e.ps) := hp.below HBV.out
  have HN : Hid (e.ps.length = n0) := hp.1
  have hn30 : n0 ≤ 30 := by rw [← HN.out]; exact hn0
  obtain ⟨PE, hPE⟩ : ∃ PE, PE = w.heap.size := ⟨_, rfl⟩
  have HPB : Hid (PE < V.heap.size) := by rw [hPE]; exact box_lt HE0.out
  have HWV : Hid (w.heap.size ≤ V.heap.size) := HBV.out.size
  have HA0 : Hid (Amid V S b q V) := Amid.start HM0.out
  have HQ0 : Hid (q.ev.length ≤ 900000 + 0 ∧ q.e.ps.length ≤ 30) := ⟨by omega, hn⟩
  have HC0 : Hid (-1000 ≤ N - 0 ∧ N ≤ 1000) := ⟨by omega, hN.2⟩
  clear h hp hev hn hn0 hN HM0
  go_enter Tryz.func191, Tryz.ntmps191
  go_upto_region 1 with fail
  rw [← hV, ← hPE]
  rw [← hPE] at HE0
  clear hV hPE
  go_wp2_with fail
  go_loopw [2, 11] (fun s i wr => ∃ (k : Nat) (a : Int) (q' : Run), k ≤ n0 ∧ i = .int .i64 k ∧ s = .int .i64 a ∧ Hid (Amid V S b q' wr) ∧ Hid ((R, RN) = mdropN q' f a (e.ps.drop k)) ∧ Hid (q'.ev.length ≤ 900000 + k ∧ q'.e.ps.length ≤ 30) ∧ (-1000 - (k : Int) ≤ a ∧ a ≤ 1000)) (fun _ i _ => n0 - (RowKit.intOf i).toNat)
  case atStart => exact ⟨0, N, q, Nat.zero_le _, rfl, rfl, HA0, HR0, HQ0, by have := HC0.out; omega⟩
  case round =>
    obtain ⟨k, a, q', hk, rfl, rfl, HA, HR, HQ, hab⟩ := hrel
    clear HA0 HR0 HQ0 HC0
    obtain ⟨S1, hm1, hs1, ht1, hk1⟩ := HA.out
    have HEB : Hid (wr.heap[PE]? = some (.cells (enL e A0 n0 c0).toArray 36 (0, 0))) := hk1 _ _ _ _ (by decide) (by decide) HE0.out
    have HP1 := Lib.hid (hk1.pods HP0.out)
    have HS1 := Lib.hid hs1
    have HT1 := Lib.hid ht1
    have HK1 := Lib.hid hk1
    have HM1 := Lib.hid hm1
    clear hs1 ht1 hk1 hm1 HA
    have c15 : wr.cell? ⟨PE, 15, none⟩ = some (.slice A0 n0 c0) := box_cell HEB.out 15 _ rfl
    by_cases hlt : k < n0
    case neg =>
      have HE : Hid (R = q' ∧ RN = a) := by
        have h := HR.out
        rw [List.drop_of_length_le (by rw [HN.out]; omega)] at h
        have h : (R, RN) = (q', a) := h
        injection h with h1 h2
        exact ⟨h1, h2⟩
      have HFN : Hid (Moved b q' (.int .i64 a) S w (.returned (.int .i64 a)) wr) := Moved.step (w := w) (S' := S) (v := V) (fun q hq => .inl hq) (Turned.of_below HBV.out) (Kept.below HBV.out) (Amid.fin ⟨S1, HM1.out, HS1.out, HT1.out, HK1.out⟩)
      clear HM1 HS1 HT1 HK1 HP1 HEB HR HF
      go_wp2
      go_ret
      rw [HE.out.1, HE.out.2]
      exact HFN.out
    obtain ⟨g1, off, y0, y1, y2, y3, y4, rfl, hgB, hz, hc0, hc1, hc2, hc3, hc4⟩ := HP1.out.podsAll.at_ hlt
    have HS : Hid ((R, RN) = if decide (0 < a) && (!decide (y2 = 4) && f (y0, y1, y2, y3, y4)) then mdropN (mdel q' y0) f (a - 1) (e.ps.drop (k + 1)) else mdropN q' f a (e.ps.drop (k + 1))) := by
      show _ = _
      rw [HR.out, List.drop_eq_getElem_cons (by rw [HN.out]; exact hlt), show e.ps[k]'(by rw [HN.out]; exact hlt) = (y0, y1, y2, y3, y4) from by rw [← hz]; simp [List.getD, HN.out, hlt]]
      rfl
    have HFV : Hid (f (y0, y1, y2, y3, y4) = ((decide (y1 = e.tg) == mine) && (Hl.availB e.sp.x0 e.sp.x1 e.sp.x2 e.sp.x3 e.sp.x4 e.sp.x5 e.sp.x6 e.sp.x7 e.sp.x8 e.sp.x9 e.sp.x10 y2 y4 e.now == avail))) := by rw [HF.out]; rfl
    clear hz HR HP1
    have HBA : Hid (Below wr.heap.size wr (wr.alloc (.cells #[.int .i64 y0, .int .i64 y1, .int .i64 y2, .int .i64 y3, .int .i64 y4] 85))) := bel1 _ _
    have HPP : Hid ((wr.alloc (.cells #[.int .i64 y0, .int .i64 y1, .int .i64 y2, .int .i64 y3, .int .i64 y4] 85)).heap[wr.heap.size]? = some (.cells [.int .i64 y0, .int .i64 y1, .int .i64 y2, .int .i64 y3, .int .i64 y4].toArray 85 (0, 0))) := box_new wr _
    have hpe : PE < wr.heap.size := box_lt HEB.out
    go_upto_region 5 with fail
    obtain ⟨U, hU⟩ : ∃ U, U = wr.alloc (.cells #[.int .i64 y0, .int .i64 y1, .int .i64 y2, .int .i64 y3, .int .i64 y4] 85) := ⟨_, rfl⟩
    rw [← hU] at HBA HPP ⊢
    clear hU hc0 hc1 hc2 hc3 hc4 c15
    obtain ⟨PP, hPP⟩ : ∃ PP, PP = wr.heap.size := ⟨_, rfl⟩
    rw [← hPP] at HPP ⊢
    clear hPP
    have HEU := Lib.hid (box_below HEB.out HBA.out)
    have HMU := Lib.hid (HM1.out.below HBA.out)
    have HTU : Hid (Turned S V U) := HT1.out.trans (Turned.of_below HBA.out)
    have HKU : Hid (Kept V U) := HK1.out.trans (Kept.below HBA.out)
    clear HEB HM1 HT1 HK1 HBA
    by_cases hpos : 0 < a
    case neg =>
      have hd1 : decide (0 < a) = false := by simp [hpos]
      have HE : Hid ((R, RN) = mdropN q' f a (e.ps.drop (k + 1))) := by have h := HS.out; rw [hd1] at h; exact h
      have HA2 : Hid (Amid V S b q' U) := ⟨S1, HMU.out, HS1.out, HTU.out, HKU.out⟩
      have HQ2 : Hid (q'.ev.length ≤ 900000 + (k + 1) ∧ q'.e.ps.length ≤ 30) := by have h := HQ.out; exact ⟨by omega, h.2⟩
      clear HS HFV HMU HTU HKU HS1 HPP HEU HQ
      go_wp2
      go_roundw
      case rel => exact ⟨k + 1, a, q', by omega, by go_num, rfl, HA2, HE, HQ2, by omega⟩
      case measure => simp [RowKit.intOf]; omega
    have hd1 : decide (0 < a) = true := by simp [hpos]
    have p1 : U.cell? ⟨PP, 1, none⟩ = some (.int .i64 y1) := box_cell HPP.out 1 _ rfl
    have p2 : U.cell? ⟨PP, 2, none⟩ = some (.int .i64 y2) := box_cell HPP.out 2 _ rfl
    have e13 : U.cell? ⟨PE, 13, none⟩ = some (.int .i64 e.tg) := box_cell HEU.out 13 _ rfl
    have e11 : U.cell? ⟨PE, 11, none⟩ = some (.int .i64 e.now) := box_cell HEU.out 11 _ rfl
    obtain ⟨g, hg⟩ : ∃ g, (y1 == e.tg) = g := ⟨_, rfl⟩
    have HG : Hid (decide (y1 = e.tg) = g) := by rw [← hg]; rfl
    obtain ⟨g2, hg2⟩ : ∃ g2, (g == mine) = g2 := ⟨_, rfl⟩
    have HG2 := Lib.hid hg2
    cases g2
    case false =>
      have HE : Hid ((R, RN) = mdropN q' f a (e.ps.drop (k + 1))) := by show _ = _; have h := HS.out; rw [HFV.out, HG.out, HG2.out] at h; simpa using h
      have HA2 : Hid (Amid V S b q' U) := ⟨S1, HMU.out, HS1.out, HTU.out, HKU.out⟩
      have HQ2 : Hid (q'.ev.length ≤ 900000 + (k + 1) ∧ q'.e.ps.length ≤ 30) := by have h := HQ.out; exact ⟨by omega, h.2⟩
      clear HS HFV HMU HTU HKU HS1 HPP HEU HQ
      go_wp2
      go_roundw
      case rel => exact ⟨k + 1, a, q', by omega, by go_num, rfl, HA2, HE, HQ2, by omega⟩
      case measure => simp [RowKit.intOf]; omega
    obtain ⟨g3, hg3⟩ : ∃ g3, (y2 != 4) = g3 := ⟨_, rfl⟩
    have HG3 : Hid ((!decide (y2 = 4)) = g3) := by rw [← hg3]; rfl
    cases g3
    case false =>
      have HE : Hid ((R, RN) = mdropN q' f a (e.ps.drop (k + 1))) := by show _ = _; have h := HS.out; rw [HG3.out] at h; simpa using h
      have HA2 : Hid (Amid V S b q' U) := ⟨S1, HMU.out, HS1.out, HTU.out, HKU.out⟩
      have HQ2 : Hid (q'.ev.length ≤ 900000 + (k + 1) ∧ q'.e.ps.length ≤ 30) := by have h := HQ.out; exact ⟨by omega, h.2⟩
      clear HS HFV HMU HTU HKU HS1 HPP HEU HQ
      go_wp2
      go_roundw
      case rel => exact ⟨k + 1, a, q', by omega, by go_num, rfl, HA2, HE, HQ2, by omega⟩
      case measure => simp [RowKit.intOf]; omega
    have HS2 : Hid ((R, RN) = if (Hl.availB e.sp.x0 e.sp.x1 e.sp.x2 e.sp.x3 e.sp.x4 e.sp.x5 e.sp.x6 e.sp.x7 e.sp.x8 e.sp.x9 e.sp.x10 y2 y4 e.now == avail) then mdropN (mdel q' y0) f (a - 1) (e.ps.drop (k + 1)) else mdropN q' f a (e.ps.drop (k + 1))) := by show _ = _; have h := HS.out; rw [HFV.out, HG.out, HG2.out, HG3.out, hd1] at h; simp only [Bool.true_and] at h; exact h
    clear HS HFV HG HG2 HG3
    go_wp2_with (first | (refine wpList_getG (by rfl) 25 _ rfl PE 0 rfl HEU.out (spL e.sp) (enL_sp0 e _ n0 c0) Tryz.underlying25 rfl (by kernel_rfl) ?_) | (refine wpList_getG (by rfl) 85 _ rfl PP 0 rfl HPP.out [.int .i64 y0, .int .i64 y1, .int .i64 y2, .int .i64 y3, .int .i64 y4] rfl Tryz.underlying85 rfl (by kernel_rfl) ?_))
    refine (Hl.specIsAvailable_any e.sp.x0 e.sp.x1 e.sp.x2 e.sp.x3 e.sp.x4 e.sp.x5 e.sp.x6 e.sp.x7 e.sp.x8 e.sp.x9 e.sp.x10 y0 y1 y2 y3 y4 e.now _).mono ?_
    rintro e2 w2 ⟨rfl, hb2⟩
    obtain ⟨av, hav⟩ : ∃ av, av = Hl.availB e.sp.x0 e.sp.x1 e.sp.x2 e.sp.x3 e.sp.x4 e.sp.x5 e.sp.x6 e.sp.x7 e.sp.x8 e.sp.x9 e.sp.x10 y2 y4 e.now := ⟨_, rfl⟩
    rw [← hav] at HS2 ⊢
    clear hav
    obtain ⟨g4, hg4⟩ : ∃ g4, (av == avail) = g4 := ⟨_, rfl⟩
    have HG4 := Lib.hid hg4
    have HPP2 := Lib.hid (box_below HPP.out hb2)
    have HM2 := Lib.hid (HMU.out.below hb2)
    have HT2 : Hid (Turned S V w2) := HTU.out.trans (Turned.of_below hb2)
    have HK2 : Hid (Kept V w2) := HKU.out.trans (Kept.below hb2)
    clear hb2 HPP HMU HTU HKU HEU p1 p2 e13 e11
    cases g4
    · have HE : Hid ((R, RN) = mdropN q' f a (e.ps.drop (k + 1))) := by have h := HS2.out; rw [HG4.out] at h; exact h
      have HA2 : Hid (Amid V S b q' w2) := ⟨S1, HM2.out, HS1.out, HT2.out, HK2.out⟩
      have HQ2 : Hid (q'.ev.length ≤ 900000 + (k + 1) ∧ q'.e.ps.length ≤ 30) := by have h := HQ.out; exact ⟨by omega, h.2⟩
      clear HS2 HG4 HM2 HT2 HK2 HS1 HPP2 HQ
      go_wp2
      go_roundw
      case rel => exact ⟨k + 1, a, q', by omega, by go_num, rfl, HA2, HE, HQ2, by omega⟩
      case measure => simp [RowKit.intOf]; omega
    have HE : Hid ((R, RN) = mdropN (mdel q' y0) f (a - 1) (e.ps.drop (k + 1))) := by have h := HS2.out; rw [HG4.out] at h; exact h
    clear HS2 HG4
    have p0 : w2.cell? ⟨PP, 0, none⟩ = some (.int .i64 y0) := box_cell HPP2.out 0 _ rfl
    go_wp2_with fail
    refine (delete_any w2 S1 b q' y0 HM2.out (by have := HQ.out; omega) (by have := HQ.out; omega)).mono ?_
    intro e3 w3 hmv
    obtain ⟨rfl, ha⟩ := Amid.call HS1.out HT2.out HK2.out hmv
    have HA3 := Lib.hid ha
    have HQ3 : Hid ((mdel q' y0).ev.length ≤ 900000 + (k + 1) ∧ (mdel q' y0).e.ps.length ≤ 30) := by have h := HQ.out; rw [mdel_ev, mdel_ps]; exact ⟨by omega, h.2⟩
    clear hmv ha HM2 HT2 HK2 HS1 HPP2 HQ p0
    go_wp2
    go_roundw
    case rel => exact ⟨k + 1, a - 1, _, by omega, by go_num, rfl, HA3, HE, HQ3, by omega⟩
    case measure => simp [RowKit.intOf]; omega
end Go.Proofs.YtklgjjmcflgjeaaGreat.Mod
