import Derived.Test.YtklgjjmcflgjeaaGreatQ
import Derived.Test.YtklgjjmcflgjeaaGreatR15
import Derived.Test.YtklgjjmcflgjeaaGreatR22
import Derived.Test.YtklgjjmcflgjeaaGreatR42
import Derived.Test.YtklgjjmcflgjeaaGreatR43
set_option linter.unusedVariables false
set_option linter.unusedSimpArgs false
namespace Go.Proofs.YtklgjjmcflgjeaaGreat.Mod
open Go.ChangeShapes Go.WideShapes Go.ChangeAt Go.RowKit
open LK Pods EngV EngCnt Eng Seg
theorem mdropN_all (f : Pd → Bool) : ∀ (l : PList) (q : Run) (n : Int), EngInv.Kp q (ModV.mdropN q f n l).1 l.length ∧ (ModV.mdropN q f n l).1.e.ps.length = q.e.ps.length ∧ (ModV.mdropN q f n l).1.e.wt = q.e.wt ∧ n - l.length ≤ (ModV.mdropN q f n l).2 ∧ (ModV.mdropN q f n l).2 ≤ n
  | [], q, n => ⟨EngInv.Kp.refl q, rfl, rfl, by show n - 0 ≤ n; omega, Int.le_refl _⟩
  | p :: l, q, n => by
    unfold ModV.mdropN
    split
    · obtain ⟨a, b, c, d, e⟩ := mdropN_all f l (ModV.mdel q p.1) (n - 1)
      have k : EngInv.Kp q (ModV.mdel q p.1) 1 := ⟨rfl, rfl, rfl, rfl, rfl, rfl, by rw [mdel_ev]; omega⟩
      exact ⟨(k.trans a).more (by simp; omega), b.trans (mdel_ps q p.1), c, by simp only [List.length_cons]; omega, by omega⟩
    · obtain ⟨a, b, c, d, e⟩ := mdropN_all f l q n
      exact ⟨a.more (by simp), b, c, by simp only [List.length_cons]; omega, e⟩
def planM (r : Run) : Run :=
  let e := r.e
  let r1 := (ModV.mdropN r (selB e false false) (plDr e) e.ps).1
  let r2 := (ModV.mdropN r1 (selB e false true) (plDa e) e.ps).1
  let q := ModV.mdropN r2 (selB e true false) (plDf e) e.ps
  let r4 := (ModV.mdropN q.1 (selB e true true) q.2 e.ps).1
  if e.now < e.wt then r4 else r4.makeN (plCr e).toNat
theorem plan_all {e : Eng} (h : e.okB = true) : (0 ≤ plCr e ∧ plCr e ≤ 1000) ∧ (0 ≤ plDr e ∧ plDr e ≤ 900) ∧ (0 ≤ plDa e ∧ plDa e ≤ 900) ∧ (0 ≤ plDf e ∧ plDf e ≤ 900) := by
  have h1 : Sp.specB e.sp.x0 e.sp.x1 e.sp.x2 e.sp.x3 e.sp.x4 e.sp.x5 e.sp.x6 e.sp.x7 e.sp.x8 e.sp.x9 e.sp.x10 = true := (okB_t h).1
  have hs := Sp.specB_t h1
  have hp := EngCnt.part e
  have g0 := good_le e false
  have g1 := good_le e true
  have hl := (okB_t h).2.1.1
  have hb := Mach.limS_bd h
  unfold plCr plDr plDa plDf Cnt.crV Cnt.daV Cnt.drV Cnt.dfV Cnt.spV Cnt.roV
  refine ⟨⟨?_, ?_⟩, ⟨?_, ?_⟩, ⟨?_, ?_⟩, ⟨?_, ?_⟩⟩ <;> (repeat' split) <;> omega
set_option maxRecDepth 100000 in
set_option maxHeartbeats 25600000 in
theorem plan_any (w : World) (S : Nat → Prop) (b : Nat) (r : Run) (h : Mod w S b r) (hok : r.e.okB = true) (hl : r.ev.length ≤ 800000) :
    Calls Tryz.prog 144 #[.pointer (some ⟨b, 0, none⟩)] w (Moved b (planM r) (.tuple #[]) S w) := by
  obtain ⟨R, hR⟩ : ∃ R, R = planM r := ⟨_, rfl⟩
  rw [← hR]
  have HRR := Lib.hid hR
  clear hR
  obtain ⟨f1, hf1⟩ : ∃ x : Int, x = (live r.e false : Int) := ⟨_, rfl⟩
  obtain ⟨f2, hf2⟩ : ∃ x : Int, x = (good r.e false : Int) := ⟨_, rfl⟩
  obtain ⟨o1, ho1⟩ : ∃ x : Int, x = (live r.e true : Int) := ⟨_, rfl⟩
  obtain ⟨o2, ho2⟩ : ∃ x : Int, x = (good r.e true : Int) := ⟨_, rfl⟩
  obtain ⟨gg, hgg⟩ : ∃ x : Int, x = (going r.e : Int) := ⟨_, rfl⟩
  have CF : Hid (∀ (A : Option Addr) (n c : Nat) (W : World), IsPods W W.heap.size A n r.e.ps → n ≤ 1048576 → Calls Tryz.prog 186 #[.agg (spL r.e.sp).toArray, .agg (flL A n c r.e.nx).toArray, .int .i64 r.e.tg, .int .i64 r.e.now] W (Says (.tuple #[.agg #[.int .i64 f1, .int .i64 f2], .bool true]) W)) := fun A n c W h1 h2 => by
    have h := CountS.specCountOf_any r.e.sp.x0 r.e.sp.x1 r.e.sp.x2 r.e.sp.x3 r.e.sp.x4 r.e.sp.x5 r.e.sp.x6 r.e.sp.x7 r.e.sp.x8 r.e.sp.x9 r.e.sp.x10 r.e.tg r.e.now A n c r.e.nx r.e.ps W.heap.size W h1 (Nat.le_refl _) h2
    rw [Mach.countT_ok hok false] at h
    rw [hf1, hf2]
    exact h
  have CO : Hid (∀ (A : Option Addr) (n c : Nat) (W : World), IsPods W W.heap.size A n r.e.ps → n ≤ 1048576 → Calls Tryz.prog 187 #[.agg (spL r.e.sp).toArray, .agg (flL A n c r.e.nx).toArray, .int .i64 r.e.tg, .int .i64 r.e.now] W (Says (.tuple #[.agg #[.int .i64 o1, .int .i64 o2], .bool true]) W)) := fun A n c W h1 h2 => by
    have h := CountS.specRestOf_any r.e.sp.x0 r.e.sp.x1 r.e.sp.x2 r.e.sp.x3 r.e.sp.x4 r.e.sp.x5 r.e.sp.x6 r.e.sp.x7 r.e.sp.x8 r.e.sp.x9 r.e.sp.x10 r.e.tg r.e.now A n c r.e.nx r.e.ps W.heap.size W h1 (Nat.le_refl _) h2
    rw [Mach.countT_ok hok true] at h
    rw [ho1, ho2]
    exact h
  have CG : Hid (∀ (A : Option Addr) (n c : Nat) (W : World), IsPods W W.heap.size A n r.e.ps → n ≤ 1048576 → Calls Tryz.prog 55 #[.agg (flL A n c r.e.nx).toArray] W (Says (.int .i64 gg) W)) := fun A n c W h1 h2 => by
    have h := EngSet.l08Going_any A n c r.e.nx r.e.ps W.heap.size W h1 (Nat.le_refl _) h2
    rw [going_eq (okB_t hok).2.1] at h
    rw [hgg]
    exact h
  obtain ⟨li, hli⟩ : ∃ x : Int, x = limS r.e := ⟨_, rfl⟩
  obtain ⟨cr, hcr⟩ : ∃ x : Int, x = plCr r.e := ⟨_, rfl⟩
  obtain ⟨dr, hdr⟩ : ∃ x : Int, x = plDr r.e := ⟨_, rfl⟩
  obtain ⟨da, hda⟩ : ∃ x : Int, x = plDa r.e := ⟨_, rfl⟩
  obtain ⟨df, hdf⟩ : ∃ x : Int, x = plDf r.e := ⟨_, rfl⟩
  have PB : Hid ((0 ≤ cr ∧ cr ≤ 1000) ∧ (0 ≤ dr ∧ dr ≤ 900) ∧ (0 ≤ da ∧ da ≤ 900) ∧ (0 ≤ df ∧ df ≤ 900)) := by have h := plan_all hok; rw [← hcr, ← hdr, ← hda, ← hdf] at h; exact h
  have CB : Hid (∀ (A : Option Addr) (n c : Nat) (W : World), IsPods W W.heap.size A n r.e.ps → n ≤ 1048576 → Calls Tryz.prog 189 #[.agg (spL r.e.sp).toArray, .agg (flL A n c r.e.nx).toArray, .int .i64 r.e.tg, .int .i64 r.e.now] W (Says (.bool (bakS r.e)) W)) := fun A n c W h1 h2 =>
    BakS.specBaked_any r.e.sp.x0 r.e.sp.x1 r.e.sp.x2 r.e.sp.x3 r.e.sp.x4 r.e.sp.x5 r.e.sp.x6 r.e.sp.x7 r.e.sp.x8 r.e.sp.x9 r.e.sp.x10 r.e.tg r.e.now A n c r.e.nx r.e.ps W.heap.size W h1 (Nat.le_refl _) h2
  have CL : Hid (r.e.ph = 1 → ∀ W, Calls Tryz.prog 188 #[.agg (spL r.e.sp).toArray, .bool (bakS r.e)] W (Says (.int .i64 li) W)) := fun hp W => by
    have h := Cnt.specLimitOf_any r.e.sp.x0 r.e.sp.x1 r.e.sp.x2 r.e.sp.x3 r.e.sp.x4 r.e.sp.x5 r.e.sp.x6 r.e.sp.x7 r.e.sp.x8 r.e.sp.x9 r.e.sp.x10 (bakS r.e) W
    rw [hli, limS, if_pos hp]
    exact h
  have HL0 : Hid (r.e.ph ≠ 1 → li = r.e.sp.x0) := fun hp => by rw [hli, limS, if_neg hp]
  have CP : Hid (∀ W, Calls Tryz.prog 190 #[.agg (spL r.e.sp).toArray, .agg #[.int .i64 f1, .int .i64 f2], .agg #[.int .i64 o1, .int .i64 o2], .int .i64 gg, .int .i64 li] W (Says (.tuple #[.agg [.int .i64 cr, .int .i64 dr, .int .i64 da, .int .i64 df].toArray, .bool true]) W)) := fun W => by
    have h := Cnt.specPlanStep_any r.e.sp.x0 r.e.sp.x1 r.e.sp.x2 r.e.sp.x3 r.e.sp.x4 r.e.sp.x5 r.e.sp.x6 r.e.sp.x7 r.e.sp.x8 r.e.sp.x9 r.e.sp.x10 f1 f2 o1 o2 gg li W
    rw [hf1, hf2, ho1, ho2, hgg, hli, Mach.planT_ok hok, ← hcr, ← hdr, ← hda, ← hdf, ← hf1, ← hf2, ← ho1, ← ho2, ← hgg, ← hli] at h
    exact h
  have HRV : Hid (R = (
      let r1 := (ModV.mdropN r (selB r.e false false) dr r.e.ps).1
      let r2 := (ModV.mdropN r1 (selB r.e false true) da r.e.ps).1
      let q := ModV.mdropN r2 (selB r.e true false) df r.e.ps
      let r4 := (ModV.mdropN q.1 (selB r.e true true) q.2 r.e.ps).1
      if r.e.now < r.e.wt then r4 else r4.makeN cr.toNat)) := by show _ = _; rw [HRR.out, hcr, hdr, hda, hdf]; rfl
  have h30 : r.e.ps.length ≤ 30 := (okB_t hok).2.1.1
  clear hf1 hf2 ho1 ho2 hgg hli hcr hdr hda hdf HRR
  obtain ⟨A, n, c, E, m, k, h⟩ := h
  have hn30 : n ≤ 30 := by rw [← h.ps.1]; exact (okB_t hok).2.1.1
  have H := Lib.hid h
  have hbw : b < w.heap.size := h.lt
  clear h hok
  obtain ⟨P0, hP0⟩ : ∃ P0, P0 = w.heap.size := ⟨_, rfl⟩
  go_enter Tryz.func144, Tryz.ntmps144
  have KZ : Hid ((w.alloc (.cells #[.int .i64 0, .int .i64 0, .int .i64 0, .int .i64 0, .int .i64 0, .int .i64 0, .int .i64 0, .int .i64 0, .int .i64 0, .int .i64 0, .int .i64 0, .int .i64 0, .int .i64 0, .int .i64 0, .int .i64 0, .slice none 0 0, .int .i64 0, .int .i64 0, .int .i64 0, .int .i64 0] 36)).heap[w.heap.size]? = some (.cells [.int .i64 0, .int .i64 0, .int .i64 0, .int .i64 0, .int .i64 0, .int .i64 0, .int .i64 0, .int .i64 0, .int .i64 0, .int .i64 0, .int .i64 0, .int .i64 0, .int .i64 0, .int .i64 0, .int .i64 0, .slice none 0 0, .int .i64 0, .int .i64 0, .int .i64 0, .int .i64 0].toArray 36 (0, 0))) := box_new w _
  go_upto_region 1 with (first | (refine wpList_get rfl 36 _ rfl b 0 rfl H.out.box (enL r.e A n c) (moL_en r A n c E m k) Tryz.underlying36 rfl (by kernel_rfl) ?_) | (refine wpList_put rfl rfl 36 _ _ rfl w.heap.size 0 (enL r.e A n c) rfl rfl KZ.out (by kernel_rfl) (enL r.e A n c) rfl (Nat.le_of_ble_eq_true rfl) (enL_one _ _ _ _) ?_))
  obtain ⟨V, hV⟩ : ∃ V, V = (w.alloc (.cells #[.int .i64 0, .int .i64 0, .int .i64 0, .int .i64 0, .int .i64 0, .int .i64 0, .int .i64 0, .int .i64 0, .int .i64 0, .int .i64 0, .int .i64 0, .int .i64 0, .int .i64 0, .int .i64 0, .int .i64 0, .slice none 0 0, .int .i64 0, .int .i64 0, .int .i64 0, .int .i64 0] 36)).setRow w.heap.size (enL r.e A n c).toArray := ⟨_, rfl⟩
  have HBV : Hid (Below w.heap.size w V) := by rw [hV]; exact row_below (bel1 w _) _ _ (Nat.le_refl _) (by simp)
  have KE : Hid (V.heap[P0]? = some (.cells (enL r.e A n c).toArray 36 (0, 0))) := by rw [hV, hP0]; exact row_box KZ.out
  have hbp : b ≠ P0 := by omega
  rw [← hV, ← hP0]
  clear hV KZ hP0
  have H1 := Lib.hid (H.out.below HBV.out)
  have hpv : P0 < V.heap.size := box_lt KE.out
  have HPO : Hid (OwnP V 0 A n c r.e.ps) := H1.out.ps
  clear H
  have e11 : V.cell? ⟨P0, 11, none⟩ = some (.int .i64 r.e.now) := box_cell KE.out 11 _ rfl
  have e13 : V.cell? ⟨P0, 13, none⟩ = some (.int .i64 r.e.tg) := box_cell KE.out 13 _ rfl
  go_wp2_with (first | (refine wpList_get rfl 25 _ rfl P0 0 rfl KE.out (spL r.e.sp) (enL_sp r.e A n c) Tryz.underlying25 rfl (by kernel_rfl) ?_) | (refine wpList_get rfl 34 _ rfl P0 15 rfl KE.out (flL A n c r.e.nx) (enL_fl r.e A n c) Tryz.underlying34 rfl (by kernel_rfl) ?_))
  refine (CF.out A n c V H1.out.ps.podsAll (by omega)).mono ?_
  rintro e V20 ⟨rfl, hb⟩
  have KC0 : Hid ((V20.alloc (.cells #[.int .i64 0, .int .i64 0] 231)).heap[V20.heap.size]? = some (.cells [.int .i64 0, .int .i64 0].toArray 231 (0, 0))) := box_new _ _
  clear e11 e13
  go_upto_region 2 with (refine wpList_put rfl rfl 231 _ _ rfl V20.heap.size 0 [.int .i64 f1, .int .i64 f2] rfl rfl KC0.out (by kernel_rfl) [.int .i64 f1, .int .i64 f2] rfl (Nat.le_of_ble_eq_true rfl) (by simp [Value.oneCell']) ?_)
  obtain ⟨V2, hV⟩ : ∃ X, X = (V20.alloc (.cells #[.int .i64 0, .int .i64 0] 231)).setRow V20.heap.size [.int .i64 f1, .int .i64 f2].toArray := ⟨_, rfl⟩
  have hb2 : Below V.heap.size V V2 := by rw [hV]; exact row_below (bel_then hb (bel1 _ _) hb.size) _ _ hb.size (by have := hb.size; simp; omega)
  have KC : Hid (V2.heap[V20.heap.size]? = some (.cells [.int .i64 f1, .int .i64 f2].toArray 231 (0, 0))) := by rw [hV]; exact row_box KC0.out
  have H2 := Lib.hid (H1.out.below hb2)
  have KE2 := Lib.hid (box_below KE.out hb2)
  have HBV2 : Hid (Below w.heap.size w V2) := bel_then HBV.out hb2 HBV.out.size
  obtain ⟨PV2, hPV2⟩ : ∃ X, X = V20.heap.size := ⟨_, rfl⟩
  rw [← hPV2] at KC
  rw [← hV, ← hPV2]
  clear hV hPV2 hb hb2 KC0 H1 KE HBV 
  have e11 : V2.cell? ⟨P0, 11, none⟩ = some (.int .i64 r.e.now) := box_cell KE2.out 11 _ rfl
  have e13 : V2.cell? ⟨P0, 13, none⟩ = some (.int .i64 r.e.tg) := box_cell KE2.out 13 _ rfl
  go_wp2_with (first | (refine wpList_get rfl 25 _ rfl P0 0 rfl KE2.out (spL r.e.sp) (enL_sp r.e A n c) Tryz.underlying25 rfl (by kernel_rfl) ?_) | (refine wpList_get rfl 34 _ rfl P0 15 rfl KE2.out (flL A n c r.e.nx) (enL_fl r.e A n c) Tryz.underlying34 rfl (by kernel_rfl) ?_))
  refine (CO.out A n c V2 H2.out.ps.podsAll (by omega)).mono ?_
  rintro e V30 ⟨rfl, hb⟩
  have KC0 : Hid ((V30.alloc (.cells #[.int .i64 0, .int .i64 0] 231)).heap[V30.heap.size]? = some (.cells [.int .i64 0, .int .i64 0].toArray 231 (0, 0))) := box_new _ _
  clear e11 e13
  go_upto_region 3 with (refine wpList_put rfl rfl 231 _ _ rfl V30.heap.size 0 [.int .i64 o1, .int .i64 o2] rfl rfl KC0.out (by kernel_rfl) [.int .i64 o1, .int .i64 o2] rfl (Nat.le_of_ble_eq_true rfl) (by simp [Value.oneCell']) ?_)
  obtain ⟨V3, hV⟩ : ∃ X, X = (V30.alloc (.cells #[.int .i64 0, .int .i64 0] 231)).setRow V30.heap.size [.int .i64 o1, .int .i64 o2].toArray := ⟨_, rfl⟩
  have hb2 : Below V2.heap.size V2 V3 := by rw [hV]; exact row_below (bel_then hb (bel1 _ _) hb.size) _ _ hb.size (by have := hb.size; simp; omega)
  have KD : Hid (V3.heap[V30.heap.size]? = some (.cells [.int .i64 o1, .int .i64 o2].toArray 231 (0, 0))) := by rw [hV]; exact row_box KC0.out
  have H3 := Lib.hid (H2.out.below hb2)
  have KE3 := Lib.hid (box_below KE2.out hb2)
  have KC3 := Lib.hid (box_below KC.out hb2)
  have HBV3 : Hid (Below w.heap.size w V3) := bel_then HBV2.out hb2 HBV2.out.size
  obtain ⟨PV3, hPV3⟩ : ∃ X, X = V30.heap.size := ⟨_, rfl⟩
  rw [← hPV3] at KD
  rw [← hV, ← hPV3]
  clear hV hPV3 hb hb2 KC0 H2 KE2 HBV2 KC
  clear CF CO HPO
  have e0 : V3.cell? ⟨P0, 0, none⟩ = some (.int .i64 r.e.sp.x0) := box_cell KE3.out 0 _ rfl
  have e12 : V3.cell? ⟨P0, 12, none⟩ = some (.int .i64 r.e.ph) := box_cell KE3.out 12 _ rfl
  obtain ⟨p1, hp1⟩ : ∃ p1, (r.e.ph == 1) = p1 := ⟨_, rfl⟩
  have HP1 := Lib.hid hp1
  go_upto_if 47 with fail
  go_cut [7] (fun s7 wx => s7 = .int .i64 li ∧ Hid (Below V3.heap.size V3 wx))
  case first =>
    cases p1
    · have HLI : Hid (r.e.sp.x0 = li) := (HL0.out (by intro h; rw [h] at hp1; exact absurd hp1 (by decide))).symm
      clear hp1
      go_wp2_with fail
      go_meet
      case rel => exact ⟨by rw [HLI.out], Below.refl _ _⟩
    have hph : r.e.ph = 1 := eq_of_beq hp1
    have CL1 := Lib.hid (CL.out hph)
    clear hph hp1
    have hbd : Below V3.heap.size V3 V3.drew := undrew (Below.refl _ _)
    have HD := Lib.hid (H3.out.below hbd)
    go_wp2_with fail
    refine wp_region_held_drew (S := fun w' => w'.rangeAt P0 0 (spL r.e.sp) ∧ w'.rangeAt P0 15 (flL A n c r.e.nx) ∧ w'.cell? ⟨P0, 13, none⟩ = some (.int .i64 r.e.tg) ∧ w'.cell? ⟨P0, 11, none⟩ = some (.int .i64 r.e.now)) (by kernel_rfl) ⟨range_of KE3.out (enL_sp r.e A n c), range_of KE3.out (enL_fl r.e A n c), box_cell KE3.out 13 _ rfl, box_cell KE3.out 11 _ rfl⟩ (fun hHeld => ?_)
    refine tkk (i := 0) rfl ?_
    try simp only [Act.put, pj]
    refine tkj (i := 1) (v := .agg (spL r.e.sp).toArray) rfl (yieldsIf_load_mid (by rfl) 25 _ rfl P0 0 rfl (spL r.e.sp) _ (fun w' h => h.1) Tryz.underlying25 rfl (by kernel_rfl)) ?_
    try simp only [Act.put, pj]
    refine tkk (i := 2) rfl ?_
    try simp only [Act.put, pj]
    refine tkj (i := 3) (v := .agg (spL r.e.sp).toArray) rfl (yieldsIf_load_mid (by rfl) 25 _ rfl P0 0 rfl (spL r.e.sp) _ (fun w' h => h.1) Tryz.underlying25 rfl (by kernel_rfl)) ?_
    try simp only [Act.put, pj]
    refine tkk (i := 4) rfl ?_
    try simp only [Act.put, pj]
    refine tkj (i := 5) (v := .agg (flL A n c r.e.nx).toArray) rfl (yieldsIf_load_mid (by rfl) 34 _ rfl P0 15 rfl (flL A n c r.e.nx) _ (fun w' h => h.2.1) Tryz.underlying34 rfl (by kernel_rfl)) ?_
    try simp only [Act.put, pj]
    refine tkk (i := 6) rfl ?_
    try simp only [Act.put, pj]
    refine tkk (i := 7) rfl ?_
    try simp only [Act.put, pj]
    refine tkk (i := 8) rfl ?_
    try simp only [Act.put, pj]
    refine tkk (i := 9) rfl ?_
    try simp only [Act.put, pj]
    refine wpAnyH_ready (rs := [10]) (by kernel_rfl) (by simp) (AllReadyH.cons rfl (fun K hK => ?_) AllReadyH.nil)
    go_simp
    refine (CB.out A n c _ (by exact HD.out.ps.podsAll) (by omega)).mono ?_
    rintro e w4 ⟨rfl, hb⟩
    have hb' : Below V3.heap.size V3 w4 := undrew hb
    have KE4 := Lib.hid (box_below KE3.out hb')
    have HB4 := Lib.hid hb'
    clear hb hb' hHeld HD hbd
    refine hK _ _ (by exact ⟨range_of KE4.out (enL_sp r.e A n c), range_of KE4.out (enL_fl r.e A n c), box_cell KE4.out 13 _ rfl, box_cell KE4.out 11 _ rfl⟩) (fun hHeld => ?_)
    clear hK K
    try simp only [Act.put, pj]
    refine wpAnyH_ready (rs := [11]) (by kernel_rfl) (by simp) (AllReadyH.cons rfl (fun K hK => ?_) AllReadyH.nil)
    go_simp
    refine (CL1.out _).mono ?_
    rintro e w5 ⟨rfl, hb⟩
    have KE5 := Lib.hid (box_below KE4.out hb)
    have HB5 := Lib.hid (bel_then HB4.out hb HB4.out.size)
    clear hb hHeld KE4 HB4
    refine hK _ _ (by exact ⟨range_of KE5.out (enL_sp r.e A n c), range_of KE5.out (enL_fl r.e A n c), box_cell KE5.out 13 _ rfl, box_cell KE5.out 11 _ rfl⟩) (fun hHeld => ?_)
    clear hK K
    try simp only [Act.put, pj]
    refine tkk (i := 12) rfl ?_
    try simp only [Act.put, pj]
    refine wpAnyH_done (by kernel_rfl) ?_ _
    clear hHeld
    go_wp2_with fail
    go_meet
    case rel => exact ⟨rfl, HB5.out⟩
  obtain ⟨rfl, HBX⟩ := hcut
  obtain ⟨X, hX⟩ : ∃ X, X = wc := ⟨_, rfl⟩
  rw [← hX] at HBX ⊢
  clear hX e0 e12 hp1 HP1 CB CL HL0
  have H4 := Lib.hid (H3.out.below HBX.out)
  have KE4 := Lib.hid (box_below KE3.out HBX.out)
  have KC4 := Lib.hid (box_below KC3.out HBX.out)
  have KD4 := Lib.hid (box_below KD.out HBX.out)
  have HBW : Hid (Below w.heap.size w X) := bel_then HBV3.out HBX.out HBV3.out.size
  clear H3 KE3 KC3 KD HBV3 HBX
  have KC := KC4
  have KD := KD4
  clear KC4 KD4
  go_wp2_with fail
  go_cut [8] (fun s8 wx => ∃ (P : Nat), s8 = .pointer (some ⟨P, 0, none⟩) ∧ Hid (wx.heap[P]? = some (.cells ([.int .i64 cr, .int .i64 dr, .int .i64 da, .int .i64 df]).toArray 237 (0, 0))) ∧ Hid (Below X.heap.size X wx) ∧ X.heap.size ≤ P)
  case first =>
    refine wp_region_held_drew (S := fun w' => w'.rangeAt P0 0 (spL r.e.sp) ∧ w'.rangeAt P0 15 (flL A n c r.e.nx) ∧ w'.rangeAt PV2 0 [.int .i64 f1, .int .i64 f2] ∧ w'.rangeAt PV3 0 [.int .i64 o1, .int .i64 o2]) (by kernel_rfl) ⟨range_of KE4.out (enL_sp r.e A n c), range_of KE4.out (enL_fl r.e A n c), range_of KC.out rfl, range_of KD.out rfl⟩ (fun hHeld => ?_)
    refine tkk (i := 0) rfl ?_
    try simp only [Act.put, pj]
    refine tkj (i := 1) (v := .agg (spL r.e.sp).toArray) rfl (yieldsIf_load_mid (by rfl) 25 _ rfl P0 0 rfl (spL r.e.sp) _ (fun w' h => h.1) Tryz.underlying25 rfl (by kernel_rfl)) ?_
    try simp only [Act.put, pj]
    refine tkj (i := 2) (v := .agg ([.int .i64 f1, .int .i64 f2]).toArray) rfl (yieldsIf_load_mid (by rfl) 231 _ rfl PV2 0 rfl ([.int .i64 f1, .int .i64 f2]) _ (fun w' h => h.2.2.1) Tryz.underlying231 rfl (by kernel_rfl)) ?_
    try simp only [Act.put, pj]
    refine tkj (i := 3) (v := .agg ([.int .i64 o1, .int .i64 o2]).toArray) rfl (yieldsIf_load_mid (by rfl) 231 _ rfl PV3 0 rfl ([.int .i64 o1, .int .i64 o2]) _ (fun w' h => h.2.2.2) Tryz.underlying231 rfl (by kernel_rfl)) ?_
    try simp only [Act.put, pj]
    refine tkk (i := 4) rfl ?_
    try simp only [Act.put, pj]
    refine tkj (i := 5) (v := .agg (flL A n c r.e.nx).toArray) rfl (yieldsIf_load_mid (by rfl) 34 _ rfl P0 15 rfl (flL A n c r.e.nx) _ (fun w' h => h.2.1) Tryz.underlying34 rfl (by kernel_rfl)) ?_
    try simp only [Act.put, pj]
    refine tkk (i := 7) rfl ?_
    try simp only [Act.put, pj]
    have hbd : Below X.heap.size X X.drew := undrew (Below.refl _ _)
    have HBd := Lib.hid hbd
    have Hd := Lib.hid (H4.out.below hbd)
    have KEd := Lib.hid (box_below KE4.out hbd)
    have KCd := Lib.hid (box_below KC.out hbd)
    have KDd := Lib.hid (box_below KD.out hbd)
    clear hbd
    obtain ⟨Y, hY⟩ : ∃ Y, Y = X.drew := ⟨_, rfl⟩
    have HYS : Hid (Y.heap.size = X.heap.size) := by rw [hY]; rfl
    rw [← hY] at HBd Hd KEd KCd KDd hHeld ⊢
    clear hY
    refine wpAnyH_ready (rs := [6, 12]) (by kernel_rfl) (by simp) (AllReadyH.cons rfl (fun K hK => ?_) (AllReadyH.cons rfl (fun K hK => ?_) AllReadyH.nil))
    · skip
      have HM0 := Hd
      have KE0 := KEd
      have KC0 := KCd
      have KD0 := KDd
      have HB0 := HBd
      clear Hd KEd KCd KDd HBd
      go_simp
      refine (CG.out A n c _ (by exact HM0.out.ps.podsAll) (by omega)).mono ?_
      rintro e u1 ⟨rfl, hbx⟩
      have HM1 := Lib.hid (HM0.out.below hbx)
      have KE1 := Lib.hid (box_below KE0.out hbx)
      have KC1 := Lib.hid (box_below KC0.out hbx)
      have KD1 := Lib.hid (box_below KD0.out hbx)
      have HB1 : Hid (Below X.heap.size X u1) := bel_then HB0.out hbx HB0.out.size
      clear hbx  hHeld HM0 KE0 KC0 KD0 HB0 
      refine hK _ _ (by exact ⟨range_of KE1.out (enL_sp r.e A n c), range_of KE1.out (enL_fl r.e A n c), range_of KC1.out rfl, range_of KD1.out rfl⟩) (fun hHeld => ?_)
      clear hK K
      try simp only [Act.put, pj]
      refine wpAnyH_ready (rs := [8, 12]) (by kernel_rfl) (by simp) (AllReadyH.cons rfl (fun K hK => ?_) (AllReadyH.cons rfl (fun K hK => ?_) AllReadyH.nil))
      · skip
        go_simp
        refine (CP.out _).mono ?_
        rintro e u2 ⟨rfl, hbx⟩
        have HM2 := Lib.hid (HM1.out.below hbx)
        have KE2 := Lib.hid (box_below KE1.out hbx)
        have KC2 := Lib.hid (box_below KC1.out hbx)
        have KD2 := Lib.hid (box_below KD1.out hbx)
        have HB2 : Hid (Below X.heap.size X u2) := bel_then HB1.out hbx HB1.out.size
        clear hbx  hHeld HM1 KE1 KC1 KD1 HB1 
        refine hK _ _ (by exact ⟨range_of KE2.out (enL_sp r.e A n c), range_of KE2.out (enL_fl r.e A n c), range_of KC2.out rfl, range_of KD2.out rfl⟩) (fun hHeld => ?_)
        clear hK K
        try simp only [Act.put, pj]
        refine tkk (i := 9) rfl ?_
        try simp only [Act.put, pj]
        refine tkk (i := 10) rfl ?_
        try simp only [Act.put, pj]
        refine tkk (i := 11) rfl ?_
        try simp only [Act.put, pj]
        refine wpAnyH_ready (rs := [12]) (by kernel_rfl) (by simp) (AllReadyH.cons rfl (fun K hK => ?_) AllReadyH.nil)
        go_simp
        have hbp := bel1 u2 (.cells #[.int .i64 0, .int .i64 0, .int .i64 0, .int .i64 0] 237)
        have KP3 := Lib.hid (box_new u2 (.cells #[.int .i64 0, .int .i64 0, .int .i64 0, .int .i64 0] 237))
        obtain ⟨u3, hW⟩ : ∃ Z, Z = u2.alloc (.cells #[.int .i64 0, .int .i64 0, .int .i64 0, .int .i64 0] 237) := ⟨_, rfl⟩
        rw [← hW] at hbp KP3 ⊢
        have hP : X.heap.size ≤ u2.heap.size := HB2.out.size
        obtain ⟨PP, hPP⟩ : ∃ PP, PP = u2.heap.size := ⟨_, rfl⟩
        rw [← hPP] at hP KP3
        (try rw [← hPP])
        clear hPP
        have hbx := hbp
        have HM3 := Lib.hid (HM2.out.below hbx)
        have KE3 := Lib.hid (box_below KE2.out hbx)
        have KC3 := Lib.hid (box_below KC2.out hbx)
        have KD3 := Lib.hid (box_below KD2.out hbx)
        have HB3 : Hid (Below X.heap.size X u3) := bel_then HB2.out hbx HB2.out.size
        clear hbx hbp hW hHeld HM2 KE2 KC2 KD2 HB2 
        refine hK _ _ (by exact ⟨range_of KE3.out (enL_sp r.e A n c), range_of KE3.out (enL_fl r.e A n c), range_of KC3.out rfl, range_of KD3.out rfl⟩) (fun hHeld => ?_)
        clear hK K
        try simp only [Act.put, pj]
        refine wpAnyH_ready (rs := [13]) (by kernel_rfl) (by simp) (AllReadyH.cons rfl (fun K hK => ?_) AllReadyH.nil)
        refine wp_put rfl 237 _ _ rfl PP 0 ([.int .i64 cr, .int .i64 dr, .int .i64 da, .int .i64 df]) rfl rfl KP3.out (by kernel_rfl) ([.int .i64 cr, .int .i64 dr, .int .i64 da, .int .i64 df]) rfl (Nat.le_of_ble_eq_true rfl) (by simp [Value.oneCell']) ?_
        obtain ⟨Q, hQ⟩ : ∃ Q, Q = u3.setRow PP ([.int .i64 cr, .int .i64 dr, .int .i64 da, .int .i64 df]).toArray := ⟨_, rfl⟩
        have KPX : Hid (Q.heap[PP]? = some (.cells ([.int .i64 cr, .int .i64 dr, .int .i64 da, .int .i64 df]).toArray 237 (0, 0))) := by rw [hQ]; exact row_box KP3.out
        have hbq : Below X.heap.size X Q := by rw [hQ]; exact row_below HB3.out _ _ hP HB3.out.size
        have HBQ := Lib.hid hbq
        have KEX := Lib.hid (box_below KE4.out hbq)
        have KCX := Lib.hid (box_below KC.out hbq)
        have KDX := Lib.hid (box_below KD.out hbq)
        rw [← hQ]
        clear hQ KP3 hHeld hbq
        refine hK _ _ (by exact ⟨range_of KEX.out (enL_sp r.e A n c), range_of KEX.out (enL_fl r.e A n c), range_of KCX.out rfl, range_of KDX.out rfl⟩) (fun hHeld => ?_)
        clear hK K
        try simp only [Act.put, pj]
        refine tkk (i := 14) rfl ?_
        try simp only [Act.put, pj]
        refine wpAnyH_done (by kernel_rfl) ?_ _
        clear hHeld
        go_wp2_with fail
        go_meet
        case rel => exact ⟨_, rfl, KPX, HBQ, hP⟩
      · skip
        go_simp
        have hbp := bel1 u1 (.cells #[.int .i64 0, .int .i64 0, .int .i64 0, .int .i64 0] 237)
        have KP2 := Lib.hid (box_new u1 (.cells #[.int .i64 0, .int .i64 0, .int .i64 0, .int .i64 0] 237))
        obtain ⟨u2, hW⟩ : ∃ Z, Z = u1.alloc (.cells #[.int .i64 0, .int .i64 0, .int .i64 0, .int .i64 0] 237) := ⟨_, rfl⟩
        rw [← hW] at hbp KP2 ⊢
        have hP : X.heap.size ≤ u1.heap.size := HB1.out.size
        obtain ⟨PP, hPP⟩ : ∃ PP, PP = u1.heap.size := ⟨_, rfl⟩
        rw [← hPP] at hP KP2
        (try rw [← hPP])
        clear hPP
        have hbx := hbp
        have HM2 := Lib.hid (HM1.out.below hbx)
        have KE2 := Lib.hid (box_below KE1.out hbx)
        have KC2 := Lib.hid (box_below KC1.out hbx)
        have KD2 := Lib.hid (box_below KD1.out hbx)
        have HB2 : Hid (Below X.heap.size X u2) := bel_then HB1.out hbx HB1.out.size
        clear hbx hbp hW hHeld HM1 KE1 KC1 KD1 HB1 
        refine hK _ _ (by exact ⟨range_of KE2.out (enL_sp r.e A n c), range_of KE2.out (enL_fl r.e A n c), range_of KC2.out rfl, range_of KD2.out rfl⟩) (fun hHeld => ?_)
        clear hK K
        try simp only [Act.put, pj]
        refine wpAnyH_ready (rs := [8]) (by kernel_rfl) (by simp) (AllReadyH.cons rfl (fun K hK => ?_) AllReadyH.nil)
        go_simp
        refine (CP.out _).mono ?_
        rintro e u3 ⟨rfl, hbx⟩
        have KP3 := Lib.hid (box_below KP2.out hbx)
        have HM3 := Lib.hid (HM2.out.below hbx)
        have KE3 := Lib.hid (box_below KE2.out hbx)
        have KC3 := Lib.hid (box_below KC2.out hbx)
        have KD3 := Lib.hid (box_below KD2.out hbx)
        have HB3 : Hid (Below X.heap.size X u3) := bel_then HB2.out hbx HB2.out.size
        clear hbx  hHeld HM2 KE2 KC2 KD2 HB2 KP2
        refine hK _ _ (by exact ⟨range_of KE3.out (enL_sp r.e A n c), range_of KE3.out (enL_fl r.e A n c), range_of KC3.out rfl, range_of KD3.out rfl⟩) (fun hHeld => ?_)
        clear hK K
        try simp only [Act.put, pj]
        refine tkk (i := 9) rfl ?_
        try simp only [Act.put, pj]
        refine tkk (i := 10) rfl ?_
        try simp only [Act.put, pj]
        refine tkk (i := 11) rfl ?_
        try simp only [Act.put, pj]
        refine wpAnyH_ready (rs := [13]) (by kernel_rfl) (by simp) (AllReadyH.cons rfl (fun K hK => ?_) AllReadyH.nil)
        refine wp_put rfl 237 _ _ rfl PP 0 ([.int .i64 cr, .int .i64 dr, .int .i64 da, .int .i64 df]) rfl rfl KP3.out (by kernel_rfl) ([.int .i64 cr, .int .i64 dr, .int .i64 da, .int .i64 df]) rfl (Nat.le_of_ble_eq_true rfl) (by simp [Value.oneCell']) ?_
        obtain ⟨Q, hQ⟩ : ∃ Q, Q = u3.setRow PP ([.int .i64 cr, .int .i64 dr, .int .i64 da, .int .i64 df]).toArray := ⟨_, rfl⟩
        have KPX : Hid (Q.heap[PP]? = some (.cells ([.int .i64 cr, .int .i64 dr, .int .i64 da, .int .i64 df]).toArray 237 (0, 0))) := by rw [hQ]; exact row_box KP3.out
        have hbq : Below X.heap.size X Q := by rw [hQ]; exact row_below HB3.out _ _ hP HB3.out.size
        have HBQ := Lib.hid hbq
        have KEX := Lib.hid (box_below KE4.out hbq)
        have KCX := Lib.hid (box_below KC.out hbq)
        have KDX := Lib.hid (box_below KD.out hbq)
        rw [← hQ]
        clear hQ KP3 hHeld hbq
        refine hK _ _ (by exact ⟨range_of KEX.out (enL_sp r.e A n c), range_of KEX.out (enL_fl r.e A n c), range_of KCX.out rfl, range_of KDX.out rfl⟩) (fun hHeld => ?_)
        clear hK K
        try simp only [Act.put, pj]
        refine tkk (i := 14) rfl ?_
        try simp only [Act.put, pj]
        refine wpAnyH_done (by kernel_rfl) ?_ _
        clear hHeld
        go_wp2_with fail
        go_meet
        case rel => exact ⟨_, rfl, KPX, HBQ, hP⟩
    · skip
      have HM0 := Hd
      have KE0 := KEd
      have KC0 := KCd
      have KD0 := KDd
      have HB0 := HBd
      clear Hd KEd KCd KDd HBd
      go_simp
      have hbp := bel1 Y (.cells #[.int .i64 0, .int .i64 0, .int .i64 0, .int .i64 0] 237)
      have KP1 := Lib.hid (box_new Y (.cells #[.int .i64 0, .int .i64 0, .int .i64 0, .int .i64 0] 237))
      obtain ⟨u1, hW⟩ : ∃ Z, Z = Y.alloc (.cells #[.int .i64 0, .int .i64 0, .int .i64 0, .int .i64 0] 237) := ⟨_, rfl⟩
      rw [← hW] at hbp KP1 ⊢
      have hP : X.heap.size ≤ Y.heap.size := HB0.out.size
      obtain ⟨PP, hPP⟩ : ∃ PP, PP = Y.heap.size := ⟨_, rfl⟩
      rw [← hPP] at hP KP1
      (try rw [← hPP])
      clear hPP
      have hbx := hbp
      have HM1 := Lib.hid (HM0.out.below hbx)
      have KE1 := Lib.hid (box_below KE0.out hbx)
      have KC1 := Lib.hid (box_below KC0.out hbx)
      have KD1 := Lib.hid (box_below KD0.out hbx)
      have HB1 : Hid (Below X.heap.size X u1) := bel_then HB0.out hbx HB0.out.size
      clear hbx hbp hW hHeld HM0 KE0 KC0 KD0 HB0 
      refine hK _ _ (by exact ⟨range_of KE1.out (enL_sp r.e A n c), range_of KE1.out (enL_fl r.e A n c), range_of KC1.out rfl, range_of KD1.out rfl⟩) (fun hHeld => ?_)
      clear hK K
      try simp only [Act.put, pj]
      refine wpAnyH_ready (rs := [6]) (by kernel_rfl) (by simp) (AllReadyH.cons rfl (fun K hK => ?_) AllReadyH.nil)
      go_simp
      refine (CG.out A n c _ (by exact HM1.out.ps.podsAll) (by omega)).mono ?_
      rintro e u2 ⟨rfl, hbx⟩
      have KP2 := Lib.hid (box_below KP1.out hbx)
      have HM2 := Lib.hid (HM1.out.below hbx)
      have KE2 := Lib.hid (box_below KE1.out hbx)
      have KC2 := Lib.hid (box_below KC1.out hbx)
      have KD2 := Lib.hid (box_below KD1.out hbx)
      have HB2 : Hid (Below X.heap.size X u2) := bel_then HB1.out hbx HB1.out.size
      clear hbx  hHeld HM1 KE1 KC1 KD1 HB1 KP1
      refine hK _ _ (by exact ⟨range_of KE2.out (enL_sp r.e A n c), range_of KE2.out (enL_fl r.e A n c), range_of KC2.out rfl, range_of KD2.out rfl⟩) (fun hHeld => ?_)
      clear hK K
      try simp only [Act.put, pj]
      refine wpAnyH_ready (rs := [8]) (by kernel_rfl) (by simp) (AllReadyH.cons rfl (fun K hK => ?_) AllReadyH.nil)
      go_simp
      refine (CP.out _).mono ?_
      rintro e u3 ⟨rfl, hbx⟩
      have KP3 := Lib.hid (box_below KP2.out hbx)
      have HM3 := Lib.hid (HM2.out.below hbx)
      have KE3 := Lib.hid (box_below KE2.out hbx)
      have KC3 := Lib.hid (box_below KC2.out hbx)
      have KD3 := Lib.hid (box_below KD2.out hbx)
      have HB3 : Hid (Below X.heap.size X u3) := bel_then HB2.out hbx HB2.out.size
      clear hbx  hHeld HM2 KE2 KC2 KD2 HB2 KP2
      refine hK _ _ (by exact ⟨range_of KE3.out (enL_sp r.e A n c), range_of KE3.out (enL_fl r.e A n c), range_of KC3.out rfl, range_of KD3.out rfl⟩) (fun hHeld => ?_)
      clear hK K
      try simp only [Act.put, pj]
      refine tkk (i := 9) rfl ?_
      try simp only [Act.put, pj]
      refine tkk (i := 10) rfl ?_
      try simp only [Act.put, pj]
      refine tkk (i := 11) rfl ?_
      try simp only [Act.put, pj]
      refine wpAnyH_ready (rs := [13]) (by kernel_rfl) (by simp) (AllReadyH.cons rfl (fun K hK => ?_) AllReadyH.nil)
      refine wp_put rfl 237 _ _ rfl PP 0 ([.int .i64 cr, .int .i64 dr, .int .i64 da, .int .i64 df]) rfl rfl KP3.out (by kernel_rfl) ([.int .i64 cr, .int .i64 dr, .int .i64 da, .int .i64 df]) rfl (Nat.le_of_ble_eq_true rfl) (by simp [Value.oneCell']) ?_
      obtain ⟨Q, hQ⟩ : ∃ Q, Q = u3.setRow PP ([.int .i64 cr, .int .i64 dr, .int .i64 da, .int .i64 df]).toArray := ⟨_, rfl⟩
      have KPX : Hid (Q.heap[PP]? = some (.cells ([.int .i64 cr, .int .i64 dr, .int .i64 da, .int .i64 df]).toArray 237 (0, 0))) := by rw [hQ]; exact row_box KP3.out
      have hbq : Below X.heap.size X Q := by rw [hQ]; exact row_below HB3.out _ _ hP HB3.out.size
      have HBQ := Lib.hid hbq
      have KEX := Lib.hid (box_below KE4.out hbq)
      have KCX := Lib.hid (box_below KC.out hbq)
      have KDX := Lib.hid (box_below KD.out hbq)
      rw [← hQ]
      clear hQ KP3 hHeld hbq
      refine hK _ _ (by exact ⟨range_of KEX.out (enL_sp r.e A n c), range_of KEX.out (enL_fl r.e A n c), range_of KCX.out rfl, range_of KDX.out rfl⟩) (fun hHeld => ?_)
      clear hK K
      try simp only [Act.put, pj]
      refine tkk (i := 14) rfl ?_
      try simp only [Act.put, pj]
      refine wpAnyH_done (by kernel_rfl) ?_ _
      clear hHeld
      go_wp2_with fail
      go_meet
      case rel => exact ⟨_, rfl, KPX, HBQ, hP⟩
  obtain ⟨PP, rfl, KP, HBX, hPP⟩ := hcut
  obtain ⟨Y, hY⟩ : ∃ Y, Y = wc := ⟨_, rfl⟩
  rw [← hY] at KP HBX ⊢
  clear hY KC KD CG CP
  have H5 := Lib.hid (H4.out.below HBX.out)
  have KE5 := Lib.hid (box_below KE4.out HBX.out)
  have HB5 : Hid (Below w.heap.size w Y) := bel_then HBW.out HBX.out HBW.out.size
  have HPY : Hid (OwnP Y 0 A n c r.e.ps) := H5.out.ps
  have hwy : w.heap.size ≤ Y.heap.size := HB5.out.size
  clear H4 KE4 HBW HBX hPP
  have HA0 : Hid (Amid Y S b r Y) := Amid.start ⟨_, _, _, _, _, _, H5.out⟩
  clear H5
  have HE0 : Hid (r.ev.length ≤ 800000 + 0 ∧ r.e.ps.length ≤ 30 ∧ r.e.tg = r.e.tg ∧ r.e.now = r.e.now ∧ r.e.wt = r.e.wt) := ⟨by omega, h30, rfl, rfl, rfl⟩
  obtain ⟨S1, hm, hs, ht, hk⟩ := HA0.out
  have HS1 := Lib.hid hs
  have HT1 := Lib.hid ht
  have HK1 := Lib.hid hk
  have HM1 := Lib.hid hm
  have HPO1 := Lib.hid (hk.pods HPY.out)
  have KEa1 : Hid (Y.heap[P0]? = some (.cells (enL r.e A n c).toArray 36 (0, 0))) := hk _ _ _ _ (by decide) (by decide) KE5.out
  have KPa1 : Hid (Y.heap[PP]? = some (.cells ([.int .i64 cr, .int .i64 dr, .int .i64 da, .int .i64 df]).toArray 237 (0, 0))) := hk _ _ _ _ (by decide) (by decide) KP.out
  clear hm hs ht hk HA0
  have p1 : Y.cell? ⟨PP, 1, none⟩ = some (.int .i64 dr) := box_cell KPa1.out 1 _ rfl
  go_wp2_with (refine wpList_get rfl 36 _ rfl P0 0 rfl KEa1.out (enL r.e A n c) (enL_all r.e A n c) Tryz.underlying36 rfl (by kernel_rfl) ?_)
  refine (dropSome_any Y S1 b r r.e A n c dr false false HM1.out HPO1.out (by have := HE0.out; omega) (by have := HE0.out; omega) h30 (by have := PB.out; omega)).mono ?_
  intro e w1 hmv
  obtain ⟨rfl, ha⟩ := Amid.call HS1.out HT1.out HK1.out hmv
  obtain ⟨q1, d1, hq⟩ : ∃ qz dz, (qz, dz) = ModV.mdropN r (selB r.e false false) dr r.e.ps := ⟨_, _, rfl⟩
  have hall := mdropN_all (selB r.e false false) r.e.ps r dr
  rw [← hq] at ha hall
  rw [← hq]
  have HA1 : Hid (Amid Y S b q1 w1) := ha
  have HQ1 := Lib.hid hq
  have HE1 : Hid (q1.ev.length ≤ 800000 + 30 ∧ q1.e.ps.length ≤ 30 ∧ q1.e.tg = r.e.tg ∧ q1.e.now = r.e.now ∧ q1.e.wt = r.e.wt) := by
    have h0 := HE0.out
    obtain ⟨h1, h2, h3, h4, h5⟩ := hall
    have h1e : q1.ev.length ≤ r.ev.length + r.e.ps.length := h1.ev
    have h2 : q1.e.ps.length = r.e.ps.length := h2
    exact ⟨by omega, by omega, h1.tg, h1.now, h3⟩
  have HD1 : Hid (dr - 30 ≤ d1 ∧ d1 ≤ dr) := by
    obtain ⟨h1, h2, h3, h4, h5⟩ := hall
    have h4 : dr - (r.e.ps.length : Int) ≤ d1 := h4
    exact ⟨by omega, h5⟩
  clear hmv ha hq hall HS1 HT1 HK1 HM1 HPO1 KEa1 KPa1 p1
  obtain ⟨S2, hm, hs, ht, hk⟩ := HA1.out
  have HS2 := Lib.hid hs
  have HT2 := Lib.hid ht
  have HK2 := Lib.hid hk
  have HM2 := Lib.hid hm
  have HPO2 := Lib.hid (hk.pods HPY.out)
  have KEa2 : Hid (w1.heap[P0]? = some (.cells (enL r.e A n c).toArray 36 (0, 0))) := hk _ _ _ _ (by decide) (by decide) KE5.out
  have KPa2 : Hid (w1.heap[PP]? = some (.cells ([.int .i64 cr, .int .i64 dr, .int .i64 da, .int .i64 df]).toArray 237 (0, 0))) := hk _ _ _ _ (by decide) (by decide) KP.out
  clear hm hs ht hk HA1
  have p2 : w1.cell? ⟨PP, 2, none⟩ = some (.int .i64 da) := box_cell KPa2.out 2 _ rfl
  go_wp2_with (refine wpList_get rfl 36 _ rfl P0 0 rfl KEa2.out (enL r.e A n c) (enL_all r.e A n c) Tryz.underlying36 rfl (by kernel_rfl) ?_)
  refine (dropSome_any w1 S2 b q1 r.e A n c da false true HM2.out HPO2.out (by have := HE1.out; omega) (by have := HE1.out; omega) h30 (by have := PB.out; omega)).mono ?_
  intro e w2 hmv
  obtain ⟨rfl, ha⟩ := Amid.call HS2.out HT2.out HK2.out hmv
  obtain ⟨q2, d2, hq⟩ : ∃ qz dz, (qz, dz) = ModV.mdropN q1 (selB r.e false true) da r.e.ps := ⟨_, _, rfl⟩
  have hall := mdropN_all (selB r.e false true) r.e.ps q1 da
  rw [← hq] at ha hall
  rw [← hq]
  have HA2 : Hid (Amid Y S b q2 w2) := ha
  have HQ2 := Lib.hid hq
  have HE2 : Hid (q2.ev.length ≤ 800000 + 60 ∧ q2.e.ps.length ≤ 30 ∧ q2.e.tg = r.e.tg ∧ q2.e.now = r.e.now ∧ q2.e.wt = r.e.wt) := by
    have h0 := HE1.out
    obtain ⟨h1, h2, h3, h4, h5⟩ := hall
    have h1e : q2.ev.length ≤ q1.ev.length + r.e.ps.length := h1.ev
    have h2 : q2.e.ps.length = q1.e.ps.length := h2
    exact ⟨by omega, by omega, h1.tg.trans h0.2.2.1, h1.now.trans h0.2.2.2.1, h3.trans h0.2.2.2.2⟩
  have HD2 : Hid (da - 30 ≤ d2 ∧ d2 ≤ da) := by
    obtain ⟨h1, h2, h3, h4, h5⟩ := hall
    have h4 : da - (r.e.ps.length : Int) ≤ d2 := h4
    exact ⟨by omega, h5⟩
  clear hmv ha hq hall HS2 HT2 HK2 HM2 HPO2 KEa2 KPa2 p2
  obtain ⟨S3, hm, hs, ht, hk⟩ := HA2.out
  have HS3 := Lib.hid hs
  have HT3 := Lib.hid ht
  have HK3 := Lib.hid hk
  have HM3 := Lib.hid hm
  have HPO3 := Lib.hid (hk.pods HPY.out)
  have KEa3 : Hid (w2.heap[P0]? = some (.cells (enL r.e A n c).toArray 36 (0, 0))) := hk _ _ _ _ (by decide) (by decide) KE5.out
  have KPa3 : Hid (w2.heap[PP]? = some (.cells ([.int .i64 cr, .int .i64 dr, .int .i64 da, .int .i64 df]).toArray 237 (0, 0))) := hk _ _ _ _ (by decide) (by decide) KP.out
  clear hm hs ht hk HA2
  have p3 : w2.cell? ⟨PP, 3, none⟩ = some (.int .i64 df) := box_cell KPa3.out 3 _ rfl
  go_wp2_with (refine wpList_get rfl 36 _ rfl P0 0 rfl KEa3.out (enL r.e A n c) (enL_all r.e A n c) Tryz.underlying36 rfl (by kernel_rfl) ?_)
  refine (dropSome_any w2 S3 b q2 r.e A n c df true false HM3.out HPO3.out (by have := HE2.out; omega) (by have := HE2.out; omega) h30 (by have := PB.out; omega)).mono ?_
  intro e w3 hmv
  obtain ⟨rfl, ha⟩ := Amid.call HS3.out HT3.out HK3.out hmv
  obtain ⟨q3, d3, hq⟩ : ∃ qz dz, (qz, dz) = ModV.mdropN q2 (selB r.e true false) df r.e.ps := ⟨_, _, rfl⟩
  have hall := mdropN_all (selB r.e true false) r.e.ps q2 df
  rw [← hq] at ha hall
  rw [← hq]
  have HA3 : Hid (Amid Y S b q3 w3) := ha
  have HQ3 := Lib.hid hq
  have HE3 : Hid (q3.ev.length ≤ 800000 + 90 ∧ q3.e.ps.length ≤ 30 ∧ q3.e.tg = r.e.tg ∧ q3.e.now = r.e.now ∧ q3.e.wt = r.e.wt) := by
    have h0 := HE2.out
    obtain ⟨h1, h2, h3, h4, h5⟩ := hall
    have h1e : q3.ev.length ≤ q2.ev.length + r.e.ps.length := h1.ev
    have h2 : q3.e.ps.length = q2.e.ps.length := h2
    exact ⟨by omega, by omega, h1.tg.trans h0.2.2.1, h1.now.trans h0.2.2.2.1, h3.trans h0.2.2.2.2⟩
  have HD3 : Hid (df - 30 ≤ d3 ∧ d3 ≤ df) := by
    obtain ⟨h1, h2, h3, h4, h5⟩ := hall
    have h4 : df - (r.e.ps.length : Int) ≤ d3 := h4
    exact ⟨by omega, h5⟩
  clear hmv ha hq hall HS3 HT3 HK3 HM3 HPO3 KEa3 KPa3 p3
  obtain ⟨S4, hm, hs, ht, hk⟩ := HA3.out
  have HS4 := Lib.hid hs
  have HT4 := Lib.hid ht
  have HK4 := Lib.hid hk
  have HM4 := Lib.hid hm
  have HPO4 := Lib.hid (hk.pods HPY.out)
  have KEa4 : Hid (w3.heap[P0]? = some (.cells (enL r.e A n c).toArray 36 (0, 0))) := hk _ _ _ _ (by decide) (by decide) KE5.out
  have KPa4 : Hid (w3.heap[PP]? = some (.cells ([.int .i64 cr, .int .i64 dr, .int .i64 da, .int .i64 df]).toArray 237 (0, 0))) := hk _ _ _ _ (by decide) (by decide) KP.out
  clear hm hs ht hk HA3
  go_wp2_with (refine wpList_get rfl 36 _ rfl P0 0 rfl KEa4.out (enL r.e A n c) (enL_all r.e A n c) Tryz.underlying36 rfl (by kernel_rfl) ?_)
  refine (dropSome_any w3 S4 b q3 r.e A n c d3 true true HM4.out HPO4.out (by have := HE3.out; omega) (by have := HE3.out; omega) h30 (by have h1 := PB.out; have h2 := HD3.out; omega)).mono ?_
  intro e w4 hmv
  obtain ⟨rfl, ha⟩ := Amid.call HS4.out HT4.out HK4.out hmv
  obtain ⟨q4, d4, hq⟩ : ∃ qz dz, (qz, dz) = ModV.mdropN q3 (selB r.e true true) d3 r.e.ps := ⟨_, _, rfl⟩
  have hall := mdropN_all (selB r.e true true) r.e.ps q3 d3
  rw [← hq] at ha hall
  rw [← hq]
  have HA4 : Hid (Amid Y S b q4 w4) := ha
  have HQ4 := Lib.hid hq
  have HE4 : Hid (q4.ev.length ≤ 800000 + 120 ∧ q4.e.ps.length ≤ 30 ∧ q4.e.tg = r.e.tg ∧ q4.e.now = r.e.now ∧ q4.e.wt = r.e.wt) := by
    have h0 := HE3.out
    obtain ⟨h1, h2, h3, h4, h5⟩ := hall
    have h1e : q4.ev.length ≤ q3.ev.length + r.e.ps.length := h1.ev
    have h2 : q4.e.ps.length = q3.e.ps.length := h2
    exact ⟨by omega, by omega, h1.tg.trans h0.2.2.1, h1.now.trans h0.2.2.2.1, h3.trans h0.2.2.2.2⟩
  have HD4 : Hid (d3 - 30 ≤ d4 ∧ d4 ≤ d3) := by
    obtain ⟨h1, h2, h3, h4, h5⟩ := hall
    have h4 : d3 - (r.e.ps.length : Int) ≤ d4 := h4
    exact ⟨by omega, h5⟩
  clear hmv ha hq hall HS4 HT4 HK4 HM4 HPO4 KEa4 KPa4 
  have HR4 : Hid (R = if r.e.now < r.e.wt then q4 else q4.makeN cr.toNat) := by
    show _ = _
    have a1 : q1 = (ModV.mdropN r (selB r.e false false) dr r.e.ps).1 := congrArg Prod.fst HQ1.out
    have a2 : q2 = (ModV.mdropN q1 (selB r.e false true) da r.e.ps).1 := congrArg Prod.fst HQ2.out
    have a3 : (q3, d3) = ModV.mdropN q2 (selB r.e true false) df r.e.ps := HQ3.out
    have a4 : q4 = (ModV.mdropN q3 (selB r.e true true) d3 r.e.ps).1 := congrArg Prod.fst HQ4.out
    rw [HRV.out]
    rw [← a1, ← a2, ← a3]
    dsimp only
    rw [← a4]
  obtain ⟨N, hN⟩ : ∃ N : Nat, cr = N := ⟨cr.toNat, by have := PB.out; omega⟩
  have hN1 : N ≤ 1000 := by have := PB.out; omega
  have HR5 : Hid (R = if r.e.now < r.e.wt then q4 else q4.makeN N) := by show _ = _; rw [HR4.out, hN]; rfl
  subst hN
  clear HQ1 HQ2 HQ3 HQ4 HD1 HD2 HD3 HD4 HE0 HE1 HE2 HE3 HR4 HRV PB HPY
  obtain ⟨S5, hm, hs, ht, hk⟩ := HA4.out
  have KE6 : Hid (w4.heap[P0]? = some (.cells (enL r.e A n c).toArray 36 (0, 0))) := hk _ _ _ _ (by decide) (by decide) KE5.out
  clear hm hs ht hk
  have e11 : w4.cell? ⟨P0, 11, none⟩ = some (.int .i64 r.e.now) := box_cell KE6.out 11 _ rfl
  have e19 : w4.cell? ⟨P0, 19, none⟩ = some (.int .i64 r.e.wt) := box_cell KE6.out 19 _ rfl
  have HTY : Hid (Turned S w Y) := Turned.of_below HB5.out
  have HKY : Hid (Kept w Y) := Kept.below HB5.out
  by_cases hnw : r.e.now < r.e.wt
  · have hd : decide (r.e.now < r.e.wt) = true := by simp [hnw]
    have HF : Hid (R = q4) := by show _ = _; rw [HR5.out, if_pos hnw]
    clear hnw HR5
    go_wp2
    go_end0
    rw [HF.out]
    exact Moved.step (fun q hq => .inl hq) HTY.out HKY.out (Amid.fin HA4.out)
  have hd : decide (r.e.now < r.e.wt) = false := by simp [hnw]
  have HR6 : Hid (R = q4.makeN (N - 0)) := by show _ = _; rw [HR5.out, if_neg hnw]; rfl
  have HE5 : Hid (q4.ev.length ≤ 800120 + 0 ∧ q4.e.ps.length ≤ 1048576 ∧ q4.e.tg = r.e.tg ∧ q4.e.now = r.e.now) := by have h := HE4.out; exact ⟨by omega, by omega, h.2.2.1, h.2.2.2.1⟩
  clear hnw HR5 HE4
  go_wp2_with fail
  clear e11 e19 KE6
  go_loopw [11] (fun i wr => ∃ (k : Nat) (q : Run), k ≤ N ∧ i = .int .i64 k ∧ Hid (Amid Y S b q wr) ∧ Hid (R = q.makeN (N - k)) ∧ Hid (q.ev.length ≤ 800120 + k ∧ q.e.ps.length ≤ 1048576 ∧ q.e.tg = r.e.tg ∧ q.e.now = r.e.now)) (fun i _ => N - (RowKit.intOf i).toNat)
  case atStart => exact ⟨0, q4, Nat.zero_le _, rfl, HA4, HR6, HE5⟩
  case round =>
    obtain ⟨k, q, hk, rfl, HA, HR, HB⟩ := hrel
    clear HR6 HE5 HA4
    obtain ⟨S1, hm1, hs1, ht1, hk1⟩ := HA.out
    have KEr : Hid (wr.heap[P0]? = some (.cells (enL r.e A n c).toArray 36 (0, 0))) := hk1 _ _ _ _ (by decide) (by decide) KE5.out
    have KPr : Hid (wr.heap[PP]? = some (.cells ([.int .i64 (N : Int), .int .i64 dr, .int .i64 da, .int .i64 df]).toArray 237 (0, 0))) := hk1 _ _ _ _ (by decide) (by decide) KP.out
    have p0 : wr.cell? ⟨PP, 0, none⟩ = some (.int .i64 N) := box_cell KPr.out 0 _ rfl
    by_cases hlt : k < N
    case neg =>
      have HE : Hid (R = q) := by have h := HR.out; rw [show N - k = 0 from by omega] at h; exact h
      have HFN : Hid (Moved b q (.tuple #[]) S w (.returned (.tuple #[])) wr) := Moved.step (fun q hq => .inl hq) HTY.out HKY.out (Amid.fin HA.out)
      clear HR hm1 hs1 ht1 hk1
      go_wp2
      go_end0
      rw [HE.out]
      exact HFN.out
    obtain ⟨v, hv⟩ : ∃ v, v = Crew.addV q.fl r.e.tg r.e.now := ⟨_, rfl⟩
    obtain ⟨D, hD⟩ : ∃ D, D = Crew.addD q.fl r.e.tg r.e.now := ⟨_, rfl⟩
    have HS : Hid (R = if v = 0 then q else Run.makeN ((q.setFl D).tell 0 v r.e.tg) (N - (k + 1))) := by
      show _ = _
      have hb := HB.out
      rw [HR.out, show N - k = (N - (k + 1)) + 1 from by omega, hv, hD, ← hb.2.2.1, ← hb.2.2.2]
      rfl
    have HD1 : Hid (D.1.length ≤ 1048576) := by show _ ≤ _; rw [hD]; exact Crew.few_add (d := q.fl) r.e.tg r.e.now HB.out.2.1
    have CA : Hid (∀ (A : Option Addr) (n c : Nat) (W : World), IsPods W W.heap.size A n q.e.ps → n ≤ 1048576 → Calls Tryz.prog 192 #[.agg (flL A n c q.e.nx).toArray, .int .i64 r.e.tg, .int .i64 r.e.now] W (Made1 FleetTy.fty D (.int .i64 v) W)) := fun A n c W h1 h2 => by
      rw [hD, hv]; exact Crew.specAddPod_any A n c q.e.nx r.e.tg r.e.now q.e.ps W.heap.size W h1 (Nat.le_refl _) h2
    clear hv hD HR
    have HS1 := Lib.hid hs1
    have HT1 := Lib.hid ht1
    have HK1 := Lib.hid hk1
    obtain ⟨A1, n1, c1, E1, m1, k1, h1⟩ := hm1
    have HM1 := Lib.hid h1
    have hn1 : n1 ≤ 1048576 := by rw [← h1.ps.1]; exact HB.out.2.1
    have hbr : b < wr.heap.size := h1.lt
    have HYR : Hid (Y.heap.size ≤ wr.heap.size) := ht1.size
    have HKB : Hid (∀ W, Below wr.heap.size wr W → W.cell? ⟨P0, 13, none⟩ = some (.int .i64 r.e.tg) ∧ W.cell? ⟨P0, 11, none⟩ = some (.int .i64 r.e.now)) := fun W hb => ⟨box_cell (box_below KEr.out hb) 13 _ rfl, box_cell (box_below KEr.out hb) 11 _ rfl⟩
    clear hs1 ht1 hk1 h1 HA KPr
    go_wp2_with fail
    clear p0
    go_cut [12, 13] (fun s12 s13 wx => ∃ (P : Nat) (A2 : Option Addr) (c2 : Nat), s12 = .pointer (some ⟨P, 0, none⟩) ∧ s13 = .int .i64 v ∧ Hid (wx.heap[P]? = some (.cells (flL A2 D.1.length c2 D.2).toArray 34 (0, 0))) ∧ Hid (OwnP wx 0 A2 D.1.length c2 D.1) ∧ Hid (∀ x, (Value.slice A2 D.1.length c2).ownBlock = some x → wr.heap.size ≤ x) ∧ Hid (Below wr.heap.size wr wx) ∧ wr.heap.size ≤ P)
    case first =>
      refine wp_region_held_drew (S := fun w' => w'.rangeAt b 15 (flL A1 n1 c1 q.e.nx) ∧ w'.cell? ⟨P0, 13, none⟩ = some (.int .i64 r.e.tg) ∧ w'.cell? ⟨P0, 11, none⟩ = some (.int .i64 r.e.now)) (by kernel_rfl) ⟨range_of HM1.out.box (moL_fl q A1 n1 c1 E1 m1 k1), HKB.out _ (undrew (Below.refl _ _))⟩ (fun hHeld => ?_)
      refine tkk (i := 0) rfl ?_
      try simp only [Act.put, pj]
      refine tkk (i := 1) rfl ?_
      try simp only [Act.put, pj]
      refine tkk (i := 2) rfl ?_
      try simp only [Act.put, pj]
      refine tkk (i := 3) rfl ?_
      try simp only [Act.put, pj]
      refine tkj (i := 4) (v := .agg (flL A1 n1 c1 q.e.nx).toArray) rfl (yieldsIf_load_mid (by rfl) 34 _ rfl b 15 rfl (flL A1 n1 c1 q.e.nx) _ (fun w' h => h.1) Tryz.underlying34 rfl (by kernel_rfl)) ?_
      try simp only [Act.put, pj]
      refine tkk (i := 5) rfl ?_
      try simp only [Act.put, pj]
      refine tkk (i := 6) rfl ?_
      try simp only [Act.put, pj]
      refine tkk (i := 7) rfl ?_
      try simp only [Act.put, pj]
      refine tkk (i := 8) rfl ?_
      try simp only [Act.put, pj]
      have hbd : Below wr.heap.size wr wr.drew := undrew (Below.refl _ _)
      refine wpAnyH_ready (rs := [9, 13]) (by kernel_rfl) (by simp) (AllReadyH.cons rfl (fun K hK => ?_) (AllReadyH.cons rfl (fun K hK => ?_) AllReadyH.nil))
      · go_simp
        have HMd := Lib.hid (HM1.out.below hbd)
        refine (CA.out A1 n1 c1 _ (by exact HMd.out.ps.podsAll) hn1).mono ?_
        rintro e w2 ⟨vv, S2, rfl, hO, hb⟩
        have hb' : Below wr.heap.size wr w2 := undrew hb
        obtain ⟨A2, c2, rfl, ho, hs⟩ := hO.own
        have hin := hO.inn
        have HFR : Hid (∀ x, (Value.slice A2 D.1.length c2).ownBlock = some x → wr.heap.size ≤ x) := fun x h => (hin x (hs x h)).1
        have hlt2 : ∀ x, (Value.slice A2 D.1.length c2).ownBlock = some x → x < w2.heap.size := fun x h => (ho.lt x h).2
        have HM2 := Lib.hid (HM1.out.below hb')
        have HB2 := Lib.hid hb'
        have HO2 := Lib.hid ho
        have HL2 := Lib.hid hlt2
        clear hb hb' hO ho hs hin hlt2 hHeld HMd hbd
        refine hK _ _ (by exact ⟨range_of HM2.out.box (moL_fl q A1 n1 c1 E1 m1 k1), HKB.out _ HB2.out⟩) (fun hHeld => ?_)
        clear hK K
        try simp only [Act.put, pj]
        refine tkk (i := 10) rfl ?_
        try simp only [Act.put, pj]
        refine tkk (i := 11) rfl ?_
        try simp only [Act.put, pj]
        refine tkk (i := 12) rfl ?_
        try simp only [Act.put, pj]
        refine wpAnyH_ready (rs := [13]) (by kernel_rfl) (by simp) (AllReadyH.cons rfl (fun K hK => ?_) AllReadyH.nil)
        go_simp
        have hbp := bel1 w2 (.cells #[.slice none 0 0, .int .i64 0] 34)
        have HM3 := Lib.hid (HM2.out.below hbp)
        have HB3 := Lib.hid (bel_then HB2.out hbp HB2.out.size)
        have KP := Lib.hid (box_new w2 (.cells #[.slice none 0 0, .int .i64 0] 34))
        have HO : Hid (OwnP (w2.alloc (.cells #[.slice none 0 0, .int .i64 0] 34)) 0 A2 D.1.length c2 D.1) := HO2.out.below hbp
        have HNE : Hid (∀ x, (Value.slice A2 D.1.length c2).ownBlock = some x → x ≠ w2.heap.size) := fun x h => by have := HL2.out x h; omega
        have hP : wr.heap.size ≤ w2.heap.size := HB2.out.size
        clear hbp HM2 HB2 HO2 HL2 hHeld
        refine hK _ _ (by exact ⟨range_of HM3.out.box (moL_fl q A1 n1 c1 E1 m1 k1), HKB.out _ HB3.out⟩) (fun hHeld => ?_)
        clear hK K
        try simp only [Act.put, pj]
        clear HM3
        refine wpAnyH_ready (rs := [14]) (by kernel_rfl) (by simp) (AllReadyH.cons rfl (fun K hK => ?_) AllReadyH.nil)
        refine wp_put rfl 34 _ _ rfl (w2.heap.size) 0 (flL A2 D.1.length c2 D.2) rfl rfl KP.out (by kernel_rfl) (flL A2 D.1.length c2 D.2) rfl (Nat.le_of_ble_eq_true rfl) (flL_one _ _ _ _) ?_
        obtain ⟨X, hX⟩ : ∃ X, X = (w2.alloc (.cells #[.slice none 0 0, .int .i64 0] 34)).setRow (w2.heap.size) (flL A2 D.1.length c2 D.2).toArray := ⟨_, rfl⟩
        have KPX : Hid (X.heap[w2.heap.size]? = some (.cells (flL A2 D.1.length c2 D.2).toArray 34 (0, 0))) := by rw [hX]; exact row_box KP.out
        have HBX : Hid (Below wr.heap.size wr X) := by rw [hX]; exact row_below HB3.out _ _ hP HB3.out.size
        have HMX := Lib.hid (HM1.out.below HBX.out)
        have HOX : Hid (OwnP X 0 A2 D.1.length c2 D.1) := HO.out.same fun qq hq => by rw [hX]; exact setRow_other _ _ _ _ (HNE.out qq hq)
        rw [← hX]
        clear hX KP HO HNE hHeld
        refine hK _ _ (by exact ⟨range_of HMX.out.box (moL_fl q A1 n1 c1 E1 m1 k1), HKB.out _ HBX.out⟩) (fun hHeld => ?_)
        clear hK K
        try simp only [Act.put, pj]
        refine tkk (i := 15) rfl ?_
        try simp only [Act.put, pj]
        refine wpAnyH_done (by kernel_rfl) ?_ _
        clear hHeld
        go_wp2_with fail
        go_meet
        case rel => exact ⟨_, A2, c2, rfl, rfl, KPX, HOX, HFR, HBX, hP⟩
      · go_simp
        have hbp := bel1 wr.drew (.cells #[.slice none 0 0, .int .i64 0] 34)
        have hbp' : Below wr.heap.size wr (wr.drew.alloc (.cells #[.slice none 0 0, .int .i64 0] 34)) := undrew hbp
        have HMp := Lib.hid (HM1.out.below hbp')
        have HBp := Lib.hid hbp'
        have KPp := Lib.hid (box_new wr.drew (.cells #[.slice none 0 0, .int .i64 0] 34))
        have hsz : wr.heap.size < (wr.drew.alloc (.cells #[.slice none 0 0, .int .i64 0] 34)).heap.size := by simp
        clear hbp hbp' hHeld hbd
        refine hK _ _ (by exact ⟨range_of HMp.out.box (moL_fl q A1 n1 c1 E1 m1 k1), HKB.out _ HBp.out⟩) (fun hHeld => ?_)
        clear hK K
        try simp only [Act.put, pj]
        refine wpAnyH_ready (rs := [9]) (by kernel_rfl) (by simp) (AllReadyH.cons rfl (fun K hK => ?_) AllReadyH.nil)
        go_simp
        refine (CA.out A1 n1 c1 _ (by exact HMp.out.ps.podsAll) hn1).mono ?_
        rintro e w2 ⟨vv, S2, rfl, hO, hb⟩
        obtain ⟨A2, c2, rfl, ho, hs⟩ := hO.own
        have hin := hO.inn
        have HFR : Hid (∀ x, (Value.slice A2 D.1.length c2).ownBlock = some x → wr.heap.size ≤ x) := fun x h => Nat.le_trans (Nat.le_of_lt hsz) (hin x (hs x h)).1
        have HNE : Hid (∀ x, (Value.slice A2 D.1.length c2).ownBlock = some x → x ≠ wr.drew.heap.size) := fun x h e => absurd (Nat.lt_of_lt_of_le hsz (hin x (hs x h)).1) (by rw [show x = wr.heap.size from e]; exact Nat.lt_irrefl _)
        have HM3 := Lib.hid (HMp.out.below hb)
        have HB3 := Lib.hid (bel_then HBp.out hb HBp.out.size)
        have HO := Lib.hid ho
        have KP := Lib.hid (box_below KPp.out hb)
        have hP : wr.heap.size ≤ wr.drew.heap.size := Nat.le_refl _
        clear hb hO ho hs hin hHeld HMp HBp KPp hsz
        refine hK _ _ (by exact ⟨range_of HM3.out.box (moL_fl q A1 n1 c1 E1 m1 k1), HKB.out _ HB3.out⟩) (fun hHeld => ?_)
        clear hK K
        try simp only [Act.put, pj]
        clear HM3
        refine tkk (i := 10) rfl ?_
        try simp only [Act.put, pj]
        refine tkk (i := 11) rfl ?_
        try simp only [Act.put, pj]
        refine tkk (i := 12) rfl ?_
        try simp only [Act.put, pj]
        refine wpAnyH_ready (rs := [14]) (by kernel_rfl) (by simp) (AllReadyH.cons rfl (fun K hK => ?_) AllReadyH.nil)
        refine wp_put rfl 34 _ _ rfl (wr.drew.heap.size) 0 (flL A2 D.1.length c2 D.2) rfl rfl KP.out (by kernel_rfl) (flL A2 D.1.length c2 D.2) rfl (Nat.le_of_ble_eq_true rfl) (flL_one _ _ _ _) ?_
        obtain ⟨X, hX⟩ : ∃ X, X = (w2).setRow (wr.drew.heap.size) (flL A2 D.1.length c2 D.2).toArray := ⟨_, rfl⟩
        have KPX : Hid (X.heap[wr.drew.heap.size]? = some (.cells (flL A2 D.1.length c2 D.2).toArray 34 (0, 0))) := by rw [hX]; exact row_box KP.out
        have HBX : Hid (Below wr.heap.size wr X) := by rw [hX]; exact row_below HB3.out _ _ hP HB3.out.size
        have HMX := Lib.hid (HM1.out.below HBX.out)
        have HOX : Hid (OwnP X 0 A2 D.1.length c2 D.1) := HO.out.same fun qq hq => by rw [hX]; exact setRow_other _ _ _ _ (HNE.out qq hq)
        rw [← hX]
        clear hX KP HO HNE hHeld
        refine hK _ _ (by exact ⟨range_of HMX.out.box (moL_fl q A1 n1 c1 E1 m1 k1), HKB.out _ HBX.out⟩) (fun hHeld => ?_)
        clear hK K
        try simp only [Act.put, pj]
        refine tkk (i := 15) rfl ?_
        try simp only [Act.put, pj]
        refine wpAnyH_done (by kernel_rfl) ?_ _
        clear hHeld
        go_wp2_with fail
        go_meet
        case rel => exact ⟨_, A2, c2, rfl, rfl, KPX, HOX, HFR, HBX, hP⟩
    obtain ⟨P, A2, c2, rfl, rfl, KF, HO, HFR, HBX, hP⟩ := hcut
    obtain ⟨X2, hX⟩ : ∃ X, X = wc := ⟨_, rfl⟩
    rw [← hX] at KF HO HBX ⊢
    clear hX CA
    have HM2 := Lib.hid (HM1.out.below HBX.out)
    have HT2 : Hid (Turned S Y X2) := HT1.out.trans (Turned.of_below HBX.out)
    have HK2 : Hid (Kept Y X2) := HK1.out.trans (Kept.below HBX.out)
    have KE2 := Lib.hid (box_below KEr.out HBX.out)
    clear HM1 HT1 HK1 HKB KEr
    by_cases hv0 : v = 0
    · have hq0 : (v == 0) = true := by simp [hv0]
      have HE : Hid (R = q) := by have h := HS.out; rw [if_pos hv0] at h; exact h
      have HFN : Hid (Moved b q (.tuple #[]) S w (.returned (.tuple #[])) X2) := Moved.step (fun q hq => .inl hq) HTY.out HKY.out (Amid.fin ⟨S1, ⟨_, _, _, _, _, _, HM2.out⟩, HS1.out, HT2.out, HK2.out⟩)
      clear hv0 HS HD1
      go_wp2
      go_end0
      rw [HE.out]
      exact HFN.out
    have hq0 : (v == 0) = false := by simp [hv0]
    have HE : Hid (R = Run.makeN ((q.setFl D).tell 0 v r.e.tg) (N - (k + 1))) := by have h := HS.out; rw [if_neg hv0] at h; exact h
    have HB2 : Hid (((q.setFl D).tell 0 v r.e.tg).ev.length ≤ 800120 + (k + 1) ∧ ((q.setFl D).tell 0 v r.e.tg).e.ps.length ≤ 1048576 ∧ ((q.setFl D).tell 0 v r.e.tg).e.tg = r.e.tg ∧ ((q.setFl D).tell 0 v r.e.tg).e.now = r.e.now) := ⟨by have h := HB.out.1; simp [Run.tell, Run.setFl]; omega, HD1.out, HB.out.2.2.1, HB.out.2.2.2⟩
    clear hv0 HS HD1
    go_upto_region 18 with (first | (refine wpList_get rfl 34 _ rfl P 0 rfl KF.out (flL A2 D.1.length c2 D.2) rfl Tryz.underlying34 rfl (by kernel_rfl) ?_) | (refine wpList_put rfl rfl 34 _ _ rfl b 15 (flL A2 D.1.length c2 D.2) rfl rfl HM2.out.box (by kernel_rfl) (moL (q.setFl D) A2 D.1.length c2 E1 m1 k1) rfl (Nat.le_of_ble_eq_true rfl) (flL_one _ _ _ _) ?_))
    obtain ⟨W2, hW2⟩ : ∃ Y, Y = X2.setRow b (moL (q.setFl D) A2 D.1.length c2 E1 m1 k1).toArray := ⟨_, rfl⟩
    have HM3 : Hid (ModAt W2 (fun x => S1 x ∨ wr.heap.size ≤ x) b (q.setFl D) A2 D.1.length c2 E1 m1 k1) := by
      rw [hW2]
      exact HM2.out.pods HO.out (fun _ h => .inl h) (fun x h => .inr (HFR.out x h))
    have hyr : Y.heap.size ≤ X2.heap.size := HT2.out.size
    have HT3 : Hid (Turned S Y W2) := by rw [hW2]; exact turned_then HS1.out HT2.out (turned_row HM2.out _)
    have HK3 : Hid (Kept Y W2) := by rw [hW2]; exact HK2.out.trans (Kept.row HM2.out.box (.inl rfl) _)
    have HS3 : Hid (∀ x, (S1 x ∨ wr.heap.size ≤ x) → S x ∨ Y.heap.size ≤ x) := fun x h => by
      rcases h with h | h
      · exact HS1.out x h
      · exact .inr (by have := HYR.out; omega)
    have KE3 : Hid (W2.heap[P0]? = some (.cells (enL r.e A n c).toArray 36 (0, 0))) := HK3.out _ _ _ _ (by decide) (by decide) KE5.out
    rw [← hW2]
    clear hW2 HM2 HO HT2 HK2 KF KE2 HBX HFR
    have e13 : W2.cell? ⟨P0, 13, none⟩ = some (.int .i64 r.e.tg) := box_cell KE3.out 13 _ rfl
    go_wp2_with fail
    refine (tell_any W2 _ b (q.setFl D) 0 v r.e.tg ⟨_, _, _, _, _, _, HM3.out⟩ (by have h := HB.out.1; show q.ev.length ≤ _; omega)).mono ?_
    intro e w5 hmv
    obtain ⟨rfl, ha⟩ := Amid.call HS3.out HT3.out HK3.out hmv
    have HA5 := Lib.hid ha
    clear hmv ha HM3 HT3 HK3 HS3 e13 KE3
    go_wp2
    go_roundw
    case rel => exact ⟨k + 1, _, by omega, by go_num, HA5, HE, HB2⟩
    case measure => simp [RowKit.intOf]; omega
end Go.Proofs.YtklgjjmcflgjeaaGreat.Mod
