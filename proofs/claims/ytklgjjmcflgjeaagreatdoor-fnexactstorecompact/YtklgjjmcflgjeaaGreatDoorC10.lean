import Derived.Deep.OwnRows
import Derived.Maps.AppendAt
import Derived.Test.YtklgjjmcflgjeaaGreatDoorQ
import Derived.Test.YtklgjjmcflgjeaaGreatDoorC00
import Derived.Test.YtklgjjmcflgjeaaGreatDoorC01
import Derived.Test.YtklgjjmcflgjeaaGreatDoorC07
import Derived.Test.YtklgjjmcflgjeaaGreatDoorC09
set_option linter.unusedVariables false
set_option linter.unusedSimpArgs false
namespace Go.Proofs.YtklgjjmcflgjeaaGreatDoor.LawStoreCompact
open Go.ChangeShapes Go.WideShapes Go.ChangeAt Go.RowKit
open LK EngV StoTC Seg
set_option maxRecDepth 100000 in
set_option maxHeartbeats 12800000 in
theorem walk (A1 : Option Addr) (n1 c1 : Nat) (A2 : Option Addr) (n2 c2 : Nat) (A : Option Addr) (n c : Nat) (d D : Sto) (b : Bool) (w : World) (hr : sty.Rd w w.heap.size (.agg (stL d A1 n1 c1 A2 n2 c2 A n c).toArray) d) (hz : SzC 20 sty (.agg (stL d A1 n1 c1 A2 n2 c2 A n c).toArray) d w) (hD : sty.Few d → sty.Few D) (hS : sty.Few d → ∀ (W : World) (B : Nat) (v : Value), Below w.heap.size w W → sty.Rd W B v d → B ≤ W.heap.size → Calls Tryz.prog 21 #[v] W (Made1 sty D (.bool b) W)) (hI : sty.Few d → ∀ (W : World) (B : Nat) (v : Value), Below w.heap.size w W → sty.Rd W B v d → B ≤ W.heap.size → Calls Tryz.prog 19 #[v] W (Made1 sty D (.bool b) W)) :
    Calls Tryz.prog 5 #[.agg (stL d A1 n1 c1 A2 n2 c2 A n c).toArray] w fun e w' => e = .returned (.bool true) ∧ Below w.heap.size w w' := by
  have HS0 := Lib.hid hS
  have HI0 := Lib.hid hI
  have HD0 := Lib.hid hD
  have HR := Lib.hid hr
  have HZ := Lib.hid hz
  clear hS hI hD hr hz
  have hbb : (b != b) = false := by simp
  obtain ⟨V, hV⟩ : ∃ V, V = w.alloc (.cells (stL d A1 n1 c1 A2 n2 c2 A n c).toArray 61) := ⟨_, rfl⟩
  have HB0 : Hid (Below w.heap.size w V) := by rw [hV]; exact bel1 _ _
  have KS0 : Hid (V.heap[w.heap.size]? = some (.cells (stL d A1 n1 c1 A2 n2 c2 A n c).toArray 61 (0, 0))) := by rw [hV]; exact box_new w _
  have zV : w.heap.size < V.heap.size := box_lt KS0.out
  go_enter Tryz.func5, Tryz.ntmps5
  go_upto_region 1 with fail
  rw [← hV]
  clear hV
  go_wp2_with (refine wpList_get rfl 61 _ rfl w.heap.size 0 rfl KS0.out (stL d A1 n1 c1 A2 n2 c2 A n c) (stL_all _ _ _ _ _ _ _ _ _ _) Tryz.underlying61 rfl (by kernel_rfl) ?_)
  refine (HZ.out _ 1048576 HB0.out (by omega) (by omega)).mono ?_
  rintro e w1 ⟨z, rfl, hb, hz⟩
  have KS1 := Lib.hid (box_below KS0.out hb)
  have HB1 := Lib.hid (bel_then HB0.out hb HB0.out.size)
  have z1 : V.heap.size ≤ w1.heap.size := hb.size
  clear KS0 HB0 hb
  rcases hz with rfl | ⟨hza, hzb, hf⟩
  · go_wp2
    go_ret
    exact ⟨rfl, HB1.out⟩
  have HF := Lib.hid hf
  have hzd : decide (z < 0) = false := by simp; omega
  have HS := Lib.hid (HS0.out HF.out)
  have HI := Lib.hid (HI0.out HF.out)
  have HD := Lib.hid (HD0.out HF.out)
  clear hza hzb hf HS0 HI0 HD0
  go_wp2_with (refine wpList_get rfl 61 _ rfl w.heap.size 0 rfl KS1.out (stL d A1 n1 c1 A2 n2 c2 A n c) (stL_all _ _ _ _ _ _ _ _ _ _) Tryz.underlying61 rfl (by kernel_rfl) ?_)
  refine (toStore_any _ w.heap.size _ d (sty.rd_below HR.out HB1.out (Nat.le_refl _)) HB1.out.size HF.out).mono ?_
  rintro e wC ⟨vC, SvC, rfl, hO, hb⟩
  have HC := Lib.hid hO
  clear hO
  have KS2 := Lib.hid (box_below KS1.out hb)
  have HB2 := Lib.hid (bel_then HB1.out hb HB1.out.size)
  have z2 : w1.heap.size ≤ wC.heap.size := hb.size
  clear KS1 HB1 hb
  go_wp2_with fail
  refine (HS.out _ _ _ HB2.out HC.out.rd (Nat.le_refl _)).mono ?_
  rintro e wW1 ⟨vW, SW, rfl, hO, hb⟩
  obtain ⟨A1W, n1W, c1W, A2W, n2W, c2W, AW, nW, cW, rfl⟩ := StoTC.shape hO
  have HO := Lib.hid hO
  have INW : Hid (∀ k, SW k → wC.heap.size ≤ k ∧ k < wW1.heap.size) := fun k hk => HO.out.inn k hk
  clear hO
  have KS3 := Lib.hid (box_below KS2.out hb)
  have HB3 := Lib.hid (bel_then HB2.out hb HB2.out.size)
  have z3 : wC.heap.size ≤ wW1.heap.size := hb.size
  clear KS2 HB2 hb
  have KZ : Hid ((wW1.alloc (.cells (stL zeroS none 0 0 none 0 0 none 0 0).toArray 39)).heap[wW1.heap.size]? = some (.cells (stL zeroS none 0 0 none 0 0 none 0 0).toArray 39 (0, 0))) := box_new wW1 _
  go_upto_region 6 with (refine wpList_put rfl rfl 39 _ _ rfl wW1.heap.size 0 (stL D A1W n1W c1W A2W n2W c2W AW nW cW) rfl rfl KZ.out (by kernel_rfl) (stL D A1W n1W c1W A2W n2W c2W AW nW cW) rfl (Nat.le_of_ble_eq_true rfl) (stL_one _ _ _ _ _ _ _ _ _ _) ?_)
  obtain ⟨VW, hV⟩ : ∃ V, V = (wW1.alloc (.cells #[.int .i64 0, .int .i64 0, .int .i64 0, .int .i64 0, .int .i64 0, .int .i64 0, .int .i64 0, .int .i64 0, .int .i64 0, .int .i64 0, .int .i64 0, .int .i64 0, .slice none 0 0, .slice none 0 0, .int .i64 0, .int .i64 0, .int .i64 0, .int .i64 0, .int .i64 0, .int .i64 0, .int .i64 0, .int .i64 0, .int .i64 0, .int .i64 0, .int .i64 0, .int .i64 0, .int .i64 0, .int .i64 0, .int .i64 0, .int .i64 0, .slice none 0 0, .int .i64 0, .int .i64 0, .int .i64 0, .int .i64 0, .int .i64 0] 39)).setRow wW1.heap.size (stL D A1W n1W c1W A2W n2W c2W AW nW cW).toArray := ⟨_, rfl⟩
  have hbv : Below wW1.heap.size wW1 VW := by rw [hV]; exact row_below (bel1 _ _) _ _ (Nat.le_refl _) (by simp)
  have KW4 : Hid (VW.heap[wW1.heap.size]? = some (.cells (stL D A1W n1W c1W A2W n2W c2W AW nW cW).toArray 39 (0, 0))) := by rw [hV]; exact row_box KZ.out
  have HW4 := Lib.hid (HO.out.below hbv)
  have hzW : wW1.heap.size < VW.heap.size := box_lt KW4.out
  rw [← hV]
  clear hV KZ HO
  have KS4 := Lib.hid (box_below KS3.out hbv)
  have HB4 := Lib.hid (bel_then HB3.out hbv HB3.out.size)
  have z4 : wW1.heap.size ≤ VW.heap.size := hbv.size
  clear KS3 HB3 hbv
  clear HC
  go_wp2_with (refine wpList_get rfl 61 _ rfl w.heap.size 0 rfl KS4.out (stL d A1 n1 c1 A2 n2 c2 A n c) (stL_all _ _ _ _ _ _ _ _ _ _) Tryz.underlying61 rfl (by kernel_rfl) ?_)
  refine (toStore_any _ w.heap.size _ d (sty.rd_below HR.out HB4.out (Nat.le_refl _)) HB4.out.size HF.out).mono ?_
  rintro e wX1 ⟨vX, SvX, rfl, hO, hb⟩
  obtain ⟨A1X, n1X, c1X, A2X, n2X, c2X, AX, nX, cX, rfl⟩ := StoTC.shape hO
  have HO := Lib.hid hO
  have INX : Hid (∀ k, SvX k → VW.heap.size ≤ k ∧ k < wX1.heap.size) := fun k hk => HO.out.inn k hk
  clear hO
  have KS5 := Lib.hid (box_below KS4.out hb)
  have KW5 := Lib.hid (box_below KW4.out hb)
  have HW5 := Lib.hid (HW4.out.below hb)
  have HB5 := Lib.hid (bel_then HB4.out hb HB4.out.size)
  have z5 : VW.heap.size ≤ wX1.heap.size := hb.size
  clear KS4 KW4 HW4 HB4 hb
  have KZ : Hid ((wX1.alloc (.cells (stL zeroS none 0 0 none 0 0 none 0 0).toArray 39)).heap[wX1.heap.size]? = some (.cells (stL zeroS none 0 0 none 0 0 none 0 0).toArray 39 (0, 0))) := box_new wX1 _
  go_upto_region 7 with (refine wpList_put rfl rfl 39 _ _ rfl wX1.heap.size 0 (stL d A1X n1X c1X A2X n2X c2X AX nX cX) rfl rfl KZ.out (by kernel_rfl) (stL d A1X n1X c1X A2X n2X c2X AX nX cX) rfl (Nat.le_of_ble_eq_true rfl) (stL_one _ _ _ _ _ _ _ _ _ _) ?_)
  obtain ⟨VX, hV⟩ : ∃ V, V = (wX1.alloc (.cells #[.int .i64 0, .int .i64 0, .int .i64 0, .int .i64 0, .int .i64 0, .int .i64 0, .int .i64 0, .int .i64 0, .int .i64 0, .int .i64 0, .int .i64 0, .int .i64 0, .slice none 0 0, .slice none 0 0, .int .i64 0, .int .i64 0, .int .i64 0, .int .i64 0, .int .i64 0, .int .i64 0, .int .i64 0, .int .i64 0, .int .i64 0, .int .i64 0, .int .i64 0, .int .i64 0, .int .i64 0, .int .i64 0, .int .i64 0, .int .i64 0, .slice none 0 0, .int .i64 0, .int .i64 0, .int .i64 0, .int .i64 0, .int .i64 0] 39)).setRow wX1.heap.size (stL d A1X n1X c1X A2X n2X c2X AX nX cX).toArray := ⟨_, rfl⟩
  have hbv : Below wX1.heap.size wX1 VX := by rw [hV]; exact row_below (bel1 _ _) _ _ (Nat.le_refl _) (by simp)
  have KX6 : Hid (VX.heap[wX1.heap.size]? = some (.cells (stL d A1X n1X c1X A2X n2X c2X AX nX cX).toArray 39 (0, 0))) := by rw [hV]; exact row_box KZ.out
  have HX6 := Lib.hid (HO.out.below hbv)
  have hzX : wX1.heap.size < VX.heap.size := box_lt KX6.out
  rw [← hV]
  clear hV KZ HO
  have KS6 := Lib.hid (box_below KS5.out hbv)
  have KW6 := Lib.hid (box_below KW5.out hbv)
  have HW6 := Lib.hid (HW5.out.below hbv)
  have HB6 := Lib.hid (bel_then HB5.out hbv HB5.out.size)
  have z6 : wX1.heap.size ≤ VX.heap.size := hbv.size
  clear KS5 KW5 HW5 HB5 hbv
  go_wp2_with (refine wpList_get rfl 39 _ rfl wX1.heap.size 0 rfl KX6.out (stL d A1X n1X c1X A2X n2X c2X AX nX cX) (stL_all _ _ _ _ _ _ _ _ _ _) Tryz.underlying39 rfl (by kernel_rfl) ?_)
  refine (HI.out _ _ _ HB6.out HX6.out.rd (Nat.le_refl _)).mono ?_
  rintro e wG1 ⟨vG, SG, rfl, hO, hb⟩
  obtain ⟨A1G, n1G, c1G, A2G, n2G, c2G, AG, nG, cG, rfl⟩ := StoTC.shape hO
  have HO := Lib.hid hO
  have ING : Hid (∀ k, SG k → VX.heap.size ≤ k ∧ k < wG1.heap.size) := fun k hk => HO.out.inn k hk
  clear hO
  have KS7 := Lib.hid (box_below KS6.out hb)
  have KW7 := Lib.hid (box_below KW6.out hb)
  have KX7 := Lib.hid (box_below KX6.out hb)
  have HW7 := Lib.hid (HW6.out.below hb)
  have HX7 := Lib.hid (HX6.out.below hb)
  have HB7 := Lib.hid (bel_then HB6.out hb HB6.out.size)
  have z7 : VX.heap.size ≤ wG1.heap.size := hb.size
  clear KS6 KW6 KX6 HW6 HX6 HB6 hb
  have KZ : Hid ((wG1.alloc (.cells (stL zeroS none 0 0 none 0 0 none 0 0).toArray 39)).heap[wG1.heap.size]? = some (.cells (stL zeroS none 0 0 none 0 0 none 0 0).toArray 39 (0, 0))) := box_new wG1 _
  go_upto_region 8 with (refine wpList_put rfl rfl 39 _ _ rfl wG1.heap.size 0 (stL D A1G n1G c1G A2G n2G c2G AG nG cG) rfl rfl KZ.out (by kernel_rfl) (stL D A1G n1G c1G A2G n2G c2G AG nG cG) rfl (Nat.le_of_ble_eq_true rfl) (stL_one _ _ _ _ _ _ _ _ _ _) ?_)
  obtain ⟨VG, hV⟩ : ∃ V, V = (wG1.alloc (.cells #[.int .i64 0, .int .i64 0, .int .i64 0, .int .i64 0, .int .i64 0, .int .i64 0, .int .i64 0, .int .i64 0, .int .i64 0, .int .i64 0, .int .i64 0, .int .i64 0, .slice none 0 0, .slice none 0 0, .int .i64 0, .int .i64 0, .int .i64 0, .int .i64 0, .int .i64 0, .int .i64 0, .int .i64 0, .int .i64 0, .int .i64 0, .int .i64 0, .int .i64 0, .int .i64 0, .int .i64 0, .int .i64 0, .int .i64 0, .int .i64 0, .slice none 0 0, .int .i64 0, .int .i64 0, .int .i64 0, .int .i64 0, .int .i64 0] 39)).setRow wG1.heap.size (stL D A1G n1G c1G A2G n2G c2G AG nG cG).toArray := ⟨_, rfl⟩
  have hbv : Below wG1.heap.size wG1 VG := by rw [hV]; exact row_below (bel1 _ _) _ _ (Nat.le_refl _) (by simp)
  have KG8 : Hid (VG.heap[wG1.heap.size]? = some (.cells (stL D A1G n1G c1G A2G n2G c2G AG nG cG).toArray 39 (0, 0))) := by rw [hV]; exact row_box KZ.out
  have HG8 := Lib.hid (HO.out.below hbv)
  have hzG : wG1.heap.size < VG.heap.size := box_lt KG8.out
  rw [← hV]
  clear hV KZ HO
  have KS8 := Lib.hid (box_below KS7.out hbv)
  have KW8 := Lib.hid (box_below KW7.out hbv)
  have KX8 := Lib.hid (box_below KX7.out hbv)
  have HW8 := Lib.hid (HW7.out.below hbv)
  have HX8 := Lib.hid (HX7.out.below hbv)
  have HB8 := Lib.hid (bel_then HB7.out hbv HB7.out.size)
  have z8 : wG1.heap.size ≤ VG.heap.size := hbv.size
  clear KS7 KW7 KX7 HW7 HX7 HB7 hbv
  go_wp2_with (first | (refine wpList_get rfl 39 _ rfl wG1.heap.size 0 rfl KG8.out (stL D A1G n1G c1G A2G n2G c2G AG nG cG) (stL_all _ _ _ _ _ _ _ _ _ _) Tryz.underlying39 rfl (by kernel_rfl) ?_) | (refine wpList_get rfl 39 _ rfl wW1.heap.size 0 rfl KW8.out (stL D A1W n1W c1W A2W n2W c2W AW nW cW) (stL_all _ _ _ _ _ _ _ _ _ _) Tryz.underlying39 rfl (by kernel_rfl) ?_))
  refine (eqStore_any _ _ _ _ _ D HG8.out.rd HW8.out.rd (Nat.le_refl _) (Nat.le_refl _) HD.out).mono ?_
  rintro e w3 ⟨rfl, hb⟩
  have KS9 := Lib.hid (box_below KS8.out hb)
  have KW9 := Lib.hid (box_below KW8.out hb)
  have KX9 := Lib.hid (box_below KX8.out hb)
  have KG9 := Lib.hid (box_below KG8.out hb)
  have HW9 := Lib.hid (HW8.out.below hb)
  have HX9 := Lib.hid (HX8.out.below hb)
  have HG9 := Lib.hid (HG8.out.below hb)
  have HB9 := Lib.hid (bel_then HB8.out hb HB8.out.size)
  have z9 : VG.heap.size ≤ w3.heap.size := hb.size
  clear KS8 KW8 KX8 KG8 HW8 HX8 HG8 HB8 hb
  go_wp2_with fail
  refine wp_region_held_drew (S := fun w' => w'.rangeAt w.heap.size 0 (stL d A1 n1 c1 A2 n2 c2 A n c) ∧ w'.rangeAt wX1.heap.size 0 (stL d A1X n1X c1X A2X n2X c2X AX nX cX)) (by kernel_rfl) ⟨range_of KS9.out (stL_all _ _ _ _ _ _ _ _ _ _), range_of KX9.out (stL_all _ _ _ _ _ _ _ _ _ _)⟩ (fun hHeld => ?_)
  refine tkj (i := 0) (v := .agg ((stL d A1X n1X c1X A2X n2X c2X AX nX cX)).toArray) rfl (yieldsIf_load_mid (by rfl) 39 _ rfl wX1.heap.size 0 rfl ((stL d A1X n1X c1X A2X n2X c2X AX nX cX)) _ (fun w' h => h.2) Tryz.underlying39 rfl (by kernel_rfl)) ?_
  try simp only [Act.put, pj]
  refine tkj (i := 1) (v := .agg ((stL d A1 n1 c1 A2 n2 c2 A n c)).toArray) rfl (yieldsIf_load_mid (by rfl) 61 _ rfl w.heap.size 0 rfl ((stL d A1 n1 c1 A2 n2 c2 A n c)) _ (fun w' h => h.1) Tryz.underlying61 rfl (by kernel_rfl)) ?_
  try simp only [Act.put, pj]
  refine wpAnyH_ready (rs := [2]) (by kernel_rfl) (by simp) (AllReadyH.cons rfl (fun K hK => ?_) AllReadyH.nil)
  go_simp
  have hbd : Below w3.heap.size w3 w3.drew := undrew (Below.refl _ _)
  refine (toStore_any _ w.heap.size _ d (sty.rd_below HR.out (bel_then HB9.out hbd HB9.out.size) (Nat.le_refl _)) (by exact HB9.out.size) HF.out).mono ?_
  rintro e w4 ⟨vT, ST, rfl, hO, hb⟩
  have HT := Lib.hid hO
  have hb' : Below w3.heap.size w3 w4 := undrew hb
  clear hO hb hbd hHeld
  have KS10 := Lib.hid (box_below KS9.out hb')
  have KW10 := Lib.hid (box_below KW9.out hb')
  have KX10 := Lib.hid (box_below KX9.out hb')
  have KG10 := Lib.hid (box_below KG9.out hb')
  have HW10 := Lib.hid (HW9.out.below hb')
  have HX10 := Lib.hid (HX9.out.below hb')
  have HG10 := Lib.hid (HG9.out.below hb')
  have HB10 := Lib.hid (bel_then HB9.out hb' HB9.out.size)
  have z10 : w3.heap.size ≤ w4.heap.size := hb'.size
  clear KS9 KW9 KX9 KG9 HW9 HX9 HG9 HB9 hb'
  refine hK _ _ (by exact ⟨range_of KS10.out (stL_all _ _ _ _ _ _ _ _ _ _), range_of KX10.out (stL_all _ _ _ _ _ _ _ _ _ _)⟩) (fun hHeld => ?_)
  clear hK K
  try simp only [Act.put, pj]
  refine wpAnyH_ready (rs := [3]) (by kernel_rfl) (by simp) (AllReadyH.cons rfl (fun K hK => ?_) AllReadyH.nil)
  go_simp
  refine (eqStore_any _ _ _ _ _ d HX10.out.rd HT.out.rd (Nat.le_refl _) (Nat.le_refl _) HF.out).mono ?_
  rintro e w5 ⟨rfl, hb⟩
  clear HT hHeld
  have KS11 := Lib.hid (box_below KS10.out hb)
  have KW11 := Lib.hid (box_below KW10.out hb)
  have KX11 := Lib.hid (box_below KX10.out hb)
  have KG11 := Lib.hid (box_below KG10.out hb)
  have HW11 := Lib.hid (HW10.out.below hb)
  have HX11 := Lib.hid (HX10.out.below hb)
  have HG11 := Lib.hid (HG10.out.below hb)
  have HB11 := Lib.hid (bel_then HB10.out hb HB10.out.size)
  have z11 : w4.heap.size ≤ w5.heap.size := hb.size
  clear KS10 KW10 KX10 KG10 HW10 HX10 HG10 HB10 hb
  refine hK _ _ (by exact ⟨range_of KS11.out (stL_all _ _ _ _ _ _ _ _ _ _), range_of KX11.out (stL_all _ _ _ _ _ _ _ _ _ _)⟩) (fun hHeld => ?_)
  clear hK K
  try simp only [Act.put, pj]
  refine tkk (i := 4) rfl ?_
  try simp only [Act.put, pj]
  refine wpAnyH_done (by kernel_rfl) ?_ _
  clear hHeld
  go_wp2_with (refine wpList_get rfl 39 _ rfl wX1.heap.size 0 rfl KX11.out (stL d A1X n1X c1X A2X n2X c2X AX nX cX) (stL_all _ _ _ _ _ _ _ _ _ _) Tryz.underlying39 rfl (by kernel_rfl) ?_)
  refine (markStore_any _ _ _ _ _ d 1 HX11.out HF.out (by omega) (by omega)).mono ?_
  obtain ⟨mx, hm⟩ : ∃ m : Int, m = 1 + (sty.cnt d : Int) := ⟨_, rfl⟩
  rw [← hm]
  have HMX := Lib.hid hm
  have hmxb : 0 ≤ mx ∧ mx ≤ 20000001 := by have := sty.few_cnt HF.out; omega
  have hmxm : (mx != mx) = false := by simp
  have hmx0 : decide (mx < 0) = false := by simp; omega
  clear hm
  rintro e w6 ⟨rfl, hO, ht⟩
  have HX12 := Lib.hid hO
  have KS12 := Lib.hid (box_turned KS11.out ht (fun h => by have := INX.out _ h; omega))
  have KW12 := Lib.hid (box_turned KW11.out ht (fun h => by have := INX.out _ h; omega))
  have KX12 := Lib.hid (box_turned KX11.out ht (fun h => by have := INX.out _ h; omega))
  have KG12 := Lib.hid (box_turned KG11.out ht (fun h => by have := INX.out _ h; omega))
  have HW12 := Lib.hid (HW11.out.turned ht (fun x hx h => by have := INX.out _ h; have := INW.out _ hx; omega))
  have HG12 := Lib.hid (HG11.out.turned ht (fun x hx h => by have := INX.out _ h; have := ING.out _ hx; omega))
  have HB12 := Lib.hid (Turned.low HB11.out ht (fun x h => by have := INX.out _ h; omega) HB11.out.size)
  have z12 : w5.heap.size ≤ w6.heap.size := ht.size
  clear hO ht KS11 KW11 KX11 KG11 HW11 HX11 HG11 HB11
  clear HX12
  go_wp2_with (first | (refine wpList_getG (by rfl) 39 _ rfl wG1.heap.size 0 rfl KG12.out (stL D A1G n1G c1G A2G n2G c2G AG nG cG) (stL_all _ _ _ _ _ _ _ _ _ _) Tryz.underlying39 rfl (by kernel_rfl) ?_) | (refine wpList_getG (by rfl) 39 _ rfl wW1.heap.size 0 rfl KW12.out (stL D A1W n1W c1W A2W n2W c2W AW nW cW) (stL_all _ _ _ _ _ _ _ _ _ _) Tryz.underlying39 rfl (by kernel_rfl) ?_))
  refine (eqStore_any _ _ _ _ _ D HG12.out.rd HW12.out.rd (Nat.le_refl _) (Nat.le_refl _) HD.out).mono ?_
  rintro e w7 ⟨rfl, hb⟩
  have KS13 := Lib.hid (box_below KS12.out hb)
  have KW13 := Lib.hid (box_below KW12.out hb)
  have KX13 := Lib.hid (box_below KX12.out hb)
  have KG13 := Lib.hid (box_below KG12.out hb)
  have HW13 := Lib.hid (HW12.out.below hb)
  have HG13 := Lib.hid (HG12.out.below hb)
  have HB13 := Lib.hid (bel_then HB12.out hb HB12.out.size)
  have z13 : w6.heap.size ≤ w7.heap.size := hb.size
  clear KS12 KW12 KX12 KG12 HW12 HG12 HB12 hb
  go_wp2_with (refine wpList_get rfl 39 _ rfl wG1.heap.size 0 rfl KG13.out (stL D A1G n1G c1G A2G n2G c2G AG nG cG) (stL_all _ _ _ _ _ _ _ _ _ _) Tryz.underlying39 rfl (by kernel_rfl) ?_)
  refine (markStore_any _ _ _ _ _ D 1 HG13.out HD.out (by omega) (by omega)).mono ?_
  obtain ⟨m, hm⟩ : ∃ m : Int, m = 1 + (sty.cnt D : Int) := ⟨_, rfl⟩
  rw [← hm]
  have HMG := Lib.hid hm
  have hmb : 0 ≤ m ∧ m ≤ 20000001 := by have := sty.few_cnt HD.out; omega
  have hmm : (m != m) = false := by simp
  have hm0 : decide (m < 0) = false := by simp; omega
  clear hm
  rintro e w8 ⟨rfl, hO, ht⟩
  have HG14 := Lib.hid hO
  have KS14 := Lib.hid (box_turned KS13.out ht (fun h => by have := ING.out _ h; omega))
  have KW14 := Lib.hid (box_turned KW13.out ht (fun h => by have := ING.out _ h; omega))
  have KX14 := Lib.hid (box_turned KX13.out ht (fun h => by have := ING.out _ h; omega))
  have KG14 := Lib.hid (box_turned KG13.out ht (fun h => by have := ING.out _ h; omega))
  have HW14 := Lib.hid (HW13.out.turned ht (fun x hx h => by have := ING.out _ h; have := INW.out _ hx; omega))
  have HB14 := Lib.hid (Turned.low HB13.out ht (fun x h => by have := ING.out _ h; omega) HB13.out.size)
  have z14 : w7.heap.size ≤ w8.heap.size := ht.size
  clear hO ht KS13 KW13 KX13 KG13 HW13 HG13 HB13
  go_wp2_with (refine wpList_get rfl 39 _ rfl wG1.heap.size 0 rfl KG14.out (stL D A1G n1G c1G A2G n2G c2G AG nG cG) (stL_all _ _ _ _ _ _ _ _ _ _) Tryz.underlying39 rfl (by kernel_rfl) ?_)
  refine (heldStore_any _ _ _ D 1 HG14.out.rd (Nat.le_refl _) HD.out (by omega) (by omega)).mono ?_
  rw [← HMG.out]
  rintro e w9 ⟨rfl, hb⟩
  have KS15 := Lib.hid (box_below KS14.out hb)
  have KW15 := Lib.hid (box_below KW14.out hb)
  have KX15 := Lib.hid (box_below KX14.out hb)
  have KG15 := Lib.hid (box_below KG14.out hb)
  have HW15 := Lib.hid (HW14.out.below hb)
  have HG15 := Lib.hid (HG14.out.below hb)
  have HB15 := Lib.hid (bel_then HB14.out hb HB14.out.size)
  have z15 : w8.heap.size ≤ w9.heap.size := hb.size
  clear KS14 KW14 KX14 KG14 HW14 HG14 HB14 hb
  go_wp2_with (refine wpList_get rfl 61 _ rfl w.heap.size 0 rfl KS15.out (stL d A1 n1 c1 A2 n2 c2 A n c) (stL_all _ _ _ _ _ _ _ _ _ _) Tryz.underlying61 rfl (by kernel_rfl) ?_)
  refine (toStore_any _ w.heap.size _ d (sty.rd_below HR.out HB15.out (Nat.le_refl _)) HB15.out.size HF.out).mono ?_
  rintro e wC2 ⟨vC2, SvC2, rfl, hO, hb⟩
  have HC2 := Lib.hid hO
  clear hO
  have KS16 := Lib.hid (box_below KS15.out hb)
  have KW16 := Lib.hid (box_below KW15.out hb)
  have KX16 := Lib.hid (box_below KX15.out hb)
  have KG16 := Lib.hid (box_below KG15.out hb)
  have HW16 := Lib.hid (HW15.out.below hb)
  have HG16 := Lib.hid (HG15.out.below hb)
  have HB16 := Lib.hid (bel_then HB15.out hb HB15.out.size)
  have z16 : w9.heap.size ≤ wC2.heap.size := hb.size
  clear KS15 KW15 KX15 KG15 HW15 HG15 HB15 hb
  go_wp2_with fail
  refine (HI.out _ _ _ HB16.out HC2.out.rd (Nat.le_refl _)).mono ?_
  rintro e wQ1 ⟨vQ, SQ, rfl, hO, hb⟩
  obtain ⟨A1Q, n1Q, c1Q, A2Q, n2Q, c2Q, AQ, nQ, cQ, rfl⟩ := StoTC.shape hO
  have HO := Lib.hid hO
  have INQ : Hid (∀ k, SQ k → wC2.heap.size ≤ k ∧ k < wQ1.heap.size) := fun k hk => HO.out.inn k hk
  clear hO
  have KS17 := Lib.hid (box_below KS16.out hb)
  have KW17 := Lib.hid (box_below KW16.out hb)
  have KX17 := Lib.hid (box_below KX16.out hb)
  have KG17 := Lib.hid (box_below KG16.out hb)
  have HW17 := Lib.hid (HW16.out.below hb)
  have HG17 := Lib.hid (HG16.out.below hb)
  have HB17 := Lib.hid (bel_then HB16.out hb HB16.out.size)
  have z17 : wC2.heap.size ≤ wQ1.heap.size := hb.size
  clear KS16 KW16 KX16 KG16 HW16 HG16 HB16 hb
  have KZ : Hid ((wQ1.alloc (.cells (stL zeroS none 0 0 none 0 0 none 0 0).toArray 39)).heap[wQ1.heap.size]? = some (.cells (stL zeroS none 0 0 none 0 0 none 0 0).toArray 39 (0, 0))) := box_new wQ1 _
  go_upto_region 25 with (refine wpList_put rfl rfl 39 _ _ rfl wQ1.heap.size 0 (stL D A1Q n1Q c1Q A2Q n2Q c2Q AQ nQ cQ) rfl rfl KZ.out (by kernel_rfl) (stL D A1Q n1Q c1Q A2Q n2Q c2Q AQ nQ cQ) rfl (Nat.le_of_ble_eq_true rfl) (stL_one _ _ _ _ _ _ _ _ _ _) ?_)
  obtain ⟨VQ, hV⟩ : ∃ V, V = (wQ1.alloc (.cells #[.int .i64 0, .int .i64 0, .int .i64 0, .int .i64 0, .int .i64 0, .int .i64 0, .int .i64 0, .int .i64 0, .int .i64 0, .int .i64 0, .int .i64 0, .int .i64 0, .slice none 0 0, .slice none 0 0, .int .i64 0, .int .i64 0, .int .i64 0, .int .i64 0, .int .i64 0, .int .i64 0, .int .i64 0, .int .i64 0, .int .i64 0, .int .i64 0, .int .i64 0, .int .i64 0, .int .i64 0, .int .i64 0, .int .i64 0, .int .i64 0, .slice none 0 0, .int .i64 0, .int .i64 0, .int .i64 0, .int .i64 0, .int .i64 0] 39)).setRow wQ1.heap.size (stL D A1Q n1Q c1Q A2Q n2Q c2Q AQ nQ cQ).toArray := ⟨_, rfl⟩
  have hbv : Below wQ1.heap.size wQ1 VQ := by rw [hV]; exact row_below (bel1 _ _) _ _ (Nat.le_refl _) (by simp)
  have KQ18 : Hid (VQ.heap[wQ1.heap.size]? = some (.cells (stL D A1Q n1Q c1Q A2Q n2Q c2Q AQ nQ cQ).toArray 39 (0, 0))) := by rw [hV]; exact row_box KZ.out
  have HQ18 := Lib.hid (HO.out.below hbv)
  have hzQ : wQ1.heap.size < VQ.heap.size := box_lt KQ18.out
  rw [← hV]
  clear hV KZ HO
  have KS18 := Lib.hid (box_below KS17.out hbv)
  have KW18 := Lib.hid (box_below KW17.out hbv)
  have KX18 := Lib.hid (box_below KX17.out hbv)
  have KG18 := Lib.hid (box_below KG17.out hbv)
  have HW18 := Lib.hid (HW17.out.below hbv)
  have HG18 := Lib.hid (HG17.out.below hbv)
  have HB18 := Lib.hid (bel_then HB17.out hbv HB17.out.size)
  have z18 : wQ1.heap.size ≤ VQ.heap.size := hbv.size
  clear KS17 KW17 KX17 KG17 HW17 HG17 HB17 hbv
  clear HC2
  go_wp2_with (first | (refine wpList_get rfl 39 _ rfl wQ1.heap.size 0 rfl KQ18.out (stL D A1Q n1Q c1Q A2Q n2Q c2Q AQ nQ cQ) (stL_all _ _ _ _ _ _ _ _ _ _) Tryz.underlying39 rfl (by kernel_rfl) ?_) | (refine wpList_get rfl 39 _ rfl wW1.heap.size 0 rfl KW18.out (stL D A1W n1W c1W A2W n2W c2W AW nW cW) (stL_all _ _ _ _ _ _ _ _ _ _) Tryz.underlying39 rfl (by kernel_rfl) ?_))
  refine (eqStore_any _ _ _ _ _ D HQ18.out.rd HW18.out.rd (Nat.le_refl _) (Nat.le_refl _) HD.out).mono ?_
  rintro e w10 ⟨rfl, hb⟩
  have KS19 := Lib.hid (box_below KS18.out hb)
  have KW19 := Lib.hid (box_below KW18.out hb)
  have KX19 := Lib.hid (box_below KX18.out hb)
  have KG19 := Lib.hid (box_below KG18.out hb)
  have KQ19 := Lib.hid (box_below KQ18.out hb)
  have HW19 := Lib.hid (HW18.out.below hb)
  have HG19 := Lib.hid (HG18.out.below hb)
  have HQ19 := Lib.hid (HQ18.out.below hb)
  have HB19 := Lib.hid (bel_then HB18.out hb HB18.out.size)
  have z19 : VQ.heap.size ≤ w10.heap.size := hb.size
  clear KS18 KW18 KX18 KG18 KQ18 HW18 HG18 HQ18 HB18 hb
  go_wp2_with (refine wpList_get rfl 39 _ rfl wG1.heap.size 0 rfl KG19.out (stL D A1G n1G c1G A2G n2G c2G AG nG cG) (stL_all _ _ _ _ _ _ _ _ _ _) Tryz.underlying39 rfl (by kernel_rfl) ?_)
  refine (heldStore_any _ _ _ D 1 HG19.out.rd (Nat.le_refl _) HD.out (by omega) (by omega)).mono ?_
  rw [← HMG.out]
  rintro e w11 ⟨rfl, hb⟩
  have KS20 := Lib.hid (box_below KS19.out hb)
  have KW20 := Lib.hid (box_below KW19.out hb)
  have KX20 := Lib.hid (box_below KX19.out hb)
  have KG20 := Lib.hid (box_below KG19.out hb)
  have KQ20 := Lib.hid (box_below KQ19.out hb)
  have HW20 := Lib.hid (HW19.out.below hb)
  have HG20 := Lib.hid (HG19.out.below hb)
  have HQ20 := Lib.hid (HQ19.out.below hb)
  have HB20 := Lib.hid (bel_then HB19.out hb HB19.out.size)
  have z20 : w10.heap.size ≤ w11.heap.size := hb.size
  clear KS19 KW19 KX19 KG19 KQ19 HW19 HG19 HQ19 HB19 hb
  go_wp2
  go_ret
  exact ⟨rfl, HB20.out⟩
end Go.Proofs.YtklgjjmcflgjeaaGreatDoor.LawStoreCompact
namespace Go.Proofs.YtklgjjmcflgjeaaGreatDoor.RecTy
open Go.ChangeShapes Go.WideShapes Go.ChangeAt Go.RowKit
open LK Ints Has Rec
abbrev RD := Int × List Int
def RRd (w : World) (B : Nat) (v : Value) (d : RD) : Prop := ∃ A c, v = .agg #[.int .i64 d.1, .slice A d.2.length c] ∧ IsInts w B A d.2.length d.2
def ROwn (w : World) (S : Nat → Prop) (v : Value) (d : RD) : Prop := ∃ A c, v = .agg #[.int .i64 d.1, .slice A d.2.length c] ∧ OwnI w 0 A d.2.length c d.2 ∧ (∀ k, (Value.slice A d.2.length c).ownBlock = some k → S k)
theorem ownI_zero {w : World} {b : Nat} {A : Option Addr} {n c : Nat} {zs : List Int} (h : OwnI w b A n c zs) : OwnI w 0 A n c zs := ownI_base h (Nat.zero_le _)
theorem ownI_same {w w' : World} {b : Nat} {A : Option Addr} {n c : Nat} {zs : List Int} (h : OwnI w b A n c zs) (hs : ∀ k, (Value.slice A n c).ownBlock = some k → w'.heap[k]? = w.heap[k]?) : OwnI w' b A n c zs := by
  refine ⟨h.1, h.2.1, ?_⟩
  rcases h.2.2 with h2 | ⟨g, cap, cur, h3, h4, h5, h6⟩
  · exact .inl h2
  · refine .inr ⟨g, cap, cur, h3, h4, ?_, h6⟩
    rw [hs g (by rw [h3]; rfl)]; exact h5
theorem ownI_ints {w : World} {b B : Nat} {A : Option Addr} {n c : Nat} {zs : List Int} (h : OwnI w b A n c zs) (hs : ∀ k, (Value.slice A n c).ownBlock = some k → k < B) : IsInts w B A n zs := by
  obtain ⟨h1, h3⟩ := h.ints
  refine ⟨h1, fun hn => ?_⟩
  obtain ⟨g, off, e, _, h4⟩ := h3 hn
  exact ⟨g, off, e, hs g (by rw [e]; rfl), h4⟩
def rty : Ty where
  D := RD
  Rd := RRd
  Own := ROwn
  Few := fun d => d.2.length ≤ 1048576
  cnt := fun d => d.2.length
  mark := fun k d => (d.1, marksI k d.2.length)
  rd_below := by
    rintro w w' B C v d ⟨A, c, rfl, h1⟩ hb hC
    exact ⟨A, c, rfl, h1.below hb hC⟩
  own_rd := by
    rintro w S v d B ⟨A, c, rfl, h1, s1⟩ hB
    exact ⟨A, c, rfl, ownI_ints h1 (fun k hk => hB k (s1 k hk))⟩
  own_same := by
    rintro w w' S v d ⟨A, c, rfl, h1, s1⟩ hs
    exact ⟨A, c, rfl, ownI_same h1 (fun k hk => hs k (s1 k hk)), s1⟩
  few_cnt := by intro d h; omega
theorem shape {w : World} {lo hi : Nat} {S : Nat → Prop} {v : Value} {d : RD} (h : Has rty w lo hi S v d) : ∃ x A n c, v = .agg #[.int .i64 x, .slice A n c] := by
  obtain ⟨A, c, e, _⟩ := h.own
  exact ⟨_, _, _, _, e⟩
end Go.Proofs.YtklgjjmcflgjeaaGreatDoor.RecTy
namespace Go.Proofs.YtklgjjmcflgjeaaGreatDoor.RecsTy
open Go.ChangeShapes Go.WideShapes Go.ChangeAt Go.RowKit
open LK Ints Has Rec
open RecTy (ownI_zero ownI_same ownI_ints)
def cntR : RList → Nat
  | [] => 0
  | r :: rs => 1 + r.2.length + cntR rs
theorem cntR_app (a b : RList) : cntR (a ++ b) = cntR a + cntR b := by
  induction a with
  | nil => simp [cntR]
  | cons r rs ih => simp only [List.cons_append, cntR, ih]; omega
theorem endR_cnt (rs : RList) : ∀ k, endR k rs = k + (cntR rs : Int) := by
  induction rs with
  | nil => intro k; simp [endR, cntR]
  | cons r rs ih => intro k; simp only [endR, cntR, ih]; omega
theorem cnt_len (rs : RList) : rs.length ≤ cntR rs := by
  induction rs with
  | nil => simp [cntR]
  | cons r rs ih => simp only [List.length_cons, cntR]; omega
theorem cnt_at (rs : RList) : ∀ j, (rs.getD j (0, [])).2.length ≤ cntR rs := by
  induction rs with
  | nil => intro j; simp [cntR]
  | cons r rs ih =>
    intro j
    cases j with
    | zero => simp [cntR]; omega
    | succ j => have := ih j; simp only [cntR]; simp only [List.getD_cons_succ]; omega
theorem row_same {w w' : World} {base : Nat} {e : TypeId} {size n : Nat} {v : Value} {xs : List Value} (h : w.ownsRow base e size v n xs) (hs : ∀ k, v.ownBlock = some k → w'.heap[k]? = w.heap[k]?) : w'.ownsRow base e size v n xs := by
  refine ⟨h.1, ?_⟩
  rcases h.2 with h2 | ⟨g, cap, cur, h3, h4, h5, h6⟩
  · exact .inl h2
  · refine .inr ⟨g, cap, cur, h3, h4, ?_, h6⟩
    rw [hs g (by rw [h3]; rfl)]; exact h5
def InS (S : Nat → Prop) (A : Option Addr) (n c : Nat) (hs : List Hd) : Prop := (∀ k, (Value.slice A n c).ownBlock = some k → S k) ∧ ∀ j, j < n → ∀ k, (hdV (hs.getD j hd0)).ownBlock = some k → S k
theorem ownH_same {w w' : World} {base : Nat} {A : Option Addr} {n c : Nat} {hs : List Hd} {rs : RList} {S : Nat → Prop} (h : OwnRsH w base A n c hs rs) (hi : InS S A n c hs) (hk : ∀ k, S k → w'.heap[k]? = w.heap[k]?) : OwnRsH w' base A n c hs rs := by
  obtain ⟨hl, hr, hrow, hj, hd⟩ := h
  exact ⟨hl, hr, row_same hrow (fun k hq => hk k (hi.1 k hq)), fun j hjn => ⟨(hj j hjn).1, ownI_same (hj j hjn).2 (fun k hq => hk k (hi.2 j hjn k hq))⟩, hd⟩
theorem ownH_reads {w : World} {base B : Nat} {A : Option Addr} {n c : Nat} {hs : List Hd} {rs : RList} {S : Nat → Prop} (h : OwnRsH w base A n c hs rs) (hi : InS S A n c hs) (hB : ∀ k, S k → k < B) : IsRecs w B A n rs := by
  obtain ⟨hl, hr, hrow, hj, _⟩ := h
  refine ⟨hr, fun hn => ?_⟩
  obtain ⟨g, cap, hv, _, hlt⟩ := hrow.form hn
  have hA : A = some ⟨g, 0, none⟩ := by injection hv
  subst hA
  refine ⟨g, 0, rfl, hB g (hi.1 g rfl), fun j hjn => ?_⟩
  obtain ⟨e1, hO⟩ := hj j hjn
  have hf := flatH_at hs j (by omega)
  refine ⟨(hs.getD j hd0).2.1, (hs.getD j hd0).2.2.2, ?_, ?_, ?_⟩
  · rw [Nat.zero_add, hrow.cellAt (j * 2) (by omega), hf.1, e1]
  · rw [Nat.zero_add, hrow.cellAt (j * 2 + 1) (by omega), hf.2, hdV, ← hO.1]
  · rw [hO.1]; exact ownI_ints hO (fun k hk => hB k (hi.2 j hjn k hk))
theorem own_in {w : World} {base : Nat} {A : Option Addr} {n c : Nat} {hs : List Hd} {rs : RList} (h : OwnRsH w base A n c hs rs) : InS (fun k => base ≤ k ∧ k < w.heap.size) A n c hs := by
  obtain ⟨hl, hr, hrow, hj, _⟩ := h
  exact ⟨fun k hk => hrow.lt k hk, fun j hjn k hk => (hj j hjn).2.lt k hk⟩
theorem ownH_zero {w : World} {base : Nat} {A : Option Addr} {n c : Nat} {hs : List Hd} {rs : RList} (h : OwnRsH w base A n c hs rs) : OwnRsH w 0 A n c hs rs := by
  obtain ⟨hl, hr, hrow, hj, hd⟩ := h
  exact ⟨hl, hr, own_base hrow (Nat.zero_le _), fun j hjn => ⟨(hj j hjn).1, ownI_base (hj j hjn).2 (Nat.zero_le _)⟩, hd⟩
abbrev SD := RList
def SRd (w : World) (B : Nat) (v : Value) (d : SD) : Prop := ∃ A c, v = .slice A d.length c ∧ IsRecs w B A d.length d
def SOwn (w : World) (S : Nat → Prop) (v : Value) (d : SD) : Prop := ∃ A c hs, v = .slice A d.length c ∧ OwnRsH w 0 A d.length c hs d ∧ InS S A d.length c hs
def sty : Ty where
  D := SD
  Rd := SRd
  Own := SOwn
  Few := fun d => cntR d ≤ 1048576
  cnt := cntR
  mark := marksR
  rd_below := by
    rintro w w' B C v d ⟨A, c, rfl, h1⟩ hb hC
    exact ⟨A, c, rfl, h1.below hb hC⟩
  own_rd := by
    rintro w S v d B ⟨A, c, hs, rfl, h1, s1⟩ hB
    exact ⟨A, c, rfl, ownH_reads h1 s1 hB⟩
  own_same := by
    rintro w w' S v d ⟨A, c, hs, rfl, h1, s1⟩ hk
    exact ⟨A, c, hs, rfl, ownH_same h1 s1 hk, s1⟩
  few_cnt := by intro d h; omega
theorem has_of {w w' : World} {lo : Nat} {A : Option Addr} {n c : Nat} {rs : RList} (hb : Below w.heap.size w w') (hO : OwnRs w' lo A n c rs) (hlo : w.heap.size ≤ lo) : Has sty w' w.heap.size w'.heap.size (fun k => lo ≤ k ∧ k < w'.heap.size) (.slice A n c) rs := by
  obtain ⟨hs, h⟩ := hO
  have hl : rs.length = n := h.2.1
  subst hl
  exact ⟨⟨A, c, hs, rfl, ownH_zero h, own_in h⟩, fun k hk => ⟨by omega, hk.2⟩, Nat.le_refl _⟩
end Go.Proofs.YtklgjjmcflgjeaaGreatDoor.RecsTy
namespace Go.Proofs.YtklgjjmcflgjeaaGreatDoor.RecsTy
open Go.ChangeShapes Go.WideShapes Go.ChangeAt Go.RowKit
open LK Ints Has Rec
theorem getD_l {α : Type} (a b : List α) (d : α) (j : Nat) (h : j < a.length) : (a ++ b).getD j d = a.getD j d := by simp [List.getD, List.getElem?_append, h]
theorem getD_r {α : Type} (a b : List α) (d : α) (j : Nat) (h : a.length ≤ j) : (a ++ b).getD j d = b.getD (j - a.length) d := by simp [List.getD, List.getElem?_append, Nat.not_lt.2 h]
def Inner (w : World) (base m : Nat) (hs : List Hd) (rs : RList) : Prop :=
  hs.length = m ∧ rs.length = m ∧ (∀ j, j < m → (hs.getD j hd0).1 = (rs.getD j (0, [])).1 ∧ OwnI w base (hs.getD j hd0).2.1 (hs.getD j hd0).2.2.1 (hs.getD j hd0).2.2.2 (rs.getD j (0, [])).2) ∧
    (∀ i j, i < m → j < m → i ≠ j → ∀ q, (hdV (hs.getD i hd0)).ownBlock = some q → (hdV (hs.getD j hd0)).ownBlock ≠ some q)
theorem inner_of {w : World} {base : Nat} {A : Option Addr} {n c : Nat} {hs : List Hd} {rs : RList} (h : OwnRsH w base A n c hs rs) : Inner w base n hs rs := ⟨h.1, h.2.1, h.2.2.2.1, h.2.2.2.2⟩
def Dis (hs : List Hd) (n : Nat) (hs2 : List Hd) (m : Nat) : Prop := ∀ i j, i < n → j < m → ∀ q, (hdV (hs.getD i hd0)).ownBlock = some q → (hdV (hs2.getD j hd0)).ownBlock ≠ some q
theorem ownH_join {w w' : World} {base : Nat} {A : Option Addr} {n c m : Nat} {hs hs2 : List Hd} {rs rs2 : RList} {v' : Value} (h : OwnRsH w base A n c hs rs) (h2 : Inner w base m hs2 rs2) (hD : Dis hs n hs2 m)
    (hrow' : w'.ownsRow base 116 2 v' (n + m) (flatH hs ++ flatH hs2)) (hg : w.grownBy w' (Value.slice A n c).ownBlock) : ∃ A' c', v' = .slice A' (n + m) c' ∧ OwnRsH w' base A' (n + m) c' (hs ++ hs2) (rs ++ rs2) := by
  obtain ⟨hl, hr, hrow, hj, hd⟩ := h
  obtain ⟨hl2, hr2, hj2, hd2⟩ := h2
  have hform : ∃ A' c', v' = .slice A' (n + m) c' := by
    by_cases h0 : 0 < n + m
    · obtain ⟨g, cap, e, _⟩ := hrow'.form h0
      exact ⟨_, _, e⟩
    · have e : n + m = 0 := by omega
      rw [e] at hrow' ⊢
      rcases hrow'.2 with ⟨e, _⟩ | ⟨g, cap, cur, e, _⟩
      · exact ⟨_, _, e⟩
      · exact ⟨_, _, e⟩
  obtain ⟨A', c', rfl⟩ := hform
  have hk : ∀ {A1 : Option Addr} {n1 c1 : Nat} {zs : List Int}, OwnI w base A1 n1 c1 zs → OwnI w' base A1 n1 c1 zs := fun hO => hO.grown hg (row_ne hO.2 hrow (by decide))
  refine ⟨A', c', rfl, by simp [hl, hl2], by simp [hr, hr2], by rw [flatH_app]; exact hrow', fun j hjn => ?_, fun i j hi hjn hne q hq => ?_⟩
  · by_cases h1 : j < n
    · rw [getD_l hs _ _ j (by omega), getD_l rs _ _ j (by omega)]
      exact ⟨(hj j h1).1, hk (hj j h1).2⟩
    · rw [getD_r hs _ _ j (by omega), getD_r rs _ _ j (by omega), hl, hr]
      exact ⟨(hj2 (j - n) (by omega)).1, hk (hj2 (j - n) (by omega)).2⟩
  · by_cases h1 : i < n
    · rw [getD_l hs _ _ i (by omega)] at hq
      by_cases h2 : j < n
      · rw [getD_l hs _ _ j (by omega)]
        exact hd i j h1 h2 hne q hq
      · rw [getD_r hs _ _ j (by omega), hl]
        exact hD i (j - n) h1 (by omega) q hq
    · rw [getD_r hs _ _ i (by omega), hl] at hq
      by_cases h2 : j < n
      · rw [getD_l hs _ _ j (by omega)]
        intro e
        exact hD j (i - n) h2 (by omega) q e hq
      · rw [getD_r hs _ _ j (by omega), hl]
        exact hd2 (i - n) (j - n) (by omega) (by omega) (by omega) q hq
theorem dis_of {w : World} {lo mid : Nat} {A A2 : Option Addr} {n c m c2 : Nat} {hs hs2 : List Hd} {rs rs2 : RList} {w0 : World} (h : OwnRsH w0 lo A n c hs rs) (hm : w0.heap.size ≤ mid) (h2 : OwnRsH w mid A2 m c2 hs2 rs2) : Dis hs n hs2 m := by
  intro i j hi hj q hq e
  have h3 := ((h.2.2.2.1 i hi).2.lt q hq).2
  have h4 := ((h2.2.2.2.1 j hj).2.lt q e).1
  omega
theorem ownH_base {w : World} {base b' : Nat} {A : Option Addr} {n c : Nat} {hs : List Hd} {rs : RList} (h : OwnRsH w base A n c hs rs) (hb : b' ≤ base) : OwnRsH w b' A n c hs rs := by
  obtain ⟨hl, hr, hrow, hj, hd⟩ := h
  exact ⟨hl, hr, own_base hrow hb, fun j hjn => ⟨(hj j hjn).1, ownI_base (hj j hjn).2 hb⟩, hd⟩
theorem wpList_append_none {P : Program} (w : World) {ops : Array Oper} {rest : List Oper} {o : Oper} {a : Act} {Q : Exit → Act → World → Prop} (hgd : o.guard = none) (s x : Operand) (t : TypeId)
    (ho : o.op = .call { callee := .builtin .append, args := #[s, x], argTypes := #[t, t] }) (e : TypeId) (i : TypeInfo) (ht : P.underlying t = some (.slice e)) (hi : P.info? e = some i)
    (A : Option Addr) (n c : Nat) (hs : a.eval s = .slice A n c) (hx : a.eval x = .slice none 0 0) (hc : n ≤ c)
    (h : wpList P ops Q rest (a.put o.dst (.slice A n c)) w) : wpList P ops Q (o :: rest) a w := by
  refine wpList_plain hgd fun K hK => ?_
  have hr : (Builtin.append_ #[t, t] o.type #[.slice A n c, .slice none 0 0]).run P w = .ok (.slice A n c) w := by
    cases A <;> simp [Builtin.append_, run_underlying ht, sizeOf, typeInfo, hi, Builtin.lenOf, Builtin.firstCells, storeCells, hc]
  unfold Oper.wp execOp
  simp only [ho, resolve, invoke, builtin, Sem.run_bind, Sem.run_pure, Result.andThen_ok, List.map_toArray, List.map_cons, List.map_nil, hs, hx, hr]
  exact hK _ _ h
end Go.Proofs.YtklgjjmcflgjeaaGreatDoor.RecsTy
