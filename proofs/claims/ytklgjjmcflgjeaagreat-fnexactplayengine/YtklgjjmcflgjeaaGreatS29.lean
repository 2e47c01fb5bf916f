import Derived.Test.YtklgjjmcflgjeaaGreatS13
import Derived.Test.YtklgjjmcflgjeaaGreatS28
set_option linter.unusedVariables false
set_option linter.unusedSimpArgs false
namespace Go.Proofs.YtklgjjmcflgjeaaGreat.LawPlayEngine
open Go.ChangeShapes Go.WideShapes Go.ChangeAt Go.RowKit
open LK EngV EngTy Seg
set_option maxRecDepth 100000 in
set_option maxHeartbeats 12800000 in
theorem walk (s : Spc) (rev : Int) (a2 : Value) (d2 : Ops.L) (D0 : Eng) (D1 : Evs.L) (D2 : List Int) (b : Bool) (w : World) (hr : Ops.lty.Rd w w.heap.size a2 d2) (hz : SzC 13 Ops.lty a2 d2 w) (hD : ety.Few D0 ∧ Evs.lty.Few D1 ∧ IntTy.ity.Few D2)
    (hS : ∀ (W : World) (v : Value), Ops.lty.Rd W W.heap.size v d2 → Ops.lty.Few d2 → Calls Tryz.prog 23 #[.agg (spL s).toArray, .int .i64 rev, v] W (Play.Made3 ety Evs.lty IntTy.ity D0 D1 D2 (.bool b) W)) (hI : ∀ (W : World) (v : Value), Ops.lty.Rd W W.heap.size v d2 → Ops.lty.Few d2 → Calls Tryz.prog 10 #[.agg (spL s).toArray, .int .i64 rev, v] W (Play.Made3 ety Evs.lty IntTy.ity D0 D1 D2 (.bool b) W)) :
    Calls Tryz.prog 5 #[.agg (spL s).toArray, .int .i64 rev, a2] w fun e w' => e = .returned (.bool true) ∧ Below w.heap.size w w' := by
  have HS := Lib.hid hS
  have HI := Lib.hid hI
  have HD := Lib.hid hD
  have HR := Lib.hid hr
  have HZ := Lib.hid hz
  clear hS hI hD hr hz
  have hbb : (b != b) = false := by simp
  obtain ⟨V, hV⟩ : ∃ V, V = w.alloc (.cells (spL s).toArray 42) := ⟨_, rfl⟩
  have HB0 : Hid (Below w.heap.size w V) := by rw [hV]; exact bel1 _ _
  have KS0 : Hid (V.heap[w.heap.size]? = some (.cells (spL s).toArray 42 (0, 0))) := by rw [hV]; exact box_new w _
  have HL0 : Hid (w.heap.size < V.heap.size) := box_lt KS0.out
  go_enter Tryz.func5, Tryz.ntmps5
  go_upto_region 1 with fail
  rw [← hV]
  clear hV
  go_wp2_with fail
  refine (HZ.out _ 1048576 HB0.out (by omega) (by omega)).mono ?_
  rintro e w1 ⟨z, rfl, hb, hz⟩
  have KS1 := Lib.hid (box_below KS0.out hb)
  have HL1 := Lib.hid (Nat.lt_of_lt_of_le HL0.out hb.size)
  have HB1 := Lib.hid (bel_then HB0.out hb HB0.out.size)
  clear KS0 HL0 HB0 hb
  rcases hz with rfl | ⟨hz1, hz2, hf⟩
  · go_wp2
    go_ret
    exact ⟨rfl, HB1.out⟩
  have HF := Lib.hid hf
  have hzd : decide (z < 0) = false := by simp; omega
  clear hf
  go_wp2_with (refine wpList_get rfl 42 _ rfl w.heap.size 0 rfl KS1.out (spL s) List.take_length Tryz.underlying42 rfl (by kernel_rfl) ?_)
  refine (Sp.toSpec_any s.x0 s.x1 s.x2 s.x3 s.x4 s.x5 s.x6 s.x7 s.x8 s.x9 s.x10 _).mono ?_
  rintro e w2 ⟨rfl, hb⟩
  have KS2 := Lib.hid (box_below KS1.out hb)
  have HL2 := Lib.hid (Nat.lt_of_lt_of_le HL1.out hb.size)
  have HB2 := Lib.hid (bel_then HB1.out hb HB1.out.size)
  clear KS1 HL1 HB1 hb
  go_wp2_with fail
  have hlO := HL2.out
  refine (Ops.toOpS_any _ w.heap.size _ d2 (Ops.lty.rd_below HR.out HB2.out (Nat.le_refl _)) HB2.out.size HF.out).mono ?_
  rintro e w3 ⟨vO, SO, rfl, hO, hb⟩
  have KS3 := Lib.hid (box_below KS2.out hb)
  have HL3 := Lib.hid (Nat.lt_of_lt_of_le HL2.out hb.size)
  have HB3 := Lib.hid (bel_then HB2.out hb HB2.out.size)
  clear KS2 HL2 HB2 hb
  have HO3 := Lib.hid hO
  clear hO
  go_wp2_with fail
  have HUW : Hid (w.heap.size < w3.heap.size) := HL3.out
  clear HL3
  refine (HS.out _ _ (Ops.lty.rd_below HO3.out.rd (Below.refl _ _) (Nat.le_refl _)) HF.out).mono ?_
  rintro e w4 ⟨vW0, W1, W2, SW0, SW1, SW2, rfl, hO0, hO1, hO2, hd01, hd02, hd12, hb⟩
  obtain ⟨AW, nW, cW, rfl⟩ := EngTy.shape hO0
  have PW0 := Lib.hid hO0
  have PW1 := Lib.hid hO1
  have PW2 := Lib.hid hO2
  have DJW : Hid ((∀ k, SW0 k → ¬ SW1 k) ∧ (∀ k, SW0 k → ¬ SW2 k) ∧ (∀ k, SW1 k → ¬ SW2 k)) := ⟨hd01, hd02, hd12⟩
  have INW : Hid ((∀ k, SW0 k → w3.heap.size ≤ k ∧ k < w4.heap.size) ∧ (∀ k, SW1 k → w3.heap.size ≤ k ∧ k < w4.heap.size) ∧ (∀ k, SW2 k → w3.heap.size ≤ k ∧ k < w4.heap.size) ∧ w3.heap.size ≤ w4.heap.size) := ⟨fun k hk => hO0.inn k hk, fun k hk => hO1.inn k hk, fun k hk => hO2.inn k hk, hb.size⟩
  have HL3 : Hid (w3.heap.size - 1 < w3.heap.size) := by show _ < _; have := HUW.out; omega
  clear hO0 hO1 hO2 hd01 hd02 hd12
  have KS4 := Lib.hid (box_below KS3.out hb)
  have HO4 := Lib.hid (HO3.out.below hb)
  have HL4 := Lib.hid (Nat.lt_of_lt_of_le HL3.out hb.size)
  have HB4 := Lib.hid (bel_then HB3.out hb HB3.out.size)
  clear KS3 HO3 HL3 HB3 hb
  have KZ : Hid ((w4.alloc (.cells (enL zeroE none 0 0).toArray 36)).heap[w4.heap.size]? = some (.cells (enL zeroE none 0 0).toArray 36 (0, 0))) := box_new w4 _
  go_upto_region 6 with (refine wpList_put rfl rfl 36 _ _ rfl w4.heap.size 0 (enL D0 AW nW cW) rfl rfl KZ.out (by kernel_rfl) (enL D0 AW nW cW) rfl (Nat.le_of_ble_eq_true rfl) (enL_one _ _ _ _) ?_)
  obtain ⟨VW, hV⟩ : ∃ V, V = (w4.alloc (.cells #[.int .i64 0, .int .i64 0, .int .i64 0, .int .i64 0, .int .i64 0, .int .i64 0, .int .i64 0, .int .i64 0, .int .i64 0, .int .i64 0, .int .i64 0, .int .i64 0, .int .i64 0, .int .i64 0, .int .i64 0, .slice none 0 0, .int .i64 0, .int .i64 0, .int .i64 0, .int .i64 0] 36)).setRow w4.heap.size (enL D0 AW nW cW).toArray := ⟨_, rfl⟩
  have hbv : Below w4.heap.size w4 VW := by rw [hV]; exact row_below (bel1 _ _) _ _ (Nat.le_refl _) (by simp)
  have KW5 : Hid (VW.heap[w4.heap.size]? = some (.cells (enL D0 AW nW cW).toArray 36 (0, 0))) := by rw [hV]; exact row_box KZ.out
  have HW0_5 := Lib.hid (PW0.out.below hbv)
  have HW1_5 := Lib.hid (PW1.out.below hbv)
  have HW2_5 := Lib.hid (PW2.out.below hbv)
  rw [← hV]
  clear hV KZ PW0 PW1 PW2
  have KS5 := Lib.hid (box_below KS4.out hbv)
  have HO5 := Lib.hid (HO4.out.below hbv)
  have HL5 := Lib.hid (Nat.lt_of_lt_of_le HL4.out hbv.size)
  have HB5 := Lib.hid (bel_then HB4.out hbv HB4.out.size)
  clear KS4 HO4 HL4 HB4 hbv
  clear HL5
  have HL5 : Hid (w4.heap.size < VW.heap.size) := box_lt KW5.out
  clear HO5
  go_wp2_with fail
  have hltX := Lib.hid HL5.out
  refine (Ops.toOpS_any _ w.heap.size _ d2 (Ops.lty.rd_below HR.out HB5.out (Nat.le_refl _)) HB5.out.size HF.out).mono ?_
  rintro e w5 ⟨vX, SX, rfl, hO, hb⟩
  have KS6 := Lib.hid (box_below KS5.out hb)
  have KW6 := Lib.hid (box_below KW5.out hb)
  have HW0_6 := Lib.hid (HW0_5.out.below hb)
  have HW1_6 := Lib.hid (HW1_5.out.below hb)
  have HW2_6 := Lib.hid (HW2_5.out.below hb)
  have HL6 := Lib.hid (Nat.lt_of_lt_of_le HL5.out hb.size)
  have HB6 := Lib.hid (bel_then HB5.out hb HB5.out.size)
  clear KS5 KW5 HW0_5 HW1_5 HW2_5 HL5 HB5 hb
  have HX6 := Lib.hid hO
  clear hO
  have INX : Hid ((∀ k, SX k → w4.heap.size < k ∧ k < w5.heap.size)) := fun k hk => by have h1 := HX6.out.inn k hk; have := hltX.out; omega
  have HXW := HL6
  clear hltX HL6
  have HL6 : Hid (w5.heap.size - 1 < w5.heap.size) := by show _ < _; have := HB6.out.size; have := box_lt KS6.out; omega
  go_wp2_with (refine wpList_get rfl 42 _ rfl w.heap.size 0 rfl KS6.out (spL s) List.take_length Tryz.underlying42 rfl (by kernel_rfl) ?_)
  refine (Sp.toSpec_any s.x0 s.x1 s.x2 s.x3 s.x4 s.x5 s.x6 s.x7 s.x8 s.x9 s.x10 _).mono ?_
  rintro e w6 ⟨rfl, hb⟩
  have KS7 := Lib.hid (box_below KS6.out hb)
  have KW7 := Lib.hid (box_below KW6.out hb)
  have HW0_7 := Lib.hid (HW0_6.out.below hb)
  have HW1_7 := Lib.hid (HW1_6.out.below hb)
  have HW2_7 := Lib.hid (HW2_6.out.below hb)
  have HX7 := Lib.hid (HX6.out.below hb)
  have HL7 := Lib.hid (Nat.lt_of_lt_of_le HL6.out hb.size)
  have HB7 := Lib.hid (bel_then HB6.out hb HB6.out.size)
  clear KS6 KW6 HW0_6 HW1_6 HW2_6 HX6 HL6 HB6 hb
  go_wp2_with fail
  have HUG : Hid (w5.heap.size - 1 < w6.heap.size) := HL7.out
  clear HL7
  refine (HI.out _ _ (Ops.lty.rd_below HX7.out.rd (Below.refl _ _) (Nat.le_refl _)) HF.out).mono ?_
  rintro e w7 ⟨vG0, G1, G2, SG0, SG1, SG2, rfl, hO0, hO1, hO2, hd01, hd02, hd12, hb⟩
  obtain ⟨AG, nG, cG, rfl⟩ := EngTy.shape hO0
  have PG0 := Lib.hid hO0
  have PG1 := Lib.hid hO1
  have PG2 := Lib.hid hO2
  have DJG : Hid ((∀ k, SG0 k → ¬ SG1 k) ∧ (∀ k, SG0 k → ¬ SG2 k) ∧ (∀ k, SG1 k → ¬ SG2 k)) := ⟨hd01, hd02, hd12⟩
  have ING : Hid ((∀ k, SG0 k → w6.heap.size ≤ k ∧ k < w7.heap.size) ∧ (∀ k, SG1 k → w6.heap.size ≤ k ∧ k < w7.heap.size) ∧ (∀ k, SG2 k → w6.heap.size ≤ k ∧ k < w7.heap.size) ∧ w6.heap.size ≤ w7.heap.size) := ⟨fun k hk => hO0.inn k hk, fun k hk => hO1.inn k hk, fun k hk => hO2.inn k hk, hb.size⟩
  have HL7 : Hid (w6.heap.size - 1 < w6.heap.size) := by show _ < _; have := HUG.out; omega
  clear hO0 hO1 hO2 hd01 hd02 hd12
  have KS8 := Lib.hid (box_below KS7.out hb)
  have KW8 := Lib.hid (box_below KW7.out hb)
  have HW0_8 := Lib.hid (HW0_7.out.below hb)
  have HW1_8 := Lib.hid (HW1_7.out.below hb)
  have HW2_8 := Lib.hid (HW2_7.out.below hb)
  have HX8 := Lib.hid (HX7.out.below hb)
  have HL8 := Lib.hid (Nat.lt_of_lt_of_le HL7.out hb.size)
  have HB8 := Lib.hid (bel_then HB7.out hb HB7.out.size)
  clear KS7 KW7 HW0_7 HW1_7 HW2_7 HX7 HL7 HB7 hb
  have KZ : Hid ((w7.alloc (.cells (enL zeroE none 0 0).toArray 36)).heap[w7.heap.size]? = some (.cells (enL zeroE none 0 0).toArray 36 (0, 0))) := box_new w7 _
  go_upto_region 8 with (refine wpList_put rfl rfl 36 _ _ rfl w7.heap.size 0 (enL D0 AG nG cG) rfl rfl KZ.out (by kernel_rfl) (enL D0 AG nG cG) rfl (Nat.le_of_ble_eq_true rfl) (enL_one _ _ _ _) ?_)
  obtain ⟨VG, hV⟩ : ∃ V, V = (w7.alloc (.cells #[.int .i64 0, .int .i64 0, .int .i64 0, .int .i64 0, .int .i64 0, .int .i64 0, .int .i64 0, .int .i64 0, .int .i64 0, .int .i64 0, .int .i64 0, .int .i64 0, .int .i64 0, .int .i64 0, .int .i64 0, .slice none 0 0, .int .i64 0, .int .i64 0, .int .i64 0, .int .i64 0] 36)).setRow w7.heap.size (enL D0 AG nG cG).toArray := ⟨_, rfl⟩
  have hbv : Below w7.heap.size w7 VG := by rw [hV]; exact row_below (bel1 _ _) _ _ (Nat.le_refl _) (by simp)
  have KG9 : Hid (VG.heap[w7.heap.size]? = some (.cells (enL D0 AG nG cG).toArray 36 (0, 0))) := by rw [hV]; exact row_box KZ.out
  have HG0_9 := Lib.hid (PG0.out.below hbv)
  have HG1_9 := Lib.hid (PG1.out.below hbv)
  have HG2_9 := Lib.hid (PG2.out.below hbv)
  rw [← hV]
  clear hV KZ PG0 PG1 PG2
  have KS9 := Lib.hid (box_below KS8.out hbv)
  have KW9 := Lib.hid (box_below KW8.out hbv)
  have HW0_9 := Lib.hid (HW0_8.out.below hbv)
  have HW1_9 := Lib.hid (HW1_8.out.below hbv)
  have HW2_9 := Lib.hid (HW2_8.out.below hbv)
  have HX9 := Lib.hid (HX8.out.below hbv)
  have HL9 := Lib.hid (Nat.lt_of_lt_of_le HL8.out hbv.size)
  have HB9 := Lib.hid (bel_then HB8.out hbv HB8.out.size)
  clear KS8 KW8 HW0_8 HW1_8 HW2_8 HX8 HL8 HB8 hbv
  clear HL9
  have HL9 : Hid (w7.heap.size < VG.heap.size) := box_lt KG9.out
  clear hlO
  go_wp2_with (first | (refine wpList_get rfl 36 _ rfl w7.heap.size 0 rfl KG9.out (enL D0 AG nG cG) List.take_length Tryz.underlying36 rfl (by kernel_rfl) ?_) | (refine wpList_get rfl 36 _ rfl w4.heap.size 0 rfl KW9.out (enL D0 AW nW cW) List.take_length Tryz.underlying36 rfl (by kernel_rfl) ?_))
  refine (eqEngine_any _ _ _ _ _ D0 HG0_9.out.rd HW0_9.out.rd (Nat.le_refl _) (Nat.le_refl _) HD.out.1).mono ?_
  rintro e w8 ⟨rfl, hb⟩
  have KS10 := Lib.hid (box_below KS9.out hb)
  have KW10 := Lib.hid (box_below KW9.out hb)
  have KG10 := Lib.hid (box_below KG9.out hb)
  have HW0_10 := Lib.hid (HW0_9.out.below hb)
  have HW1_10 := Lib.hid (HW1_9.out.below hb)
  have HW2_10 := Lib.hid (HW2_9.out.below hb)
  have HX10 := Lib.hid (HX9.out.below hb)
  have HG0_10 := Lib.hid (HG0_9.out.below hb)
  have HG1_10 := Lib.hid (HG1_9.out.below hb)
  have HG2_10 := Lib.hid (HG2_9.out.below hb)
  have HL10 := Lib.hid (Nat.lt_of_lt_of_le HL9.out hb.size)
  have HB10 := Lib.hid (bel_then HB9.out hb HB9.out.size)
  clear KS9 KW9 KG9 HW0_9 HW1_9 HW2_9 HX9 HG0_9 HG1_9 HG2_9 HL9 HB9 hb
  go_wp2_with fail
  refine (Evs.eqEventS_any _ _ _ _ _ D1 HG1_10.out.rd HW1_10.out.rd (Nat.le_refl _) (Nat.le_refl _) HD.out.2.1).mono ?_
  rintro e w9 ⟨rfl, hb⟩
  have KS11 := Lib.hid (box_below KS10.out hb)
  have KW11 := Lib.hid (box_below KW10.out hb)
  have KG11 := Lib.hid (box_below KG10.out hb)
  have HW0_11 := Lib.hid (HW0_10.out.below hb)
  have HW1_11 := Lib.hid (HW1_10.out.below hb)
  have HW2_11 := Lib.hid (HW2_10.out.below hb)
  have HX11 := Lib.hid (HX10.out.below hb)
  have HG0_11 := Lib.hid (HG0_10.out.below hb)
  have HG1_11 := Lib.hid (HG1_10.out.below hb)
  have HG2_11 := Lib.hid (HG2_10.out.below hb)
  have HL11 := Lib.hid (Nat.lt_of_lt_of_le HL10.out hb.size)
  have HB11 := Lib.hid (bel_then HB10.out hb HB10.out.size)
  clear KS10 KW10 KG10 HW0_10 HW1_10 HW2_10 HX10 HG0_10 HG1_10 HG2_10 HL10 HB10 hb
  go_wp2_with fail
  refine (IntTy.eqIntS_any _ _ _ _ _ D2 HG2_11.out.rd HW2_11.out.rd (Nat.le_refl _) (Nat.le_refl _) HD.out.2.2).mono ?_
  rintro e w10 ⟨rfl, hb⟩
  have KS12 := Lib.hid (box_below KS11.out hb)
  have KW12 := Lib.hid (box_below KW11.out hb)
  have KG12 := Lib.hid (box_below KG11.out hb)
  have HW0_12 := Lib.hid (HW0_11.out.below hb)
  have HW1_12 := Lib.hid (HW1_11.out.below hb)
  have HW2_12 := Lib.hid (HW2_11.out.below hb)
  have HX12 := Lib.hid (HX11.out.below hb)
  have HG0_12 := Lib.hid (HG0_11.out.below hb)
  have HG1_12 := Lib.hid (HG1_11.out.below hb)
  have HG2_12 := Lib.hid (HG2_11.out.below hb)
  have HL12 := Lib.hid (Nat.lt_of_lt_of_le HL11.out hb.size)
  have HB12 := Lib.hid (bel_then HB11.out hb HB11.out.size)
  clear KS11 KW11 KG11 HW0_11 HW1_11 HW2_11 HX11 HG0_11 HG1_11 HG2_11 HL11 HB11 hb
  go_wp2_with fail
  have hlO := HL12.out
  refine (Ops.toOpS_any _ w.heap.size _ d2 (Ops.lty.rd_below HR.out HB12.out (Nat.le_refl _)) HB12.out.size HF.out).mono ?_
  rintro e w11 ⟨vO, SO, rfl, hO, hb⟩
  have KS13 := Lib.hid (box_below KS12.out hb)
  have KW13 := Lib.hid (box_below KW12.out hb)
  have KG13 := Lib.hid (box_below KG12.out hb)
  have HW0_13 := Lib.hid (HW0_12.out.below hb)
  have HW1_13 := Lib.hid (HW1_12.out.below hb)
  have HW2_13 := Lib.hid (HW2_12.out.below hb)
  have HX13 := Lib.hid (HX12.out.below hb)
  have HG0_13 := Lib.hid (HG0_12.out.below hb)
  have HG1_13 := Lib.hid (HG1_12.out.below hb)
  have HG2_13 := Lib.hid (HG2_12.out.below hb)
  have HL13 := Lib.hid (Nat.lt_of_lt_of_le HL12.out hb.size)
  have HB13 := Lib.hid (bel_then HB12.out hb HB12.out.size)
  clear KS12 KW12 KG12 HW0_12 HW1_12 HW2_12 HX12 HG0_12 HG1_12 HG2_12 HL12 HB12 hb
  have HO13 := Lib.hid hO
  clear hO
  clear hlO
  go_wp2_with fail
  refine (Ops.eqOpS_any _ _ _ _ _ d2 HX13.out.rd HO13.out.rd (Nat.le_refl _) (Nat.le_refl _) HF.out).mono ?_
  rintro e w12 ⟨rfl, hb⟩
  have KS14 := Lib.hid (box_below KS13.out hb)
  have KW14 := Lib.hid (box_below KW13.out hb)
  have KG14 := Lib.hid (box_below KG13.out hb)
  have HW0_14 := Lib.hid (HW0_13.out.below hb)
  have HW1_14 := Lib.hid (HW1_13.out.below hb)
  have HW2_14 := Lib.hid (HW2_13.out.below hb)
  have HX14 := Lib.hid (HX13.out.below hb)
  have HG0_14 := Lib.hid (HG0_13.out.below hb)
  have HG1_14 := Lib.hid (HG1_13.out.below hb)
  have HG2_14 := Lib.hid (HG2_13.out.below hb)
  have HO14 := Lib.hid (HO13.out.below hb)
  have HL14 := Lib.hid (Nat.lt_of_lt_of_le HL13.out hb.size)
  have HB14 := Lib.hid (bel_then HB13.out hb HB13.out.size)
  clear KS13 KW13 KG13 HW0_13 HW1_13 HW2_13 HX13 HG0_13 HG1_13 HG2_13 HO13 HL13 HB13 hb
  clear HO14
  go_wp2_with fail
  refine (Ops.markOpS_any _ _ _ _ _ d2 1 HX14.out HF.out (by omega) (by omega)).mono ?_
  obtain ⟨mx, hmx⟩ : ∃ m : Int, m = 1 + (Ops.lty.cnt d2 : Int) := ⟨_, rfl⟩
  rw [← hmx]
  have hmx0 : decide (mx < 0) = false := by simp; omega
  clear hmx
  rintro e w13 ⟨rfl, hO, ht⟩
  have HX15 := Lib.hid hO
  clear hO
  have KS15 := Lib.hid (box_turned KS14.out ht (fun h => by have hx := INX.out _ h; have := HXW.out; have := HUW.out; have := INW.out.2.2.2; have := HUG.out; have := ING.out.2.2.2; omega))
  have KW15 := Lib.hid (box_turned KW14.out ht (fun h => by have hx := INX.out _ h; have := HXW.out; have := HUW.out; have := INW.out.2.2.2; have := HUG.out; have := ING.out.2.2.2; omega))
  have KG15 := Lib.hid (box_turned KG14.out ht (fun h => by have hx := INX.out _ h; have := HXW.out; have := HUW.out; have := INW.out.2.2.2; have := HUG.out; have := ING.out.2.2.2; omega))
  have HW0_15 := Lib.hid (HW0_14.out.turned ht (fun k h h' => by have hx := INX.out _ h'; have := HXW.out; have := HUW.out; have := INW.out.2.2.2; have := HUG.out; have := ING.out.2.2.2; have h9 := INW.out.1 _ h; omega))
  have HW1_15 := Lib.hid (HW1_14.out.turned ht (fun k h h' => by have hx := INX.out _ h'; have := HXW.out; have := HUW.out; have := INW.out.2.2.2; have := HUG.out; have := ING.out.2.2.2; have h9 := INW.out.2.1 _ h; omega))
  have HW2_15 := Lib.hid (HW2_14.out.turned ht (fun k h h' => by have hx := INX.out _ h'; have := HXW.out; have := HUW.out; have := INW.out.2.2.2; have := HUG.out; have := ING.out.2.2.2; have h9 := INW.out.2.2.1 _ h; omega))
  have HG0_15 := Lib.hid (HG0_14.out.turned ht (fun k h h' => by have hx := INX.out _ h'; have := HXW.out; have := HUW.out; have := INW.out.2.2.2; have := HUG.out; have := ING.out.2.2.2; have h9 := ING.out.1 _ h; omega))
  have HG1_15 := Lib.hid (HG1_14.out.turned ht (fun k h h' => by have hx := INX.out _ h'; have := HXW.out; have := HUW.out; have := INW.out.2.2.2; have := HUG.out; have := ING.out.2.2.2; have h9 := ING.out.2.1 _ h; omega))
  have HG2_15 := Lib.hid (HG2_14.out.turned ht (fun k h h' => by have hx := INX.out _ h'; have := HXW.out; have := HUW.out; have := INW.out.2.2.2; have := HUG.out; have := ING.out.2.2.2; have h9 := ING.out.2.2.1 _ h; omega))
  have HB15 := Lib.hid (Turned.low HB14.out ht (fun k h => by have hx := INX.out _ h; have := HXW.out; have := HUW.out; have := INW.out.2.2.2; have := HUG.out; have := ING.out.2.2.2; have := HB14.out.size; omega) HB14.out.size)
  have HL15 := Lib.hid (Nat.lt_of_lt_of_le HL14.out ht.size)
  clear ht HL14 HB14 KS14 KW14 KG14 HW0_14 HW1_14 HW2_14 HX14 HG0_14 HG1_14 HG2_14
  go_wp2_with (first | (refine wpList_getG (by rfl) 36 _ rfl w7.heap.size 0 rfl KG15.out (enL D0 AG nG cG) List.take_length Tryz.underlying36 rfl (by kernel_rfl) ?_) | (refine wpList_getG (by rfl) 36 _ rfl w4.heap.size 0 rfl KW15.out (enL D0 AW nW cW) List.take_length Tryz.underlying36 rfl (by kernel_rfl) ?_))
  refine (eqEngine_any _ _ _ _ _ D0 HG0_15.out.rd HW0_15.out.rd (Nat.le_refl _) (Nat.le_refl _) HD.out.1).mono ?_
  rintro e w14 ⟨rfl, hb⟩
  have KS16 := Lib.hid (box_below KS15.out hb)
  have KW16 := Lib.hid (box_below KW15.out hb)
  have KG16 := Lib.hid (box_below KG15.out hb)
  have HW0_16 := Lib.hid (HW0_15.out.below hb)
  have HW1_16 := Lib.hid (HW1_15.out.below hb)
  have HW2_16 := Lib.hid (HW2_15.out.below hb)
  have HX16 := Lib.hid (HX15.out.below hb)
  have HG0_16 := Lib.hid (HG0_15.out.below hb)
  have HG1_16 := Lib.hid (HG1_15.out.below hb)
  have HG2_16 := Lib.hid (HG2_15.out.below hb)
  have HL16 := Lib.hid (Nat.lt_of_lt_of_le HL15.out hb.size)
  have HB16 := Lib.hid (bel_then HB15.out hb HB15.out.size)
  clear KS15 KW15 KG15 HW0_15 HW1_15 HW2_15 HX15 HG0_15 HG1_15 HG2_15 HL15 HB15 hb
  go_wp2_with fail
  refine (Evs.eqEventS_any _ _ _ _ _ D1 HG1_16.out.rd HW1_16.out.rd (Nat.le_refl _) (Nat.le_refl _) HD.out.2.1).mono ?_
  rintro e w15 ⟨rfl, hb⟩
  have KS17 := Lib.hid (box_below KS16.out hb)
  have KW17 := Lib.hid (box_below KW16.out hb)
  have KG17 := Lib.hid (box_below KG16.out hb)
  have HW0_17 := Lib.hid (HW0_16.out.below hb)
  have HW1_17 := Lib.hid (HW1_16.out.below hb)
  have HW2_17 := Lib.hid (HW2_16.out.below hb)
  have HX17 := Lib.hid (HX16.out.below hb)
  have HG0_17 := Lib.hid (HG0_16.out.below hb)
  have HG1_17 := Lib.hid (HG1_16.out.below hb)
  have HG2_17 := Lib.hid (HG2_16.out.below hb)
  have HL17 := Lib.hid (Nat.lt_of_lt_of_le HL16.out hb.size)
  have HB17 := Lib.hid (bel_then HB16.out hb HB16.out.size)
  clear KS16 KW16 KG16 HW0_16 HW1_16 HW2_16 HX16 HG0_16 HG1_16 HG2_16 HL16 HB16 hb
  go_wp2_with fail
  refine (IntTy.eqIntS_any _ _ _ _ _ D2 HG2_17.out.rd HW2_17.out.rd (Nat.le_refl _) (Nat.le_refl _) HD.out.2.2).mono ?_
  rintro e w16 ⟨rfl, hb⟩
  have KS18 := Lib.hid (box_below KS17.out hb)
  have KW18 := Lib.hid (box_below KW17.out hb)
  have KG18 := Lib.hid (box_below KG17.out hb)
  have HW0_18 := Lib.hid (HW0_17.out.below hb)
  have HW1_18 := Lib.hid (HW1_17.out.below hb)
  have HW2_18 := Lib.hid (HW2_17.out.below hb)
  have HX18 := Lib.hid (HX17.out.below hb)
  have HG0_18 := Lib.hid (HG0_17.out.below hb)
  have HG1_18 := Lib.hid (HG1_17.out.below hb)
  have HG2_18 := Lib.hid (HG2_17.out.below hb)
  have HL18 := Lib.hid (Nat.lt_of_lt_of_le HL17.out hb.size)
  have HB18 := Lib.hid (bel_then HB17.out hb HB17.out.size)
  clear KS17 KW17 KG17 HW0_17 HW1_17 HW2_17 HX17 HG0_17 HG1_17 HG2_17 HL17 HB17 hb
  clear HX18
  have hc0 : ((ety.cnt D0 : Nat) : Int) ≤ 20000000 := by have := ety.few_cnt HD.out.1; omega
  have hc1 : ((Evs.lty.cnt D1 : Nat) : Int) ≤ 20000000 := by have := Evs.lty.few_cnt HD.out.2.1; omega
  have hc2 : ((IntTy.ity.cnt D2 : Nat) : Int) ≤ 20000000 := by have := IntTy.ity.few_cnt HD.out.2.2; omega
  obtain ⟨m1, hm1⟩ : ∃ m : Int, m = 1 + (ety.cnt D0 : Int) := ⟨_, rfl⟩
  obtain ⟨m2, hm2⟩ : ∃ m : Int, m = m1 + (Evs.lty.cnt D1 : Int) := ⟨_, rfl⟩
  obtain ⟨m3, hm3⟩ : ∃ m : Int, m = m2 + (IntTy.ity.cnt D2 : Int) := ⟨_, rfl⟩
  have HM : Hid (m1 = 1 + (ety.cnt D0 : Int) ∧ m2 = m1 + (Evs.lty.cnt D1 : Int) ∧ m3 = m2 + (IntTy.ity.cnt D2 : Int)) := ⟨hm1, hm2, hm3⟩
  have HMB : Hid ((0 ≤ m1 ∧ m1 ≤ 20000001) ∧ (0 ≤ m2 ∧ m2 ≤ 40000001) ∧ (0 ≤ m3 ∧ m3 ≤ 60000001)) := by show _ ∧ _; omega
  have hn1 : decide (m1 < 0) = false := by simp; omega
  have hn2 : decide (m2 < 0) = false := by simp; omega
  have hn3 : decide (m3 < 0) = false := by simp; omega
  have hmm : (m3 != m3) = false := by simp
  clear hm1 hm2 hm3 hc0 hc1 hc2
  go_wp2_with (refine wpList_get rfl 36 _ rfl w7.heap.size 0 rfl KG18.out (enL D0 AG nG cG) List.take_length Tryz.underlying36 rfl (by kernel_rfl) ?_)
  refine (markEngine_any _ _ _ _ _ D0 1 HG0_18.out HD.out.1 (by omega) (by omega)).mono ?_
  rw [← HM.out.1]
  rintro e w17 ⟨rfl, hO, ht⟩
  have HG0_19 := Lib.hid hO
  clear hO
  have HBW : Hid (w.heap.size ≤ w3.heap.size) := Nat.le_of_lt HUW.out
  have KS19 := Lib.hid (box_turned KS18.out ht (fun h => by have h9 := ING.out.1 _ h; have := HXW.out; have := HUW.out; have := INW.out.2.2.2; have := HUG.out; have := ING.out.2.2.2; omega))
  have KW19 := Lib.hid (box_turned KW18.out ht (fun h => by have h9 := ING.out.1 _ h; have := HXW.out; have := HUW.out; have := INW.out.2.2.2; have := HUG.out; have := ING.out.2.2.2; omega))
  have KG19 := Lib.hid (box_turned KG18.out ht (fun h => by have h9 := ING.out.1 _ h; have := HXW.out; have := HUW.out; have := INW.out.2.2.2; have := HUG.out; have := ING.out.2.2.2; omega))
  have HW0_19 := Lib.hid (HW0_18.out.turned ht (fun k h h' => by have h9 := ING.out.1 _ h'; have := HXW.out; have := HUW.out; have := INW.out.2.2.2; have := HUG.out; have := ING.out.2.2.2; have h8 := INW.out.1 _ h; omega))
  have HW1_19 := Lib.hid (HW1_18.out.turned ht (fun k h h' => by have h9 := ING.out.1 _ h'; have := HXW.out; have := HUW.out; have := INW.out.2.2.2; have := HUG.out; have := ING.out.2.2.2; have h8 := INW.out.2.1 _ h; omega))
  have HW2_19 := Lib.hid (HW2_18.out.turned ht (fun k h h' => by have h9 := ING.out.1 _ h'; have := HXW.out; have := HUW.out; have := INW.out.2.2.2; have := HUG.out; have := ING.out.2.2.2; have h8 := INW.out.2.2.1 _ h; omega))
  have HG1_19 := Lib.hid (HG1_18.out.turned ht (fun k h h' => by exact DJG.out.1 _ h' h))
  have HG2_19 := Lib.hid (HG2_18.out.turned ht (fun k h h' => by exact DJG.out.2.1 _ h' h))
  have HB19 := Lib.hid (Turned.low HB18.out ht (fun k h => by have h9 := ING.out.1 _ h; have := HXW.out; have := HUW.out; have := INW.out.2.2.2; have := HUG.out; have := ING.out.2.2.2; have := HBW.out; omega) HB18.out.size)
  have HL19 := Lib.hid (Nat.lt_of_lt_of_le HL18.out ht.size)
  clear ht HL18 HB18 KS18 KW18 KG18 HW0_18 HW1_18 HW2_18 HG0_18 HG1_18 HG2_18
  go_wp2_with fail
  refine (Evs.markEventS_any _ _ _ _ _ D1 m1 HG1_19.out HD.out.2.1 HMB.out.1.1 (by have := HMB.out.1.2; omega)).mono ?_
  rw [← HM.out.2.1]
  rintro e w18 ⟨rfl, hO, ht⟩
  have HG1_20 := Lib.hid hO
  clear hO
  have KS20 := Lib.hid (box_turned KS19.out ht (fun h => by have h9 := ING.out.2.1 _ h; have := HXW.out; have := HUW.out; have := INW.out.2.2.2; have := HUG.out; have := ING.out.2.2.2; omega))
  have KW20 := Lib.hid (box_turned KW19.out ht (fun h => by have h9 := ING.out.2.1 _ h; have := HXW.out; have := HUW.out; have := INW.out.2.2.2; have := HUG.out; have := ING.out.2.2.2; omega))
  have KG20 := Lib.hid (box_turned KG19.out ht (fun h => by have h9 := ING.out.2.1 _ h; have := HXW.out; have := HUW.out; have := INW.out.2.2.2; have := HUG.out; have := ING.out.2.2.2; omega))
  have HW0_20 := Lib.hid (HW0_19.out.turned ht (fun k h h' => by have h9 := ING.out.2.1 _ h'; have := HXW.out; have := HUW.out; have := INW.out.2.2.2; have := HUG.out; have := ING.out.2.2.2; have h8 := INW.out.1 _ h; omega))
  have HW1_20 := Lib.hid (HW1_19.out.turned ht (fun k h h' => by have h9 := ING.out.2.1 _ h'; have := HXW.out; have := HUW.out; have := INW.out.2.2.2; have := HUG.out; have := ING.out.2.2.2; have h8 := INW.out.2.1 _ h; omega))
  have HW2_20 := Lib.hid (HW2_19.out.turned ht (fun k h h' => by have h9 := ING.out.2.1 _ h'; have := HXW.out; have := HUW.out; have := INW.out.2.2.2; have := HUG.out; have := ING.out.2.2.2; have h8 := INW.out.2.2.1 _ h; omega))
  have HG0_20 := Lib.hid (HG0_19.out.turned ht (fun k h h' => by exact DJG.out.1 _ h h'))
  have HG2_20 := Lib.hid (HG2_19.out.turned ht (fun k h h' => by exact DJG.out.2.2 _ h' h))
  have HB20 := Lib.hid (Turned.low HB19.out ht (fun k h => by have h9 := ING.out.2.1 _ h; have := HXW.out; have := HUW.out; have := INW.out.2.2.2; have := HUG.out; have := ING.out.2.2.2; have := HBW.out; omega) HB19.out.size)
  have HL20 := Lib.hid (Nat.lt_of_lt_of_le HL19.out ht.size)
  clear ht HL19 HB19 KS19 KW19 KG19 HW0_19 HW1_19 HW2_19 HG0_19 HG1_19 HG2_19
  go_wp2_with fail
  refine (IntTy.markIntS_any _ _ _ _ _ D2 m2 HG2_20.out HD.out.2.2 HMB.out.2.1.1 (by have := HMB.out.2.1.2; omega)).mono ?_
  rw [← HM.out.2.2]
  rintro e w19 ⟨rfl, hO, ht⟩
  have HG2_21 := Lib.hid hO
  clear hO
  have KS21 := Lib.hid (box_turned KS20.out ht (fun h => by have h9 := ING.out.2.2.1 _ h; have := HXW.out; have := HUW.out; have := INW.out.2.2.2; have := HUG.out; have := ING.out.2.2.2; omega))
  have KW21 := Lib.hid (box_turned KW20.out ht (fun h => by have h9 := ING.out.2.2.1 _ h; have := HXW.out; have := HUW.out; have := INW.out.2.2.2; have := HUG.out; have := ING.out.2.2.2; omega))
  have KG21 := Lib.hid (box_turned KG20.out ht (fun h => by have h9 := ING.out.2.2.1 _ h; have := HXW.out; have := HUW.out; have := INW.out.2.2.2; have := HUG.out; have := ING.out.2.2.2; omega))
  have HW0_21 := Lib.hid (HW0_20.out.turned ht (fun k h h' => by have h9 := ING.out.2.2.1 _ h'; have := HXW.out; have := HUW.out; have := INW.out.2.2.2; have := HUG.out; have := ING.out.2.2.2; have h8 := INW.out.1 _ h; omega))
  have HW1_21 := Lib.hid (HW1_20.out.turned ht (fun k h h' => by have h9 := ING.out.2.2.1 _ h'; have := HXW.out; have := HUW.out; have := INW.out.2.2.2; have := HUG.out; have := ING.out.2.2.2; have h8 := INW.out.2.1 _ h; omega))
  have HW2_21 := Lib.hid (HW2_20.out.turned ht (fun k h h' => by have h9 := ING.out.2.2.1 _ h'; have := HXW.out; have := HUW.out; have := INW.out.2.2.2; have := HUG.out; have := ING.out.2.2.2; have h8 := INW.out.2.2.1 _ h; omega))
  have HG0_21 := Lib.hid (HG0_20.out.turned ht (fun k h h' => by exact DJG.out.2.1 _ h h'))
  have HG1_21 := Lib.hid (HG1_20.out.turned ht (fun k h h' => by exact DJG.out.2.2 _ h h'))
  have HB21 := Lib.hid (Turned.low HB20.out ht (fun k h => by have h9 := ING.out.2.2.1 _ h; have := HXW.out; have := HUW.out; have := INW.out.2.2.2; have := HUG.out; have := ING.out.2.2.2; have := HBW.out; omega) HB20.out.size)
  have HL21 := Lib.hid (Nat.lt_of_lt_of_le HL20.out ht.size)
  clear ht HL20 HB20 KS20 KW20 KG20 HW0_20 HW1_20 HW2_20 HG0_20 HG1_20 HG2_20
  go_wp2_with (refine wpList_get rfl 36 _ rfl w7.heap.size 0 rfl KG21.out (enL D0 AG nG cG) List.take_length Tryz.underlying36 rfl (by kernel_rfl) ?_)
  refine (heldEngine_any _ _ _ D0 1 HG0_21.out.rd (Nat.le_refl _) HD.out.1 (by omega) (by omega)).mono ?_
  rw [← HM.out.1]
  rintro e w20 ⟨rfl, hb⟩
  have KS22 := Lib.hid (box_below KS21.out hb)
  have KW22 := Lib.hid (box_below KW21.out hb)
  have KG22 := Lib.hid (box_below KG21.out hb)
  have HW0_22 := Lib.hid (HW0_21.out.below hb)
  have HW1_22 := Lib.hid (HW1_21.out.below hb)
  have HW2_22 := Lib.hid (HW2_21.out.below hb)
  have HG0_22 := Lib.hid (HG0_21.out.below hb)
  have HG1_22 := Lib.hid (HG1_21.out.below hb)
  have HG2_22 := Lib.hid (HG2_21.out.below hb)
  have HL22 := Lib.hid (Nat.lt_of_lt_of_le HL21.out hb.size)
  have HB22 := Lib.hid (bel_then HB21.out hb HB21.out.size)
  clear KS21 KW21 KG21 HW0_21 HW1_21 HW2_21 HG0_21 HG1_21 HG2_21 HL21 HB21 hb
  go_wp2_with fail
  refine (Evs.heldEventS_any _ _ _ D1 m1 HG1_22.out.rd (Nat.le_refl _) HD.out.2.1 HMB.out.1.1 (by have := HMB.out.1.2; omega)).mono ?_
  rw [← HM.out.2.1]
  rintro e w21 ⟨rfl, hb⟩
  have KS23 := Lib.hid (box_below KS22.out hb)
  have KW23 := Lib.hid (box_below KW22.out hb)
  have KG23 := Lib.hid (box_below KG22.out hb)
  have HW0_23 := Lib.hid (HW0_22.out.below hb)
  have HW1_23 := Lib.hid (HW1_22.out.below hb)
  have HW2_23 := Lib.hid (HW2_22.out.below hb)
  have HG0_23 := Lib.hid (HG0_22.out.below hb)
  have HG1_23 := Lib.hid (HG1_22.out.below hb)
  have HG2_23 := Lib.hid (HG2_22.out.below hb)
  have HL23 := Lib.hid (Nat.lt_of_lt_of_le HL22.out hb.size)
  have HB23 := Lib.hid (bel_then HB22.out hb HB22.out.size)
  clear KS22 KW22 KG22 HW0_22 HW1_22 HW2_22 HG0_22 HG1_22 HG2_22 HL22 HB22 hb
  go_wp2_with fail
  refine (IntTy.heldIntS_any _ _ _ D2 m2 HG2_23.out.rd (Nat.le_refl _) HD.out.2.2 HMB.out.2.1.1 (by have := HMB.out.2.1.2; omega)).mono ?_
  rw [← HM.out.2.2]
  rintro e w22 ⟨rfl, hb⟩
  have KS24 := Lib.hid (box_below KS23.out hb)
  have KW24 := Lib.hid (box_below KW23.out hb)
  have KG24 := Lib.hid (box_below KG23.out hb)
  have HW0_24 := Lib.hid (HW0_23.out.below hb)
  have HW1_24 := Lib.hid (HW1_23.out.below hb)
  have HW2_24 := Lib.hid (HW2_23.out.below hb)
  have HG0_24 := Lib.hid (HG0_23.out.below hb)
  have HG1_24 := Lib.hid (HG1_23.out.below hb)
  have HG2_24 := Lib.hid (HG2_23.out.below hb)
  have HL24 := Lib.hid (Nat.lt_of_lt_of_le HL23.out hb.size)
  have HB24 := Lib.hid (bel_then HB23.out hb HB23.out.size)
  clear KS23 KW23 KG23 HW0_23 HW1_23 HW2_23 HG0_23 HG1_23 HG2_23 HL23 HB23 hb
  go_wp2_with (refine wpList_get rfl 42 _ rfl w.heap.size 0 rfl KS24.out (spL s) List.take_length Tryz.underlying42 rfl (by kernel_rfl) ?_)
  refine (Sp.toSpec_any s.x0 s.x1 s.x2 s.x3 s.x4 s.x5 s.x6 s.x7 s.x8 s.x9 s.x10 _).mono ?_
  rintro e w23 ⟨rfl, hb⟩
  have KS25 := Lib.hid (box_below KS24.out hb)
  have KW25 := Lib.hid (box_below KW24.out hb)
  have KG25 := Lib.hid (box_below KG24.out hb)
  have HW0_25 := Lib.hid (HW0_24.out.below hb)
  have HW1_25 := Lib.hid (HW1_24.out.below hb)
  have HW2_25 := Lib.hid (HW2_24.out.below hb)
  have HG0_25 := Lib.hid (HG0_24.out.below hb)
  have HG1_25 := Lib.hid (HG1_24.out.below hb)
  have HG2_25 := Lib.hid (HG2_24.out.below hb)
  have HL25 := Lib.hid (Nat.lt_of_lt_of_le HL24.out hb.size)
  have HB25 := Lib.hid (bel_then HB24.out hb HB24.out.size)
  clear KS24 KW24 KG24 HW0_24 HW1_24 HW2_24 HG0_24 HG1_24 HG2_24 HL24 HB24 hb
  go_wp2_with fail
  have hlO := HL25.out
  refine (Ops.toOpS_any _ w.heap.size _ d2 (Ops.lty.rd_below HR.out HB25.out (Nat.le_refl _)) HB25.out.size HF.out).mono ?_
  rintro e w24 ⟨vO, SO, rfl, hO, hb⟩
  have KS26 := Lib.hid (box_below KS25.out hb)
  have KW26 := Lib.hid (box_below KW25.out hb)
  have KG26 := Lib.hid (box_below KG25.out hb)
  have HW0_26 := Lib.hid (HW0_25.out.below hb)
  have HW1_26 := Lib.hid (HW1_25.out.below hb)
  have HW2_26 := Lib.hid (HW2_25.out.below hb)
  have HG0_26 := Lib.hid (HG0_25.out.below hb)
  have HG1_26 := Lib.hid (HG1_25.out.below hb)
  have HG2_26 := Lib.hid (HG2_25.out.below hb)
  have HL26 := Lib.hid (Nat.lt_of_lt_of_le HL25.out hb.size)
  have HB26 := Lib.hid (bel_then HB25.out hb HB25.out.size)
  clear KS25 KW25 KG25 HW0_25 HW1_25 HW2_25 HG0_25 HG1_25 HG2_25 HL25 HB25 hb
  have HO26 := Lib.hid hO
  clear hO
  clear hlO
  go_wp2_with fail
  have HUQ : Hid (w7.heap.size < w24.heap.size) := HL26.out
  clear HL26
  refine (HI.out _ _ (Ops.lty.rd_below HO26.out.rd (Below.refl _ _) (Nat.le_refl _)) HF.out).mono ?_
  rintro e w25 ⟨vQ0, Q1, Q2, SQ0, SQ1, SQ2, rfl, hO0, hO1, hO2, hd01, hd02, hd12, hb⟩
  obtain ⟨AQ, nQ, cQ, rfl⟩ := EngTy.shape hO0
  have PQ0 := Lib.hid hO0
  have PQ1 := Lib.hid hO1
  have PQ2 := Lib.hid hO2
  have DJQ : Hid ((∀ k, SQ0 k → ¬ SQ1 k) ∧ (∀ k, SQ0 k → ¬ SQ2 k) ∧ (∀ k, SQ1 k → ¬ SQ2 k)) := ⟨hd01, hd02, hd12⟩
  have INQ : Hid ((∀ k, SQ0 k → w24.heap.size ≤ k ∧ k < w25.heap.size) ∧ (∀ k, SQ1 k → w24.heap.size ≤ k ∧ k < w25.heap.size) ∧ (∀ k, SQ2 k → w24.heap.size ≤ k ∧ k < w25.heap.size) ∧ w24.heap.size ≤ w25.heap.size) := ⟨fun k hk => hO0.inn k hk, fun k hk => hO1.inn k hk, fun k hk => hO2.inn k hk, hb.size⟩
  have HL26 : Hid (w24.heap.size - 1 < w24.heap.size) := by show _ < _; have := HUQ.out; omega
  clear hO0 hO1 hO2 hd01 hd02 hd12
  have KS27 := Lib.hid (box_below KS26.out hb)
  have KW27 := Lib.hid (box_below KW26.out hb)
  have KG27 := Lib.hid (box_below KG26.out hb)
  have HW0_27 := Lib.hid (HW0_26.out.below hb)
  have HW1_27 := Lib.hid (HW1_26.out.below hb)
  have HW2_27 := Lib.hid (HW2_26.out.below hb)
  have HG0_27 := Lib.hid (HG0_26.out.below hb)
  have HG1_27 := Lib.hid (HG1_26.out.below hb)
  have HG2_27 := Lib.hid (HG2_26.out.below hb)
  have HO27 := Lib.hid (HO26.out.below hb)
  have HL27 := Lib.hid (Nat.lt_of_lt_of_le HL26.out hb.size)
  have HB27 := Lib.hid (bel_then HB26.out hb HB26.out.size)
  clear KS26 KW26 KG26 HW0_26 HW1_26 HW2_26 HG0_26 HG1_26 HG2_26 HO26 HL26 HB26 hb
  have KZ : Hid ((w25.alloc (.cells (enL zeroE none 0 0).toArray 36)).heap[w25.heap.size]? = some (.cells (enL zeroE none 0 0).toArray 36 (0, 0))) := box_new w25 _
  go_upto_region 33 with (refine wpList_put rfl rfl 36 _ _ rfl w25.heap.size 0 (enL D0 AQ nQ cQ) rfl rfl KZ.out (by kernel_rfl) (enL D0 AQ nQ cQ) rfl (Nat.le_of_ble_eq_true rfl) (enL_one _ _ _ _) ?_)
  obtain ⟨VQ, hV⟩ : ∃ V, V = (w25.alloc (.cells #[.int .i64 0, .int .i64 0, .int .i64 0, .int .i64 0, .int .i64 0, .int .i64 0, .int .i64 0, .int .i64 0, .int .i64 0, .int .i64 0, .int .i64 0, .int .i64 0, .int .i64 0, .int .i64 0, .int .i64 0, .slice none 0 0, .int .i64 0, .int .i64 0, .int .i64 0, .int .i64 0] 36)).setRow w25.heap.size (enL D0 AQ nQ cQ).toArray := ⟨_, rfl⟩
  have hbv : Below w25.heap.size w25 VQ := by rw [hV]; exact row_below (bel1 _ _) _ _ (Nat.le_refl _) (by simp)
  have KQ28 : Hid (VQ.heap[w25.heap.size]? = some (.cells (enL D0 AQ nQ cQ).toArray 36 (0, 0))) := by rw [hV]; exact row_box KZ.out
  have HQ0_28 := Lib.hid (PQ0.out.below hbv)
  have HQ1_28 := Lib.hid (PQ1.out.below hbv)
  have HQ2_28 := Lib.hid (PQ2.out.below hbv)
  rw [← hV]
  clear hV KZ PQ0 PQ1 PQ2
  have KS28 := Lib.hid (box_below KS27.out hbv)
  have KW28 := Lib.hid (box_below KW27.out hbv)
  have KG28 := Lib.hid (box_below KG27.out hbv)
  have HW0_28 := Lib.hid (HW0_27.out.below hbv)
  have HW1_28 := Lib.hid (HW1_27.out.below hbv)
  have HW2_28 := Lib.hid (HW2_27.out.below hbv)
  have HG0_28 := Lib.hid (HG0_27.out.below hbv)
  have HG1_28 := Lib.hid (HG1_27.out.below hbv)
  have HG2_28 := Lib.hid (HG2_27.out.below hbv)
  have HO28 := Lib.hid (HO27.out.below hbv)
  have HL28 := Lib.hid (Nat.lt_of_lt_of_le HL27.out hbv.size)
  have HB28 := Lib.hid (bel_then HB27.out hbv HB27.out.size)
  clear KS27 KW27 KG27 HW0_27 HW1_27 HW2_27 HG0_27 HG1_27 HG2_27 HO27 HL27 HB27 hbv
  clear HL28
  have HL28 : Hid (w25.heap.size < VQ.heap.size) := box_lt KQ28.out
  clear HO28
  go_wp2_with (first | (refine wpList_get rfl 36 _ rfl w25.heap.size 0 rfl KQ28.out (enL D0 AQ nQ cQ) List.take_length Tryz.underlying36 rfl (by kernel_rfl) ?_) | (refine wpList_get rfl 36 _ rfl w4.heap.size 0 rfl KW28.out (enL D0 AW nW cW) List.take_length Tryz.underlying36 rfl (by kernel_rfl) ?_))
  refine (eqEngine_any _ _ _ _ _ D0 HQ0_28.out.rd HW0_28.out.rd (Nat.le_refl _) (Nat.le_refl _) HD.out.1).mono ?_
  rintro e w26 ⟨rfl, hb⟩
  have KS29 := Lib.hid (box_below KS28.out hb)
  have KW29 := Lib.hid (box_below KW28.out hb)
  have KG29 := Lib.hid (box_below KG28.out hb)
  have KQ29 := Lib.hid (box_below KQ28.out hb)
  have HW0_29 := Lib.hid (HW0_28.out.below hb)
  have HW1_29 := Lib.hid (HW1_28.out.below hb)
  have HW2_29 := Lib.hid (HW2_28.out.below hb)
  have HG0_29 := Lib.hid (HG0_28.out.below hb)
  have HG1_29 := Lib.hid (HG1_28.out.below hb)
  have HG2_29 := Lib.hid (HG2_28.out.below hb)
  have HQ0_29 := Lib.hid (HQ0_28.out.below hb)
  have HQ1_29 := Lib.hid (HQ1_28.out.below hb)
  have HQ2_29 := Lib.hid (HQ2_28.out.below hb)
  have HL29 := Lib.hid (Nat.lt_of_lt_of_le HL28.out hb.size)
  have HB29 := Lib.hid (bel_then HB28.out hb HB28.out.size)
  clear KS28 KW28 KG28 KQ28 HW0_28 HW1_28 HW2_28 HG0_28 HG1_28 HG2_28 HQ0_28 HQ1_28 HQ2_28 HL28 HB28 hb
  go_wp2_with fail
  refine (Evs.eqEventS_any _ _ _ _ _ D1 HQ1_29.out.rd HW1_29.out.rd (Nat.le_refl _) (Nat.le_refl _) HD.out.2.1).mono ?_
  rintro e w27 ⟨rfl, hb⟩
  have KS30 := Lib.hid (box_below KS29.out hb)
  have KW30 := Lib.hid (box_below KW29.out hb)
  have KG30 := Lib.hid (box_below KG29.out hb)
  have KQ30 := Lib.hid (box_below KQ29.out hb)
  have HW0_30 := Lib.hid (HW0_29.out.below hb)
  have HW1_30 := Lib.hid (HW1_29.out.below hb)
  have HW2_30 := Lib.hid (HW2_29.out.below hb)
  have HG0_30 := Lib.hid (HG0_29.out.below hb)
  have HG1_30 := Lib.hid (HG1_29.out.below hb)
  have HG2_30 := Lib.hid (HG2_29.out.below hb)
  have HQ0_30 := Lib.hid (HQ0_29.out.below hb)
  have HQ1_30 := Lib.hid (HQ1_29.out.below hb)
  have HQ2_30 := Lib.hid (HQ2_29.out.below hb)
  have HL30 := Lib.hid (Nat.lt_of_lt_of_le HL29.out hb.size)
  have HB30 := Lib.hid (bel_then HB29.out hb HB29.out.size)
  clear KS29 KW29 KG29 KQ29 HW0_29 HW1_29 HW2_29 HG0_29 HG1_29 HG2_29 HQ0_29 HQ1_29 HQ2_29 HL29 HB29 hb
  go_wp2_with fail
  refine (IntTy.eqIntS_any _ _ _ _ _ D2 HQ2_30.out.rd HW2_30.out.rd (Nat.le_refl _) (Nat.le_refl _) HD.out.2.2).mono ?_
  rintro e w28 ⟨rfl, hb⟩
  have KS31 := Lib.hid (box_below KS30.out hb)
  have KW31 := Lib.hid (box_below KW30.out hb)
  have KG31 := Lib.hid (box_below KG30.out hb)
  have KQ31 := Lib.hid (box_below KQ30.out hb)
  have HW0_31 := Lib.hid (HW0_30.out.below hb)
  have HW1_31 := Lib.hid (HW1_30.out.below hb)
  have HW2_31 := Lib.hid (HW2_30.out.below hb)
  have HG0_31 := Lib.hid (HG0_30.out.below hb)
  have HG1_31 := Lib.hid (HG1_30.out.below hb)
  have HG2_31 := Lib.hid (HG2_30.out.below hb)
  have HQ0_31 := Lib.hid (HQ0_30.out.below hb)
  have HQ1_31 := Lib.hid (HQ1_30.out.below hb)
  have HQ2_31 := Lib.hid (HQ2_30.out.below hb)
  have HL31 := Lib.hid (Nat.lt_of_lt_of_le HL30.out hb.size)
  have HB31 := Lib.hid (bel_then HB30.out hb HB30.out.size)
  clear KS30 KW30 KG30 KQ30 HW0_30 HW1_30 HW2_30 HG0_30 HG1_30 HG2_30 HQ0_30 HQ1_30 HQ2_30 HL30 HB30 hb
  go_wp2_with (refine wpList_get rfl 36 _ rfl w7.heap.size 0 rfl KG31.out (enL D0 AG nG cG) List.take_length Tryz.underlying36 rfl (by kernel_rfl) ?_)
  refine (heldEngine_any _ _ _ D0 1 HG0_31.out.rd (Nat.le_refl _) HD.out.1 (by omega) (by omega)).mono ?_
  rw [← HM.out.1]
  rintro e w29 ⟨rfl, hb⟩
  have KS32 := Lib.hid (box_below KS31.out hb)
  have KW32 := Lib.hid (box_below KW31.out hb)
  have KG32 := Lib.hid (box_below KG31.out hb)
  have KQ32 := Lib.hid (box_below KQ31.out hb)
  have HW0_32 := Lib.hid (HW0_31.out.below hb)
  have HW1_32 := Lib.hid (HW1_31.out.below hb)
  have HW2_32 := Lib.hid (HW2_31.out.below hb)
  have HG0_32 := Lib.hid (HG0_31.out.below hb)
  have HG1_32 := Lib.hid (HG1_31.out.below hb)
  have HG2_32 := Lib.hid (HG2_31.out.below hb)
  have HQ0_32 := Lib.hid (HQ0_31.out.below hb)
  have HQ1_32 := Lib.hid (HQ1_31.out.below hb)
  have HQ2_32 := Lib.hid (HQ2_31.out.below hb)
  have HL32 := Lib.hid (Nat.lt_of_lt_of_le HL31.out hb.size)
  have HB32 := Lib.hid (bel_then HB31.out hb HB31.out.size)
  clear KS31 KW31 KG31 KQ31 HW0_31 HW1_31 HW2_31 HG0_31 HG1_31 HG2_31 HQ0_31 HQ1_31 HQ2_31 HL31 HB31 hb
  go_wp2_with fail
  refine (Evs.heldEventS_any _ _ _ D1 m1 HG1_32.out.rd (Nat.le_refl _) HD.out.2.1 HMB.out.1.1 (by have := HMB.out.1.2; omega)).mono ?_
  rw [← HM.out.2.1]
  rintro e w30 ⟨rfl, hb⟩
  have KS33 := Lib.hid (box_below KS32.out hb)
  have KW33 := Lib.hid (box_below KW32.out hb)
  have KG33 := Lib.hid (box_below KG32.out hb)
  have KQ33 := Lib.hid (box_below KQ32.out hb)
  have HW0_33 := Lib.hid (HW0_32.out.below hb)
  have HW1_33 := Lib.hid (HW1_32.out.below hb)
  have HW2_33 := Lib.hid (HW2_32.out.below hb)
  have HG0_33 := Lib.hid (HG0_32.out.below hb)
  have HG1_33 := Lib.hid (HG1_32.out.below hb)
  have HG2_33 := Lib.hid (HG2_32.out.below hb)
  have HQ0_33 := Lib.hid (HQ0_32.out.below hb)
  have HQ1_33 := Lib.hid (HQ1_32.out.below hb)
  have HQ2_33 := Lib.hid (HQ2_32.out.below hb)
  have HL33 := Lib.hid (Nat.lt_of_lt_of_le HL32.out hb.size)
  have HB33 := Lib.hid (bel_then HB32.out hb HB32.out.size)
  clear KS32 KW32 KG32 KQ32 HW0_32 HW1_32 HW2_32 HG0_32 HG1_32 HG2_32 HQ0_32 HQ1_32 HQ2_32 HL32 HB32 hb
  go_wp2_with fail
  refine (IntTy.heldIntS_any _ _ _ D2 m2 HG2_33.out.rd (Nat.le_refl _) HD.out.2.2 HMB.out.2.1.1 (by have := HMB.out.2.1.2; omega)).mono ?_
  rw [← HM.out.2.2]
  rintro e w31 ⟨rfl, hb⟩
  have KS34 := Lib.hid (box_below KS33.out hb)
  have KW34 := Lib.hid (box_below KW33.out hb)
  have KG34 := Lib.hid (box_below KG33.out hb)
  have KQ34 := Lib.hid (box_below KQ33.out hb)
  have HW0_34 := Lib.hid (HW0_33.out.below hb)
  have HW1_34 := Lib.hid (HW1_33.out.below hb)
  have HW2_34 := Lib.hid (HW2_33.out.below hb)
  have HG0_34 := Lib.hid (HG0_33.out.below hb)
  have HG1_34 := Lib.hid (HG1_33.out.below hb)
  have HG2_34 := Lib.hid (HG2_33.out.below hb)
  have HQ0_34 := Lib.hid (HQ0_33.out.below hb)
  have HQ1_34 := Lib.hid (HQ1_33.out.below hb)
  have HQ2_34 := Lib.hid (HQ2_33.out.below hb)
  have HL34 := Lib.hid (Nat.lt_of_lt_of_le HL33.out hb.size)
  have HB34 := Lib.hid (bel_then HB33.out hb HB33.out.size)
  clear KS33 KW33 KG33 KQ33 HW0_33 HW1_33 HW2_33 HG0_33 HG1_33 HG2_33 HQ0_33 HQ1_33 HQ2_33 HL33 HB33 hb
  go_wp2
  go_ret
  exact ⟨rfl, HB34.out⟩
end Go.Proofs.YtklgjjmcflgjeaaGreat.LawPlayEngine
