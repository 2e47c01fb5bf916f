/-
  THE WALK of laws.FnExactOpRecord over this seat's translation: it answers true and turns nothing that was there, if the model and the program keep one contract.
-/
import Derived.Test.YtklgjjmcflgjeaaRecTy
import Derived.Test.YtklgjjmcflgjeaaOpTop
import Derived.Test.YtklgjjmcflgjeaaSeg
namespace Go.Proofs.Ytklgjjmcflgjeaa.LawOpRecord
open Go.ChangeShapes Go.WideShapes Go.ChangeAt Go.RowKit
open Go.Proofs.Ytklgjjmcflgjeaa.LK Go.Proofs.Ytklgjjmcflgjeaa.RecTy Go.Proofs.Ytklgjjmcflgjeaa.Seg
set_option linter.unusedVariables false
set_option linter.unusedSimpArgs false

theorem one2 (x : Int) (A : Option Addr) (n c : Nat) : ∀ v ∈ [Value.int .i64 x, .slice A n c], v.oneCell' = true := by simp [Value.oneCell']
set_option maxRecDepth 100000 in
set_option maxHeartbeats 6400000 in
theorem walk (x0 x1 x2 x3 : Int) (D : RD) (b : Bool) (w : World) (hD : rty.Few D) (hS : ∀ W : World, Calls Try.prog 12 #[.agg #[.int .i64 x0, .int .i64 x1, .int .i64 x2, .int .i64 x3]] W (Made1 rty D (.bool b) W)) (hI : ∀ W : World, Calls Try.prog 14 #[.agg #[.int .i64 x0, .int .i64 x1, .int .i64 x2, .int .i64 x3]] W (Made1 rty D (.bool b) W)) :
    Calls Try.prog 4 #[.agg #[.int .i64 x0, .int .i64 x1, .int .i64 x2, .int .i64 x3]] w fun e w' => e = .returned (.bool true) ∧ Below w.heap.size w w' := by
  have HS := Lib.hid hS
  have HI := Lib.hid hI
  have HD := Lib.hid hD
  clear hS hI hD
  have hbb : (b != b) = false := by simp
  obtain ⟨V, hV⟩ : ∃ V, V = w.alloc (.cells [.int .i64 x0, .int .i64 x1, .int .i64 x2, .int .i64 x3].toArray 42) := ⟨_, rfl⟩
  have HB0 : Hid (Below w.heap.size w V) := by rw [hV]; exact bel1 _ _
  have KS0 : Hid (V.heap[w.heap.size]? = some (.cells [.int .i64 x0, .int .i64 x1, .int .i64 x2, .int .i64 x3].toArray 42 (0, 0))) := by rw [hV]; exact box_new w _
  go_enter Try.func4, Try.ntmps4
  go_upto_region 1 with fail
  rw [← hV]
  clear hV
  go_wp2_with (refine wpList_get rfl 42 _ rfl w.heap.size 0 rfl KS0.out [.int .i64 x0, .int .i64 x1, .int .i64 x2, .int .i64 x3] List.take_length Try.underlying42 rfl (by kernel_rfl) ?_)
  refine (OpTop.toOp_any x0 x1 x2 x3 _).mono ?_
  rintro e wW0 ⟨rfl, hb⟩
  have KS1 := Lib.hid (box_below KS0.out hb)
  have HB1 := Lib.hid (bel_then HB0.out hb HB0.out.size)
  clear KS0 HB0 hb
  go_wp2_with fail
  refine (HS.out _).mono ?_
  rintro e wW1 ⟨vW, SW, rfl, hO, hb⟩
  obtain ⟨AW, cW, rfl, -⟩ := hO.own
  have HO := Lib.hid hO
  clear hO
  have KS2 := Lib.hid (box_below KS1.out hb)
  have HB2 := Lib.hid (bel_then HB1.out hb HB1.out.size)
  clear KS1 HB1 hb
  have INW : Hid (∀ k, SW k → wW0.heap.size ≤ k ∧ k < wW1.heap.size) := fun k hk => HO.out.inn k hk
  have hlW : w.heap.size < wW1.heap.size := box_lt KS2.out
  have KZ : Hid ((wW1.alloc (.cells [.int .i64 0, .slice none 0 0].toArray 45)).heap[wW1.heap.size]? = some (.cells [.int .i64 0, .slice none 0 0].toArray 45 (0, 0))) := box_new wW1 _
  go_upto_region 2 with (refine wpList_put rfl rfl 45 _ _ rfl wW1.heap.size 0 [.int .i64 D.1, .slice AW D.2.length cW] rfl rfl KZ.out (by kernel_rfl) [.int .i64 D.1, .slice AW D.2.length cW] rfl (Nat.le_of_ble_eq_true rfl) (one2 _ _ _ _) ?_)
  obtain ⟨VW, hV⟩ : ∃ V, V = (wW1.alloc (.cells #[.int .i64 0, .slice none 0 0] 45)).setRow wW1.heap.size [.int .i64 D.1, .slice AW D.2.length cW].toArray := ⟨_, rfl⟩
  have hbv : Below wW1.heap.size wW1 VW := by rw [hV]; exact row_below (bel1 _ _) _ _ (Nat.le_refl _) (by simp)
  have KW3 : Hid (VW.heap[wW1.heap.size]? = some (.cells [.int .i64 D.1, .slice AW D.2.length cW].toArray 45 (0, 0))) := by rw [hV]; exact row_box KZ.out
  have HW3 := Lib.hid (HO.out.below hbv)
  have hzW : wW1.heap.size < VW.heap.size := box_lt KW3.out
  rw [← hV]
  clear hV KZ HO
  have KS3 := Lib.hid (box_below KS2.out hbv)
  have HB3 := Lib.hid (bel_then HB2.out hbv HB2.out.size)
  clear KS2 HB2 hbv
  go_wp2_with (refine wpList_get rfl 42 _ rfl w.heap.size 0 rfl KS3.out [.int .i64 x0, .int .i64 x1, .int .i64 x2, .int .i64 x3] List.take_length Try.underlying42 rfl (by kernel_rfl) ?_)
  refine (OpTop.toOp_any x0 x1 x2 x3 _).mono ?_
  rintro e wG0 ⟨rfl, hb⟩
  have KS4 := Lib.hid (box_below KS3.out hb)
  have KW4 := Lib.hid (box_below KW3.out hb)
  have HW4 := Lib.hid (HW3.out.below hb)
  have HB4 := Lib.hid (bel_then HB3.out hb HB3.out.size)
  clear KS3 KW3 HW3 HB3 hb
  go_wp2_with fail
  have hbWG : Hid (wW1.heap.size < wG0.heap.size ∧ w.heap.size < wG0.heap.size) := ⟨box_lt KW4.out, box_lt KS4.out⟩
  refine (HI.out _).mono ?_
  rintro e wG1 ⟨vG, SG, rfl, hO, hb⟩
  obtain ⟨AG, cG, rfl, -⟩ := hO.own
  have HO := Lib.hid hO
  clear hO
  have KS5 := Lib.hid (box_below KS4.out hb)
  have KW5 := Lib.hid (box_below KW4.out hb)
  have HW5 := Lib.hid (HW4.out.below hb)
  have HB5 := Lib.hid (bel_then HB4.out hb HB4.out.size)
  clear KS4 KW4 HW4 HB4 hb
  have ING : Hid (∀ k, SG k → wG0.heap.size ≤ k ∧ k < wG1.heap.size) := fun k hk => HO.out.inn k hk
  have hlG : w.heap.size < wG1.heap.size := box_lt KS5.out
  have KZ : Hid ((wG1.alloc (.cells [.int .i64 0, .slice none 0 0].toArray 45)).heap[wG1.heap.size]? = some (.cells [.int .i64 0, .slice none 0 0].toArray 45 (0, 0))) := box_new wG1 _
  go_upto_region 3 with (refine wpList_put rfl rfl 45 _ _ rfl wG1.heap.size 0 [.int .i64 D.1, .slice AG D.2.length cG] rfl rfl KZ.out (by kernel_rfl) [.int .i64 D.1, .slice AG D.2.length cG] rfl (Nat.le_of_ble_eq_true rfl) (one2 _ _ _ _) ?_)
  obtain ⟨VG, hV⟩ : ∃ V, V = (wG1.alloc (.cells #[.int .i64 0, .slice none 0 0] 45)).setRow wG1.heap.size [.int .i64 D.1, .slice AG D.2.length cG].toArray := ⟨_, rfl⟩
  have hbv : Below wG1.heap.size wG1 VG := by rw [hV]; exact row_below (bel1 _ _) _ _ (Nat.le_refl _) (by simp)
  have KG6 : Hid (VG.heap[wG1.heap.size]? = some (.cells [.int .i64 D.1, .slice AG D.2.length cG].toArray 45 (0, 0))) := by rw [hV]; exact row_box KZ.out
  have HG6 := Lib.hid (HO.out.below hbv)
  have hzG : wG1.heap.size < VG.heap.size := box_lt KG6.out
  rw [← hV]
  clear hV KZ HO
  have KS6 := Lib.hid (box_below KS5.out hbv)
  have KW6 := Lib.hid (box_below KW5.out hbv)
  have HW6 := Lib.hid (HW5.out.below hbv)
  have HB6 := Lib.hid (bel_then HB5.out hbv HB5.out.size)
  clear KS5 KW5 HW5 HB5 hbv
  go_wp2_with (first | (refine wpList_get rfl 45 _ rfl wG1.heap.size 0 rfl KG6.out [.int .i64 D.1, .slice AG D.2.length cG] List.take_length Try.underlying45 rfl (by kernel_rfl) ?_) | (refine wpList_get rfl 45 _ rfl wW1.heap.size 0 rfl KW6.out [.int .i64 D.1, .slice AW D.2.length cW] List.take_length Try.underlying45 rfl (by kernel_rfl) ?_))
  refine (eqRecord_any _ _ _ _ _ D HG6.out.rd HW6.out.rd (Nat.le_refl _) (Nat.le_refl _) HD.out).mono ?_
  rintro e w3 ⟨rfl, hb⟩
  have KS7 := Lib.hid (box_below KS6.out hb)
  have KW7 := Lib.hid (box_below KW6.out hb)
  have KG7 := Lib.hid (box_below KG6.out hb)
  have HW7 := Lib.hid (HW6.out.below hb)
  have HG7 := Lib.hid (HG6.out.below hb)
  have HB7 := Lib.hid (bel_then HB6.out hb HB6.out.size)
  clear KS6 KW6 KG6 HW6 HG6 HB6 hb
  go_wp2_with (refine wpList_get rfl 45 _ rfl wG1.heap.size 0 rfl KG7.out [.int .i64 D.1, .slice AG D.2.length cG] List.take_length Try.underlying45 rfl (by kernel_rfl) ?_)
  refine (markRecord_any _ _ _ _ _ D 1 HG7.out HD.out (by omega) (by omega)).mono ?_
  obtain ⟨m, hm⟩ : ∃ m : Int, m = 1 + (rty.cnt D : Int) := ⟨_, rfl⟩
  rw [← hm]
  have HM := Lib.hid hm
  have hmb : 0 ≤ m ∧ m ≤ 20000001 := by have := rty.few_cnt HD.out; omega
  have hmm : (m != m) = false := by simp
  have hm0 : decide (m < 0) = false := by simp; omega
  clear hm
  rintro e w4 ⟨rfl, hO, ht⟩
  have HG8 := Lib.hid hO
  have KS8 := Lib.hid (box_turned KS7.out ht (fun h => by have := ING.out _ h; have := hbWG.out; omega))
  have KW8 := Lib.hid (box_turned KW7.out ht (fun h => by have := ING.out _ h; have := hbWG.out; omega))
  have KG8 := Lib.hid (box_turned KG7.out ht (fun h => by have := ING.out _ h; omega))
  have HW8 := Lib.hid (HW7.out.turned ht (fun q hq h => by have := ING.out _ h; have := INW.out _ hq; have := hbWG.out; omega))
  have HB8 := Lib.hid (Turned.low HB7.out ht (fun q h => by have := ING.out _ h; have := hbWG.out; omega) HB7.out.size)
  clear hO ht KS7 KW7 KG7 HW7 HG7 HB7
  go_wp2_with (refine wpList_get rfl 45 _ rfl wG1.heap.size 0 rfl KG8.out [.int .i64 D.1, .slice AG D.2.length cG] List.take_length Try.underlying45 rfl (by kernel_rfl) ?_)
  refine (heldRecord_any _ _ _ D 1 HG8.out.rd (Nat.le_refl _) HD.out (by omega) (by omega)).mono ?_
  rw [← HM.out]
  rintro e w5 ⟨rfl, hb⟩
  have KS9 := Lib.hid (box_below KS8.out hb)
  have KW9 := Lib.hid (box_below KW8.out hb)
  have KG9 := Lib.hid (box_below KG8.out hb)
  have HW9 := Lib.hid (HW8.out.below hb)
  have HG9 := Lib.hid (HG8.out.below hb)
  have HB9 := Lib.hid (bel_then HB8.out hb HB8.out.size)
  clear KS8 KW8 KG8 HW8 HG8 HB8 hb
  go_wp2_with (refine wpList_get rfl 42 _ rfl w.heap.size 0 rfl KS9.out [.int .i64 x0, .int .i64 x1, .int .i64 x2, .int .i64 x3] List.take_length Try.underlying42 rfl (by kernel_rfl) ?_)
  refine (OpTop.toOp_any x0 x1 x2 x3 _).mono ?_
  rintro e wQ0 ⟨rfl, hb⟩
  have KS10 := Lib.hid (box_below KS9.out hb)
  have KW10 := Lib.hid (box_below KW9.out hb)
  have KG10 := Lib.hid (box_below KG9.out hb)
  have HW10 := Lib.hid (HW9.out.below hb)
  have HG10 := Lib.hid (HG9.out.below hb)
  have HB10 := Lib.hid (bel_then HB9.out hb HB9.out.size)
  clear KS9 KW9 KG9 HW9 HG9 HB9 hb
  go_wp2_with fail
  refine (HI.out _).mono ?_
  rintro e wQ1 ⟨vQ, SQ, rfl, hO, hb⟩
  obtain ⟨AQ, cQ, rfl, -⟩ := hO.own
  have HO := Lib.hid hO
  clear hO
  have KS11 := Lib.hid (box_below KS10.out hb)
  have KW11 := Lib.hid (box_below KW10.out hb)
  have KG11 := Lib.hid (box_below KG10.out hb)
  have HW11 := Lib.hid (HW10.out.below hb)
  have HG11 := Lib.hid (HG10.out.below hb)
  have HB11 := Lib.hid (bel_then HB10.out hb HB10.out.size)
  clear KS10 KW10 KG10 HW10 HG10 HB10 hb
  have INQ : Hid (∀ k, SQ k → wQ0.heap.size ≤ k ∧ k < wQ1.heap.size) := fun k hk => HO.out.inn k hk
  have hlQ : w.heap.size < wQ1.heap.size := box_lt KS11.out
  have KZ : Hid ((wQ1.alloc (.cells [.int .i64 0, .slice none 0 0].toArray 45)).heap[wQ1.heap.size]? = some (.cells [.int .i64 0, .slice none 0 0].toArray 45 (0, 0))) := box_new wQ1 _
  go_upto_region 14 with (refine wpList_put rfl rfl 45 _ _ rfl wQ1.heap.size 0 [.int .i64 D.1, .slice AQ D.2.length cQ] rfl rfl KZ.out (by kernel_rfl) [.int .i64 D.1, .slice AQ D.2.length cQ] rfl (Nat.le_of_ble_eq_true rfl) (one2 _ _ _ _) ?_)
  obtain ⟨VQ, hV⟩ : ∃ V, V = (wQ1.alloc (.cells #[.int .i64 0, .slice none 0 0] 45)).setRow wQ1.heap.size [.int .i64 D.1, .slice AQ D.2.length cQ].toArray := ⟨_, rfl⟩
  have hbv : Below wQ1.heap.size wQ1 VQ := by rw [hV]; exact row_below (bel1 _ _) _ _ (Nat.le_refl _) (by simp)
  have KQ12 : Hid (VQ.heap[wQ1.heap.size]? = some (.cells [.int .i64 D.1, .slice AQ D.2.length cQ].toArray 45 (0, 0))) := by rw [hV]; exact row_box KZ.out
  have HQ12 := Lib.hid (HO.out.below hbv)
  have hzQ : wQ1.heap.size < VQ.heap.size := box_lt KQ12.out
  rw [← hV]
  clear hV KZ HO
  have KS12 := Lib.hid (box_below KS11.out hbv)
  have KW12 := Lib.hid (box_below KW11.out hbv)
  have KG12 := Lib.hid (box_below KG11.out hbv)
  have HW12 := Lib.hid (HW11.out.below hbv)
  have HG12 := Lib.hid (HG11.out.below hbv)
  have HB12 := Lib.hid (bel_then HB11.out hbv HB11.out.size)
  clear KS11 KW11 KG11 HW11 HG11 HB11 hbv
  go_wp2_with (first | (refine wpList_get rfl 45 _ rfl wQ1.heap.size 0 rfl KQ12.out [.int .i64 D.1, .slice AQ D.2.length cQ] List.take_length Try.underlying45 rfl (by kernel_rfl) ?_) | (refine wpList_get rfl 45 _ rfl wW1.heap.size 0 rfl KW12.out [.int .i64 D.1, .slice AW D.2.length cW] List.take_length Try.underlying45 rfl (by kernel_rfl) ?_))
  refine (eqRecord_any _ _ _ _ _ D HQ12.out.rd HW12.out.rd (Nat.le_refl _) (Nat.le_refl _) HD.out).mono ?_
  rintro e w6 ⟨rfl, hb⟩
  have KS13 := Lib.hid (box_below KS12.out hb)
  have KW13 := Lib.hid (box_below KW12.out hb)
  have KG13 := Lib.hid (box_below KG12.out hb)
  have KQ13 := Lib.hid (box_below KQ12.out hb)
  have HW13 := Lib.hid (HW12.out.below hb)
  have HG13 := Lib.hid (HG12.out.below hb)
  have HQ13 := Lib.hid (HQ12.out.below hb)
  have HB13 := Lib.hid (bel_then HB12.out hb HB12.out.size)
  clear KS12 KW12 KG12 KQ12 HW12 HG12 HQ12 HB12 hb
  go_wp2_with (refine wpList_get rfl 45 _ rfl wG1.heap.size 0 rfl KG13.out [.int .i64 D.1, .slice AG D.2.length cG] List.take_length Try.underlying45 rfl (by kernel_rfl) ?_)
  refine (heldRecord_any _ _ _ D 1 HG13.out.rd (Nat.le_refl _) HD.out (by omega) (by omega)).mono ?_
  rw [← HM.out]
  rintro e w7 ⟨rfl, hb⟩
  have KS14 := Lib.hid (box_below KS13.out hb)
  have KW14 := Lib.hid (box_below KW13.out hb)
  have KG14 := Lib.hid (box_below KG13.out hb)
  have KQ14 := Lib.hid (box_below KQ13.out hb)
  have HW14 := Lib.hid (HW13.out.below hb)
  have HG14 := Lib.hid (HG13.out.below hb)
  have HQ14 := Lib.hid (HQ13.out.below hb)
  have HB14 := Lib.hid (bel_then HB13.out hb HB13.out.size)
  clear KS13 KW13 KG13 KQ13 HW13 HG13 HQ13 HB13 hb
  go_wp2
  go_ret
  exact ⟨rfl, HB14.out⟩
end Go.Proofs.Ytklgjjmcflgjeaa.LawOpRecord
