/-
  THE WALK of laws.FnExactRecordOp over this seat's translation: it answers true and turns nothing that was there, if the model and the program keep one contract.
-/
import Derived.Test.YtklgjjmcflgjeaaOpTop
import Derived.Test.YtklgjjmcflgjeaaRecTy
namespace Go.Proofs.Ytklgjjmcflgjeaa.LawRecordOp
open Go.ChangeShapes Go.WideShapes Go.ChangeAt Go.RowKit
open Go.Proofs.Ytklgjjmcflgjeaa.LK
set_option linter.unusedVariables false

set_option maxRecDepth 100000 in
set_option maxHeartbeats 12800000 in
theorem walk (a0_0 : Int) (a0_1A : Option Addr) (a0_1n a0_1c : Nat) (d0 : RecTy.rty.D) (r0_0 r0_1 r0_2 r0_3 : Int) (r1 : Bool) (w : World) (hr0 : RecTy.rty.Rd w w.heap.size (.agg #[.int .i64 a0_0, .slice a0_1A a0_1n a0_1c]) d0) (hz0 : SzC 18 RecTy.rty (.agg #[.int .i64 a0_0, .slice a0_1A a0_1n a0_1c]) d0 w) (hS : RecTy.rty.Few d0 → ∀ (W : World) (B0 : Nat) (v0 : Value), RecTy.rty.Rd W B0 v0 d0 → B0 ≤ W.heap.size → Calls Try.prog 19 #[v0] W (Says (.tuple #[.agg #[.int .i64 r0_0, .int .i64 r0_1, .int .i64 r0_2, .int .i64 r0_3], .bool r1]) W)) (hI : RecTy.rty.Few d0 → ∀ (W : World) (B0 : Nat) (v0 : Value), RecTy.rty.Rd W B0 v0 d0 → B0 ≤ W.heap.size → Calls Try.prog 21 #[v0] W (Says (.tuple #[.agg #[.int .i64 r0_0, .int .i64 r0_1, .int .i64 r0_2, .int .i64 r0_3], .bool r1]) W)) :
    Calls Try.prog 5 #[.agg #[.int .i64 a0_0, .slice a0_1A a0_1n a0_1c]] w fun e w' => e = .returned (.bool true) ∧ Below w.heap.size w w' := by
  have HR0 := Lib.hid hr0
  have HZ0 := Lib.hid hz0
  clear hr0 hz0
  have HS := Lib.hid hS
  have HI := Lib.hid hI
  clear hS hI
  have hbb1 : (r1 != r1) = false := by simp
  have hb0 : Below w.heap.size w (w.alloc (.cells #[.int .i64 a0_0, .slice a0_1A a0_1n a0_1c] 53)) := bel1 _ _
  have BA0 : Hid ((w.alloc (.cells #[.int .i64 a0_0, .slice a0_1A a0_1n a0_1c] 53)).heap[w.heap.size]? = some (.cells #[.int .i64 a0_0, .slice a0_1A a0_1n a0_1c] 53)) := box_new w (.cells #[.int .i64 a0_0, .slice a0_1A a0_1n a0_1c] 53)
  have cBA0_0 : (w.alloc (.cells #[.int .i64 a0_0, .slice a0_1A a0_1n a0_1c] 53)).cell? ⟨w.heap.size, 0, none⟩ = some (.int .i64 a0_0) := box_cell BA0.out 0 _ rfl
  have cBA0_1 : (w.alloc (.cells #[.int .i64 a0_0, .slice a0_1A a0_1n a0_1c] 53)).cell? ⟨w.heap.size, 1, none⟩ = some (.slice a0_1A a0_1n a0_1c) := box_cell BA0.out 1 _ rfl
  go_enter Try.func5, Try.ntmps5
  go_wp2_with fail
  refine (HZ0.out _ 1048576 hb0 (by omega) (by omega)).mono ?_
  rintro e w1 ⟨z0, rfl, hbs, hz0⟩
  clear cBA0_0 cBA0_1
  have BA0' := Lib.hid (box_below BA0.out hbs)
  have hbn1 : Below w.heap.size w w1 := bel_then hb0 hbs hb0.size
  have hsn1 := hbs.size
  simp only [World.size_alloc] at hsn1
  clear BA0
  have BA0 := BA0'
  clear BA0'
  clear hbs
  rcases hz0 with rfl | ⟨hz0a, hz0b, hf0⟩
  · go_wp2
    go_ret
    exact ⟨rfl, hbn1⟩
  have HF0 := Lib.hid hf0
  clear hf0
  have hzd0 : decide (z0 < 0) = false := by simp; omega
  have cBA0_0 : w1.cell? ⟨w.heap.size, 0, none⟩ = some (.int .i64 a0_0) := box_cell BA0.out 0 _ rfl
  have cBA0_1 : w1.cell? ⟨w.heap.size, 1, none⟩ = some (.slice a0_1A a0_1n a0_1c) := box_cell BA0.out 1 _ rfl
  have HS2 := Lib.hid (HS.out HF0.out)
  have HI2 := Lib.hid (HI.out HF0.out)
  clear HS HI
  have HTO0 : Hid (ToC 20 RecTy.rty) := RecTy.toRecord_any
  have HEQ0 : Hid (EqC 15 RecTy.rty) := RecTy.eqRecord_any
  go_wp2_with fail
  refine (HTO0.out _ w.heap.size _ d0 (RecTy.rty.rd_below HR0.out hbn1 (Nat.le_refl _)) hbn1.size HF0.out).mono ?_
  rintro e w2 ⟨y0, Sy0, rfl, hO, hbs⟩
  clear cBA0_0 cBA0_1
  have BA0' := Lib.hid (box_below BA0.out hbs)
  have hbn2 : Below w.heap.size w w2 := bel_then hbn1 hbs hbn1.size
  have hsn2 := hbs.size
  clear BA0
  have BA0 := BA0'
  clear BA0'
  clear hbs
  have Oy0 := Lib.hid hO
  clear hO
  have INOy0 : Hid (∀ k, Sy0 k → w1.heap.size ≤ k ∧ k < w2.heap.size) := fun k hk => by have h := Oy0.out.inn k hk; first | exact h | (simp only [World.size_alloc] at h; exact h)
  go_wp2_with fail
  refine (HS2.out _ _ _ Oy0.out.rd (Nat.le_refl _)).mono ?_
  rintro e w3 ⟨rfl, hbs⟩
  have BA0' := Lib.hid (box_below BA0.out hbs)
  have Oy0' := Lib.hid (Oy0.out.below hbs)
  have hbn3 : Below w.heap.size w w3 := bel_then hbn2 hbs hbn2.size
  have hsn3 := hbs.size
  clear BA0
  clear Oy0
  have BA0 := BA0'
  clear BA0'
  have Oy0 := Oy0'
  clear Oy0'
  clear hbs
  have BA0' := Lib.hid (box_alloc BA0.out (.cells #[.int .i64 r0_0, .int .i64 r0_1, .int .i64 r0_2, .int .i64 r0_3] 48))
  have Oy0' := Lib.hid (Oy0.out.alloc (.cells #[.int .i64 r0_0, .int .i64 r0_1, .int .i64 r0_2, .int .i64 r0_3] 48))
  have hbn4 : Below w.heap.size w (w3.alloc (.cells #[.int .i64 r0_0, .int .i64 r0_1, .int .i64 r0_2, .int .i64 r0_3] 48)) := hbn3.alloc hbn3.size _
  clear BA0
  clear Oy0
  have BA0 := BA0'
  clear BA0'
  have Oy0 := Oy0'
  clear Oy0'
  have Bq : Hid ((w3.alloc (.cells #[.int .i64 r0_0, .int .i64 r0_1, .int .i64 r0_2, .int .i64 r0_3] 48)).heap[w3.heap.size]? = some (.cells #[.int .i64 r0_0, .int .i64 r0_1, .int .i64 r0_2, .int .i64 r0_3] 48)) := box_new w3 (.cells #[.int .i64 r0_0, .int .i64 r0_1, .int .i64 r0_2, .int .i64 r0_3] 48)
  clear Oy0
  have cBA0_0 : (w3.alloc (.cells #[.int .i64 r0_0, .int .i64 r0_1, .int .i64 r0_2, .int .i64 r0_3] 48)).cell? ⟨w.heap.size, 0, none⟩ = some (.int .i64 a0_0) := box_cell BA0.out 0 _ rfl
  have cBA0_1 : (w3.alloc (.cells #[.int .i64 r0_0, .int .i64 r0_1, .int .i64 r0_2, .int .i64 r0_3] 48)).cell? ⟨w.heap.size, 1, none⟩ = some (.slice a0_1A a0_1n a0_1c) := box_cell BA0.out 1 _ rfl
  go_wp2_with fail
  refine (HTO0.out _ w.heap.size _ d0 (RecTy.rty.rd_below HR0.out hbn4 (Nat.le_refl _)) hbn4.size HF0.out).mono ?_
  rintro e w4 ⟨x0, Sx0, rfl, hO, hbs⟩
  clear cBA0_0 cBA0_1
  have BA0' := Lib.hid (box_below BA0.out hbs)
  have Bq' := Lib.hid (box_below Bq.out hbs)
  have hbn5 : Below w.heap.size w w4 := bel_then hbn4 hbs hbn4.size
  have hsn5 := hbs.size
  simp only [World.size_alloc] at hsn5
  clear BA0
  clear Bq
  have BA0 := BA0'
  clear BA0'
  have Bq := Bq'
  clear Bq'
  clear hbs
  have Ox0 := Lib.hid hO
  have INOx0 : Hid (∀ k, Sx0 k → w3.heap.size + 1 ≤ k ∧ k < w4.heap.size) := fun k hk => by have h := Ox0.out.inn k hk; first | exact h | (simp only [World.size_alloc] at h; exact h)
  obtain ⟨x0_0, x0_1A, x0_1n, x0_1c, rfl⟩ := RecTy.shape hO
  clear hO
  have BA0' := Lib.hid (box_alloc BA0.out (.cells #[.int .i64 x0_0, .slice x0_1A x0_1n x0_1c] 45))
  have Bq' := Lib.hid (box_alloc Bq.out (.cells #[.int .i64 x0_0, .slice x0_1A x0_1n x0_1c] 45))
  have Ox0' := Lib.hid (Ox0.out.alloc (.cells #[.int .i64 x0_0, .slice x0_1A x0_1n x0_1c] 45))
  have hbn6 : Below w.heap.size w (w4.alloc (.cells #[.int .i64 x0_0, .slice x0_1A x0_1n x0_1c] 45)) := hbn5.alloc hbn5.size _
  clear BA0
  clear Bq
  clear Ox0
  have BA0 := BA0'
  clear BA0'
  have Bq := Bq'
  clear Bq'
  have Ox0 := Ox0'
  clear Ox0'
  have Bx0 : Hid ((w4.alloc (.cells #[.int .i64 x0_0, .slice x0_1A x0_1n x0_1c] 45)).heap[w4.heap.size]? = some (.cells #[.int .i64 x0_0, .slice x0_1A x0_1n x0_1c] 45)) := box_new w4 (.cells #[.int .i64 x0_0, .slice x0_1A x0_1n x0_1c] 45)
  have cBx0_0 : (w4.alloc (.cells #[.int .i64 x0_0, .slice x0_1A x0_1n x0_1c] 45)).cell? ⟨w4.heap.size, 0, none⟩ = some (.int .i64 x0_0) := box_cell Bx0.out 0 _ rfl
  have cBx0_1 : (w4.alloc (.cells #[.int .i64 x0_0, .slice x0_1A x0_1n x0_1c] 45)).cell? ⟨w4.heap.size, 1, none⟩ = some (.slice x0_1A x0_1n x0_1c) := box_cell Bx0.out 1 _ rfl
  go_wp2_with fail
  refine (HI2.out _ _ _ Ox0.out.rd (Nat.le_refl _)).mono ?_
  rintro e w5 ⟨rfl, hbs⟩
  clear cBx0_0 cBx0_1
  have BA0' := Lib.hid (box_below BA0.out hbs)
  have Bq' := Lib.hid (box_below Bq.out hbs)
  have Ox0' := Lib.hid (Ox0.out.below hbs)
  have Bx0' := Lib.hid (box_below Bx0.out hbs)
  have hbn7 : Below w.heap.size w w5 := bel_then hbn6 hbs hbn6.size
  have hsn7 := hbs.size
  simp only [World.size_alloc] at hsn7
  clear BA0
  clear Bq
  clear Ox0
  clear Bx0
  have BA0 := BA0'
  clear BA0'
  have Bq := Bq'
  clear Bq'
  have Ox0 := Ox0'
  clear Ox0'
  have Bx0 := Bx0'
  clear Bx0'
  clear hbs
  have BA0' := Lib.hid (box_alloc BA0.out (.cells #[.int .i64 r0_0, .int .i64 r0_1, .int .i64 r0_2, .int .i64 r0_3] 48))
  have Bq' := Lib.hid (box_alloc Bq.out (.cells #[.int .i64 r0_0, .int .i64 r0_1, .int .i64 r0_2, .int .i64 r0_3] 48))
  have Ox0' := Lib.hid (Ox0.out.alloc (.cells #[.int .i64 r0_0, .int .i64 r0_1, .int .i64 r0_2, .int .i64 r0_3] 48))
  have Bx0' := Lib.hid (box_alloc Bx0.out (.cells #[.int .i64 r0_0, .int .i64 r0_1, .int .i64 r0_2, .int .i64 r0_3] 48))
  have hbn8 : Below w.heap.size w (w5.alloc (.cells #[.int .i64 r0_0, .int .i64 r0_1, .int .i64 r0_2, .int .i64 r0_3] 48)) := hbn7.alloc hbn7.size _
  clear BA0
  clear Bq
  clear Ox0
  clear Bx0
  have BA0 := BA0'
  clear BA0'
  have Bq := Bq'
  clear Bq'
  have Ox0 := Ox0'
  clear Ox0'
  have Bx0 := Bx0'
  clear Bx0'
  have Bg : Hid ((w5.alloc (.cells #[.int .i64 r0_0, .int .i64 r0_1, .int .i64 r0_2, .int .i64 r0_3] 48)).heap[w5.heap.size]? = some (.cells #[.int .i64 r0_0, .int .i64 r0_1, .int .i64 r0_2, .int .i64 r0_3] 48)) := box_new w5 (.cells #[.int .i64 r0_0, .int .i64 r0_1, .int .i64 r0_2, .int .i64 r0_3] 48)
  have cBg_0 : (w5.alloc (.cells #[.int .i64 r0_0, .int .i64 r0_1, .int .i64 r0_2, .int .i64 r0_3] 48)).cell? ⟨w5.heap.size, 0, none⟩ = some (.int .i64 r0_0) := box_cell Bg.out 0 _ rfl
  have cBg_1 : (w5.alloc (.cells #[.int .i64 r0_0, .int .i64 r0_1, .int .i64 r0_2, .int .i64 r0_3] 48)).cell? ⟨w5.heap.size, 1, none⟩ = some (.int .i64 r0_1) := box_cell Bg.out 1 _ rfl
  have cBg_2 : (w5.alloc (.cells #[.int .i64 r0_0, .int .i64 r0_1, .int .i64 r0_2, .int .i64 r0_3] 48)).cell? ⟨w5.heap.size, 2, none⟩ = some (.int .i64 r0_2) := box_cell Bg.out 2 _ rfl
  have cBg_3 : (w5.alloc (.cells #[.int .i64 r0_0, .int .i64 r0_1, .int .i64 r0_2, .int .i64 r0_3] 48)).cell? ⟨w5.heap.size, 3, none⟩ = some (.int .i64 r0_3) := box_cell Bg.out 3 _ rfl
  have cBq_0 : (w5.alloc (.cells #[.int .i64 r0_0, .int .i64 r0_1, .int .i64 r0_2, .int .i64 r0_3] 48)).cell? ⟨w3.heap.size, 0, none⟩ = some (.int .i64 r0_0) := box_cell Bq.out 0 _ rfl
  have cBq_1 : (w5.alloc (.cells #[.int .i64 r0_0, .int .i64 r0_1, .int .i64 r0_2, .int .i64 r0_3] 48)).cell? ⟨w3.heap.size, 1, none⟩ = some (.int .i64 r0_1) := box_cell Bq.out 1 _ rfl
  have cBq_2 : (w5.alloc (.cells #[.int .i64 r0_0, .int .i64 r0_1, .int .i64 r0_2, .int .i64 r0_3] 48)).cell? ⟨w3.heap.size, 2, none⟩ = some (.int .i64 r0_2) := box_cell Bq.out 2 _ rfl
  have cBq_3 : (w5.alloc (.cells #[.int .i64 r0_0, .int .i64 r0_1, .int .i64 r0_2, .int .i64 r0_3] 48)).cell? ⟨w3.heap.size, 3, none⟩ = some (.int .i64 r0_3) := box_cell Bq.out 3 _ rfl
  go_wp2_with fail
  refine (OpTop.eqOp_same _ _ _ _ _).mono ?_
  rintro e w6 ⟨rfl, hbs⟩
  clear cBg_0 cBg_1 cBg_2 cBg_3 cBq_0 cBq_1 cBq_2 cBq_3
  have BA0' := Lib.hid (box_below BA0.out hbs)
  have Bq' := Lib.hid (box_below Bq.out hbs)
  have Ox0' := Lib.hid (Ox0.out.below hbs)
  have Bx0' := Lib.hid (box_below Bx0.out hbs)
  have Bg' := Lib.hid (box_below Bg.out hbs)
  have hbn9 : Below w.heap.size w w6 := bel_then hbn8 hbs hbn8.size
  have hsn9 := hbs.size
  simp only [World.size_alloc] at hsn9
  clear BA0
  clear Bq
  clear Ox0
  clear Bx0
  clear Bg
  have BA0 := BA0'
  clear BA0'
  have Bq := Bq'
  clear Bq'
  have Ox0 := Ox0'
  clear Ox0'
  have Bx0 := Bx0'
  clear Bx0'
  have Bg := Bg'
  clear Bg'
  clear hbs
  have cBA0_0 : w6.cell? ⟨w.heap.size, 0, none⟩ = some (.int .i64 a0_0) := box_cell BA0.out 0 _ rfl
  have cBA0_1 : w6.cell? ⟨w.heap.size, 1, none⟩ = some (.slice a0_1A a0_1n a0_1c) := box_cell BA0.out 1 _ rfl
  have cBx0_0 : w6.cell? ⟨w4.heap.size, 0, none⟩ = some (.int .i64 x0_0) := box_cell Bx0.out 0 _ rfl
  have cBx0_1 : w6.cell? ⟨w4.heap.size, 1, none⟩ = some (.slice x0_1A x0_1n x0_1c) := box_cell Bx0.out 1 _ rfl
  go_wp2_with fail
  go_region_held3 (fun w' => w'.cell? ⟨w.heap.size, 0, none⟩ = some (.int .i64 a0_0) ∧ w'.cell? ⟨w.heap.size, 1, none⟩ = some (.slice a0_1A a0_1n a0_1c) ∧ w'.cell? ⟨w4.heap.size, 0, none⟩ = some (.int .i64 x0_0) ∧ w'.cell? ⟨w4.heap.size, 1, none⟩ = some (.slice x0_1A x0_1n x0_1c))
    (first | go_keep | (refine ⟨cell_keep hb7 ?_, cell_keep hb7 ?_, cell_keep hb7 ?_, cell_keep hb7 ?_⟩ <;> simp only [*]) | (refine ⟨cell_keep hb8 ?_, cell_keep hb8 ?_, cell_keep hb8 ?_, cell_keep hb8 ?_⟩ <;> simp only [*]))
    (first | (go_at_call 20; refine (HTO0.out _ w.heap.size _ d0 (by exact RecTy.rty.rd_below HR0.out hbn9.drew (Nat.le_refl _)) (by exact hbn9.size) HF0.out).mono ?_; rintro e w7 ⟨t0, St0, rfl, hO7, hb7⟩; have hb7' : Below w6.heap.size w6 w7 := undrew hb7; have HO7 := Lib.hid hO7; clear hO7) | (go_at_call 15; refine (HEQ0.out _ _ _ _ _ d0 (by exact (Ox0.out.below hb7').rd) (by exact HO7.out.rd) (by exact Nat.le_refl _) (by exact Nat.le_refl _) HF0.out).mono ?_; rintro e w8 ⟨rfl, hb8⟩))
  have hbs : Below w6.heap.size w6 w8 := bel_then hb7' hb8 hb7'.size
  clear hb7 hb7' hb8 HO7
  clear cBA0_0 cBA0_1 cBx0_0 cBx0_1
  have BA0' := Lib.hid (box_below BA0.out hbs)
  have Bq' := Lib.hid (box_below Bq.out hbs)
  have Ox0' := Lib.hid (Ox0.out.below hbs)
  have Bx0' := Lib.hid (box_below Bx0.out hbs)
  have Bg' := Lib.hid (box_below Bg.out hbs)
  have hbn10 : Below w.heap.size w w8 := bel_then hbn9 hbs hbn9.size
  have hsn10 := hbs.size
  clear BA0
  clear Bq
  clear Ox0
  clear Bx0
  clear Bg
  have BA0 := BA0'
  clear BA0'
  have Bq := Bq'
  clear Bq'
  have Ox0 := Ox0'
  clear Ox0'
  have Bx0 := Bx0'
  clear Bx0'
  have Bg := Bg'
  clear Bg'
  clear hbs
  go_wp2
  go_ret
  exact ⟨rfl, hbn10⟩
end Go.Proofs.Ytklgjjmcflgjeaa.LawRecordOp
