/-
  THE WALK of laws.FnExactBaked over this seat's translation: it answers true and turns nothing that was there, if the model and the program keep one contract.
-/
import Derived.Test.YtmmdpljimjfkdaaFleetTy
import Derived.Test.YtmmdpljimjfkdaaSp
namespace Go.Proofs.Ytmmdpljimjfkdaa.LawBaked
open Go.ChangeShapes Go.WideShapes Go.ChangeAt Go.RowKit
open Go.Proofs.Ytmmdpljimjfkdaa.LK
set_option linter.unusedVariables false

set_option maxRecDepth 100000 in
set_option maxHeartbeats 12800000 in
theorem walk (a0_0 a0_1 a0_2 a0_3 a0_4 a0_5 a0_6 a0_7 a0_8 a0_9 a0_10 : Int) (a1_0A : Option Addr) (a1_0n a1_0c : Nat) (a1_1 : Int) (d1 : FleetTy.fty.D) (a2 : Int) (a3 : Int) (r0 : Bool) (w : World) (hr1 : FleetTy.fty.Rd w w.heap.size (.agg #[.slice a1_0A a1_0n a1_0c, .int .i64 a1_1]) d1) (hz1 : SzC 27 FleetTy.fty (.agg #[.slice a1_0A a1_0n a1_0c, .int .i64 a1_1]) d1 w) (hS : FleetTy.fty.Few d1 → ∀ (W : World) (B1 : Nat) (v1 : Value), FleetTy.fty.Rd W B1 v1 d1 → B1 ≤ W.heap.size → Calls Try.prog 39 #[.agg #[.int .i64 a0_0, .int .i64 a0_1, .int .i64 a0_2, .int .i64 a0_3, .int .i64 a0_4, .int .i64 a0_5, .int .i64 a0_6, .int .i64 a0_7, .int .i64 a0_8, .int .i64 a0_9, .int .i64 a0_10], v1, .int .i64 a2, .int .i64 a3] W (Says (.bool r0) W)) (hI : FleetTy.fty.Few d1 → ∀ (W : World) (B1 : Nat) (v1 : Value), FleetTy.fty.Rd W B1 v1 d1 → B1 ≤ W.heap.size → Calls Try.prog 40 #[.agg #[.int .i64 a0_0, .int .i64 a0_1, .int .i64 a0_2, .int .i64 a0_3, .int .i64 a0_4, .int .i64 a0_5, .int .i64 a0_6, .int .i64 a0_7, .int .i64 a0_8, .int .i64 a0_9, .int .i64 a0_10], v1, .int .i64 a2, .int .i64 a3] W (Says (.bool r0) W)) :
    Calls Try.prog 10 #[.agg #[.int .i64 a0_0, .int .i64 a0_1, .int .i64 a0_2, .int .i64 a0_3, .int .i64 a0_4, .int .i64 a0_5, .int .i64 a0_6, .int .i64 a0_7, .int .i64 a0_8, .int .i64 a0_9, .int .i64 a0_10], .agg #[.slice a1_0A a1_0n a1_0c, .int .i64 a1_1], .int .i64 a2, .int .i64 a3] w fun e w' => e = .returned (.bool true) ∧ Below w.heap.size w w' := by
  have HR1 := Lib.hid hr1
  have HZ1 := Lib.hid hz1
  clear hr1 hz1
  have HS := Lib.hid hS
  have HI := Lib.hid hI
  clear hS hI
  have hbb0 : (r0 != r0) = false := by simp
  have hb0 : Below w.heap.size w ((w.alloc (.cells #[.int .i64 a0_0, .int .i64 a0_1, .int .i64 a0_2, .int .i64 a0_3, .int .i64 a0_4, .int .i64 a0_5, .int .i64 a0_6, .int .i64 a0_7, .int .i64 a0_8, .int .i64 a0_9, .int .i64 a0_10] 42)).alloc (.cells #[.slice a1_0A a1_0n a1_0c, .int .i64 a1_1] 45)) := bel2 _ _ _
  have BA0 : Hid (((w.alloc (.cells #[.int .i64 a0_0, .int .i64 a0_1, .int .i64 a0_2, .int .i64 a0_3, .int .i64 a0_4, .int .i64 a0_5, .int .i64 a0_6, .int .i64 a0_7, .int .i64 a0_8, .int .i64 a0_9, .int .i64 a0_10] 42)).alloc (.cells #[.slice a1_0A a1_0n a1_0c, .int .i64 a1_1] 45)).heap[w.heap.size]? = some (.cells #[.int .i64 a0_0, .int .i64 a0_1, .int .i64 a0_2, .int .i64 a0_3, .int .i64 a0_4, .int .i64 a0_5, .int .i64 a0_6, .int .i64 a0_7, .int .i64 a0_8, .int .i64 a0_9, .int .i64 a0_10] 42)) := box_alloc (box_new w (.cells #[.int .i64 a0_0, .int .i64 a0_1, .int .i64 a0_2, .int .i64 a0_3, .int .i64 a0_4, .int .i64 a0_5, .int .i64 a0_6, .int .i64 a0_7, .int .i64 a0_8, .int .i64 a0_9, .int .i64 a0_10] 42)) (.cells #[.slice a1_0A a1_0n a1_0c, .int .i64 a1_1] 45)
  have BA1 : Hid (((w.alloc (.cells #[.int .i64 a0_0, .int .i64 a0_1, .int .i64 a0_2, .int .i64 a0_3, .int .i64 a0_4, .int .i64 a0_5, .int .i64 a0_6, .int .i64 a0_7, .int .i64 a0_8, .int .i64 a0_9, .int .i64 a0_10] 42)).alloc (.cells #[.slice a1_0A a1_0n a1_0c, .int .i64 a1_1] 45)).heap[w.heap.size + 1]? = some (.cells #[.slice a1_0A a1_0n a1_0c, .int .i64 a1_1] 45)) := by have h := box_new (w.alloc (.cells #[.int .i64 a0_0, .int .i64 a0_1, .int .i64 a0_2, .int .i64 a0_3, .int .i64 a0_4, .int .i64 a0_5, .int .i64 a0_6, .int .i64 a0_7, .int .i64 a0_8, .int .i64 a0_9, .int .i64 a0_10] 42)) (.cells #[.slice a1_0A a1_0n a1_0c, .int .i64 a1_1] 45); simp only [World.size_alloc] at h; exact h
  have cBA0_0 : ((w.alloc (.cells #[.int .i64 a0_0, .int .i64 a0_1, .int .i64 a0_2, .int .i64 a0_3, .int .i64 a0_4, .int .i64 a0_5, .int .i64 a0_6, .int .i64 a0_7, .int .i64 a0_8, .int .i64 a0_9, .int .i64 a0_10] 42)).alloc (.cells #[.slice a1_0A a1_0n a1_0c, .int .i64 a1_1] 45)).cell? ⟨w.heap.size, 0, none⟩ = some (.int .i64 a0_0) := box_cell BA0.out 0 _ rfl
  have cBA0_1 : ((w.alloc (.cells #[.int .i64 a0_0, .int .i64 a0_1, .int .i64 a0_2, .int .i64 a0_3, .int .i64 a0_4, .int .i64 a0_5, .int .i64 a0_6, .int .i64 a0_7, .int .i64 a0_8, .int .i64 a0_9, .int .i64 a0_10] 42)).alloc (.cells #[.slice a1_0A a1_0n a1_0c, .int .i64 a1_1] 45)).cell? ⟨w.heap.size, 1, none⟩ = some (.int .i64 a0_1) := box_cell BA0.out 1 _ rfl
  have cBA0_2 : ((w.alloc (.cells #[.int .i64 a0_0, .int .i64 a0_1, .int .i64 a0_2, .int .i64 a0_3, .int .i64 a0_4, .int .i64 a0_5, .int .i64 a0_6, .int .i64 a0_7, .int .i64 a0_8, .int .i64 a0_9, .int .i64 a0_10] 42)).alloc (.cells #[.slice a1_0A a1_0n a1_0c, .int .i64 a1_1] 45)).cell? ⟨w.heap.size, 2, none⟩ = some (.int .i64 a0_2) := box_cell BA0.out 2 _ rfl
  have cBA0_3 : ((w.alloc (.cells #[.int .i64 a0_0, .int .i64 a0_1, .int .i64 a0_2, .int .i64 a0_3, .int .i64 a0_4, .int .i64 a0_5, .int .i64 a0_6, .int .i64 a0_7, .int .i64 a0_8, .int .i64 a0_9, .int .i64 a0_10] 42)).alloc (.cells #[.slice a1_0A a1_0n a1_0c, .int .i64 a1_1] 45)).cell? ⟨w.heap.size, 3, none⟩ = some (.int .i64 a0_3) := box_cell BA0.out 3 _ rfl
  have cBA0_4 : ((w.alloc (.cells #[.int .i64 a0_0, .int .i64 a0_1, .int .i64 a0_2, .int .i64 a0_3, .int .i64 a0_4, .int .i64 a0_5, .int .i64 a0_6, .int .i64 a0_7, .int .i64 a0_8, .int .i64 a0_9, .int .i64 a0_10] 42)).alloc (.cells #[.slice a1_0A a1_0n a1_0c, .int .i64 a1_1] 45)).cell? ⟨w.heap.size, 4, none⟩ = some (.int .i64 a0_4) := box_cell BA0.out 4 _ rfl
  have cBA0_5 : ((w.alloc (.cells #[.int .i64 a0_0, .int .i64 a0_1, .int .i64 a0_2, .int .i64 a0_3, .int .i64 a0_4, .int .i64 a0_5, .int .i64 a0_6, .int .i64 a0_7, .int .i64 a0_8, .int .i64 a0_9, .int .i64 a0_10] 42)).alloc (.cells #[.slice a1_0A a1_0n a1_0c, .int .i64 a1_1] 45)).cell? ⟨w.heap.size, 5, none⟩ = some (.int .i64 a0_5) := box_cell BA0.out 5 _ rfl
  have cBA0_6 : ((w.alloc (.cells #[.int .i64 a0_0, .int .i64 a0_1, .int .i64 a0_2, .int .i64 a0_3, .int .i64 a0_4, .int .i64 a0_5, .int .i64 a0_6, .int .i64 a0_7, .int .i64 a0_8, .int .i64 a0_9, .int .i64 a0_10] 42)).alloc (.cells #[.slice a1_0A a1_0n a1_0c, .int .i64 a1_1] 45)).cell? ⟨w.heap.size, 6, none⟩ = some (.int .i64 a0_6) := box_cell BA0.out 6 _ rfl
  have cBA0_7 : ((w.alloc (.cells #[.int .i64 a0_0, .int .i64 a0_1, .int .i64 a0_2, .int .i64 a0_3, .int .i64 a0_4, .int .i64 a0_5, .int .i64 a0_6, .int .i64 a0_7, .int .i64 a0_8, .int .i64 a0_9, .int .i64 a0_10] 42)).alloc (.cells #[.slice a1_0A a1_0n a1_0c, .int .i64 a1_1] 45)).cell? ⟨w.heap.size, 7, none⟩ = some (.int .i64 a0_7) := box_cell BA0.out 7 _ rfl
  have cBA0_8 : ((w.alloc (.cells #[.int .i64 a0_0, .int .i64 a0_1, .int .i64 a0_2, .int .i64 a0_3, .int .i64 a0_4, .int .i64 a0_5, .int .i64 a0_6, .int .i64 a0_7, .int .i64 a0_8, .int .i64 a0_9, .int .i64 a0_10] 42)).alloc (.cells #[.slice a1_0A a1_0n a1_0c, .int .i64 a1_1] 45)).cell? ⟨w.heap.size, 8, none⟩ = some (.int .i64 a0_8) := box_cell BA0.out 8 _ rfl
  have cBA0_9 : ((w.alloc (.cells #[.int .i64 a0_0, .int .i64 a0_1, .int .i64 a0_2, .int .i64 a0_3, .int .i64 a0_4, .int .i64 a0_5, .int .i64 a0_6, .int .i64 a0_7, .int .i64 a0_8, .int .i64 a0_9, .int .i64 a0_10] 42)).alloc (.cells #[.slice a1_0A a1_0n a1_0c, .int .i64 a1_1] 45)).cell? ⟨w.heap.size, 9, none⟩ = some (.int .i64 a0_9) := box_cell BA0.out 9 _ rfl
  have cBA0_10 : ((w.alloc (.cells #[.int .i64 a0_0, .int .i64 a0_1, .int .i64 a0_2, .int .i64 a0_3, .int .i64 a0_4, .int .i64 a0_5, .int .i64 a0_6, .int .i64 a0_7, .int .i64 a0_8, .int .i64 a0_9, .int .i64 a0_10] 42)).alloc (.cells #[.slice a1_0A a1_0n a1_0c, .int .i64 a1_1] 45)).cell? ⟨w.heap.size, 10, none⟩ = some (.int .i64 a0_10) := box_cell BA0.out 10 _ rfl
  have cBA1_0 : ((w.alloc (.cells #[.int .i64 a0_0, .int .i64 a0_1, .int .i64 a0_2, .int .i64 a0_3, .int .i64 a0_4, .int .i64 a0_5, .int .i64 a0_6, .int .i64 a0_7, .int .i64 a0_8, .int .i64 a0_9, .int .i64 a0_10] 42)).alloc (.cells #[.slice a1_0A a1_0n a1_0c, .int .i64 a1_1] 45)).cell? ⟨w.heap.size + 1, 0, none⟩ = some (.slice a1_0A a1_0n a1_0c) := box_cell BA1.out 0 _ rfl
  have cBA1_1 : ((w.alloc (.cells #[.int .i64 a0_0, .int .i64 a0_1, .int .i64 a0_2, .int .i64 a0_3, .int .i64 a0_4, .int .i64 a0_5, .int .i64 a0_6, .int .i64 a0_7, .int .i64 a0_8, .int .i64 a0_9, .int .i64 a0_10] 42)).alloc (.cells #[.slice a1_0A a1_0n a1_0c, .int .i64 a1_1] 45)).cell? ⟨w.heap.size + 1, 1, none⟩ = some (.int .i64 a1_1) := box_cell BA1.out 1 _ rfl
  go_enter Try.func10, Try.ntmps10
  go_wp2_with fail
  refine (HZ1.out _ 1048576 hb0 (by omega) (by omega)).mono ?_
  rintro e w1 ⟨z1, rfl, hbs, hz1⟩
  clear cBA0_0 cBA0_1 cBA0_2 cBA0_3 cBA0_4 cBA0_5 cBA0_6 cBA0_7 cBA0_8 cBA0_9 cBA0_10 cBA1_0 cBA1_1
  have BA0' := Lib.hid (box_below BA0.out hbs)
  have BA1' := Lib.hid (box_below BA1.out hbs)
  have hbn1 : Below w.heap.size w w1 := bel_then hb0 hbs hb0.size
  have hsn1 := hbs.size
  simp only [World.size_alloc] at hsn1
  clear BA0
  clear BA1
  have BA0 := BA0'
  clear BA0'
  have BA1 := BA1'
  clear BA1'
  clear hbs
  rcases hz1 with rfl | ⟨hz1a, hz1b, hf1⟩
  · go_wp2
    go_ret
    exact ⟨rfl, hbn1⟩
  have HF1 := Lib.hid hf1
  clear hf1
  have hzd1 : decide (z1 < 0) = false := by simp; omega
  have cBA0_0 : w1.cell? ⟨w.heap.size, 0, none⟩ = some (.int .i64 a0_0) := box_cell BA0.out 0 _ rfl
  have cBA0_1 : w1.cell? ⟨w.heap.size, 1, none⟩ = some (.int .i64 a0_1) := box_cell BA0.out 1 _ rfl
  have cBA0_2 : w1.cell? ⟨w.heap.size, 2, none⟩ = some (.int .i64 a0_2) := box_cell BA0.out 2 _ rfl
  have cBA0_3 : w1.cell? ⟨w.heap.size, 3, none⟩ = some (.int .i64 a0_3) := box_cell BA0.out 3 _ rfl
  have cBA0_4 : w1.cell? ⟨w.heap.size, 4, none⟩ = some (.int .i64 a0_4) := box_cell BA0.out 4 _ rfl
  have cBA0_5 : w1.cell? ⟨w.heap.size, 5, none⟩ = some (.int .i64 a0_5) := box_cell BA0.out 5 _ rfl
  have cBA0_6 : w1.cell? ⟨w.heap.size, 6, none⟩ = some (.int .i64 a0_6) := box_cell BA0.out 6 _ rfl
  have cBA0_7 : w1.cell? ⟨w.heap.size, 7, none⟩ = some (.int .i64 a0_7) := box_cell BA0.out 7 _ rfl
  have cBA0_8 : w1.cell? ⟨w.heap.size, 8, none⟩ = some (.int .i64 a0_8) := box_cell BA0.out 8 _ rfl
  have cBA0_9 : w1.cell? ⟨w.heap.size, 9, none⟩ = some (.int .i64 a0_9) := box_cell BA0.out 9 _ rfl
  have cBA0_10 : w1.cell? ⟨w.heap.size, 10, none⟩ = some (.int .i64 a0_10) := box_cell BA0.out 10 _ rfl
  have cBA1_0 : w1.cell? ⟨w.heap.size + 1, 0, none⟩ = some (.slice a1_0A a1_0n a1_0c) := box_cell BA1.out 0 _ rfl
  have cBA1_1 : w1.cell? ⟨w.heap.size + 1, 1, none⟩ = some (.int .i64 a1_1) := box_cell BA1.out 1 _ rfl
  have HS2 := Lib.hid (HS.out HF1.out)
  have HI2 := Lib.hid (HI.out HF1.out)
  clear HS HI
  have HTO1 : Hid (ToC 30 FleetTy.fty) := FleetTy.toFleet_any
  have HEQ1 : Hid (EqC 33 FleetTy.fty) := FleetTy.eqFleet_any
  have cBA0_0 : w1.cell? ⟨w.heap.size, 0, none⟩ = some (.int .i64 a0_0) := box_cell BA0.out 0 _ rfl
  have cBA0_1 : w1.cell? ⟨w.heap.size, 1, none⟩ = some (.int .i64 a0_1) := box_cell BA0.out 1 _ rfl
  have cBA0_2 : w1.cell? ⟨w.heap.size, 2, none⟩ = some (.int .i64 a0_2) := box_cell BA0.out 2 _ rfl
  have cBA0_3 : w1.cell? ⟨w.heap.size, 3, none⟩ = some (.int .i64 a0_3) := box_cell BA0.out 3 _ rfl
  have cBA0_4 : w1.cell? ⟨w.heap.size, 4, none⟩ = some (.int .i64 a0_4) := box_cell BA0.out 4 _ rfl
  have cBA0_5 : w1.cell? ⟨w.heap.size, 5, none⟩ = some (.int .i64 a0_5) := box_cell BA0.out 5 _ rfl
  have cBA0_6 : w1.cell? ⟨w.heap.size, 6, none⟩ = some (.int .i64 a0_6) := box_cell BA0.out 6 _ rfl
  have cBA0_7 : w1.cell? ⟨w.heap.size, 7, none⟩ = some (.int .i64 a0_7) := box_cell BA0.out 7 _ rfl
  have cBA0_8 : w1.cell? ⟨w.heap.size, 8, none⟩ = some (.int .i64 a0_8) := box_cell BA0.out 8 _ rfl
  have cBA0_9 : w1.cell? ⟨w.heap.size, 9, none⟩ = some (.int .i64 a0_9) := box_cell BA0.out 9 _ rfl
  have cBA0_10 : w1.cell? ⟨w.heap.size, 10, none⟩ = some (.int .i64 a0_10) := box_cell BA0.out 10 _ rfl
  have cBA1_0 : w1.cell? ⟨w.heap.size + 1, 0, none⟩ = some (.slice a1_0A a1_0n a1_0c) := box_cell BA1.out 0 _ rfl
  have cBA1_1 : w1.cell? ⟨w.heap.size + 1, 1, none⟩ = some (.int .i64 a1_1) := box_cell BA1.out 1 _ rfl
  go_wp2_with fail
  go_cut [10] (fun s10 wx => s10 = .bool r0 ∧ Hid (Below w1.heap.size w1 wx))
  case first =>
    go_region_held3 (fun w' => w'.cell? ⟨w.heap.size, 0, none⟩ = some (.int .i64 a0_0) ∧ w'.cell? ⟨w.heap.size, 1, none⟩ = some (.int .i64 a0_1) ∧ w'.cell? ⟨w.heap.size, 2, none⟩ = some (.int .i64 a0_2) ∧ w'.cell? ⟨w.heap.size, 3, none⟩ = some (.int .i64 a0_3) ∧ w'.cell? ⟨w.heap.size, 4, none⟩ = some (.int .i64 a0_4) ∧ w'.cell? ⟨w.heap.size, 5, none⟩ = some (.int .i64 a0_5) ∧ w'.cell? ⟨w.heap.size, 6, none⟩ = some (.int .i64 a0_6) ∧ w'.cell? ⟨w.heap.size, 7, none⟩ = some (.int .i64 a0_7) ∧ w'.cell? ⟨w.heap.size, 8, none⟩ = some (.int .i64 a0_8) ∧ w'.cell? ⟨w.heap.size, 9, none⟩ = some (.int .i64 a0_9) ∧ w'.cell? ⟨w.heap.size, 10, none⟩ = some (.int .i64 a0_10) ∧ w'.cell? ⟨w.heap.size + 1, 0, none⟩ = some (.slice a1_0A a1_0n a1_0c) ∧ w'.cell? ⟨w.heap.size + 1, 1, none⟩ = some (.int .i64 a1_1))
      (first | (go_keep; done) | (refine ⟨cell_keep hbf ?_, cell_keep hbf ?_, cell_keep hbf ?_, cell_keep hbf ?_, cell_keep hbf ?_, cell_keep hbf ?_, cell_keep hbf ?_, cell_keep hbf ?_, cell_keep hbf ?_, cell_keep hbf ?_, cell_keep hbf ?_, cell_keep hbf ?_, cell_keep hbf ?_⟩ <;> simp only [*]; done) | (refine ⟨cell_keep hbd1 ?_, cell_keep hbd1 ?_, cell_keep hbd1 ?_, cell_keep hbd1 ?_, cell_keep hbd1 ?_, cell_keep hbd1 ?_, cell_keep hbd1 ?_, cell_keep hbd1 ?_, cell_keep hbd1 ?_, cell_keep hbd1 ?_, cell_keep hbd1 ?_, cell_keep hbd1 ?_, cell_keep hbd1 ?_⟩ <;> simp only [*]; done) | (refine ⟨cell_keep hbd0 ?_, cell_keep hbd0 ?_, cell_keep hbd0 ?_, cell_keep hbd0 ?_, cell_keep hbd0 ?_, cell_keep hbd0 ?_, cell_keep hbd0 ?_, cell_keep hbd0 ?_, cell_keep hbd0 ?_, cell_keep hbd0 ?_, cell_keep hbd0 ?_, cell_keep hbd0 ?_, cell_keep hbd0 ?_⟩ <;> simp only [*]; done) | go_keep)
      (first | (have hgo := hbd1; clear hgo; go_at_call 39; refine (HS2.out _ _ _ (by first | exact Od1.out.rd | exact (Od1.out.alloc _).rd) (by exact Nat.le_refl _)).mono ?_; rintro e w4 ⟨rfl, hbf⟩; have hbq2 : Below w3.heap.size w3 w4 := (by first | exact al0 hbf | exact al1 hbf); have hbz : Below w1.heap.size w1 w4 := bel_then (undrew hbq0) (bel_then hbq1 hbq2 hbq1.size) hbq0.size; have cz0_0 : w4.cell? ⟨w.heap.size, 0, none⟩ = some (.int .i64 a0_0) := box_cell (box_below BA0.out hbz) 0 _ rfl; have cz0_1 : w4.cell? ⟨w.heap.size, 1, none⟩ = some (.int .i64 a0_1) := box_cell (box_below BA0.out hbz) 1 _ rfl; have cz0_2 : w4.cell? ⟨w.heap.size, 2, none⟩ = some (.int .i64 a0_2) := box_cell (box_below BA0.out hbz) 2 _ rfl; have cz0_3 : w4.cell? ⟨w.heap.size, 3, none⟩ = some (.int .i64 a0_3) := box_cell (box_below BA0.out hbz) 3 _ rfl; have cz0_4 : w4.cell? ⟨w.heap.size, 4, none⟩ = some (.int .i64 a0_4) := box_cell (box_below BA0.out hbz) 4 _ rfl; have cz0_5 : w4.cell? ⟨w.heap.size, 5, none⟩ = some (.int .i64 a0_5) := box_cell (box_below BA0.out hbz) 5 _ rfl; have cz0_6 : w4.cell? ⟨w.heap.size, 6, none⟩ = some (.int .i64 a0_6) := box_cell (box_below BA0.out hbz) 6 _ rfl; have cz0_7 : w4.cell? ⟨w.heap.size, 7, none⟩ = some (.int .i64 a0_7) := box_cell (box_below BA0.out hbz) 7 _ rfl; have cz0_8 : w4.cell? ⟨w.heap.size, 8, none⟩ = some (.int .i64 a0_8) := box_cell (box_below BA0.out hbz) 8 _ rfl; have cz0_9 : w4.cell? ⟨w.heap.size, 9, none⟩ = some (.int .i64 a0_9) := box_cell (box_below BA0.out hbz) 9 _ rfl; have cz0_10 : w4.cell? ⟨w.heap.size, 10, none⟩ = some (.int .i64 a0_10) := box_cell (box_below BA0.out hbz) 10 _ rfl; have cz1_0 : w4.cell? ⟨w.heap.size + 1, 0, none⟩ = some (.slice a1_0A a1_0n a1_0c) := box_cell (box_below BA1.out hbz) 0 _ rfl; have cz1_1 : w4.cell? ⟨w.heap.size + 1, 1, none⟩ = some (.int .i64 a1_1) := box_cell (box_below BA1.out hbz) 1 _ rfl; have hz0 := (undrew hbq0).size; have hz1 := hbq1.size; have hz2 := hbq2.size; have hzb0 := box_lt BA0.out; have hzb1 := box_lt BA1.out) | (have hgo := hbd0; clear hgo; go_at_call 30; refine (HTO1.out _ w.heap.size _ d1 (by first | exact FleetTy.fty.rd_below HR1.out hbp0 (Nat.le_refl _) | exact FleetTy.fty.rd_below HR1.out (hbp0.alloc hbp0.size _) (Nat.le_refl _)) (by first | exact hbp0.size | exact Nat.le_trans hbp0.size (Nat.le_of_lt (by simp))) HF1.out).mono ?_; rintro e w3 ⟨y1, Sy1, rfl, hOd1, hbd1⟩; have hbq1 : Below w2.heap.size w2 w3 := (by first | exact al0 hbd1 | exact al1 hbd1); have Od1 := Lib.hid hOd1; clear hOd1; have hbp1 : Below w.heap.size w w3 := bel_then hbp0 hbq1 hbp0.size) | (go_at_call 29; refine (Sp.toSpec_any _ _ _ _ _ _ _ _ _ _ _ _).mono ?_; rintro e w2 ⟨rfl, hbd0⟩; have hbq0 : Below w1.drew.heap.size w1.drew w2 := (by first | exact al0 hbd0 | exact al1 hbd0); have hbp0 : Below w.heap.size w w2 := bel_then hbn1.drew hbq0 hbn1.size))
    all_goals
      go_wp2_with fail
      go_meet
      case rel =>
        exact ⟨rfl, hbz⟩
  obtain ⟨wq, hwq⟩ : ∃ x, x = wc := ⟨_, rfl⟩
  subst hwq
  obtain ⟨rfl, HBS⟩ := hcut
  clear cBA0_0 cBA0_1 cBA0_2 cBA0_3 cBA0_4 cBA0_5 cBA0_6 cBA0_7 cBA0_8 cBA0_9 cBA0_10 cBA1_0 cBA1_1
  have hbs := HBS.out
  clear HBS
  have BA0' := Lib.hid (box_below BA0.out hbs)
  have BA1' := Lib.hid (box_below BA1.out hbs)
  have hbn2 : Below w.heap.size w wq := bel_then hbn1 hbs hbn1.size
  have hsn2 := hbs.size
  clear BA0
  clear BA1
  have BA0 := BA0'
  clear BA0'
  have BA1 := BA1'
  clear BA1'
  clear hbs
  have cBA0_0 : wq.cell? ⟨w.heap.size, 0, none⟩ = some (.int .i64 a0_0) := box_cell BA0.out 0 _ rfl
  have cBA0_1 : wq.cell? ⟨w.heap.size, 1, none⟩ = some (.int .i64 a0_1) := box_cell BA0.out 1 _ rfl
  have cBA0_2 : wq.cell? ⟨w.heap.size, 2, none⟩ = some (.int .i64 a0_2) := box_cell BA0.out 2 _ rfl
  have cBA0_3 : wq.cell? ⟨w.heap.size, 3, none⟩ = some (.int .i64 a0_3) := box_cell BA0.out 3 _ rfl
  have cBA0_4 : wq.cell? ⟨w.heap.size, 4, none⟩ = some (.int .i64 a0_4) := box_cell BA0.out 4 _ rfl
  have cBA0_5 : wq.cell? ⟨w.heap.size, 5, none⟩ = some (.int .i64 a0_5) := box_cell BA0.out 5 _ rfl
  have cBA0_6 : wq.cell? ⟨w.heap.size, 6, none⟩ = some (.int .i64 a0_6) := box_cell BA0.out 6 _ rfl
  have cBA0_7 : wq.cell? ⟨w.heap.size, 7, none⟩ = some (.int .i64 a0_7) := box_cell BA0.out 7 _ rfl
  have cBA0_8 : wq.cell? ⟨w.heap.size, 8, none⟩ = some (.int .i64 a0_8) := box_cell BA0.out 8 _ rfl
  have cBA0_9 : wq.cell? ⟨w.heap.size, 9, none⟩ = some (.int .i64 a0_9) := box_cell BA0.out 9 _ rfl
  have cBA0_10 : wq.cell? ⟨w.heap.size, 10, none⟩ = some (.int .i64 a0_10) := box_cell BA0.out 10 _ rfl
  have cBA1_0 : wq.cell? ⟨w.heap.size + 1, 0, none⟩ = some (.slice a1_0A a1_0n a1_0c) := box_cell BA1.out 0 _ rfl
  have cBA1_1 : wq.cell? ⟨w.heap.size + 1, 1, none⟩ = some (.int .i64 a1_1) := box_cell BA1.out 1 _ rfl
  go_wp2_with fail
  refine (HTO1.out _ w.heap.size _ d1 (FleetTy.fty.rd_below HR1.out hbn2 (Nat.le_refl _)) hbn2.size HF1.out).mono ?_
  rintro e w5 ⟨x1, Sx1, rfl, hO, hbs⟩
  clear cBA0_0 cBA0_1 cBA0_2 cBA0_3 cBA0_4 cBA0_5 cBA0_6 cBA0_7 cBA0_8 cBA0_9 cBA0_10 cBA1_0 cBA1_1
  have BA0' := Lib.hid (box_below BA0.out hbs)
  have BA1' := Lib.hid (box_below BA1.out hbs)
  have hbn3 : Below w.heap.size w w5 := bel_then hbn2 hbs hbn2.size
  have hsn3 := hbs.size
  clear BA0
  clear BA1
  have BA0 := BA0'
  clear BA0'
  have BA1 := BA1'
  clear BA1'
  clear hbs
  have Ox1 := Lib.hid hO
  have INOx1 : Hid (∀ k, Sx1 k → wq.heap.size ≤ k ∧ k < w5.heap.size) := fun k hk => by have h := Ox1.out.inn k hk; first | exact h | (simp only [World.size_alloc] at h; exact h)
  obtain ⟨x1_0A, x1_0n, x1_0c, x1_1, rfl⟩ := FleetTy.shape hO
  clear hO
  have BA0' := Lib.hid (box_alloc BA0.out (.cells #[.slice x1_0A x1_0n x1_0c, .int .i64 x1_1] 52))
  have BA1' := Lib.hid (box_alloc BA1.out (.cells #[.slice x1_0A x1_0n x1_0c, .int .i64 x1_1] 52))
  have Ox1' := Lib.hid (Ox1.out.alloc (.cells #[.slice x1_0A x1_0n x1_0c, .int .i64 x1_1] 52))
  have hbn4 : Below w.heap.size w (w5.alloc (.cells #[.slice x1_0A x1_0n x1_0c, .int .i64 x1_1] 52)) := hbn3.alloc hbn3.size _
  clear BA0
  clear BA1
  clear Ox1
  have BA0 := BA0'
  clear BA0'
  have BA1 := BA1'
  clear BA1'
  have Ox1 := Ox1'
  clear Ox1'
  have Bx1 : Hid ((w5.alloc (.cells #[.slice x1_0A x1_0n x1_0c, .int .i64 x1_1] 52)).heap[w5.heap.size]? = some (.cells #[.slice x1_0A x1_0n x1_0c, .int .i64 x1_1] 52)) := box_new w5 (.cells #[.slice x1_0A x1_0n x1_0c, .int .i64 x1_1] 52)
  have cBA0_0 : (w5.alloc (.cells #[.slice x1_0A x1_0n x1_0c, .int .i64 x1_1] 52)).cell? ⟨w.heap.size, 0, none⟩ = some (.int .i64 a0_0) := box_cell BA0.out 0 _ rfl
  have cBA0_1 : (w5.alloc (.cells #[.slice x1_0A x1_0n x1_0c, .int .i64 x1_1] 52)).cell? ⟨w.heap.size, 1, none⟩ = some (.int .i64 a0_1) := box_cell BA0.out 1 _ rfl
  have cBA0_2 : (w5.alloc (.cells #[.slice x1_0A x1_0n x1_0c, .int .i64 x1_1] 52)).cell? ⟨w.heap.size, 2, none⟩ = some (.int .i64 a0_2) := box_cell BA0.out 2 _ rfl
  have cBA0_3 : (w5.alloc (.cells #[.slice x1_0A x1_0n x1_0c, .int .i64 x1_1] 52)).cell? ⟨w.heap.size, 3, none⟩ = some (.int .i64 a0_3) := box_cell BA0.out 3 _ rfl
  have cBA0_4 : (w5.alloc (.cells #[.slice x1_0A x1_0n x1_0c, .int .i64 x1_1] 52)).cell? ⟨w.heap.size, 4, none⟩ = some (.int .i64 a0_4) := box_cell BA0.out 4 _ rfl
  have cBA0_5 : (w5.alloc (.cells #[.slice x1_0A x1_0n x1_0c, .int .i64 x1_1] 52)).cell? ⟨w.heap.size, 5, none⟩ = some (.int .i64 a0_5) := box_cell BA0.out 5 _ rfl
  have cBA0_6 : (w5.alloc (.cells #[.slice x1_0A x1_0n x1_0c, .int .i64 x1_1] 52)).cell? ⟨w.heap.size, 6, none⟩ = some (.int .i64 a0_6) := box_cell BA0.out 6 _ rfl
  have cBA0_7 : (w5.alloc (.cells #[.slice x1_0A x1_0n x1_0c, .int .i64 x1_1] 52)).cell? ⟨w.heap.size, 7, none⟩ = some (.int .i64 a0_7) := box_cell BA0.out 7 _ rfl
  have cBA0_8 : (w5.alloc (.cells #[.slice x1_0A x1_0n x1_0c, .int .i64 x1_1] 52)).cell? ⟨w.heap.size, 8, none⟩ = some (.int .i64 a0_8) := box_cell BA0.out 8 _ rfl
  have cBA0_9 : (w5.alloc (.cells #[.slice x1_0A x1_0n x1_0c, .int .i64 x1_1] 52)).cell? ⟨w.heap.size, 9, none⟩ = some (.int .i64 a0_9) := box_cell BA0.out 9 _ rfl
  have cBA0_10 : (w5.alloc (.cells #[.slice x1_0A x1_0n x1_0c, .int .i64 x1_1] 52)).cell? ⟨w.heap.size, 10, none⟩ = some (.int .i64 a0_10) := box_cell BA0.out 10 _ rfl
  have cBx1_0 : (w5.alloc (.cells #[.slice x1_0A x1_0n x1_0c, .int .i64 x1_1] 52)).cell? ⟨w5.heap.size, 0, none⟩ = some (.slice x1_0A x1_0n x1_0c) := box_cell Bx1.out 0 _ rfl
  have cBx1_1 : (w5.alloc (.cells #[.slice x1_0A x1_0n x1_0c, .int .i64 x1_1] 52)).cell? ⟨w5.heap.size, 1, none⟩ = some (.int .i64 x1_1) := box_cell Bx1.out 1 _ rfl
  go_wp2_with fail
  obtain ⟨w6, hwz⟩ : ∃ x, x = (w5.alloc (.cells #[.slice x1_0A x1_0n x1_0c, .int .i64 x1_1] 52)) := ⟨_, rfl⟩
  have hwzaw6 : w5.heap.size + 1 ≤ w6.heap.size ∧ w6.heap.size ≤ w5.heap.size + 1 := by rw [hwz]; simp
  rw [← hwz] at BA0 BA1 Ox1 Bx1 cBA0_0 cBA0_1 cBA0_2 cBA0_3 cBA0_4 cBA0_5 cBA0_6 cBA0_7 cBA0_8 cBA0_9 cBA0_10 cBx1_0 cBx1_1 hbn4 ⊢
  obtain ⟨hwzbw6, hwzcw6⟩ := hwzaw6
  clear hwz
  go_cut [12] (fun s12 wx => s12 = .bool r0 ∧ Hid (Below w6.heap.size w6 wx))
  case first =>
    go_region_held3 (fun w' => w'.cell? ⟨w.heap.size, 0, none⟩ = some (.int .i64 a0_0) ∧ w'.cell? ⟨w.heap.size, 1, none⟩ = some (.int .i64 a0_1) ∧ w'.cell? ⟨w.heap.size, 2, none⟩ = some (.int .i64 a0_2) ∧ w'.cell? ⟨w.heap.size, 3, none⟩ = some (.int .i64 a0_3) ∧ w'.cell? ⟨w.heap.size, 4, none⟩ = some (.int .i64 a0_4) ∧ w'.cell? ⟨w.heap.size, 5, none⟩ = some (.int .i64 a0_5) ∧ w'.cell? ⟨w.heap.size, 6, none⟩ = some (.int .i64 a0_6) ∧ w'.cell? ⟨w.heap.size, 7, none⟩ = some (.int .i64 a0_7) ∧ w'.cell? ⟨w.heap.size, 8, none⟩ = some (.int .i64 a0_8) ∧ w'.cell? ⟨w.heap.size, 9, none⟩ = some (.int .i64 a0_9) ∧ w'.cell? ⟨w.heap.size, 10, none⟩ = some (.int .i64 a0_10) ∧ w'.cell? ⟨w5.heap.size, 0, none⟩ = some (.slice x1_0A x1_0n x1_0c) ∧ w'.cell? ⟨w5.heap.size, 1, none⟩ = some (.int .i64 x1_1))
      (first | (go_keep; done) | (refine ⟨cell_keep hbf ?_, cell_keep hbf ?_, cell_keep hbf ?_, cell_keep hbf ?_, cell_keep hbf ?_, cell_keep hbf ?_, cell_keep hbf ?_, cell_keep hbf ?_, cell_keep hbf ?_, cell_keep hbf ?_, cell_keep hbf ?_, cell_keep hbf ?_, cell_keep hbf ?_⟩ <;> simp only [*]; done) | (refine ⟨cell_keep hbd0 ?_, cell_keep hbd0 ?_, cell_keep hbd0 ?_, cell_keep hbd0 ?_, cell_keep hbd0 ?_, cell_keep hbd0 ?_, cell_keep hbd0 ?_, cell_keep hbd0 ?_, cell_keep hbd0 ?_, cell_keep hbd0 ?_, cell_keep hbd0 ?_, cell_keep hbd0 ?_, cell_keep hbd0 ?_⟩ <;> simp only [*]; done) | go_keep)
      (first | (have hgo := hbd0; clear hgo; go_at_call 40; refine (HI2.out _ _ _ (by first | exact (Ox1.out.below (undrew hbq0)).rd | exact ((Ox1.out.below (undrew hbq0)).alloc _).rd) (by exact Nat.le_refl _)).mono ?_; rintro e w8 ⟨rfl, hbf⟩; have hbq1 : Below w7.heap.size w7 w8 := (by first | exact al0 hbf | exact al1 hbf); have hbz : Below w6.heap.size w6 w8 := bel_then (undrew hbq0) (hbq1) hbq0.size; have cz0_0 : w8.cell? ⟨w.heap.size, 0, none⟩ = some (.int .i64 a0_0) := box_cell (box_below BA0.out hbz) 0 _ rfl; have cz0_1 : w8.cell? ⟨w.heap.size, 1, none⟩ = some (.int .i64 a0_1) := box_cell (box_below BA0.out hbz) 1 _ rfl; have cz0_2 : w8.cell? ⟨w.heap.size, 2, none⟩ = some (.int .i64 a0_2) := box_cell (box_below BA0.out hbz) 2 _ rfl; have cz0_3 : w8.cell? ⟨w.heap.size, 3, none⟩ = some (.int .i64 a0_3) := box_cell (box_below BA0.out hbz) 3 _ rfl; have cz0_4 : w8.cell? ⟨w.heap.size, 4, none⟩ = some (.int .i64 a0_4) := box_cell (box_below BA0.out hbz) 4 _ rfl; have cz0_5 : w8.cell? ⟨w.heap.size, 5, none⟩ = some (.int .i64 a0_5) := box_cell (box_below BA0.out hbz) 5 _ rfl; have cz0_6 : w8.cell? ⟨w.heap.size, 6, none⟩ = some (.int .i64 a0_6) := box_cell (box_below BA0.out hbz) 6 _ rfl; have cz0_7 : w8.cell? ⟨w.heap.size, 7, none⟩ = some (.int .i64 a0_7) := box_cell (box_below BA0.out hbz) 7 _ rfl; have cz0_8 : w8.cell? ⟨w.heap.size, 8, none⟩ = some (.int .i64 a0_8) := box_cell (box_below BA0.out hbz) 8 _ rfl; have cz0_9 : w8.cell? ⟨w.heap.size, 9, none⟩ = some (.int .i64 a0_9) := box_cell (box_below BA0.out hbz) 9 _ rfl; have cz0_10 : w8.cell? ⟨w.heap.size, 10, none⟩ = some (.int .i64 a0_10) := box_cell (box_below BA0.out hbz) 10 _ rfl; have cz1_0 : w8.cell? ⟨w5.heap.size, 0, none⟩ = some (.slice x1_0A x1_0n x1_0c) := box_cell (box_below Bx1.out hbz) 0 _ rfl; have cz1_1 : w8.cell? ⟨w5.heap.size, 1, none⟩ = some (.int .i64 x1_1) := box_cell (box_below Bx1.out hbz) 1 _ rfl; have hz0 := (undrew hbq0).size; have hz1 := hbq1.size; have hzb0 := box_lt BA0.out; have hzb1 := box_lt Bx1.out) | (go_at_call 29; refine (Sp.toSpec_any _ _ _ _ _ _ _ _ _ _ _ _).mono ?_; rintro e w7 ⟨rfl, hbd0⟩; have hbq0 : Below w6.drew.heap.size w6.drew w7 := (by first | exact al0 hbd0 | exact al1 hbd0); have hbp0 : Below w.heap.size w w7 := bel_then hbn4.drew hbq0 hbn4.size))
    all_goals
      go_wp2_with fail
      go_meet
      case rel =>
        exact ⟨rfl, hbz⟩
  obtain ⟨wg, hwq⟩ : ∃ x, x = wc := ⟨_, rfl⟩
  subst hwq
  obtain ⟨rfl, HBS⟩ := hcut
  clear cBA0_0 cBA0_1 cBA0_2 cBA0_3 cBA0_4 cBA0_5 cBA0_6 cBA0_7 cBA0_8 cBA0_9 cBA0_10 cBx1_0 cBx1_1
  have hbs := HBS.out
  clear HBS
  have BA0' := Lib.hid (box_below BA0.out hbs)
  have BA1' := Lib.hid (box_below BA1.out hbs)
  have Ox1' := Lib.hid (Ox1.out.below hbs)
  have Bx1' := Lib.hid (box_below Bx1.out hbs)
  have hbn5 : Below w.heap.size w wg := bel_then hbn4 hbs hbn4.size
  have hsn5 := hbs.size
  clear BA0
  clear BA1
  clear Ox1
  clear Bx1
  have BA0 := BA0'
  clear BA0'
  have BA1 := BA1'
  clear BA1'
  have Ox1 := Ox1'
  clear Ox1'
  have Bx1 := Bx1'
  clear Bx1'
  clear hbs
  have cBA1_0 : wg.cell? ⟨w.heap.size + 1, 0, none⟩ = some (.slice a1_0A a1_0n a1_0c) := box_cell BA1.out 0 _ rfl
  have cBA1_1 : wg.cell? ⟨w.heap.size + 1, 1, none⟩ = some (.int .i64 a1_1) := box_cell BA1.out 1 _ rfl
  have cBx1_0 : wg.cell? ⟨w5.heap.size, 0, none⟩ = some (.slice x1_0A x1_0n x1_0c) := box_cell Bx1.out 0 _ rfl
  have cBx1_1 : wg.cell? ⟨w5.heap.size, 1, none⟩ = some (.int .i64 x1_1) := box_cell Bx1.out 1 _ rfl
  go_wp2_with fail
  go_region_held3 (fun w' => w'.cell? ⟨w.heap.size + 1, 0, none⟩ = some (.slice a1_0A a1_0n a1_0c) ∧ w'.cell? ⟨w.heap.size + 1, 1, none⟩ = some (.int .i64 a1_1) ∧ w'.cell? ⟨w5.heap.size, 0, none⟩ = some (.slice x1_0A x1_0n x1_0c) ∧ w'.cell? ⟨w5.heap.size, 1, none⟩ = some (.int .i64 x1_1))
    (first | go_keep | (refine ⟨cell_keep hb7 ?_, cell_keep hb7 ?_, cell_keep hb7 ?_, cell_keep hb7 ?_⟩ <;> simp only [*]) | (refine ⟨cell_keep hb8 ?_, cell_keep hb8 ?_, cell_keep hb8 ?_, cell_keep hb8 ?_⟩ <;> simp only [*]))
    (first | (go_at_call 30; refine (HTO1.out _ w.heap.size _ d1 (by exact FleetTy.fty.rd_below HR1.out hbn5.drew (Nat.le_refl _)) (by exact hbn5.size) HF1.out).mono ?_; rintro e w9 ⟨t1, St1, rfl, hO7, hb7⟩; have hb7' : Below wg.heap.size wg w9 := undrew hb7; have HO7 := Lib.hid hO7; clear hO7) | (go_at_call 33; refine (HEQ1.out _ _ _ _ _ d1 (by exact (Ox1.out.below hb7').rd) (by exact HO7.out.rd) (by exact Nat.le_refl _) (by exact Nat.le_refl _) HF1.out).mono ?_; rintro e w10 ⟨rfl, hb8⟩))
  have hbs : Below wg.heap.size wg w10 := bel_then hb7' hb8 hb7'.size
  clear hb7 hb7' hb8 HO7
  clear cBA1_0 cBA1_1 cBx1_0 cBx1_1
  have BA0' := Lib.hid (box_below BA0.out hbs)
  have BA1' := Lib.hid (box_below BA1.out hbs)
  have Ox1' := Lib.hid (Ox1.out.below hbs)
  have Bx1' := Lib.hid (box_below Bx1.out hbs)
  have hbn6 : Below w.heap.size w w10 := bel_then hbn5 hbs hbn5.size
  have hsn6 := hbs.size
  clear BA0
  clear BA1
  clear Ox1
  clear Bx1
  have BA0 := BA0'
  clear BA0'
  have BA1 := BA1'
  clear BA1'
  have Ox1 := Ox1'
  clear Ox1'
  have Bx1 := Bx1'
  clear Bx1'
  clear hbs
  go_wp2
  go_ret
  exact ⟨rfl, hbn6⟩
end Go.Proofs.Ytmmdpljimjfkdaa.LawBaked
