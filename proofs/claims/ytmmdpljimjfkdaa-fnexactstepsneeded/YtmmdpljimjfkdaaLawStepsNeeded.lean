/-
  THE WALK of laws.FnExactStepsNeeded over this seat's translation: it answers true and turns nothing that was there, if the model and the program keep one contract.
-/
import Derived.Test.YtmmdpljimjfkdaaLawKit
import Derived.Test.YtmmdpljimjfkdaaSp
import Derived.Deep.RegionHeld3
import Derived.Lib.Hide
namespace Go.Proofs.Ytmmdpljimjfkdaa.LawStepsNeeded
open Go.ChangeShapes Go.WideShapes Go.ChangeAt Go.RowKit
open Go.Proofs.Ytmmdpljimjfkdaa.LK
set_option linter.unusedVariables false
set_option maxRecDepth 100000 in
set_option maxHeartbeats 12800000 in
theorem walk (a0_0 a0_1 a0_2 a0_3 a0_4 a0_5 a0_6 a0_7 a0_8 a0_9 a0_10 : Int) (r0 : Int) (w : World) (hS : ∀ (W : World), Calls Try.prog 43 #[.agg #[.int .i64 a0_0, .int .i64 a0_1, .int .i64 a0_2, .int .i64 a0_3, .int .i64 a0_4, .int .i64 a0_5, .int .i64 a0_6, .int .i64 a0_7, .int .i64 a0_8, .int .i64 a0_9, .int .i64 a0_10]] W (Says (.int .i64 r0) W)) (hI : ∀ (W : World), Calls Try.prog 21 #[.agg #[.int .i64 a0_0, .int .i64 a0_1, .int .i64 a0_2, .int .i64 a0_3, .int .i64 a0_4, .int .i64 a0_5, .int .i64 a0_6, .int .i64 a0_7, .int .i64 a0_8, .int .i64 a0_9, .int .i64 a0_10]] W (Says (.int .i64 r0) W)) :
    Calls Try.prog 13 #[.agg #[.int .i64 a0_0, .int .i64 a0_1, .int .i64 a0_2, .int .i64 a0_3, .int .i64 a0_4, .int .i64 a0_5, .int .i64 a0_6, .int .i64 a0_7, .int .i64 a0_8, .int .i64 a0_9, .int .i64 a0_10]] w fun e w' => e = .returned (.bool true) ∧ Below w.heap.size w w' := by
  have HS := Lib.hid hS
  have HI := Lib.hid hI
  clear hS hI
  obtain ⟨V, hV⟩ : ∃ V, V = (w.alloc (.cells #[.int .i64 a0_0, .int .i64 a0_1, .int .i64 a0_2, .int .i64 a0_3, .int .i64 a0_4, .int .i64 a0_5, .int .i64 a0_6, .int .i64 a0_7, .int .i64 a0_8, .int .i64 a0_9, .int .i64 a0_10] 42)) := ⟨_, rfl⟩
  have hbV : Below w.heap.size w V := by rw [hV]; exact bel1 _ _
  have B0 : Hid (V.heap[w.heap.size]? = some (.cells #[.int .i64 a0_0, .int .i64 a0_1, .int .i64 a0_2, .int .i64 a0_3, .int .i64 a0_4, .int .i64 a0_5, .int .i64 a0_6, .int .i64 a0_7, .int .i64 a0_8, .int .i64 a0_9, .int .i64 a0_10] 42)) := by have h := box_new w (.cells #[.int .i64 a0_0, .int .i64 a0_1, .int .i64 a0_2, .int .i64 a0_3, .int .i64 a0_4, .int .i64 a0_5, .int .i64 a0_6, .int .i64 a0_7, .int .i64 a0_8, .int .i64 a0_9, .int .i64 a0_10] 42); (try simp only [World.size_alloc] at h); rw [hV]; exact h
  go_enter Try.func13, Try.ntmps13
  go_wp2_with fail
  rw [← hV]
  clear hV
  refine (Sp.toSpec_any _ _ _ _ _ _ _ _ _ _ _ _).mono ?_
  rintro e w1 ⟨rfl, hbs⟩
  have B0' := Lib.hid (box_below B0.out hbs)
  have hbn1 : Below w.heap.size w w1 := bel_then hbV hbs hbV.size
  clear B0
  have B0 := B0'
  clear B0'
  clear hbs
  go_wp2_with fail
  refine (HS.out _).mono ?_
  rintro e w2 ⟨rfl, hbs⟩
  have B0' := Lib.hid (box_below B0.out hbs)
  have hbn2 : Below w.heap.size w w2 := bel_then hbn1 hbs hbn1.size
  clear B0
  have B0 := B0'
  clear B0'
  clear hbs
  have c0_0 : w2.cell? ⟨w.heap.size, 0, none⟩ = some (.int .i64 a0_0) := box_cell B0.out 0 _ rfl
  have c0_1 : w2.cell? ⟨w.heap.size, 1, none⟩ = some (.int .i64 a0_1) := box_cell B0.out 1 _ rfl
  have c0_2 : w2.cell? ⟨w.heap.size, 2, none⟩ = some (.int .i64 a0_2) := box_cell B0.out 2 _ rfl
  have c0_3 : w2.cell? ⟨w.heap.size, 3, none⟩ = some (.int .i64 a0_3) := box_cell B0.out 3 _ rfl
  have c0_4 : w2.cell? ⟨w.heap.size, 4, none⟩ = some (.int .i64 a0_4) := box_cell B0.out 4 _ rfl
  have c0_5 : w2.cell? ⟨w.heap.size, 5, none⟩ = some (.int .i64 a0_5) := box_cell B0.out 5 _ rfl
  have c0_6 : w2.cell? ⟨w.heap.size, 6, none⟩ = some (.int .i64 a0_6) := box_cell B0.out 6 _ rfl
  have c0_7 : w2.cell? ⟨w.heap.size, 7, none⟩ = some (.int .i64 a0_7) := box_cell B0.out 7 _ rfl
  have c0_8 : w2.cell? ⟨w.heap.size, 8, none⟩ = some (.int .i64 a0_8) := box_cell B0.out 8 _ rfl
  have c0_9 : w2.cell? ⟨w.heap.size, 9, none⟩ = some (.int .i64 a0_9) := box_cell B0.out 9 _ rfl
  have c0_10 : w2.cell? ⟨w.heap.size, 10, none⟩ = some (.int .i64 a0_10) := box_cell B0.out 10 _ rfl
  go_wp2_with fail
  refine (Sp.toSpec_any _ _ _ _ _ _ _ _ _ _ _ _).mono ?_
  rintro e w3 ⟨rfl, hbs⟩
  clear c0_0 c0_1 c0_2 c0_3 c0_4 c0_5 c0_6 c0_7 c0_8 c0_9 c0_10
  have B0' := Lib.hid (box_below B0.out hbs)
  have hbn3 : Below w.heap.size w w3 := bel_then hbn2 hbs hbn2.size
  clear B0
  have B0 := B0'
  clear B0'
  clear hbs
  go_wp2_with fail
  refine (HI.out _).mono ?_
  rintro e w4 ⟨rfl, hbs⟩
  have B0' := Lib.hid (box_below B0.out hbs)
  have hbn4 : Below w.heap.size w w4 := bel_then hbn3 hbs hbn3.size
  clear B0
  have B0 := B0'
  clear B0'
  clear hbs
  have HB := Lib.hid hbn4
  clear hbn4
  go_wp2
  go_ret
  exact ⟨rfl, HB.out⟩
end Go.Proofs.Ytmmdpljimjfkdaa.LawStepsNeeded
