/-
  THE WALK of laws.FnExactWorldOk over this seat's translation: it answers true and turns nothing that was there, if the model and the program keep one contract.
-/
import Derived.Test.YtlghdmakaocokaaLawKit
import Derived.Test.YtlghdmakaocokaaWld
import Derived.Deep.RegionHeld3
import Derived.Lib.Hide
namespace Go.Proofs.Ytlghdmakaocokaa.LawWorldOk
open Go.ChangeShapes Go.WideShapes Go.ChangeAt Go.RowKit
open Go.Proofs.Ytlghdmakaocokaa.LK
set_option linter.unusedVariables false
set_option maxRecDepth 100000 in
set_option maxHeartbeats 12800000 in
theorem walk (a0_0 a0_1 a0_2 a0_3 : Int) (r0 : Bool) (w : World) (hS : ∀ (W : World), Calls Try.prog 6 #[.agg #[.int .i64 a0_0, .int .i64 a0_1, .int .i64 a0_2, .int .i64 a0_3]] W (Says (.bool r0) W)) (hI : ∀ (W : World), Calls Try.prog 8 #[.agg #[.int .i64 a0_0, .int .i64 a0_1, .int .i64 a0_2, .int .i64 a0_3]] W (Says (.bool r0) W)) :
    Calls Try.prog 3 #[.agg #[.int .i64 a0_0, .int .i64 a0_1, .int .i64 a0_2, .int .i64 a0_3]] w fun e w' => e = .returned (.bool true) ∧ Below w.heap.size w w' := by
  have HS := Lib.hid hS
  have HI := Lib.hid hI
  clear hS hI
  have hbb0 : (r0 != r0) = false := by simp
  obtain ⟨V, hV⟩ : ∃ V, V = (w.alloc (.cells #[.int .i64 a0_0, .int .i64 a0_1, .int .i64 a0_2, .int .i64 a0_3] 23)) := ⟨_, rfl⟩
  have hbV : Below w.heap.size w V := by rw [hV]; exact bel1 _ _
  have B0 : Hid (V.heap[w.heap.size]? = some (.cells #[.int .i64 a0_0, .int .i64 a0_1, .int .i64 a0_2, .int .i64 a0_3] 23)) := by have h := box_new w (.cells #[.int .i64 a0_0, .int .i64 a0_1, .int .i64 a0_2, .int .i64 a0_3] 23); (try simp only [World.size_alloc] at h); rw [hV]; exact h
  go_enter Try.func3, Try.ntmps3
  go_wp2_with fail
  rw [← hV]
  clear hV
  refine (Wld.toWorld_any _ _ _ _ _).mono ?_
  rintro e w1 ⟨rfl, hbs⟩
  have B0' := Lib.hid (box_below B0.out hbs)
  have hbn1 : Below w.heap.size w w1 := bel_then hbV hbs hbV.size
  clear B0
  have B0 := B0'
  clear B0'
  clear hbs
  go_wp2_with fail
  refine (HS.out _).mono ?_
  rintro e w2 ⟨rfl, hbs⟩
  have B0' := Lib.hid (box_below B0.out hbs)
  have hbn2 : Below w.heap.size w w2 := bel_then hbn1 hbs hbn1.size
  clear B0
  have B0 := B0'
  clear B0'
  clear hbs
  have c0_0 : w2.cell? ⟨w.heap.size, 0, none⟩ = some (.int .i64 a0_0) := box_cell B0.out 0 _ rfl
  have c0_1 : w2.cell? ⟨w.heap.size, 1, none⟩ = some (.int .i64 a0_1) := box_cell B0.out 1 _ rfl
  have c0_2 : w2.cell? ⟨w.heap.size, 2, none⟩ = some (.int .i64 a0_2) := box_cell B0.out 2 _ rfl
  have c0_3 : w2.cell? ⟨w.heap.size, 3, none⟩ = some (.int .i64 a0_3) := box_cell B0.out 3 _ rfl
  go_wp2_with fail
  refine (Wld.toWorld_any _ _ _ _ _).mono ?_
  rintro e w3 ⟨rfl, hbs⟩
  clear c0_0 c0_1 c0_2 c0_3
  have B0' := Lib.hid (box_below B0.out hbs)
  have hbn3 : Below w.heap.size w w3 := bel_then hbn2 hbs hbn2.size
  clear B0
  have B0 := B0'
  clear B0'
  clear hbs
  go_wp2_with fail
  refine (HI.out _).mono ?_
  rintro e w4 ⟨rfl, hbs⟩
  have B0' := Lib.hid (box_below B0.out hbs)
  have hbn4 : Below w.heap.size w w4 := bel_then hbn3 hbs hbn3.size
  clear B0
  have B0 := B0'
  clear B0'
  clear hbs
  have HB := Lib.hid hbn4
  clear hbn4
  go_wp2
  go_ret
  exact ⟨rfl, HB.out⟩
end Go.Proofs.Ytlghdmakaocokaa.LawWorldOk
