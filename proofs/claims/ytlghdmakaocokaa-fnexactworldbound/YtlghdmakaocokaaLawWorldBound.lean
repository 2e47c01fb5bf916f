/-
  THE WALK of laws.FnExactWorldBound over this seat's translation: it answers true and turns nothing that was there, if the model and the program keep one contract.
-/
import Derived.Test.YtlghdmakaocokaaLawKit
import Derived.Test.YtlghdmakaocokaaSp
import Derived.Test.YtlghdmakaocokaaWld
import Derived.Deep.RegionHeld3
import Derived.Lib.Hide
namespace Go.Proofs.Ytlghdmakaocokaa.LawWorldBound
open Go.ChangeShapes Go.WideShapes Go.ChangeAt Go.RowKit
open Go.Proofs.Ytlghdmakaocokaa.LK
set_option linter.unusedVariables false
set_option maxRecDepth 100000 in
set_option maxHeartbeats 12800000 in
theorem walk (a0_0 a0_1 a0_2 a0_3 a0_4 a0_5 a0_6 a0_7 a0_8 a0_9 a0_10 : Int) (a1_0 a1_1 a1_2 a1_3 : Int) (r0 : Int) (w : World) (hS : ∀ (W : World), Calls Try.prog 14 #[.agg #[.int .i64 a0_0, .int .i64 a0_1, .int .i64 a0_2, .int .i64 a0_3, .int .i64 a0_4, .int .i64 a0_5, .int .i64 a0_6, .int .i64 a0_7, .int .i64 a0_8, .int .i64 a0_9, .int .i64 a0_10], .agg #[.int .i64 a1_0, .int .i64 a1_1, .int .i64 a1_2, .int .i64 a1_3]] W (Says (.int .i64 r0) W)) (hI : ∀ (W : World), Calls Try.prog 16 #[.agg #[.int .i64 a0_0, .int .i64 a0_1, .int .i64 a0_2, .int .i64 a0_3, .int .i64 a0_4, .int .i64 a0_5, .int .i64 a0_6, .int .i64 a0_7, .int .i64 a0_8, .int .i64 a0_9, .int .i64 a0_10], .agg #[.int .i64 a1_0, .int .i64 a1_1, .int .i64 a1_2, .int .i64 a1_3]] W (Says (.int .i64 r0) W)) :
    Calls Try.prog 5 #[.agg #[.int .i64 a0_0, .int .i64 a0_1, .int .i64 a0_2, .int .i64 a0_3, .int .i64 a0_4, .int .i64 a0_5, .int .i64 a0_6, .int .i64 a0_7, .int .i64 a0_8, .int .i64 a0_9, .int .i64 a0_10], .agg #[.int .i64 a1_0, .int .i64 a1_1, .int .i64 a1_2, .int .i64 a1_3]] w fun e w' => e = .returned (.bool true) ∧ Below w.heap.size w w' := by
  have HS := Lib.hid hS
  have HI := Lib.hid hI
  clear hS hI
  obtain ⟨V, hV⟩ : ∃ V, V = ((w.alloc (.cells #[.int .i64 a0_0, .int .i64 a0_1, .int .i64 a0_2, .int .i64 a0_3, .int .i64 a0_4, .int .i64 a0_5, .int .i64 a0_6, .int .i64 a0_7, .int .i64 a0_8, .int .i64 a0_9, .int .i64 a0_10] 36)).alloc (.cells #[.int .i64 a1_0, .int .i64 a1_1, .int .i64 a1_2, .int .i64 a1_3] 23)) := ⟨_, rfl⟩
  have hbV : Below w.heap.size w V := by rw [hV]; exact bel2 _ _ _
  have B0 : Hid (V.heap[w.heap.size]? = some (.cells #[.int .i64 a0_0, .int .i64 a0_1, .int .i64 a0_2, .int .i64 a0_3, .int .i64 a0_4, .int .i64 a0_5, .int .i64 a0_6, .int .i64 a0_7, .int .i64 a0_8, .int .i64 a0_9, .int .i64 a0_10] 36)) := by have h := box_alloc (box_new w (.cells #[.int .i64 a0_0, .int .i64 a0_1, .int .i64 a0_2, .int .i64 a0_3, .int .i64 a0_4, .int .i64 a0_5, .int .i64 a0_6, .int .i64 a0_7, .int .i64 a0_8, .int .i64 a0_9, .int .i64 a0_10] 36)) (.cells #[.int .i64 a1_0, .int .i64 a1_1, .int .i64 a1_2, .int .i64 a1_3] 23); (try simp only [World.size_alloc] at h); rw [hV]; exact h
  have B1 : Hid (V.heap[w.heap.size + 1]? = some (.cells #[.int .i64 a1_0, .int .i64 a1_1, .int .i64 a1_2, .int .i64 a1_3] 23)) := by have h := box_new (w.alloc (.cells #[.int .i64 a0_0, .int .i64 a0_1, .int .i64 a0_2, .int .i64 a0_3, .int .i64 a0_4, .int .i64 a0_5, .int .i64 a0_6, .int .i64 a0_7, .int .i64 a0_8, .int .i64 a0_9, .int .i64 a0_10] 36)) (.cells #[.int .i64 a1_0, .int .i64 a1_1, .int .i64 a1_2, .int .i64 a1_3] 23); (try simp only [World.size_alloc] at h); rw [hV]; exact h
  go_enter Try.func5, Try.ntmps5
  go_wp2_with fail
  rw [← hV]
  clear hV
  have c0_0 : V.cell? ⟨w.heap.size, 0, none⟩ = some (.int .i64 a0_0) := box_cell B0.out 0 _ rfl
  have c0_1 : V.cell? ⟨w.heap.size, 1, none⟩ = some (.int .i64 a0_1) := box_cell B0.out 1 _ rfl
  have c0_2 : V.cell? ⟨w.heap.size, 2, none⟩ = some (.int .i64 a0_2) := box_cell B0.out 2 _ rfl
  have c0_3 : V.cell? ⟨w.heap.size, 3, none⟩ = some (.int .i64 a0_3) := box_cell B0.out 3 _ rfl
  have c0_4 : V.cell? ⟨w.heap.size, 4, none⟩ = some (.int .i64 a0_4) := box_cell B0.out 4 _ rfl
  have c0_5 : V.cell? ⟨w.heap.size, 5, none⟩ = some (.int .i64 a0_5) := box_cell B0.out 5 _ rfl
  have c0_6 : V.cell? ⟨w.heap.size, 6, none⟩ = some (.int .i64 a0_6) := box_cell B0.out 6 _ rfl
  have c0_7 : V.cell? ⟨w.heap.size, 7, none⟩ = some (.int .i64 a0_7) := box_cell B0.out 7 _ rfl
  have c0_8 : V.cell? ⟨w.heap.size, 8, none⟩ = some (.int .i64 a0_8) := box_cell B0.out 8 _ rfl
  have c0_9 : V.cell? ⟨w.heap.size, 9, none⟩ = some (.int .i64 a0_9) := box_cell B0.out 9 _ rfl
  have c0_10 : V.cell? ⟨w.heap.size, 10, none⟩ = some (.int .i64 a0_10) := box_cell B0.out 10 _ rfl
  have c1_0 : V.cell? ⟨w.heap.size + 1, 0, none⟩ = some (.int .i64 a1_0) := box_cell B1.out 0 _ rfl
  have c1_1 : V.cell? ⟨w.heap.size + 1, 1, none⟩ = some (.int .i64 a1_1) := box_cell B1.out 1 _ rfl
  have c1_2 : V.cell? ⟨w.heap.size + 1, 2, none⟩ = some (.int .i64 a1_2) := box_cell B1.out 2 _ rfl
  have c1_3 : V.cell? ⟨w.heap.size + 1, 3, none⟩ = some (.int .i64 a1_3) := box_cell B1.out 3 _ rfl
  go_cut [5] (fun s5 wx => s5 = .int .i64 r0 ∧ Hid (Below V.heap.size V wx))
  case first =>
    go_region_held3 (fun w' => w'.cell? ⟨w.heap.size, 0, none⟩ = some (.int .i64 a0_0) ∧ w'.cell? ⟨w.heap.size, 1, none⟩ = some (.int .i64 a0_1) ∧ w'.cell? ⟨w.heap.size, 2, none⟩ = some (.int .i64 a0_2) ∧ w'.cell? ⟨w.heap.size, 3, none⟩ = some (.int .i64 a0_3) ∧ w'.cell? ⟨w.heap.size, 4, none⟩ = some (.int .i64 a0_4) ∧ w'.cell? ⟨w.heap.size, 5, none⟩ = some (.int .i64 a0_5) ∧ w'.cell? ⟨w.heap.size, 6, none⟩ = some (.int .i64 a0_6) ∧ w'.cell? ⟨w.heap.size, 7, none⟩ = some (.int .i64 a0_7) ∧ w'.cell? ⟨w.heap.size, 8, none⟩ = some (.int .i64 a0_8) ∧ w'.cell? ⟨w.heap.size, 9, none⟩ = some (.int .i64 a0_9) ∧ w'.cell? ⟨w.heap.size, 10, none⟩ = some (.int .i64 a0_10) ∧ w'.cell? ⟨w.heap.size + 1, 0, none⟩ = some (.int .i64 a1_0) ∧ w'.cell? ⟨w.heap.size + 1, 1, none⟩ = some (.int .i64 a1_1) ∧ w'.cell? ⟨w.heap.size + 1, 2, none⟩ = some (.int .i64 a1_2) ∧ w'.cell? ⟨w.heap.size + 1, 3, none⟩ = some (.int .i64 a1_3))
      (first | (go_keep; done) | (refine ⟨cell_keep hbd2 ?_, cell_keep hbd2 ?_, cell_keep hbd2 ?_, cell_keep hbd2 ?_, cell_keep hbd2 ?_, cell_keep hbd2 ?_, cell_keep hbd2 ?_, cell_keep hbd2 ?_, cell_keep hbd2 ?_, cell_keep hbd2 ?_, cell_keep hbd2 ?_, cell_keep hbd2 ?_, cell_keep hbd2 ?_, cell_keep hbd2 ?_, cell_keep hbd2 ?_⟩ <;> simp only [*]; done) | (refine ⟨cell_keep hbd1 ?_, cell_keep hbd1 ?_, cell_keep hbd1 ?_, cell_keep hbd1 ?_, cell_keep hbd1 ?_, cell_keep hbd1 ?_, cell_keep hbd1 ?_, cell_keep hbd1 ?_, cell_keep hbd1 ?_, cell_keep hbd1 ?_, cell_keep hbd1 ?_, cell_keep hbd1 ?_, cell_keep hbd1 ?_, cell_keep hbd1 ?_, cell_keep hbd1 ?_⟩ <;> simp only [*]; done) | (refine ⟨cell_keep hbd0 ?_, cell_keep hbd0 ?_, cell_keep hbd0 ?_, cell_keep hbd0 ?_, cell_keep hbd0 ?_, cell_keep hbd0 ?_, cell_keep hbd0 ?_, cell_keep hbd0 ?_, cell_keep hbd0 ?_, cell_keep hbd0 ?_, cell_keep hbd0 ?_, cell_keep hbd0 ?_, cell_keep hbd0 ?_, cell_keep hbd0 ?_, cell_keep hbd0 ?_⟩ <;> simp only [*]; done) | go_keep)
      (first | (have hgo := hbd1; clear hgo; go_at_call 14; refine (HS.out _).mono ?_; rintro e w3 ⟨rfl, hbd2⟩; have hbz : Below V.heap.size V w3 := bel_then (undrew hbd0) (bel_then hbd1 hbd2 hbd1.size) hbd0.size) | (have hgo := hbd0; clear hgo; go_at_call 7; refine (Wld.toWorld_any _ _ _ _ _).mono ?_; rintro e w2 ⟨rfl, hbd1⟩) | (go_at_call 15; refine (Sp.toSpec_any _ _ _ _ _ _ _ _ _ _ _ _).mono ?_; rintro e w1 ⟨rfl, hbd0⟩))
    all_goals
      go_wp2_with fail
      go_meet
      case rel => exact ⟨rfl, hbz⟩
  obtain ⟨wq, hwq⟩ : ∃ x, x = wc := ⟨_, rfl⟩
  subst hwq
  obtain ⟨rfl, HBS⟩ := hcut
  clear c0_0 c0_1 c0_2 c0_3 c0_4 c0_5 c0_6 c0_7 c0_8 c0_9 c0_10 c1_0 c1_1 c1_2 c1_3
  have hbs := HBS.out
  clear HBS
  have B0' := Lib.hid (box_below B0.out hbs)
  have B1' := Lib.hid (box_below B1.out hbs)
  have hbn1 : Below w.heap.size w wq := bel_then hbV hbs hbV.size
  clear B0
  have B0 := B0'
  clear B0'
  clear B1
  have B1 := B1'
  clear B1'
  clear hbs
  have c0_0 : wq.cell? ⟨w.heap.size, 0, none⟩ = some (.int .i64 a0_0) := box_cell B0.out 0 _ rfl
  have c0_1 : wq.cell? ⟨w.heap.size, 1, none⟩ = some (.int .i64 a0_1) := box_cell B0.out 1 _ rfl
  have c0_2 : wq.cell? ⟨w.heap.size, 2, none⟩ = some (.int .i64 a0_2) := box_cell B0.out 2 _ rfl
  have c0_3 : wq.cell? ⟨w.heap.size, 3, none⟩ = some (.int .i64 a0_3) := box_cell B0.out 3 _ rfl
  have c0_4 : wq.cell? ⟨w.heap.size, 4, none⟩ = some (.int .i64 a0_4) := box_cell B0.out 4 _ rfl
  have c0_5 : wq.cell? ⟨w.heap.size, 5, none⟩ = some (.int .i64 a0_5) := box_cell B0.out 5 _ rfl
  have c0_6 : wq.cell? ⟨w.heap.size, 6, none⟩ = some (.int .i64 a0_6) := box_cell B0.out 6 _ rfl
  have c0_7 : wq.cell? ⟨w.heap.size, 7, none⟩ = some (.int .i64 a0_7) := box_cell B0.out 7 _ rfl
  have c0_8 : wq.cell? ⟨w.heap.size, 8, none⟩ = some (.int .i64 a0_8) := box_cell B0.out 8 _ rfl
  have c0_9 : wq.cell? ⟨w.heap.size, 9, none⟩ = some (.int .i64 a0_9) := box_cell B0.out 9 _ rfl
  have c0_10 : wq.cell? ⟨w.heap.size, 10, none⟩ = some (.int .i64 a0_10) := box_cell B0.out 10 _ rfl
  have c1_0 : wq.cell? ⟨w.heap.size + 1, 0, none⟩ = some (.int .i64 a1_0) := box_cell B1.out 0 _ rfl
  have c1_1 : wq.cell? ⟨w.heap.size + 1, 1, none⟩ = some (.int .i64 a1_1) := box_cell B1.out 1 _ rfl
  have c1_2 : wq.cell? ⟨w.heap.size + 1, 2, none⟩ = some (.int .i64 a1_2) := box_cell B1.out 2 _ rfl
  have c1_3 : wq.cell? ⟨w.heap.size + 1, 3, none⟩ = some (.int .i64 a1_3) := box_cell B1.out 3 _ rfl
  go_wp2_with fail
  go_cut [6] (fun s6 wx => s6 = .int .i64 r0 ∧ Hid (Below wq.heap.size wq wx))
  case first =>
    go_region_held3 (fun w' => w'.cell? ⟨w.heap.size, 0, none⟩ = some (.int .i64 a0_0) ∧ w'.cell? ⟨w.heap.size, 1, none⟩ = some (.int .i64 a0_1) ∧ w'.cell? ⟨w.heap.size, 2, none⟩ = some (.int .i64 a0_2) ∧ w'.cell? ⟨w.heap.size, 3, none⟩ = some (.int .i64 a0_3) ∧ w'.cell? ⟨w.heap.size, 4, none⟩ = some (.int .i64 a0_4) ∧ w'.cell? ⟨w.heap.size, 5, none⟩ = some (.int .i64 a0_5) ∧ w'.cell? ⟨w.heap.size, 6, none⟩ = some (.int .i64 a0_6) ∧ w'.cell? ⟨w.heap.size, 7, none⟩ = some (.int .i64 a0_7) ∧ w'.cell? ⟨w.heap.size, 8, none⟩ = some (.int .i64 a0_8) ∧ w'.cell? ⟨w.heap.size, 9, none⟩ = some (.int .i64 a0_9) ∧ w'.cell? ⟨w.heap.size, 10, none⟩ = some (.int .i64 a0_10) ∧ w'.cell? ⟨w.heap.size + 1, 0, none⟩ = some (.int .i64 a1_0) ∧ w'.cell? ⟨w.heap.size + 1, 1, none⟩ = some (.int .i64 a1_1) ∧ w'.cell? ⟨w.heap.size + 1, 2, none⟩ = some (.int .i64 a1_2) ∧ w'.cell? ⟨w.heap.size + 1, 3, none⟩ = some (.int .i64 a1_3))
      (first | (go_keep; done) | (refine ⟨cell_keep hbd2 ?_, cell_keep hbd2 ?_, cell_keep hbd2 ?_, cell_keep hbd2 ?_, cell_keep hbd2 ?_, cell_keep hbd2 ?_, cell_keep hbd2 ?_, cell_keep hbd2 ?_, cell_keep hbd2 ?_, cell_keep hbd2 ?_, cell_keep hbd2 ?_, cell_keep hbd2 ?_, cell_keep hbd2 ?_, cell_keep hbd2 ?_, cell_keep hbd2 ?_⟩ <;> simp only [*]; done) | (refine ⟨cell_keep hbd1 ?_, cell_keep hbd1 ?_, cell_keep hbd1 ?_, cell_keep hbd1 ?_, cell_keep hbd1 ?_, cell_keep hbd1 ?_, cell_keep hbd1 ?_, cell_keep hbd1 ?_, cell_keep hbd1 ?_, cell_keep hbd1 ?_, cell_keep hbd1 ?_, cell_keep hbd1 ?_, cell_keep hbd1 ?_, cell_keep hbd1 ?_, cell_keep hbd1 ?_⟩ <;> simp only [*]; done) | (refine ⟨cell_keep hbd0 ?_, cell_keep hbd0 ?_, cell_keep hbd0 ?_, cell_keep hbd0 ?_, cell_keep hbd0 ?_, cell_keep hbd0 ?_, cell_keep hbd0 ?_, cell_keep hbd0 ?_, cell_keep hbd0 ?_, cell_keep hbd0 ?_, cell_keep hbd0 ?_, cell_keep hbd0 ?_, cell_keep hbd0 ?_, cell_keep hbd0 ?_, cell_keep hbd0 ?_⟩ <;> simp only [*]; done) | go_keep)
      (first | (have hgo := hbd1; clear hgo; go_at_call 16; refine (HI.out _).mono ?_; rintro e w6 ⟨rfl, hbd2⟩; have hbz : Below wq.heap.size wq w6 := bel_then (undrew hbd0) (bel_then hbd1 hbd2 hbd1.size) hbd0.size) | (have hgo := hbd0; clear hgo; go_at_call 7; refine (Wld.toWorld_any _ _ _ _ _).mono ?_; rintro e w5 ⟨rfl, hbd1⟩) | (go_at_call 15; refine (Sp.toSpec_any _ _ _ _ _ _ _ _ _ _ _ _).mono ?_; rintro e w4 ⟨rfl, hbd0⟩))
    all_goals
      go_wp2_with fail
      go_meet
      case rel => exact ⟨rfl, hbz⟩
  obtain ⟨wg, hwq⟩ : ∃ x, x = wc := ⟨_, rfl⟩
  subst hwq
  obtain ⟨rfl, HBS⟩ := hcut
  clear c0_0 c0_1 c0_2 c0_3 c0_4 c0_5 c0_6 c0_7 c0_8 c0_9 c0_10 c1_0 c1_1 c1_2 c1_3
  have hbs := HBS.out
  clear HBS
  have B0' := Lib.hid (box_below B0.out hbs)
  have B1' := Lib.hid (box_below B1.out hbs)
  have hbn2 : Below w.heap.size w wg := bel_then hbn1 hbs hbn1.size
  clear B0
  have B0 := B0'
  clear B0'
  clear B1
  have B1 := B1'
  clear B1'
  clear hbs
  have HB := Lib.hid hbn2
  clear hbn2
  go_wp2
  go_ret
  exact ⟨rfl, HB.out⟩
end Go.Proofs.Ytlghdmakaocokaa.LawWorldBound
