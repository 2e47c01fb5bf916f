/-
  THE WALK of laws.FnExactPlanStep over this seat's translation: it answers true and turns nothing that was there, if the model and the program keep one contract.
-/
import Derived.Test.YtmmdpljimjfkdaaCnt
import Derived.Test.YtmmdpljimjfkdaaLawKit
import Derived.Test.YtmmdpljimjfkdaaSp
import Derived.Deep.RegionHeld3
import Derived.Lib.Hide
namespace Go.Proofs.Ytmmdpljimjfkdaa.LawPlanStep
open Go.ChangeShapes Go.WideShapes Go.ChangeAt Go.RowKit
open Go.Proofs.Ytmmdpljimjfkdaa.LK
set_option linter.unusedVariables false
theorem setMB {W : World} {b : Nat} {t : TypeId} {z0 z1 z2 z3 : Value} (h : W.heap[b]? = some (.cells #[z0, z1, z2, z3] t (0, 0))) (u0 u1 u2 u3 : Value) : ((((W.setCell ⟨b, 0, none⟩ u0).setCell ⟨b, 1, none⟩ u1).setCell ⟨b, 2, none⟩ u2).setCell ⟨b, 3, none⟩ u3).heap[b]? = some (.cells #[u0, u1, u2, u3] t (0, 0)) := by
  have h0 := box_set (i := 0) h u0
  have h1 := box_set (i := 1) h0 u1
  have h2 := box_set (i := 2) h1 u2
  have h3 := box_set (i := 3) h2 u3
  rw [h3]; simp
theorem setMT {S : Nat → Prop} {W : World} {b : Nat} (h : S b) (u0 u1 u2 u3 : Value) : Turned S W ((((W.setCell ⟨b, 0, none⟩ u0).setCell ⟨b, 1, none⟩ u1).setCell ⟨b, 2, none⟩ u2).setCell ⟨b, 3, none⟩ u3) := (((Turned.set W ⟨b, 0, none⟩ u0 h).trans (Turned.set _ ⟨b, 1, none⟩ u1 h)).trans (Turned.set _ ⟨b, 2, none⟩ u2 h)).trans (Turned.set _ ⟨b, 3, none⟩ u3 h)
set_option maxRecDepth 100000 in
set_option maxHeartbeats 12800000 in
theorem walk (a0_0 a0_1 a0_2 a0_3 a0_4 a0_5 a0_6 a0_7 a0_8 a0_9 a0_10 : Int) (a1_0 a1_1 : Int) (a2_0 a2_1 : Int) (a3 : Int) (a4 : Int) (r0_0 r0_1 r0_2 r0_3 : Int) (r1 : Bool) (w : World) (hS : ∀ (W : World), Calls Try.prog 16 #[.agg #[.int .i64 a0_0, .int .i64 a0_1, .int .i64 a0_2, .int .i64 a0_3, .int .i64 a0_4, .int .i64 a0_5, .int .i64 a0_6, .int .i64 a0_7, .int .i64 a0_8, .int .i64 a0_9, .int .i64 a0_10], .agg #[.int .i64 a1_0, .int .i64 a1_1], .agg #[.int .i64 a2_0, .int .i64 a2_1], .int .i64 a3, .int .i64 a4] W (Says (.tuple #[.agg #[.int .i64 r0_0, .int .i64 r0_1, .int .i64 r0_2, .int .i64 r0_3], .bool r1]) W)) (hI : ∀ (W : World), Calls Try.prog 17 #[.agg #[.int .i64 a0_0, .int .i64 a0_1, .int .i64 a0_2, .int .i64 a0_3, .int .i64 a0_4, .int .i64 a0_5, .int .i64 a0_6, .int .i64 a0_7, .int .i64 a0_8, .int .i64 a0_9, .int .i64 a0_10], .agg #[.int .i64 a1_0, .int .i64 a1_1], .agg #[.int .i64 a2_0, .int .i64 a2_1], .int .i64 a3, .int .i64 a4] W (Says (.tuple #[.agg #[.int .i64 r0_0, .int .i64 r0_1, .int .i64 r0_2, .int .i64 r0_3], .bool r1]) W)) :
    Calls Try.prog 8 #[.agg #[.int .i64 a0_0, .int .i64 a0_1, .int .i64 a0_2, .int .i64 a0_3, .int .i64 a0_4, .int .i64 a0_5, .int .i64 a0_6, .int .i64 a0_7, .int .i64 a0_8, .int .i64 a0_9, .int .i64 a0_10], .agg #[.int .i64 a1_0, .int .i64 a1_1], .agg #[.int .i64 a2_0, .int .i64 a2_1], .int .i64 a3, .int .i64 a4] w fun e w' => e = .returned (.bool true) ∧ Below w.heap.size w w' := by
  have HS := Lib.hid hS
  have HI := Lib.hid hI
  clear hS hI
  have hbb1 : (r1 != r1) = false := by simp
  obtain ⟨V, hV⟩ : ∃ V, V = (((w.alloc (.cells #[.int .i64 a0_0, .int .i64 a0_1, .int .i64 a0_2, .int .i64 a0_3, .int .i64 a0_4, .int .i64 a0_5, .int .i64 a0_6, .int .i64 a0_7, .int .i64 a0_8, .int .i64 a0_9, .int .i64 a0_10] 42)).alloc (.cells #[.int .i64 a1_0, .int .i64 a1_1] 38)).alloc (.cells #[.int .i64 a2_0, .int .i64 a2_1] 38)) := ⟨_, rfl⟩
  have hbV : Below w.heap.size w V := by rw [hV]; exact bel3 _ _ _ _
  have B0 : Hid (V.heap[w.heap.size]? = some (.cells #[.int .i64 a0_0, .int .i64 a0_1, .int .i64 a0_2, .int .i64 a0_3, .int .i64 a0_4, .int .i64 a0_5, .int .i64 a0_6, .int .i64 a0_7, .int .i64 a0_8, .int .i64 a0_9, .int .i64 a0_10] 42)) := by have h := box_alloc (box_alloc (box_new w (.cells #[.int .i64 a0_0, .int .i64 a0_1, .int .i64 a0_2, .int .i64 a0_3, .int .i64 a0_4, .int .i64 a0_5, .int .i64 a0_6, .int .i64 a0_7, .int .i64 a0_8, .int .i64 a0_9, .int .i64 a0_10] 42)) (.cells #[.int .i64 a1_0, .int .i64 a1_1] 38)) (.cells #[.int .i64 a2_0, .int .i64 a2_1] 38); (try simp only [World.size_alloc] at h); rw [hV]; exact h
  have B1 : Hid (V.heap[w.heap.size + 1]? = some (.cells #[.int .i64 a1_0, .int .i64 a1_1] 38)) := by have h := box_alloc (box_new (w.alloc (.cells #[.int .i64 a0_0, .int .i64 a0_1, .int .i64 a0_2, .int .i64 a0_3, .int .i64 a0_4, .int .i64 a0_5, .int .i64 a0_6, .int .i64 a0_7, .int .i64 a0_8, .int .i64 a0_9, .int .i64 a0_10] 42)) (.cells #[.int .i64 a1_0, .int .i64 a1_1] 38)) (.cells #[.int .i64 a2_0, .int .i64 a2_1] 38); (try simp only [World.size_alloc] at h); rw [hV]; exact h
  have B2 : Hid (V.heap[w.heap.size + 1 + 1]? = some (.cells #[.int .i64 a2_0, .int .i64 a2_1] 38)) := by have h := box_new ((w.alloc (.cells #[.int .i64 a0_0, .int .i64 a0_1, .int .i64 a0_2, .int .i64 a0_3, .int .i64 a0_4, .int .i64 a0_5, .int .i64 a0_6, .int .i64 a0_7, .int .i64 a0_8, .int .i64 a0_9, .int .i64 a0_10] 42)).alloc (.cells #[.int .i64 a1_0, .int .i64 a1_1] 38)) (.cells #[.int .i64 a2_0, .int .i64 a2_1] 38); (try simp only [World.size_alloc] at h); rw [hV]; exact h
  go_enter Try.func8, Try.ntmps8
  go_wp2_with fail
  rw [← hV]
  clear hV
  have c0_0 : V.cell? ⟨w.heap.size, 0, none⟩ = some (.int .i64 a0_0) := box_cell B0.out 0 _ rfl
  have c0_1 : V.cell? ⟨w.heap.size, 1, none⟩ = some (.int .i64 a0_1) := box_cell B0.out 1 _ rfl
  have c0_2 : V.cell? ⟨w.heap.size, 2, none⟩ = some (.int .i64 a0_2) := box_cell B0.out 2 _ rfl
  have c0_3 : V.cell? ⟨w.heap.size, 3, none⟩ = some (.int .i64 a0_3) := box_cell B0.out 3 _ rfl
  have c0_4 : V.cell? ⟨w.heap.size, 4, none⟩ = some (.int .i64 a0_4) := box_cell B0.out 4 _ rfl
  have c0_5 : V.cell? ⟨w.heap.size, 5, none⟩ = some (.int .i64 a0_5) := box_cell B0.out 5 _ rfl
  have c0_6 : V.cell? ⟨w.heap.size, 6, none⟩ = some (.int .i64 a0_6) := box_cell B0.out 6 _ rfl
  have c0_7 : V.cell? ⟨w.heap.size, 7, none⟩ = some (.int .i64 a0_7) := box_cell B0.out 7 _ rfl
  have c0_8 : V.cell? ⟨w.heap.size, 8, none⟩ = some (.int .i64 a0_8) := box_cell B0.out 8 _ rfl
  have c0_9 : V.cell? ⟨w.heap.size, 9, none⟩ = some (.int .i64 a0_9) := box_cell B0.out 9 _ rfl
  have c0_10 : V.cell? ⟨w.heap.size, 10, none⟩ = some (.int .i64 a0_10) := box_cell B0.out 10 _ rfl
  have c1_0 : V.cell? ⟨w.heap.size + 1, 0, none⟩ = some (.int .i64 a1_0) := box_cell B1.out 0 _ rfl
  have c1_1 : V.cell? ⟨w.heap.size + 1, 1, none⟩ = some (.int .i64 a1_1) := box_cell B1.out 1 _ rfl
  have c2_0 : V.cell? ⟨w.heap.size + 1 + 1, 0, none⟩ = some (.int .i64 a2_0) := box_cell B2.out 0 _ rfl
  have c2_1 : V.cell? ⟨w.heap.size + 1 + 1, 1, none⟩ = some (.int .i64 a2_1) := box_cell B2.out 1 _ rfl
  go_cut [11, 12] (fun s11 s12 wx => ∃ bq : Nat, s11 = .pointer (some ⟨bq, 0, none⟩) ∧ s12 = .bool r1 ∧ Hid (wx.heap[bq]? = some (.cells #[.int .i64 r0_0, .int .i64 r0_1, .int .i64 r0_2, .int .i64 r0_3] 31)) ∧ Hid (Below V.heap.size V wx) ∧ V.heap.size ≤ bq)
  case first =>
    go_region_held3 (fun w' => w'.cell? ⟨w.heap.size, 0, none⟩ = some (.int .i64 a0_0) ∧ w'.cell? ⟨w.heap.size, 1, none⟩ = some (.int .i64 a0_1) ∧ w'.cell? ⟨w.heap.size, 2, none⟩ = some (.int .i64 a0_2) ∧ w'.cell? ⟨w.heap.size, 3, none⟩ = some (.int .i64 a0_3) ∧ w'.cell? ⟨w.heap.size, 4, none⟩ = some (.int .i64 a0_4) ∧ w'.cell? ⟨w.heap.size, 5, none⟩ = some (.int .i64 a0_5) ∧ w'.cell? ⟨w.heap.size, 6, none⟩ = some (.int .i64 a0_6) ∧ w'.cell? ⟨w.heap.size, 7, none⟩ = some (.int .i64 a0_7) ∧ w'.cell? ⟨w.heap.size, 8, none⟩ = some (.int .i64 a0_8) ∧ w'.cell? ⟨w.heap.size, 9, none⟩ = some (.int .i64 a0_9) ∧ w'.cell? ⟨w.heap.size, 10, none⟩ = some (.int .i64 a0_10) ∧ w'.cell? ⟨w.heap.size + 1, 0, none⟩ = some (.int .i64 a1_0) ∧ w'.cell? ⟨w.heap.size + 1, 1, none⟩ = some (.int .i64 a1_1) ∧ w'.cell? ⟨w.heap.size + 1 + 1, 0, none⟩ = some (.int .i64 a2_0) ∧ w'.cell? ⟨w.heap.size + 1 + 1, 1, none⟩ = some (.int .i64 a2_1))
      (first | (go_keep; done) | exact ⟨far1 (by omega) (far1 (by omega) (far1 (by omega) (far1 (by omega) (czB0_0)))), far1 (by omega) (far1 (by omega) (far1 (by omega) (far1 (by omega) (czB0_1)))), far1 (by omega) (far1 (by omega) (far1 (by omega) (far1 (by omega) (czB0_2)))), far1 (by omega) (far1 (by omega) (far1 (by omega) (far1 (by omega) (czB0_3)))), far1 (by omega) (far1 (by omega) (far1 (by omega) (far1 (by omega) (czB0_4)))), far1 (by omega) (far1 (by omega) (far1 (by omega) (far1 (by omega) (czB0_5)))), far1 (by omega) (far1 (by omega) (far1 (by omega) (far1 (by omega) (czB0_6)))), far1 (by omega) (far1 (by omega) (far1 (by omega) (far1 (by omega) (czB0_7)))), far1 (by omega) (far1 (by omega) (far1 (by omega) (far1 (by omega) (czB0_8)))), far1 (by omega) (far1 (by omega) (far1 (by omega) (far1 (by omega) (czB0_9)))), far1 (by omega) (far1 (by omega) (far1 (by omega) (far1 (by omega) (czB0_10)))), far1 (by omega) (far1 (by omega) (far1 (by omega) (far1 (by omega) (czB1_0)))), far1 (by omega) (far1 (by omega) (far1 (by omega) (far1 (by omega) (czB1_1)))), far1 (by omega) (far1 (by omega) (far1 (by omega) (far1 (by omega) (czB2_0)))), far1 (by omega) (far1 (by omega) (far1 (by omega) (far1 (by omega) (czB2_1))))⟩ | (refine ⟨cell_keep hbf ?_, cell_keep hbf ?_, cell_keep hbf ?_, cell_keep hbf ?_, cell_keep hbf ?_, cell_keep hbf ?_, cell_keep hbf ?_, cell_keep hbf ?_, cell_keep hbf ?_, cell_keep hbf ?_, cell_keep hbf ?_, cell_keep hbf ?_, cell_keep hbf ?_, cell_keep hbf ?_, cell_keep hbf ?_⟩ <;> simp only [*]; done) | (refine ⟨cell_keep hbd2 ?_, cell_keep hbd2 ?_, cell_keep hbd2 ?_, cell_keep hbd2 ?_, cell_keep hbd2 ?_, cell_keep hbd2 ?_, cell_keep hbd2 ?_, cell_keep hbd2 ?_, cell_keep hbd2 ?_, cell_keep hbd2 ?_, cell_keep hbd2 ?_, cell_keep hbd2 ?_, cell_keep hbd2 ?_, cell_keep hbd2 ?_, cell_keep hbd2 ?_⟩ <;> simp only [*]; done) | (refine ⟨cell_keep hbd1 ?_, cell_keep hbd1 ?_, cell_keep hbd1 ?_, cell_keep hbd1 ?_, cell_keep hbd1 ?_, cell_keep hbd1 ?_, cell_keep hbd1 ?_, cell_keep hbd1 ?_, cell_keep hbd1 ?_, cell_keep hbd1 ?_, cell_keep hbd1 ?_, cell_keep hbd1 ?_, cell_keep hbd1 ?_, cell_keep hbd1 ?_, cell_keep hbd1 ?_⟩ <;> simp only [*]; done) | (refine ⟨cell_keep hbd0 ?_, cell_keep hbd0 ?_, cell_keep hbd0 ?_, cell_keep hbd0 ?_, cell_keep hbd0 ?_, cell_keep hbd0 ?_, cell_keep hbd0 ?_, cell_keep hbd0 ?_, cell_keep hbd0 ?_, cell_keep hbd0 ?_, cell_keep hbd0 ?_, cell_keep hbd0 ?_, cell_keep hbd0 ?_, cell_keep hbd0 ?_, cell_keep hbd0 ?_⟩ <;> simp only [*]; done) | go_keep)
      (first | (have hgo := hbd2; clear hgo; go_at_call 16; refine (HS.out _).mono ?_; rintro e w4 ⟨rfl, hbf⟩; have hbq3 : Below w3.heap.size w3 w4 := (by first | exact al0 hbf | exact al1 hbf); have hbz : Below V.heap.size V w4 := bel_then (undrew hbq0) (bel_then hbq1 (bel_then hbq2 hbq3 hbq2.size) hbq1.size) hbq0.size; have czB0_0 : w4.cell? ⟨w.heap.size, 0, none⟩ = some (.int .i64 a0_0) := box_cell (box_below B0.out hbz) 0 _ rfl; have czB0_1 : w4.cell? ⟨w.heap.size, 1, none⟩ = some (.int .i64 a0_1) := box_cell (box_below B0.out hbz) 1 _ rfl; have czB0_2 : w4.cell? ⟨w.heap.size, 2, none⟩ = some (.int .i64 a0_2) := box_cell (box_below B0.out hbz) 2 _ rfl; have czB0_3 : w4.cell? ⟨w.heap.size, 3, none⟩ = some (.int .i64 a0_3) := box_cell (box_below B0.out hbz) 3 _ rfl; have czB0_4 : w4.cell? ⟨w.heap.size, 4, none⟩ = some (.int .i64 a0_4) := box_cell (box_below B0.out hbz) 4 _ rfl; have czB0_5 : w4.cell? ⟨w.heap.size, 5, none⟩ = some (.int .i64 a0_5) := box_cell (box_below B0.out hbz) 5 _ rfl; have czB0_6 : w4.cell? ⟨w.heap.size, 6, none⟩ = some (.int .i64 a0_6) := box_cell (box_below B0.out hbz) 6 _ rfl; have czB0_7 : w4.cell? ⟨w.heap.size, 7, none⟩ = some (.int .i64 a0_7) := box_cell (box_below B0.out hbz) 7 _ rfl; have czB0_8 : w4.cell? ⟨w.heap.size, 8, none⟩ = some (.int .i64 a0_8) := box_cell (box_below B0.out hbz) 8 _ rfl; have czB0_9 : w4.cell? ⟨w.heap.size, 9, none⟩ = some (.int .i64 a0_9) := box_cell (box_below B0.out hbz) 9 _ rfl; have czB0_10 : w4.cell? ⟨w.heap.size, 10, none⟩ = some (.int .i64 a0_10) := box_cell (box_below B0.out hbz) 10 _ rfl; have czB1_0 : w4.cell? ⟨w.heap.size + 1, 0, none⟩ = some (.int .i64 a1_0) := box_cell (box_below B1.out hbz) 0 _ rfl; have czB1_1 : w4.cell? ⟨w.heap.size + 1, 1, none⟩ = some (.int .i64 a1_1) := box_cell (box_below B1.out hbz) 1 _ rfl; have czB2_0 : w4.cell? ⟨w.heap.size + 1 + 1, 0, none⟩ = some (.int .i64 a2_0) := box_cell (box_below B2.out hbz) 0 _ rfl; have czB2_1 : w4.cell? ⟨w.heap.size + 1 + 1, 1, none⟩ = some (.int .i64 a2_1) := box_cell (box_below B2.out hbz) 1 _ rfl; have hz0 := (undrew hbq0).size; have hz1 := hbq1.size; have hz2 := hbq2.size; have hz3 := hbq3.size; have hzb0 := box_lt B0.out; have hzb1 := box_lt B1.out; have hzb2 := box_lt B2.out; (try (have bz2 := box_below bz hbf; clear bz; have bz := bz2; clear bz2)); (try have bz := box_below (box_new _ (.cells #[.int .i64 0, .int .i64 0, .int .i64 0, .int .i64 0] 31)) hbf); (try have ez0 := box_cell bz 0 (.int .i64 0) rfl); (try have fz0 := box_frozen bz 0); (try have ez1 := box_cell bz 1 (.int .i64 0) rfl); (try have fz1 := box_frozen bz 1); (try have ez2 := box_cell bz 2 (.int .i64 0) rfl); (try have fz2 := box_frozen bz 2); (try have ez3 := box_cell bz 3 (.int .i64 0) rfl); (try have fz3 := box_frozen bz 3); (try have bZ := Lib.hid bz); (try clear bz)) | (have hgo := hbd1; clear hgo; go_at_call 25; refine (Cnt.toCount_any _ _ _).mono ?_; rintro e w3 ⟨rfl, hbd2⟩; have hbq2 : Below w2.heap.size w2 w3 := (by first | exact al0 hbd2 | exact al1 hbd2); (try (have bz2 := box_below bz hbd2; clear bz; have bz := bz2; clear bz2)); (try have bz := box_below (box_new _ (.cells #[.int .i64 0, .int .i64 0, .int .i64 0, .int .i64 0] 31)) hbd2); (try have hzz := box_lt bz)) | (have hgo := hbd0; clear hgo; go_at_call 25; refine (Cnt.toCount_any _ _ _).mono ?_; rintro e w2 ⟨rfl, hbd1⟩; have hbq1 : Below w1.heap.size w1 w2 := (by first | exact al0 hbd1 | exact al1 hbd1); (try (have bz2 := box_below bz hbd1; clear bz; have bz := bz2; clear bz2)); (try have bz := box_below (box_new _ (.cells #[.int .i64 0, .int .i64 0, .int .i64 0, .int .i64 0] 31)) hbd1); (try have hzz := box_lt bz)) | (go_at_call 29; refine (Sp.toSpec_any _ _ _ _ _ _ _ _ _ _ _ _).mono ?_; rintro e w1 ⟨rfl, hbd0⟩; have hbq0 : Below V.drew.heap.size V.drew w1 := (by first | exact al0 hbd0 | exact al1 hbd0); (try have bz := box_below (box_newd V (.cells #[.int .i64 0, .int .i64 0, .int .i64 0, .int .i64 0] 31)) hbd0); (try have hzz := box_lt bz)))
    all_goals
      go_wp2_with fail
      go_meet
      case rel =>
        first
          | (with_reducible exact ⟨_, rfl, rfl, Lib.hid (box_new _ _), Lib.hid (hbz.alloc hbz.size _), by first | omega | (simp; omega)⟩)
          | (with_reducible exact ⟨_, rfl, rfl, Lib.hid (setMB bZ.out _ _ _ _), Lib.hid (Turned.low hbz (setMT (S := fun k => k = V.heap.size) rfl _ _ _ _) (fun k hk => by omega) hbz.size), by first | exact Nat.le_refl _ | omega⟩)
          | (with_reducible exact ⟨_, rfl, rfl, Lib.hid (setMB bZ.out _ _ _ _), Lib.hid (Turned.low hbz (setMT (S := fun k => k = w1.heap.size) rfl _ _ _ _) (fun k hk => by omega) hbz.size), by first | exact Nat.le_refl _ | omega⟩)
          | (with_reducible exact ⟨_, rfl, rfl, Lib.hid (setMB bZ.out _ _ _ _), Lib.hid (Turned.low hbz (setMT (S := fun k => k = w2.heap.size) rfl _ _ _ _) (fun k hk => by omega) hbz.size), by first | exact Nat.le_refl _ | omega⟩)
          | (with_reducible exact ⟨_, rfl, rfl, Lib.hid (setMB bZ.out _ _ _ _), Lib.hid (Turned.low hbz (setMT (S := fun k => k = w3.heap.size) rfl _ _ _ _) (fun k hk => by omega) hbz.size), by first | exact Nat.le_refl _ | omega⟩)
  obtain ⟨wq, hwq⟩ : ∃ x, x = wc := ⟨_, rfl⟩
  subst hwq
  obtain ⟨bq, rfl, rfl, Bq, HBS, hloq⟩ := hcut
  clear c0_0 c0_1 c0_2 c0_3 c0_4 c0_5 c0_6 c0_7 c0_8 c0_9 c0_10 c1_0 c1_1 c2_0 c2_1
  have hbs := HBS.out
  clear HBS
  have B0' := Lib.hid (box_below B0.out hbs)
  have B1' := Lib.hid (box_below B1.out hbs)
  have B2' := Lib.hid (box_below B2.out hbs)
  have hbn1 : Below w.heap.size w wq := bel_then hbV hbs hbV.size
  clear B0
  have B0 := B0'
  clear B0'
  clear B1
  have B1 := B1'
  clear B1'
  clear B2
  have B2 := B2'
  clear B2'
  clear hbs
  have c0_0 : wq.cell? ⟨w.heap.size, 0, none⟩ = some (.int .i64 a0_0) := box_cell B0.out 0 _ rfl
  have c0_1 : wq.cell? ⟨w.heap.size, 1, none⟩ = some (.int .i64 a0_1) := box_cell B0.out 1 _ rfl
  have c0_2 : wq.cell? ⟨w.heap.size, 2, none⟩ = some (.int .i64 a0_2) := box_cell B0.out 2 _ rfl
  have c0_3 : wq.cell? ⟨w.heap.size, 3, none⟩ = some (.int .i64 a0_3) := box_cell B0.out 3 _ rfl
  have c0_4 : wq.cell? ⟨w.heap.size, 4, none⟩ = some (.int .i64 a0_4) := box_cell B0.out 4 _ rfl
  have c0_5 : wq.cell? ⟨w.heap.size, 5, none⟩ = some (.int .i64 a0_5) := box_cell B0.out 5 _ rfl
  have c0_6 : wq.cell? ⟨w.heap.size, 6, none⟩ = some (.int .i64 a0_6) := box_cell B0.out 6 _ rfl
  have c0_7 : wq.cell? ⟨w.heap.size, 7, none⟩ = some (.int .i64 a0_7) := box_cell B0.out 7 _ rfl
  have c0_8 : wq.cell? ⟨w.heap.size, 8, none⟩ = some (.int .i64 a0_8) := box_cell B0.out 8 _ rfl
  have c0_9 : wq.cell? ⟨w.heap.size, 9, none⟩ = some (.int .i64 a0_9) := box_cell B0.out 9 _ rfl
  have c0_10 : wq.cell? ⟨w.heap.size, 10, none⟩ = some (.int .i64 a0_10) := box_cell B0.out 10 _ rfl
  have c1_0 : wq.cell? ⟨w.heap.size + 1, 0, none⟩ = some (.int .i64 a1_0) := box_cell B1.out 0 _ rfl
  have c1_1 : wq.cell? ⟨w.heap.size + 1, 1, none⟩ = some (.int .i64 a1_1) := box_cell B1.out 1 _ rfl
  have c2_0 : wq.cell? ⟨w.heap.size + 1 + 1, 0, none⟩ = some (.int .i64 a2_0) := box_cell B2.out 0 _ rfl
  have c2_1 : wq.cell? ⟨w.heap.size + 1 + 1, 1, none⟩ = some (.int .i64 a2_1) := box_cell B2.out 1 _ rfl
  go_wp2_with fail
  go_cut [13, 14] (fun s13 s14 wx => ∃ bg : Nat, s13 = .pointer (some ⟨bg, 0, none⟩) ∧ s14 = .bool r1 ∧ Hid (wx.heap[bg]? = some (.cells #[.int .i64 r0_0, .int .i64 r0_1, .int .i64 r0_2, .int .i64 r0_3] 31)) ∧ Hid (Below wq.heap.size wq wx) ∧ wq.heap.size ≤ bg)
  case first =>
    go_region_held3 (fun w' => w'.cell? ⟨w.heap.size, 0, none⟩ = some (.int .i64 a0_0) ∧ w'.cell? ⟨w.heap.size, 1, none⟩ = some (.int .i64 a0_1) ∧ w'.cell? ⟨w.heap.size, 2, none⟩ = some (.int .i64 a0_2) ∧ w'.cell? ⟨w.heap.size, 3, none⟩ = some (.int .i64 a0_3) ∧ w'.cell? ⟨w.heap.size, 4, none⟩ = some (.int .i64 a0_4) ∧ w'.cell? ⟨w.heap.size, 5, none⟩ = some (.int .i64 a0_5) ∧ w'.cell? ⟨w.heap.size, 6, none⟩ = some (.int .i64 a0_6) ∧ w'.cell? ⟨w.heap.size, 7, none⟩ = some (.int .i64 a0_7) ∧ w'.cell? ⟨w.heap.size, 8, none⟩ = some (.int .i64 a0_8) ∧ w'.cell? ⟨w.heap.size, 9, none⟩ = some (.int .i64 a0_9) ∧ w'.cell? ⟨w.heap.size, 10, none⟩ = some (.int .i64 a0_10) ∧ w'.cell? ⟨w.heap.size + 1, 0, none⟩ = some (.int .i64 a1_0) ∧ w'.cell? ⟨w.heap.size + 1, 1, none⟩ = some (.int .i64 a1_1) ∧ w'.cell? ⟨w.heap.size + 1 + 1, 0, none⟩ = some (.int .i64 a2_0) ∧ w'.cell? ⟨w.heap.size + 1 + 1, 1, none⟩ = some (.int .i64 a2_1))
      (first | (go_keep; done) | exact ⟨far1 (by omega) (far1 (by omega) (far1 (by omega) (far1 (by omega) (czB0_0)))), far1 (by omega) (far1 (by omega) (far1 (by omega) (far1 (by omega) (czB0_1)))), far1 (by omega) (far1 (by omega) (far1 (by omega) (far1 (by omega) (czB0_2)))), far1 (by omega) (far1 (by omega) (far1 (by omega) (far1 (by omega) (czB0_3)))), far1 (by omega) (far1 (by omega) (far1 (by omega) (far1 (by omega) (czB0_4)))), far1 (by omega) (far1 (by omega) (far1 (by omega) (far1 (by omega) (czB0_5)))), far1 (by omega) (far1 (by omega) (far1 (by omega) (far1 (by omega) (czB0_6)))), far1 (by omega) (far1 (by omega) (far1 (by omega) (far1 (by omega) (czB0_7)))), far1 (by omega) (far1 (by omega) (far1 (by omega) (far1 (by omega) (czB0_8)))), far1 (by omega) (far1 (by omega) (far1 (by omega) (far1 (by omega) (czB0_9)))), far1 (by omega) (far1 (by omega) (far1 (by omega) (far1 (by omega) (czB0_10)))), far1 (by omega) (far1 (by omega) (far1 (by omega) (far1 (by omega) (czB1_0)))), far1 (by omega) (far1 (by omega) (far1 (by omega) (far1 (by omega) (czB1_1)))), far1 (by omega) (far1 (by omega) (far1 (by omega) (far1 (by omega) (czB2_0)))), far1 (by omega) (far1 (by omega) (far1 (by omega) (far1 (by omega) (czB2_1))))⟩ | (refine ⟨cell_keep hbf ?_, cell_keep hbf ?_, cell_keep hbf ?_, cell_keep hbf ?_, cell_keep hbf ?_, cell_keep hbf ?_, cell_keep hbf ?_, cell_keep hbf ?_, cell_keep hbf ?_, cell_keep hbf ?_, cell_keep hbf ?_, cell_keep hbf ?_, cell_keep hbf ?_, cell_keep hbf ?_, cell_keep hbf ?_⟩ <;> simp only [*]; done) | (refine ⟨cell_keep hbd2 ?_, cell_keep hbd2 ?_, cell_keep hbd2 ?_, cell_keep hbd2 ?_, cell_keep hbd2 ?_, cell_keep hbd2 ?_, cell_keep hbd2 ?_, cell_keep hbd2 ?_, cell_keep hbd2 ?_, cell_keep hbd2 ?_, cell_keep hbd2 ?_, cell_keep hbd2 ?_, cell_keep hbd2 ?_, cell_keep hbd2 ?_, cell_keep hbd2 ?_⟩ <;> simp only [*]; done) | (refine ⟨cell_keep hbd1 ?_, cell_keep hbd1 ?_, cell_keep hbd1 ?_, cell_keep hbd1 ?_, cell_keep hbd1 ?_, cell_keep hbd1 ?_, cell_keep hbd1 ?_, cell_keep hbd1 ?_, cell_keep hbd1 ?_, cell_keep hbd1 ?_, cell_keep hbd1 ?_, cell_keep hbd1 ?_, cell_keep hbd1 ?_, cell_keep hbd1 ?_, cell_keep hbd1 ?_⟩ <;> simp only [*]; done) | (refine ⟨cell_keep hbd0 ?_, cell_keep hbd0 ?_, cell_keep hbd0 ?_, cell_keep hbd0 ?_, cell_keep hbd0 ?_, cell_keep hbd0 ?_, cell_keep hbd0 ?_, cell_keep hbd0 ?_, cell_keep hbd0 ?_, cell_keep hbd0 ?_, cell_keep hbd0 ?_, cell_keep hbd0 ?_, cell_keep hbd0 ?_, cell_keep hbd0 ?_, cell_keep hbd0 ?_⟩ <;> simp only [*]; done) | go_keep)
      (first | (have hgo := hbd2; clear hgo; go_at_call 17; refine (HI.out _).mono ?_; rintro e w8 ⟨rfl, hbf⟩; have hbq3 : Below w7.heap.size w7 w8 := (by first | exact al0 hbf | exact al1 hbf); have hbz : Below wq.heap.size wq w8 := bel_then (undrew hbq0) (bel_then hbq1 (bel_then hbq2 hbq3 hbq2.size) hbq1.size) hbq0.size; have czB0_0 : w8.cell? ⟨w.heap.size, 0, none⟩ = some (.int .i64 a0_0) := box_cell (box_below B0.out hbz) 0 _ rfl; have czB0_1 : w8.cell? ⟨w.heap.size, 1, none⟩ = some (.int .i64 a0_1) := box_cell (box_below B0.out hbz) 1 _ rfl; have czB0_2 : w8.cell? ⟨w.heap.size, 2, none⟩ = some (.int .i64 a0_2) := box_cell (box_below B0.out hbz) 2 _ rfl; have czB0_3 : w8.cell? ⟨w.heap.size, 3, none⟩ = some (.int .i64 a0_3) := box_cell (box_below B0.out hbz) 3 _ rfl; have czB0_4 : w8.cell? ⟨w.heap.size, 4, none⟩ = some (.int .i64 a0_4) := box_cell (box_below B0.out hbz) 4 _ rfl; have czB0_5 : w8.cell? ⟨w.heap.size, 5, none⟩ = some (.int .i64 a0_5) := box_cell (box_below B0.out hbz) 5 _ rfl; have czB0_6 : w8.cell? ⟨w.heap.size, 6, none⟩ = some (.int .i64 a0_6) := box_cell (box_below B0.out hbz) 6 _ rfl; have czB0_7 : w8.cell? ⟨w.heap.size, 7, none⟩ = some (.int .i64 a0_7) := box_cell (box_below B0.out hbz) 7 _ rfl; have czB0_8 : w8.cell? ⟨w.heap.size, 8, none⟩ = some (.int .i64 a0_8) := box_cell (box_below B0.out hbz) 8 _ rfl; have czB0_9 : w8.cell? ⟨w.heap.size, 9, none⟩ = some (.int .i64 a0_9) := box_cell (box_below B0.out hbz) 9 _ rfl; have czB0_10 : w8.cell? ⟨w.heap.size, 10, none⟩ = some (.int .i64 a0_10) := box_cell (box_below B0.out hbz) 10 _ rfl; have czB1_0 : w8.cell? ⟨w.heap.size + 1, 0, none⟩ = some (.int .i64 a1_0) := box_cell (box_below B1.out hbz) 0 _ rfl; have czB1_1 : w8.cell? ⟨w.heap.size + 1, 1, none⟩ = some (.int .i64 a1_1) := box_cell (box_below B1.out hbz) 1 _ rfl; have czB2_0 : w8.cell? ⟨w.heap.size + 1 + 1, 0, none⟩ = some (.int .i64 a2_0) := box_cell (box_below B2.out hbz) 0 _ rfl; have czB2_1 : w8.cell? ⟨w.heap.size + 1 + 1, 1, none⟩ = some (.int .i64 a2_1) := box_cell (box_below B2.out hbz) 1 _ rfl; have hz0 := (undrew hbq0).size; have hz1 := hbq1.size; have hz2 := hbq2.size; have hz3 := hbq3.size; have hzb0 := box_lt B0.out; have hzb1 := box_lt B1.out; have hzb2 := box_lt B2.out; (try (have bz2 := box_below bz hbf; clear bz; have bz := bz2; clear bz2)); (try have bz := box_below (box_new _ (.cells #[.int .i64 0, .int .i64 0, .int .i64 0, .int .i64 0] 31)) hbf); (try have ez0 := box_cell bz 0 (.int .i64 0) rfl); (try have fz0 := box_frozen bz 0); (try have ez1 := box_cell bz 1 (.int .i64 0) rfl); (try have fz1 := box_frozen bz 1); (try have ez2 := box_cell bz 2 (.int .i64 0) rfl); (try have fz2 := box_frozen bz 2); (try have ez3 := box_cell bz 3 (.int .i64 0) rfl); (try have fz3 := box_frozen bz 3); (try have bZ := Lib.hid bz); (try clear bz)) | (have hgo := hbd1; clear hgo; go_at_call 25; refine (Cnt.toCount_any _ _ _).mono ?_; rintro e w7 ⟨rfl, hbd2⟩; have hbq2 : Below w6.heap.size w6 w7 := (by first | exact al0 hbd2 | exact al1 hbd2); (try (have bz2 := box_below bz hbd2; clear bz; have bz := bz2; clear bz2)); (try have bz := box_below (box_new _ (.cells #[.int .i64 0, .int .i64 0, .int .i64 0, .int .i64 0] 31)) hbd2); (try have hzz := box_lt bz)) | (have hgo := hbd0; clear hgo; go_at_call 25; refine (Cnt.toCount_any _ _ _).mono ?_; rintro e w6 ⟨rfl, hbd1⟩; have hbq1 : Below w5.heap.size w5 w6 := (by first | exact al0 hbd1 | exact al1 hbd1); (try (have bz2 := box_below bz hbd1; clear bz; have bz := bz2; clear bz2)); (try have bz := box_below (box_new _ (.cells #[.int .i64 0, .int .i64 0, .int .i64 0, .int .i64 0] 31)) hbd1); (try have hzz := box_lt bz)) | (go_at_call 29; refine (Sp.toSpec_any _ _ _ _ _ _ _ _ _ _ _ _).mono ?_; rintro e w5 ⟨rfl, hbd0⟩; have hbq0 : Below wq.drew.heap.size wq.drew w5 := (by first | exact al0 hbd0 | exact al1 hbd0); (try have bz := box_below (box_newd wq (.cells #[.int .i64 0, .int .i64 0, .int .i64 0, .int .i64 0] 31)) hbd0); (try have hzz := box_lt bz)))
    all_goals
      go_wp2_with fail
      go_meet
      case rel =>
        first
          | (with_reducible exact ⟨_, rfl, rfl, Lib.hid (box_new _ _), Lib.hid (hbz.alloc hbz.size _), by first | omega | (simp; omega)⟩)
          | (with_reducible exact ⟨_, rfl, rfl, Lib.hid (setMB bZ.out _ _ _ _), Lib.hid (Turned.low hbz (setMT (S := fun k => k = wq.heap.size) rfl _ _ _ _) (fun k hk => by omega) hbz.size), by first | exact Nat.le_refl _ | omega⟩)
          | (with_reducible exact ⟨_, rfl, rfl, Lib.hid (setMB bZ.out _ _ _ _), Lib.hid (Turned.low hbz (setMT (S := fun k => k = w5.heap.size) rfl _ _ _ _) (fun k hk => by omega) hbz.size), by first | exact Nat.le_refl _ | omega⟩)
          | (with_reducible exact ⟨_, rfl, rfl, Lib.hid (setMB bZ.out _ _ _ _), Lib.hid (Turned.low hbz (setMT (S := fun k => k = w6.heap.size) rfl _ _ _ _) (fun k hk => by omega) hbz.size), by first | exact Nat.le_refl _ | omega⟩)
          | (with_reducible exact ⟨_, rfl, rfl, Lib.hid (setMB bZ.out _ _ _ _), Lib.hid (Turned.low hbz (setMT (S := fun k => k = w7.heap.size) rfl _ _ _ _) (fun k hk => by omega) hbz.size), by first | exact Nat.le_refl _ | omega⟩)
  obtain ⟨wg, hwq⟩ : ∃ x, x = wc := ⟨_, rfl⟩
  subst hwq
  obtain ⟨bg, rfl, rfl, Bg, HBS, hlog⟩ := hcut
  clear c0_0 c0_1 c0_2 c0_3 c0_4 c0_5 c0_6 c0_7 c0_8 c0_9 c0_10 c1_0 c1_1 c2_0 c2_1
  have hbs := HBS.out
  clear HBS
  have Bq' := Lib.hid (box_below Bq.out hbs)
  clear Bq
  have Bq := Bq'
  clear Bq'
  have B0' := Lib.hid (box_below B0.out hbs)
  have B1' := Lib.hid (box_below B1.out hbs)
  have B2' := Lib.hid (box_below B2.out hbs)
  have hbn2 : Below w.heap.size w wg := bel_then hbn1 hbs hbn1.size
  clear B0
  have B0 := B0'
  clear B0'
  clear B1
  have B1 := B1'
  clear B1'
  clear B2
  have B2 := B2'
  clear B2'
  clear hbs
  have eq0 := box_cell Bq.out 0 _ rfl
  have eq1 := box_cell Bq.out 1 _ rfl
  have eq2 := box_cell Bq.out 2 _ rfl
  have eq3 := box_cell Bq.out 3 _ rfl
  have eg0 := box_cell Bg.out 0 _ rfl
  have eg1 := box_cell Bg.out 1 _ rfl
  have eg2 := box_cell Bg.out 2 _ rfl
  have eg3 := box_cell Bg.out 3 _ rfl
  go_wp2_with fail
  refine (Cnt.eqPlan_same _ _ _ _ _).mono ?_
  rintro e wE ⟨rfl, hbs⟩
  clear eq0 eq1 eq2 eq3 eg0 eg1 eg2 eg3
  have B0' := Lib.hid (box_below B0.out hbs)
  have B1' := Lib.hid (box_below B1.out hbs)
  have B2' := Lib.hid (box_below B2.out hbs)
  have hbn3 : Below w.heap.size w wE := bel_then hbn2 hbs hbn2.size
  clear B0
  have B0 := B0'
  clear B0'
  clear B1
  have B1 := B1'
  clear B1'
  clear B2
  have B2 := B2'
  clear B2'
  clear hbs
  have HB := Lib.hid hbn3
  clear hbn3
  go_wp2
  go_ret
  exact ⟨rfl, HB.out⟩
end Go.Proofs.Ytmmdpljimjfkdaa.LawPlanStep
