/-
  THE WALK of laws.FnExactTakeReport over this seat's translation: it answers true and turns nothing that was there, if the model and the program keep one contract.
-/
import Derived.Test.YtpnlnekgekfhgaaFleetTy
import Derived.Test.YtpnlnekgekfhgaaPodTop
namespace Go.Proofs.Ytpnlnekgekfhgaa.LawTakeReport
open Go.ChangeShapes Go.WideShapes Go.ChangeAt Go.RowKit
open Go.Proofs.Ytpnlnekgekfhgaa.LK
set_option linter.unusedVariables false

set_option maxRecDepth 100000 in
set_option maxHeartbeats 12800000 in
theorem walk (a0_0A : Option Addr) (a0_0n a0_0c : Nat) (a0_1 : Int) (d0 : FleetTy.fty.D) (a1_0 a1_1 a1_2 : Int) (a2 : Int) (r0 : FleetTy.fty.D) (r1 : Int) (w : World) (hr0 : FleetTy.fty.Rd w w.heap.size (.agg #[.slice a0_0A a0_0n a0_0c, .int .i64 a0_1]) d0) (hz0 : SzC 32 FleetTy.fty (.agg #[.slice a0_0A a0_0n a0_0c, .int .i64 a0_1]) d0 w) (hrf : FleetTy.fty.Few d0 → FleetTy.fty.Few r0) (hS : FleetTy.fty.Few d0 → ∀ (W : World) (B0 : Nat) (v0 : Value), FleetTy.fty.Rd W B0 v0 d0 → B0 ≤ W.heap.size → Calls Try.prog 15 #[v0, .agg #[.int .i64 a1_0, .int .i64 a1_1, .int .i64 a1_2], .int .i64 a2] W (Made1 FleetTy.fty r0 (.int .i64 r1) W)) (hI : FleetTy.fty.Few d0 → ∀ (W : World) (B0 : Nat) (v0 : Value), FleetTy.fty.Rd W B0 v0 d0 → B0 ≤ W.heap.size → Calls Try.prog 16 #[v0, .agg #[.int .i64 a1_0, .int .i64 a1_1, .int .i64 a1_2], .int .i64 a2] W (Made1 FleetTy.fty r0 (.int .i64 r1) W)) :
    Calls Try.prog 9 #[.agg #[.slice a0_0A a0_0n a0_0c, .int .i64 a0_1], .agg #[.int .i64 a1_0, .int .i64 a1_1, .int .i64 a1_2], .int .i64 a2] w fun e w' => e = .returned (.bool true) ∧ Below w.heap.size w w' := by
  have HR0 := Lib.hid hr0
  have HZ0 := Lib.hid hz0
  clear hr0 hz0
  have HS := Lib.hid hS
  have HI := Lib.hid hI
  clear hS hI
  have HRF := Lib.hid hrf
  clear hrf
  have hb0 : Below w.heap.size w ((w.alloc (.cells #[.slice a0_0A a0_0n a0_0c, .int .i64 a0_1] 60)).alloc (.cells #[.int .i64 a1_0, .int .i64 a1_1, .int .i64 a1_2] 72)) := bel2 _ _ _
  have BA0 : Hid (((w.alloc (.cells #[.slice a0_0A a0_0n a0_0c, .int .i64 a0_1] 60)).alloc (.cells #[.int .i64 a1_0, .int .i64 a1_1, .int .i64 a1_2] 72)).heap[w.heap.size]? = some (.cells #[.slice a0_0A a0_0n a0_0c, .int .i64 a0_1] 60)) := box_alloc (box_new w (.cells #[.slice a0_0A a0_0n a0_0c, .int .i64 a0_1] 60)) (.cells #[.int .i64 a1_0, .int .i64 a1_1, .int .i64 a1_2] 72)
  have BA1 : Hid (((w.alloc (.cells #[.slice a0_0A a0_0n a0_0c, .int .i64 a0_1] 60)).alloc (.cells #[.int .i64 a1_0, .int .i64 a1_1, .int .i64 a1_2] 72)).heap[w.heap.size + 1]? = some (.cells #[.int .i64 a1_0, .int .i64 a1_1, .int .i64 a1_2] 72)) := by have h := box_new (w.alloc (.cells #[.slice a0_0A a0_0n a0_0c, .int .i64 a0_1] 60)) (.cells #[.int .i64 a1_0, .int .i64 a1_1, .int .i64 a1_2] 72); simp only [World.size_alloc] at h; exact h
  have cBA0_0 : ((w.alloc (.cells #[.slice a0_0A a0_0n a0_0c, .int .i64 a0_1] 60)).alloc (.cells #[.int .i64 a1_0, .int .i64 a1_1, .int .i64 a1_2] 72)).cell? ⟨w.heap.size, 0, none⟩ = some (.slice a0_0A a0_0n a0_0c) := box_cell BA0.out 0 _ rfl
  have cBA0_1 : ((w.alloc (.cells #[.slice a0_0A a0_0n a0_0c, .int .i64 a0_1] 60)).alloc (.cells #[.int .i64 a1_0, .int .i64 a1_1, .int .i64 a1_2] 72)).cell? ⟨w.heap.size, 1, none⟩ = some (.int .i64 a0_1) := box_cell BA0.out 1 _ rfl
  have cBA1_0 : ((w.alloc (.cells #[.slice a0_0A a0_0n a0_0c, .int .i64 a0_1] 60)).alloc (.cells #[.int .i64 a1_0, .int .i64 a1_1, .int .i64 a1_2] 72)).cell? ⟨w.heap.size + 1, 0, none⟩ = some (.int .i64 a1_0) := box_cell BA1.out 0 _ rfl
  have cBA1_1 : ((w.alloc (.cells #[.slice a0_0A a0_0n a0_0c, .int .i64 a0_1] 60)).alloc (.cells #[.int .i64 a1_0, .int .i64 a1_1, .int .i64 a1_2] 72)).cell? ⟨w.heap.size + 1, 1, none⟩ = some (.int .i64 a1_1) := box_cell BA1.out 1 _ rfl
  have cBA1_2 : ((w.alloc (.cells #[.slice a0_0A a0_0n a0_0c, .int .i64 a0_1] 60)).alloc (.cells #[.int .i64 a1_0, .int .i64 a1_1, .int .i64 a1_2] 72)).cell? ⟨w.heap.size + 1, 2, none⟩ = some (.int .i64 a1_2) := box_cell BA1.out 2 _ rfl
  go_enter Try.func9, Try.ntmps9
  go_wp2_with fail
  refine (HZ0.out _ 1048576 hb0 (by omega) (by omega)).mono ?_
  rintro e w1 ⟨z0, rfl, hbs, hz0⟩
  clear cBA0_0 cBA0_1 cBA1_0 cBA1_1 cBA1_2
  have BA0' := Lib.hid (box_below BA0.out hbs)
  have BA1' := Lib.hid (box_below BA1.out hbs)
  have hbn1 : Below w.heap.size w w1 := bel_then hb0 hbs hb0.size
  have hsn1 := hbs.size
  simp only [World.size_alloc] at hsn1
  clear BA0
  clear BA1
  have BA0 := BA0'
  clear BA0'
  have BA1 := BA1'
  clear BA1'
  clear hbs
  rcases hz0 with rfl | ⟨hz0a, hz0b, hf0⟩
  · go_wp2
    go_ret
    exact ⟨rfl, hbn1⟩
  have HF0 := Lib.hid hf0
  clear hf0
  have hzd0 : decide (z0 < 0) = false := by simp; omega
  have cBA0_0 : w1.cell? ⟨w.heap.size, 0, none⟩ = some (.slice a0_0A a0_0n a0_0c) := box_cell BA0.out 0 _ rfl
  have cBA0_1 : w1.cell? ⟨w.heap.size, 1, none⟩ = some (.int .i64 a0_1) := box_cell BA0.out 1 _ rfl
  have cBA1_0 : w1.cell? ⟨w.heap.size + 1, 0, none⟩ = some (.int .i64 a1_0) := box_cell BA1.out 0 _ rfl
  have cBA1_1 : w1.cell? ⟨w.heap.size + 1, 1, none⟩ = some (.int .i64 a1_1) := box_cell BA1.out 1 _ rfl
  have cBA1_2 : w1.cell? ⟨w.heap.size + 1, 2, none⟩ = some (.int .i64 a1_2) := box_cell BA1.out 2 _ rfl
  have HRF2 := Lib.hid (HRF.out HF0.out)
  have HS2 := Lib.hid (HS.out HF0.out)
  have HI2 := Lib.hid (HI.out HF0.out)
  clear HS HI
  have HTO0 : Hid (ToC 33 FleetTy.fty) := FleetTy.toFleet_any
  have HEQ0 : Hid (EqC 35 FleetTy.fty) := FleetTy.eqFleet_any
  have HMARK0 : Hid (MarkC 38 FleetTy.fty) := FleetTy.markFleet_any
  have HREQ : Hid (EqC 35 FleetTy.fty) := FleetTy.eqFleet_any
  have HRMARK : Hid (MarkC 38 FleetTy.fty) := FleetTy.markFleet_any
  have HRHELD : Hid (HeldC 39 FleetTy.fty) := FleetTy.heldFleet_any
  have cBA0_0 : w1.cell? ⟨w.heap.size, 0, none⟩ = some (.slice a0_0A a0_0n a0_0c) := box_cell BA0.out 0 _ rfl
  have cBA0_1 : w1.cell? ⟨w.heap.size, 1, none⟩ = some (.int .i64 a0_1) := box_cell BA0.out 1 _ rfl
  have cBA1_0 : w1.cell? ⟨w.heap.size + 1, 0, none⟩ = some (.int .i64 a1_0) := box_cell BA1.out 0 _ rfl
  have cBA1_1 : w1.cell? ⟨w.heap.size + 1, 1, none⟩ = some (.int .i64 a1_1) := box_cell BA1.out 1 _ rfl
  have cBA1_2 : w1.cell? ⟨w.heap.size + 1, 2, none⟩ = some (.int .i64 a1_2) := box_cell BA1.out 2 _ rfl
  go_wp2_with fail
  go_cut [8, 9] (fun s8 s9 wx => ∃ (bq : Nat) (q_0A : Option Addr) (q_0n q_0c : Nat) (q_1 : Int) (Sq : Nat → Prop), s8 = .pointer (some ⟨bq, 0, none⟩) ∧ s9 = .int .i64 r1 ∧ Hid (wx.heap[bq]? = some (.cells #[.slice q_0A q_0n q_0c, .int .i64 q_1] 26)) ∧ Hid (Has FleetTy.fty wx w1.heap.size wx.heap.size Sq (.agg #[.slice q_0A q_0n q_0c, .int .i64 q_1]) r0) ∧ Hid (Below w1.heap.size w1 wx) ∧ w1.heap.size ≤ bq ∧ Hid (∀ k, Sq k → k ≠ bq))
  case first =>
    go_region_held3 (fun w' => w'.cell? ⟨w.heap.size, 0, none⟩ = some (.slice a0_0A a0_0n a0_0c) ∧ w'.cell? ⟨w.heap.size, 1, none⟩ = some (.int .i64 a0_1) ∧ w'.cell? ⟨w.heap.size + 1, 0, none⟩ = some (.int .i64 a1_0) ∧ w'.cell? ⟨w.heap.size + 1, 1, none⟩ = some (.int .i64 a1_1) ∧ w'.cell? ⟨w.heap.size + 1, 2, none⟩ = some (.int .i64 a1_2))
      (first | (go_keep; done) | exact ⟨far1 (by omega) (far1 (by omega) (cz0_0)), far1 (by omega) (far1 (by omega) (cz0_1)), far1 (by omega) (far1 (by omega) (cz1_0)), far1 (by omega) (far1 (by omega) (cz1_1)), far1 (by omega) (far1 (by omega) (cz1_2))⟩ | (refine ⟨cell_keep hbf ?_, cell_keep hbf ?_, cell_keep hbf ?_, cell_keep hbf ?_, cell_keep hbf ?_⟩ <;> simp only [*]; done) | (refine ⟨cell_keep hbd1 ?_, cell_keep hbd1 ?_, cell_keep hbd1 ?_, cell_keep hbd1 ?_, cell_keep hbd1 ?_⟩ <;> simp only [*]; done) | (refine ⟨cell_keep hbd0 ?_, cell_keep hbd0 ?_, cell_keep hbd0 ?_, cell_keep hbd0 ?_, cell_keep hbd0 ?_⟩ <;> simp only [*]; done) | go_keep)
      (first | (have hgo := hbd1; clear hgo; go_at_call 15; refine (HS2.out _ _ _ (by first | exact (Od0.out.below hbq1).rd | exact ((Od0.out.below hbq1).alloc _).rd) (by exact Nat.le_refl _)).mono ?_; rintro e w4 ⟨q, Sq, rfl, hOf, hbf⟩; obtain ⟨q_0A, q_0n, q_0c, q_1, rfl⟩ := FleetTy.shape hOf; have hbq2 : Below w3.heap.size w3 w4 := (by first | exact al0 hbf | exact al1 hbf); have hbz : Below w1.heap.size w1 w4 := bel_then (undrew hbq0) (bel_then hbq1 hbq2 hbq1.size) hbq0.size; have cz0_0 : w4.cell? ⟨w.heap.size, 0, none⟩ = some (.slice a0_0A a0_0n a0_0c) := box_cell (box_below BA0.out hbz) 0 _ rfl; have cz0_1 : w4.cell? ⟨w.heap.size, 1, none⟩ = some (.int .i64 a0_1) := box_cell (box_below BA0.out hbz) 1 _ rfl; have cz1_0 : w4.cell? ⟨w.heap.size + 1, 0, none⟩ = some (.int .i64 a1_0) := box_cell (box_below BA1.out hbz) 0 _ rfl; have cz1_1 : w4.cell? ⟨w.heap.size + 1, 1, none⟩ = some (.int .i64 a1_1) := box_cell (box_below BA1.out hbz) 1 _ rfl; have cz1_2 : w4.cell? ⟨w.heap.size + 1, 2, none⟩ = some (.int .i64 a1_2) := box_cell (box_below BA1.out hbz) 2 _ rfl; have hz0 := (undrew hbq0).size; have hz1 := hbq1.size; have hz2 := hbq2.size; have hzb0 := box_lt BA0.out; have hzb1 := box_lt BA1.out; (try (have bz2 := box_below bz hbf; clear bz; have bz := bz2; clear bz2)); (try have bz := box_below (box_new _ (.cells #[.slice none 0 0, .int .i64 0] 26)) hbf); (try have ez0 := box_cell bz 0 (.slice none 0 0) rfl); (try have fz0 := box_frozen bz 0); (try have ez1 := box_cell bz 1 (.int .i64 0) rfl); (try have fz1 := box_frozen bz 1); (try have bZ := Lib.hid bz); (try clear bz)) | (have hgo := hbd0; clear hgo; go_at_call 44; refine (PodTop.toReport_any _ _ _ _).mono ?_; rintro e w3 ⟨rfl, hbd1⟩; have hbq1 : Below w2.heap.size w2 w3 := (by first | exact al0 hbd1 | exact al1 hbd1); have hbp1 : Below w.heap.size w w3 := bel_then hbp0 hbq1 hbp0.size; (try (have bz2 := box_below bz hbd1; clear bz; have bz := bz2; clear bz2)); (try have bz := box_below (box_new _ (.cells #[.slice none 0 0, .int .i64 0] 26)) hbd1); (try have hzz := box_lt bz)) | (go_at_call 33; refine (HTO0.out _ w.heap.size _ d0 (by first | exact FleetTy.fty.rd_below HR0.out hbn1.drew (Nat.le_refl _) | exact FleetTy.fty.rd_below HR0.out (hbn1.drew.alloc hbn1.size _) (Nat.le_refl _)) (by first | exact hbn1.size | exact Nat.le_trans hbn1.size (Nat.le_of_lt (by simp))) HF0.out).mono ?_; rintro e w2 ⟨y0, Sy0, rfl, hOd0, hbd0⟩; have hbq0 : Below w1.drew.heap.size w1.drew w2 := (by first | exact al0 hbd0 | exact al1 hbd0); have Od0 := Lib.hid hOd0; clear hOd0; have hbp0 : Below w.heap.size w w2 := bel_then hbn1.drew hbq0 hbn1.size; (try have bz := box_below (box_newd w1 (.cells #[.slice none 0 0, .int .i64 0] 26)) hbd0); (try have hzz := box_lt bz)))
    all_goals
      go_wp2_with fail
      go_meet
      case rel =>
        first
          | (exact ⟨_, _, _, _, _, Sq, rfl, rfl, box_new _ _, (hOf.alloc _).grow (by omega) (by simp) (Nat.le_refl _), hbz.alloc hbz.size _, by first | omega | (simp; omega), fun k hk => by have h1 := hOf.inn k hk; omega⟩)
          | (exact ⟨_, _, _, _, _, Sq, rfl, rfl, (box_set (i := 1) (box_set (i := 0) bZ.out _) _), (hOf.turned ((Turned.set (S := fun k => k = w1.heap.size) _ _ _ rfl).trans (Turned.set (S := fun k => k = w1.heap.size) _ _ _ rfl)) (fun k hk e => by have h1 := hOf.inn k hk; first | omega | (simp only [World.size_alloc] at h1; omega))).grow (by first | omega | (simp only [World.size_alloc]; omega)) (by simp [World.setCell]) (Nat.le_refl _), Turned.low hbz ((Turned.set (S := fun k => k = w1.heap.size) _ _ _ rfl).trans (Turned.set (S := fun k => k = w1.heap.size) _ _ _ rfl)) (fun k hk => by omega) hbz.size, by first | exact Nat.le_refl _ | omega, fun k hk => by have h1 := hOf.inn k hk; first | omega | (simp only [World.size_alloc] at h1; omega)⟩)
          | (exact ⟨_, _, _, _, _, Sq, rfl, rfl, (box_set (i := 1) (box_set (i := 0) bZ.out _) _), (hOf.turned ((Turned.set (S := fun k => k = w2.heap.size) _ _ _ rfl).trans (Turned.set (S := fun k => k = w2.heap.size) _ _ _ rfl)) (fun k hk e => by have h1 := hOf.inn k hk; first | omega | (simp only [World.size_alloc] at h1; omega))).grow (by first | omega | (simp only [World.size_alloc]; omega)) (by simp [World.setCell]) (Nat.le_refl _), Turned.low hbz ((Turned.set (S := fun k => k = w2.heap.size) _ _ _ rfl).trans (Turned.set (S := fun k => k = w2.heap.size) _ _ _ rfl)) (fun k hk => by omega) hbz.size, by first | exact Nat.le_refl _ | omega, fun k hk => by have h1 := hOf.inn k hk; first | omega | (simp only [World.size_alloc] at h1; omega)⟩)
          | (exact ⟨_, _, _, _, _, Sq, rfl, rfl, (box_set (i := 1) (box_set (i := 0) bZ.out _) _), (hOf.turned ((Turned.set (S := fun k => k = w3.heap.size) _ _ _ rfl).trans (Turned.set (S := fun k => k = w3.heap.size) _ _ _ rfl)) (fun k hk e => by have h1 := hOf.inn k hk; first | omega | (simp only [World.size_alloc] at h1; omega))).grow (by first | omega | (simp only [World.size_alloc]; omega)) (by simp [World.setCell]) (Nat.le_refl _), Turned.low hbz ((Turned.set (S := fun k => k = w3.heap.size) _ _ _ rfl).trans (Turned.set (S := fun k => k = w3.heap.size) _ _ _ rfl)) (fun k hk => by omega) hbz.size, by first | exact Nat.le_refl _ | omega, fun k hk => by have h1 := hOf.inn k hk; first | omega | (simp only [World.size_alloc] at h1; omega)⟩)
  obtain ⟨wq, hwq⟩ : ∃ x, x = wc := ⟨_, rfl⟩
  subst hwq
  obtain ⟨bq, q_0A, q_0n, q_0c, q_1, Sq, rfl, rfl, Bq, Oq, HBS, hloq, NEq⟩ := hcut
  clear cBA0_0 cBA0_1 cBA1_0 cBA1_1 cBA1_2
  have hbs := HBS.out
  clear HBS
  have INOq : Hid (∀ k, Sq k → w1.heap.size ≤ k ∧ k < wq.heap.size) := fun k hk => by have h := Oq.out.inn k hk; first | exact h | (simp only [World.size_alloc] at h; exact h)
  have hltq := box_lt Bq.out
  have BA0' := Lib.hid (box_below BA0.out hbs)
  have BA1' := Lib.hid (box_below BA1.out hbs)
  have hbn2 : Below w.heap.size w wq := bel_then hbn1 hbs hbn1.size
  have hsn2 := hbs.size
  clear BA0
  clear BA1
  have BA0 := BA0'
  clear BA0'
  have BA1 := BA1'
  clear BA1'
  clear hbs
  have cBA0_0 : wq.cell? ⟨w.heap.size, 0, none⟩ = some (.slice a0_0A a0_0n a0_0c) := box_cell BA0.out 0 _ rfl
  have cBA0_1 : wq.cell? ⟨w.heap.size, 1, none⟩ = some (.int .i64 a0_1) := box_cell BA0.out 1 _ rfl
  have cBA1_0 : wq.cell? ⟨w.heap.size + 1, 0, none⟩ = some (.int .i64 a1_0) := box_cell BA1.out 0 _ rfl
  have cBA1_1 : wq.cell? ⟨w.heap.size + 1, 1, none⟩ = some (.int .i64 a1_1) := box_cell BA1.out 1 _ rfl
  have cBA1_2 : wq.cell? ⟨w.heap.size + 1, 2, none⟩ = some (.int .i64 a1_2) := box_cell BA1.out 2 _ rfl
  go_wp2_with fail
  refine (HTO0.out _ w.heap.size _ d0 (FleetTy.fty.rd_below HR0.out hbn2 (Nat.le_refl _)) hbn2.size HF0.out).mono ?_
  rintro e w5 ⟨x0, Sx0, rfl, hO, hbs⟩
  clear cBA0_0 cBA0_1 cBA1_0 cBA1_1 cBA1_2
  have BA0' := Lib.hid (box_below BA0.out hbs)
  have BA1' := Lib.hid (box_below BA1.out hbs)
  have Oq' := Lib.hid (Oq.out.below hbs)
  have Bq' := Lib.hid (box_below Bq.out hbs)
  have hbn3 : Below w.heap.size w w5 := bel_then hbn2 hbs hbn2.size
  have hsn3 := hbs.size
  clear BA0
  clear BA1
  clear Oq
  clear Bq
  have BA0 := BA0'
  clear BA0'
  have BA1 := BA1'
  clear BA1'
  have Oq := Oq'
  clear Oq'
  have Bq := Bq'
  clear Bq'
  clear hbs
  have Ox0 := Lib.hid hO
  have INOx0 : Hid (∀ k, Sx0 k → wq.heap.size ≤ k ∧ k < w5.heap.size) := fun k hk => by have h := Ox0.out.inn k hk; first | exact h | (simp only [World.size_alloc] at h; exact h)
  obtain ⟨x0_0A, x0_0n, x0_0c, x0_1, rfl⟩ := FleetTy.shape hO
  clear hO
  have BA0' := Lib.hid (box_alloc BA0.out (.cells #[.slice x0_0A x0_0n x0_0c, .int .i64 x0_1] 26))
  have BA1' := Lib.hid (box_alloc BA1.out (.cells #[.slice x0_0A x0_0n x0_0c, .int .i64 x0_1] 26))
  have Oq' := Lib.hid (Oq.out.alloc (.cells #[.slice x0_0A x0_0n x0_0c, .int .i64 x0_1] 26))
  have Bq' := Lib.hid (box_alloc Bq.out (.cells #[.slice x0_0A x0_0n x0_0c, .int .i64 x0_1] 26))
  have Ox0' := Lib.hid (Ox0.out.alloc (.cells #[.slice x0_0A x0_0n x0_0c, .int .i64 x0_1] 26))
  have hbn4 : Below w.heap.size w (w5.alloc (.cells #[.slice x0_0A x0_0n x0_0c, .int .i64 x0_1] 26)) := hbn3.alloc hbn3.size _
  clear BA0
  clear BA1
  clear Oq
  clear Bq
  clear Ox0
  have BA0 := BA0'
  clear BA0'
  have BA1 := BA1'
  clear BA1'
  have Oq := Oq'
  clear Oq'
  have Bq := Bq'
  clear Bq'
  have Ox0 := Ox0'
  clear Ox0'
  have Bx0 : Hid ((w5.alloc (.cells #[.slice x0_0A x0_0n x0_0c, .int .i64 x0_1] 26)).heap[w5.heap.size]? = some (.cells #[.slice x0_0A x0_0n x0_0c, .int .i64 x0_1] 26)) := box_new w5 (.cells #[.slice x0_0A x0_0n x0_0c, .int .i64 x0_1] 26)
  have cBA1_0 : (w5.alloc (.cells #[.slice x0_0A x0_0n x0_0c, .int .i64 x0_1] 26)).cell? ⟨w.heap.size + 1, 0, none⟩ = some (.int .i64 a1_0) := box_cell BA1.out 0 _ rfl
  have cBA1_1 : (w5.alloc (.cells #[.slice x0_0A x0_0n x0_0c, .int .i64 x0_1] 26)).cell? ⟨w.heap.size + 1, 1, none⟩ = some (.int .i64 a1_1) := box_cell BA1.out 1 _ rfl
  have cBA1_2 : (w5.alloc (.cells #[.slice x0_0A x0_0n x0_0c, .int .i64 x0_1] 26)).cell? ⟨w.heap.size + 1, 2, none⟩ = some (.int .i64 a1_2) := box_cell BA1.out 2 _ rfl
  have cBx0_0 : (w5.alloc (.cells #[.slice x0_0A x0_0n x0_0c, .int .i64 x0_1] 26)).cell? ⟨w5.heap.size, 0, none⟩ = some (.slice x0_0A x0_0n x0_0c) := box_cell Bx0.out 0 _ rfl
  have cBx0_1 : (w5.alloc (.cells #[.slice x0_0A x0_0n x0_0c, .int .i64 x0_1] 26)).cell? ⟨w5.heap.size, 1, none⟩ = some (.int .i64 x0_1) := box_cell Bx0.out 1 _ rfl
  go_wp2_with fail
  obtain ⟨w6, hwz⟩ : ∃ x, x = (w5.alloc (.cells #[.slice x0_0A x0_0n x0_0c, .int .i64 x0_1] 26)) := ⟨_, rfl⟩
  have hwzaw6 : w5.heap.size + 1 ≤ w6.heap.size ∧ w6.heap.size ≤ w5.heap.size + 1 := by rw [hwz]; simp
  rw [← hwz] at BA0 BA1 Oq Bq Ox0 Bx0 cBA1_0 cBA1_1 cBA1_2 cBx0_0 cBx0_1 hbn4 ⊢
  obtain ⟨hwzbw6, hwzcw6⟩ := hwzaw6
  clear hwz
  go_cut [11, 12] (fun s11 s12 wx => ∃ (bg : Nat) (g_0A : Option Addr) (g_0n g_0c : Nat) (g_1 : Int) (Sg : Nat → Prop), s11 = .pointer (some ⟨bg, 0, none⟩) ∧ s12 = .int .i64 r1 ∧ Hid (wx.heap[bg]? = some (.cells #[.slice g_0A g_0n g_0c, .int .i64 g_1] 26)) ∧ Hid (Has FleetTy.fty wx w6.heap.size wx.heap.size Sg (.agg #[.slice g_0A g_0n g_0c, .int .i64 g_1]) r0) ∧ Hid (Below w6.heap.size w6 wx) ∧ w6.heap.size ≤ bg ∧ Hid (∀ k, Sg k → k ≠ bg))
  case first =>
    go_region_held3 (fun w' => w'.cell? ⟨w.heap.size + 1, 0, none⟩ = some (.int .i64 a1_0) ∧ w'.cell? ⟨w.heap.size + 1, 1, none⟩ = some (.int .i64 a1_1) ∧ w'.cell? ⟨w.heap.size + 1, 2, none⟩ = some (.int .i64 a1_2) ∧ w'.cell? ⟨w5.heap.size, 0, none⟩ = some (.slice x0_0A x0_0n x0_0c) ∧ w'.cell? ⟨w5.heap.size, 1, none⟩ = some (.int .i64 x0_1))
      (first | (go_keep; done) | exact ⟨far1 (by omega) (far1 (by omega) (cz0_0)), far1 (by omega) (far1 (by omega) (cz0_1)), far1 (by omega) (far1 (by omega) (cz0_2)), far1 (by omega) (far1 (by omega) (cz1_0)), far1 (by omega) (far1 (by omega) (cz1_1))⟩ | (refine ⟨cell_keep hbf ?_, cell_keep hbf ?_, cell_keep hbf ?_, cell_keep hbf ?_, cell_keep hbf ?_⟩ <;> simp only [*]; done) | (refine ⟨cell_keep hbd0 ?_, cell_keep hbd0 ?_, cell_keep hbd0 ?_, cell_keep hbd0 ?_, cell_keep hbd0 ?_⟩ <;> simp only [*]; done) | go_keep)
      (first | (have hgo := hbd0; clear hgo; go_at_call 16; refine (HI2.out _ _ _ (by first | exact (Ox0.out.below (undrew hbq0)).rd | exact ((Ox0.out.below (undrew hbq0)).alloc _).rd) (by exact Nat.le_refl _)).mono ?_; rintro e w8 ⟨g, Sg, rfl, hOf, hbf⟩; obtain ⟨g_0A, g_0n, g_0c, g_1, rfl⟩ := FleetTy.shape hOf; have hbq1 : Below w7.heap.size w7 w8 := (by first | exact al0 hbf | exact al1 hbf); have hbz : Below w6.heap.size w6 w8 := bel_then (undrew hbq0) (hbq1) hbq0.size; have cz0_0 : w8.cell? ⟨w.heap.size + 1, 0, none⟩ = some (.int .i64 a1_0) := box_cell (box_below BA1.out hbz) 0 _ rfl; have cz0_1 : w8.cell? ⟨w.heap.size + 1, 1, none⟩ = some (.int .i64 a1_1) := box_cell (box_below BA1.out hbz) 1 _ rfl; have cz0_2 : w8.cell? ⟨w.heap.size + 1, 2, none⟩ = some (.int .i64 a1_2) := box_cell (box_below BA1.out hbz) 2 _ rfl; have cz1_0 : w8.cell? ⟨w5.heap.size, 0, none⟩ = some (.slice x0_0A x0_0n x0_0c) := box_cell (box_below Bx0.out hbz) 0 _ rfl; have cz1_1 : w8.cell? ⟨w5.heap.size, 1, none⟩ = some (.int .i64 x0_1) := box_cell (box_below Bx0.out hbz) 1 _ rfl; have hz0 := (undrew hbq0).size; have hz1 := hbq1.size; have hzb0 := box_lt BA1.out; have hzb1 := box_lt Bx0.out; (try (have bz2 := box_below bz hbf; clear bz; have bz := bz2; clear bz2)); (try have bz := box_below (box_new _ (.cells #[.slice none 0 0, .int .i64 0] 26)) hbf); (try have ez0 := box_cell bz 0 (.slice none 0 0) rfl); (try have fz0 := box_frozen bz 0); (try have ez1 := box_cell bz 1 (.int .i64 0) rfl); (try have fz1 := box_frozen bz 1); (try have bZ := Lib.hid bz); (try clear bz)) | (go_at_call 44; refine (PodTop.toReport_any _ _ _ _).mono ?_; rintro e w7 ⟨rfl, hbd0⟩; have hbq0 : Below w6.drew.heap.size w6.drew w7 := (by first | exact al0 hbd0 | exact al1 hbd0); have hbp0 : Below w.heap.size w w7 := bel_then hbn4.drew hbq0 hbn4.size; (try have bz := box_below (box_newd w6 (.cells #[.slice none 0 0, .int .i64 0] 26)) hbd0); (try have hzz := box_lt bz)))
    all_goals
      go_wp2_with fail
      go_meet
      case rel =>
        first
          | (exact ⟨_, _, _, _, _, Sg, rfl, rfl, box_new _ _, (hOf.alloc _).grow (by omega) (by simp) (Nat.le_refl _), hbz.alloc hbz.size _, by first | omega | (simp; omega), fun k hk => by have h1 := hOf.inn k hk; omega⟩)
          | (exact ⟨_, _, _, _, _, Sg, rfl, rfl, (box_set (i := 1) (box_set (i := 0) bZ.out _) _), (hOf.turned ((Turned.set (S := fun k => k = w6.heap.size) _ _ _ rfl).trans (Turned.set (S := fun k => k = w6.heap.size) _ _ _ rfl)) (fun k hk e => by have h1 := hOf.inn k hk; first | omega | (simp only [World.size_alloc] at h1; omega))).grow (by first | omega | (simp only [World.size_alloc]; omega)) (by simp [World.setCell]) (Nat.le_refl _), Turned.low hbz ((Turned.set (S := fun k => k = w6.heap.size) _ _ _ rfl).trans (Turned.set (S := fun k => k = w6.heap.size) _ _ _ rfl)) (fun k hk => by omega) hbz.size, by first | exact Nat.le_refl _ | omega, fun k hk => by have h1 := hOf.inn k hk; first | omega | (simp only [World.size_alloc] at h1; omega)⟩)
          | (exact ⟨_, _, _, _, _, Sg, rfl, rfl, (box_set (i := 1) (box_set (i := 0) bZ.out _) _), (hOf.turned ((Turned.set (S := fun k => k = w7.heap.size) _ _ _ rfl).trans (Turned.set (S := fun k => k = w7.heap.size) _ _ _ rfl)) (fun k hk e => by have h1 := hOf.inn k hk; first | omega | (simp only [World.size_alloc] at h1; omega))).grow (by first | omega | (simp only [World.size_alloc]; omega)) (by simp [World.setCell]) (Nat.le_refl _), Turned.low hbz ((Turned.set (S := fun k => k = w7.heap.size) _ _ _ rfl).trans (Turned.set (S := fun k => k = w7.heap.size) _ _ _ rfl)) (fun k hk => by omega) hbz.size, by first | exact Nat.le_refl _ | omega, fun k hk => by have h1 := hOf.inn k hk; first | omega | (simp only [World.size_alloc] at h1; omega)⟩)
  obtain ⟨wg, hwq⟩ : ∃ x, x = wc := ⟨_, rfl⟩
  subst hwq
  obtain ⟨bg, g_0A, g_0n, g_0c, g_1, Sg, rfl, rfl, Bg, Og, HBS, hlog, NEg⟩ := hcut
  clear cBA1_0 cBA1_1 cBA1_2 cBx0_0 cBx0_1
  have hbs := HBS.out
  clear HBS
  have INOg : Hid (∀ k, Sg k → w6.heap.size ≤ k ∧ k < wg.heap.size) := fun k hk => by have h := Og.out.inn k hk; first | exact h | (simp only [World.size_alloc] at h; exact h)
  have hltg := box_lt Bg.out
  have BA0' := Lib.hid (box_below BA0.out hbs)
  have BA1' := Lib.hid (box_below BA1.out hbs)
  have Oq' := Lib.hid (Oq.out.below hbs)
  have Bq' := Lib.hid (box_below Bq.out hbs)
  have Ox0' := Lib.hid (Ox0.out.below hbs)
  have Bx0' := Lib.hid (box_below Bx0.out hbs)
  have hbn5 : Below w.heap.size w wg := bel_then hbn4 hbs hbn4.size
  have hsn5 := hbs.size
  clear BA0
  clear BA1
  clear Oq
  clear Bq
  clear Ox0
  clear Bx0
  have BA0 := BA0'
  clear BA0'
  have BA1 := BA1'
  clear BA1'
  have Oq := Oq'
  clear Oq'
  have Bq := Bq'
  clear Bq'
  have Ox0 := Ox0'
  clear Ox0'
  have Bx0 := Bx0'
  clear Bx0'
  clear hbs
  have cBg_0 : wg.cell? ⟨bg, 0, none⟩ = some (.slice g_0A g_0n g_0c) := box_cell Bg.out 0 _ rfl
  have cBg_1 : wg.cell? ⟨bg, 1, none⟩ = some (.int .i64 g_1) := box_cell Bg.out 1 _ rfl
  have cBq_0 : wg.cell? ⟨bq, 0, none⟩ = some (.slice q_0A q_0n q_0c) := box_cell Bq.out 0 _ rfl
  have cBq_1 : wg.cell? ⟨bq, 1, none⟩ = some (.int .i64 q_1) := box_cell Bq.out 1 _ rfl
  go_wp2_with fail
  refine (HREQ.out _ _ _ _ _ r0 Og.out.rd Oq.out.rd (Nat.le_refl _) (Nat.le_refl _) HRF2.out).mono ?_
  rintro e w9 ⟨rfl, hbs⟩
  clear cBg_0 cBg_1 cBq_0 cBq_1
  have BA0' := Lib.hid (box_below BA0.out hbs)
  have BA1' := Lib.hid (box_below BA1.out hbs)
  have Oq' := Lib.hid (Oq.out.below hbs)
  have Bq' := Lib.hid (box_below Bq.out hbs)
  have Ox0' := Lib.hid (Ox0.out.below hbs)
  have Bx0' := Lib.hid (box_below Bx0.out hbs)
  have Og' := Lib.hid (Og.out.below hbs)
  have Bg' := Lib.hid (box_below Bg.out hbs)
  have hbn6 : Below w.heap.size w w9 := bel_then hbn5 hbs hbn5.size
  have hsn6 := hbs.size
  clear BA0
  clear BA1
  clear Oq
  clear Bq
  clear Ox0
  clear Bx0
  clear Og
  clear Bg
  have BA0 := BA0'
  clear BA0'
  have BA1 := BA1'
  clear BA1'
  have Oq := Oq'
  clear Oq'
  have Bq := Bq'
  clear Bq'
  have Ox0 := Ox0'
  clear Ox0'
  have Bx0 := Bx0'
  clear Bx0'
  have Og := Og'
  clear Og'
  have Bg := Bg'
  clear Bg'
  clear hbs
  have cBA0_0 : w9.cell? ⟨w.heap.size, 0, none⟩ = some (.slice a0_0A a0_0n a0_0c) := box_cell BA0.out 0 _ rfl
  have cBA0_1 : w9.cell? ⟨w.heap.size, 1, none⟩ = some (.int .i64 a0_1) := box_cell BA0.out 1 _ rfl
  have cBx0_0 : w9.cell? ⟨w5.heap.size, 0, none⟩ = some (.slice x0_0A x0_0n x0_0c) := box_cell Bx0.out 0 _ rfl
  have cBx0_1 : w9.cell? ⟨w5.heap.size, 1, none⟩ = some (.int .i64 x0_1) := box_cell Bx0.out 1 _ rfl
  go_wp2_with fail
  go_region_held3 (fun w' => w'.cell? ⟨w.heap.size, 0, none⟩ = some (.slice a0_0A a0_0n a0_0c) ∧ w'.cell? ⟨w.heap.size, 1, none⟩ = some (.int .i64 a0_1) ∧ w'.cell? ⟨w5.heap.size, 0, none⟩ = some (.slice x0_0A x0_0n x0_0c) ∧ w'.cell? ⟨w5.heap.size, 1, none⟩ = some (.int .i64 x0_1))
    (first | go_keep | (refine ⟨cell_keep hb7 ?_, cell_keep hb7 ?_, cell_keep hb7 ?_, cell_keep hb7 ?_⟩ <;> simp only [*]) | (refine ⟨cell_keep hb8 ?_, cell_keep hb8 ?_, cell_keep hb8 ?_, cell_keep hb8 ?_⟩ <;> simp only [*]))
    (first | (go_at_call 33; refine (HTO0.out _ w.heap.size _ d0 (by exact FleetTy.fty.rd_below HR0.out hbn6.drew (Nat.le_refl _)) (by exact hbn6.size) HF0.out).mono ?_; rintro e w10 ⟨t0, St0, rfl, hO7, hb7⟩; have hb7' : Below w9.heap.size w9 w10 := undrew hb7; have HO7 := Lib.hid hO7; clear hO7) | (go_at_call 35; refine (HEQ0.out _ _ _ _ _ d0 (by exact (Ox0.out.below hb7').rd) (by exact HO7.out.rd) (by exact Nat.le_refl _) (by exact Nat.le_refl _) HF0.out).mono ?_; rintro e w11 ⟨rfl, hb8⟩))
  have hbs : Below w9.heap.size w9 w11 := bel_then hb7' hb8 hb7'.size
  clear hb7 hb7' hb8 HO7
  clear cBA0_0 cBA0_1 cBx0_0 cBx0_1
  have BA0' := Lib.hid (box_below BA0.out hbs)
  have BA1' := Lib.hid (box_below BA1.out hbs)
  have Oq' := Lib.hid (Oq.out.below hbs)
  have Bq' := Lib.hid (box_below Bq.out hbs)
  have Ox0' := Lib.hid (Ox0.out.below hbs)
  have Bx0' := Lib.hid (box_below Bx0.out hbs)
  have Og' := Lib.hid (Og.out.below hbs)
  have Bg' := Lib.hid (box_below Bg.out hbs)
  have hbn7 : Below w.heap.size w w11 := bel_then hbn6 hbs hbn6.size
  have hsn7 := hbs.size
  clear BA0
  clear BA1
  clear Oq
  clear Bq
  clear Ox0
  clear Bx0
  clear Og
  clear Bg
  have BA0 := BA0'
  clear BA0'
  have BA1 := BA1'
  clear BA1'
  have Oq := Oq'
  clear Oq'
  have Bq := Bq'
  clear Bq'
  have Ox0 := Ox0'
  clear Ox0'
  have Bx0 := Bx0'
  clear Bx0'
  have Og := Og'
  clear Og'
  have Bg := Bg'
  clear Bg'
  clear hbs
  have cBx0_0 : w11.cell? ⟨w5.heap.size, 0, none⟩ = some (.slice x0_0A x0_0n x0_0c) := box_cell Bx0.out 0 _ rfl
  have cBx0_1 : w11.cell? ⟨w5.heap.size, 1, none⟩ = some (.int .i64 x0_1) := box_cell Bx0.out 1 _ rfl
  go_wp2_with fail
  refine (HMARK0.out _ _ _ _ _ d0 1 Ox0.out HF0.out (by omega) (by omega)).mono ?_
  rintro e w12 ⟨rfl, hO, ht⟩
  clear cBx0_0 cBx0_1
  obtain ⟨k0, hk0⟩ : ∃ k : Int, k = 1 + (FleetTy.fty.cnt d0 : Int) := ⟨_, rfl⟩
  have hk0a : 0 ≤ k0 ∧ k0 ≤ 30000000 := by have := FleetTy.fty.few_cnt HF0.out; omega
  obtain ⟨hk0b, hk0c⟩ := hk0a
  have hk0d : decide (k0 < 0) = false := by simp; omega
  rw [← hk0]
  clear hk0
  clear Ox0
  clear Bx0
  clear hO
  have BA0' := Lib.hid (box_turned BA0.out ht (fun h => by first | (have := INOx0.out _ h; omega) | exact NEg.out _ h rfl))
  have BA1' := Lib.hid (box_turned BA1.out ht (fun h => by first | (have := INOx0.out _ h; omega) | exact NEg.out _ h rfl))
  have Oq' := Lib.hid (Oq.out.turned ht (fun k h h' => by have := INOx0.out k h'; have := INOq.out k h; omega))
  have Bq' := Lib.hid (box_turned Bq.out ht (fun h => by first | (have := INOx0.out _ h; omega) | exact NEg.out _ h rfl))
  have Og' := Lib.hid (Og.out.turned ht (fun k h h' => by have := INOx0.out k h'; have := INOg.out k h; omega))
  have Bg' := Lib.hid (box_turned Bg.out ht (fun h => by first | (have := INOx0.out _ h; omega) | exact NEg.out _ h rfl))
  have hbn8 : Below w.heap.size w w12 := Turned.low hbn7 ht (fun k h => by have := INOx0.out k h; omega) hbn7.size
  have hsn8 := ht.size
  clear BA0
  clear BA1
  clear Oq
  clear Bq
  clear Og
  clear Bg
  have BA0 := BA0'
  clear BA0'
  have BA1 := BA1'
  clear BA1'
  have Oq := Oq'
  clear Oq'
  have Bq := Bq'
  clear Bq'
  have Og := Og'
  clear Og'
  have Bg := Bg'
  clear Bg'
  clear ht
  have cBg_0 : w12.cell? ⟨bg, 0, none⟩ = some (.slice g_0A g_0n g_0c) := box_cell Bg.out 0 _ rfl
  have cBg_1 : w12.cell? ⟨bg, 1, none⟩ = some (.int .i64 g_1) := box_cell Bg.out 1 _ rfl
  have cBq_0 : w12.cell? ⟨bq, 0, none⟩ = some (.slice q_0A q_0n q_0c) := box_cell Bq.out 0 _ rfl
  have cBq_1 : w12.cell? ⟨bq, 1, none⟩ = some (.int .i64 q_1) := box_cell Bq.out 1 _ rfl
  go_wp2_with fail
  refine (HREQ.out _ _ _ _ _ r0 Og.out.rd Oq.out.rd (Nat.le_refl _) (Nat.le_refl _) HRF2.out).mono ?_
  rintro e w13 ⟨rfl, hbs⟩
  clear cBg_0 cBg_1 cBq_0 cBq_1
  have BA0' := Lib.hid (box_below BA0.out hbs)
  have BA1' := Lib.hid (box_below BA1.out hbs)
  have Oq' := Lib.hid (Oq.out.below hbs)
  have Bq' := Lib.hid (box_below Bq.out hbs)
  have Og' := Lib.hid (Og.out.below hbs)
  have Bg' := Lib.hid (box_below Bg.out hbs)
  have hbn9 : Below w.heap.size w w13 := bel_then hbn8 hbs hbn8.size
  have hsn9 := hbs.size
  clear BA0
  clear BA1
  clear Oq
  clear Bq
  clear Og
  clear Bg
  have BA0 := BA0'
  clear BA0'
  have BA1 := BA1'
  clear BA1'
  have Oq := Oq'
  clear Oq'
  have Bq := Bq'
  clear Bq'
  have Og := Og'
  clear Og'
  have Bg := Bg'
  clear Bg'
  clear hbs
  have cBg_0 : w13.cell? ⟨bg, 0, none⟩ = some (.slice g_0A g_0n g_0c) := box_cell Bg.out 0 _ rfl
  have cBg_1 : w13.cell? ⟨bg, 1, none⟩ = some (.int .i64 g_1) := box_cell Bg.out 1 _ rfl
  go_wp2_with fail
  refine (HRMARK.out _ _ _ _ _ r0 1 Og.out HRF2.out (by omega) (by omega)).mono ?_
  rintro e w14 ⟨rfl, hO, ht⟩
  clear cBg_0 cBg_1
  have HELD : Hid (∀ (W : World) (B : Nat), FleetTy.fty.Rd W B (.agg #[.slice g_0A g_0n g_0c, .int .i64 g_1]) (FleetTy.fty.mark 1 r0) → B ≤ W.heap.size → Calls Try.prog 39 #[(.agg #[.slice g_0A g_0n g_0c, .int .i64 g_1]), .int .i64 1] W (Says (.int .i64 (1 + FleetTy.fty.cnt r0)) W)) := fun W B h hB => HRHELD.out W B _ r0 1 h hB HRF2.out (by omega) (by omega)
  obtain ⟨M, hM⟩ : ∃ M : Int, M = 1 + (FleetTy.fty.cnt r0 : Int) := ⟨_, rfl⟩
  have hM0 : decide (M < 0) = false := by have := FleetTy.fty.few_cnt HRF2.out; simp; omega
  have hM1 : ¬ M < 0 := by simpa using hM0
  rw [← hM] at HELD ⊢
  clear hM
  clear Og
  have HG := Lib.hid hO
  clear hO
  have BA0' := Lib.hid (box_turned BA0.out ht (fun h => by first | (have := INOg.out _ h; omega) | exact NEg.out _ h rfl))
  have BA1' := Lib.hid (box_turned BA1.out ht (fun h => by first | (have := INOg.out _ h; omega) | exact NEg.out _ h rfl))
  have Oq' := Lib.hid (Oq.out.turned ht (fun k h h' => by have := INOg.out k h'; have := INOq.out k h; omega))
  have Bq' := Lib.hid (box_turned Bq.out ht (fun h => by first | (have := INOg.out _ h; omega) | exact NEg.out _ h rfl))
  have Bg' := Lib.hid (box_turned Bg.out ht (fun h => by first | (have := INOg.out _ h; omega) | exact NEg.out _ h rfl))
  have hbn10 : Below w.heap.size w w14 := Turned.low hbn9 ht (fun k h => by have := INOg.out k h; omega) hbn9.size
  have hsn10 := ht.size
  clear BA0
  clear BA1
  clear Oq
  clear Bq
  clear Bg
  have BA0 := BA0'
  clear BA0'
  have BA1 := BA1'
  clear BA1'
  have Oq := Oq'
  clear Oq'
  have Bq := Bq'
  clear Bq'
  have Bg := Bg'
  clear Bg'
  clear ht
  have INHG := INOg
  have cBg_0 : w14.cell? ⟨bg, 0, none⟩ = some (.slice g_0A g_0n g_0c) := box_cell Bg.out 0 _ rfl
  have cBg_1 : w14.cell? ⟨bg, 1, none⟩ = some (.int .i64 g_1) := box_cell Bg.out 1 _ rfl
  go_wp2_with fail
  refine (HELD.out _ _ HG.out.rd (Nat.le_refl _)).mono ?_
  rintro e w15 ⟨rfl, hbs⟩
  clear cBg_0 cBg_1
  have BA0' := Lib.hid (box_below BA0.out hbs)
  have BA1' := Lib.hid (box_below BA1.out hbs)
  have Oq' := Lib.hid (Oq.out.below hbs)
  have Bq' := Lib.hid (box_below Bq.out hbs)
  have Bg' := Lib.hid (box_below Bg.out hbs)
  have HG' := Lib.hid (HG.out.below hbs)
  have hbn11 : Below w.heap.size w w15 := bel_then hbn10 hbs hbn10.size
  have hsn11 := hbs.size
  clear BA0
  clear BA1
  clear Oq
  clear Bq
  clear Bg
  clear HG
  have BA0 := BA0'
  clear BA0'
  have BA1 := BA1'
  clear BA1'
  have Oq := Oq'
  clear Oq'
  have Bq := Bq'
  clear Bq'
  have Bg := Bg'
  clear Bg'
  have HG := HG'
  clear HG'
  clear hbs
  have cBA0_0 : w15.cell? ⟨w.heap.size, 0, none⟩ = some (.slice a0_0A a0_0n a0_0c) := box_cell BA0.out 0 _ rfl
  have cBA0_1 : w15.cell? ⟨w.heap.size, 1, none⟩ = some (.int .i64 a0_1) := box_cell BA0.out 1 _ rfl
  have cBA1_0 : w15.cell? ⟨w.heap.size + 1, 0, none⟩ = some (.int .i64 a1_0) := box_cell BA1.out 0 _ rfl
  have cBA1_1 : w15.cell? ⟨w.heap.size + 1, 1, none⟩ = some (.int .i64 a1_1) := box_cell BA1.out 1 _ rfl
  have cBA1_2 : w15.cell? ⟨w.heap.size + 1, 2, none⟩ = some (.int .i64 a1_2) := box_cell BA1.out 2 _ rfl
  go_wp2_with fail
  go_cut [16, 17] (fun s16 s17 wx => ∃ (bh : Nat) (h_0A : Option Addr) (h_0n h_0c : Nat) (h_1 : Int) (Sh : Nat → Prop), s16 = .pointer (some ⟨bh, 0, none⟩) ∧ s17 = .int .i64 r1 ∧ Hid (wx.heap[bh]? = some (.cells #[.slice h_0A h_0n h_0c, .int .i64 h_1] 26)) ∧ Hid (Has FleetTy.fty wx w15.heap.size wx.heap.size Sh (.agg #[.slice h_0A h_0n h_0c, .int .i64 h_1]) r0) ∧ Hid (Below w15.heap.size w15 wx) ∧ w15.heap.size ≤ bh ∧ Hid (∀ k, Sh k → k ≠ bh))
  case first =>
    go_region_held3 (fun w' => w'.cell? ⟨w.heap.size, 0, none⟩ = some (.slice a0_0A a0_0n a0_0c) ∧ w'.cell? ⟨w.heap.size, 1, none⟩ = some (.int .i64 a0_1) ∧ w'.cell? ⟨w.heap.size + 1, 0, none⟩ = some (.int .i64 a1_0) ∧ w'.cell? ⟨w.heap.size + 1, 1, none⟩ = some (.int .i64 a1_1) ∧ w'.cell? ⟨w.heap.size + 1, 2, none⟩ = some (.int .i64 a1_2))
      (first | (go_keep; done) | exact ⟨far1 (by omega) (far1 (by omega) (cz0_0)), far1 (by omega) (far1 (by omega) (cz0_1)), far1 (by omega) (far1 (by omega) (cz1_0)), far1 (by omega) (far1 (by omega) (cz1_1)), far1 (by omega) (far1 (by omega) (cz1_2))⟩ | (refine ⟨cell_keep hbf ?_, cell_keep hbf ?_, cell_keep hbf ?_, cell_keep hbf ?_, cell_keep hbf ?_⟩ <;> simp only [*]; done) | (refine ⟨cell_keep hbd1 ?_, cell_keep hbd1 ?_, cell_keep hbd1 ?_, cell_keep hbd1 ?_, cell_keep hbd1 ?_⟩ <;> simp only [*]; done) | (refine ⟨cell_keep hbd0 ?_, cell_keep hbd0 ?_, cell_keep hbd0 ?_, cell_keep hbd0 ?_, cell_keep hbd0 ?_⟩ <;> simp only [*]; done) | go_keep)
      (first | (have hgo := hbd1; clear hgo; go_at_call 16; refine (HI2.out _ _ _ (by first | exact (Od0.out.below hbq1).rd | exact ((Od0.out.below hbq1).alloc _).rd) (by exact Nat.le_refl _)).mono ?_; rintro e w18 ⟨h, Sh, rfl, hOf, hbf⟩; obtain ⟨h_0A, h_0n, h_0c, h_1, rfl⟩ := FleetTy.shape hOf; have hbq2 : Below w17.heap.size w17 w18 := (by first | exact al0 hbf | exact al1 hbf); have hbz : Below w15.heap.size w15 w18 := bel_then (undrew hbq0) (bel_then hbq1 hbq2 hbq1.size) hbq0.size; have cz0_0 : w18.cell? ⟨w.heap.size, 0, none⟩ = some (.slice a0_0A a0_0n a0_0c) := box_cell (box_below BA0.out hbz) 0 _ rfl; have cz0_1 : w18.cell? ⟨w.heap.size, 1, none⟩ = some (.int .i64 a0_1) := box_cell (box_below BA0.out hbz) 1 _ rfl; have cz1_0 : w18.cell? ⟨w.heap.size + 1, 0, none⟩ = some (.int .i64 a1_0) := box_cell (box_below BA1.out hbz) 0 _ rfl; have cz1_1 : w18.cell? ⟨w.heap.size + 1, 1, none⟩ = some (.int .i64 a1_1) := box_cell (box_below BA1.out hbz) 1 _ rfl; have cz1_2 : w18.cell? ⟨w.heap.size + 1, 2, none⟩ = some (.int .i64 a1_2) := box_cell (box_below BA1.out hbz) 2 _ rfl; have hz0 := (undrew hbq0).size; have hz1 := hbq1.size; have hz2 := hbq2.size; have hzb0 := box_lt BA0.out; have hzb1 := box_lt BA1.out; (try (have bz2 := box_below bz hbf; clear bz; have bz := bz2; clear bz2)); (try have bz := box_below (box_new _ (.cells #[.slice none 0 0, .int .i64 0] 26)) hbf); (try have ez0 := box_cell bz 0 (.slice none 0 0) rfl); (try have fz0 := box_frozen bz 0); (try have ez1 := box_cell bz 1 (.int .i64 0) rfl); (try have fz1 := box_frozen bz 1); (try have bZ := Lib.hid bz); (try clear bz)) | (have hgo := hbd0; clear hgo; go_at_call 44; refine (PodTop.toReport_any _ _ _ _).mono ?_; rintro e w17 ⟨rfl, hbd1⟩; have hbq1 : Below w16.heap.size w16 w17 := (by first | exact al0 hbd1 | exact al1 hbd1); have hbp1 : Below w.heap.size w w17 := bel_then hbp0 hbq1 hbp0.size; (try (have bz2 := box_below bz hbd1; clear bz; have bz := bz2; clear bz2)); (try have bz := box_below (box_new _ (.cells #[.slice none 0 0, .int .i64 0] 26)) hbd1); (try have hzz := box_lt bz)) | (go_at_call 33; refine (HTO0.out _ w.heap.size _ d0 (by first | exact FleetTy.fty.rd_below HR0.out hbn11.drew (Nat.le_refl _) | exact FleetTy.fty.rd_below HR0.out (hbn11.drew.alloc hbn11.size _) (Nat.le_refl _)) (by first | exact hbn11.size | exact Nat.le_trans hbn11.size (Nat.le_of_lt (by simp))) HF0.out).mono ?_; rintro e w16 ⟨u0, Su0, rfl, hOd0, hbd0⟩; have hbq0 : Below w15.drew.heap.size w15.drew w16 := (by first | exact al0 hbd0 | exact al1 hbd0); have Od0 := Lib.hid hOd0; clear hOd0; have hbp0 : Below w.heap.size w w16 := bel_then hbn11.drew hbq0 hbn11.size; (try have bz := box_below (box_newd w15 (.cells #[.slice none 0 0, .int .i64 0] 26)) hbd0); (try have hzz := box_lt bz)))
    all_goals
      go_wp2_with fail
      go_meet
      case rel =>
        first
          | (exact ⟨_, _, _, _, _, Sh, rfl, rfl, box_new _ _, (hOf.alloc _).grow (by omega) (by simp) (Nat.le_refl _), hbz.alloc hbz.size _, by first | omega | (simp; omega), fun k hk => by have h1 := hOf.inn k hk; omega⟩)
          | (exact ⟨_, _, _, _, _, Sh, rfl, rfl, (box_set (i := 1) (box_set (i := 0) bZ.out _) _), (hOf.turned ((Turned.set (S := fun k => k = w15.heap.size) _ _ _ rfl).trans (Turned.set (S := fun k => k = w15.heap.size) _ _ _ rfl)) (fun k hk e => by have h1 := hOf.inn k hk; first | omega | (simp only [World.size_alloc] at h1; omega))).grow (by first | omega | (simp only [World.size_alloc]; omega)) (by simp [World.setCell]) (Nat.le_refl _), Turned.low hbz ((Turned.set (S := fun k => k = w15.heap.size) _ _ _ rfl).trans (Turned.set (S := fun k => k = w15.heap.size) _ _ _ rfl)) (fun k hk => by omega) hbz.size, by first | exact Nat.le_refl _ | omega, fun k hk => by have h1 := hOf.inn k hk; first | omega | (simp only [World.size_alloc] at h1; omega)⟩)
          | (exact ⟨_, _, _, _, _, Sh, rfl, rfl, (box_set (i := 1) (box_set (i := 0) bZ.out _) _), (hOf.turned ((Turned.set (S := fun k => k = w16.heap.size) _ _ _ rfl).trans (Turned.set (S := fun k => k = w16.heap.size) _ _ _ rfl)) (fun k hk e => by have h1 := hOf.inn k hk; first | omega | (simp only [World.size_alloc] at h1; omega))).grow (by first | omega | (simp only [World.size_alloc]; omega)) (by simp [World.setCell]) (Nat.le_refl _), Turned.low hbz ((Turned.set (S := fun k => k = w16.heap.size) _ _ _ rfl).trans (Turned.set (S := fun k => k = w16.heap.size) _ _ _ rfl)) (fun k hk => by omega) hbz.size, by first | exact Nat.le_refl _ | omega, fun k hk => by have h1 := hOf.inn k hk; first | omega | (simp only [World.size_alloc] at h1; omega)⟩)
          | (exact ⟨_, _, _, _, _, Sh, rfl, rfl, (box_set (i := 1) (box_set (i := 0) bZ.out _) _), (hOf.turned ((Turned.set (S := fun k => k = w17.heap.size) _ _ _ rfl).trans (Turned.set (S := fun k => k = w17.heap.size) _ _ _ rfl)) (fun k hk e => by have h1 := hOf.inn k hk; first | omega | (simp only [World.size_alloc] at h1; omega))).grow (by first | omega | (simp only [World.size_alloc]; omega)) (by simp [World.setCell]) (Nat.le_refl _), Turned.low hbz ((Turned.set (S := fun k => k = w17.heap.size) _ _ _ rfl).trans (Turned.set (S := fun k => k = w17.heap.size) _ _ _ rfl)) (fun k hk => by omega) hbz.size, by first | exact Nat.le_refl _ | omega, fun k hk => by have h1 := hOf.inn k hk; first | omega | (simp only [World.size_alloc] at h1; omega)⟩)
  obtain ⟨wh, hwq⟩ : ∃ x, x = wc := ⟨_, rfl⟩
  subst hwq
  obtain ⟨bh, h_0A, h_0n, h_0c, h_1, Sh, rfl, rfl, Bh, Oh, HBS, hloh, NEh⟩ := hcut
  clear cBA0_0 cBA0_1 cBA1_0 cBA1_1 cBA1_2
  have hbs := HBS.out
  clear HBS
  have INOh : Hid (∀ k, Sh k → w15.heap.size ≤ k ∧ k < wh.heap.size) := fun k hk => by have h := Oh.out.inn k hk; first | exact h | (simp only [World.size_alloc] at h; exact h)
  have hlth := box_lt Bh.out
  have BA0' := Lib.hid (box_below BA0.out hbs)
  have BA1' := Lib.hid (box_below BA1.out hbs)
  have Oq' := Lib.hid (Oq.out.below hbs)
  have Bq' := Lib.hid (box_below Bq.out hbs)
  have Bg' := Lib.hid (box_below Bg.out hbs)
  have HG' := Lib.hid (HG.out.below hbs)
  have hbn12 : Below w.heap.size w wh := bel_then hbn11 hbs hbn11.size
  have hsn12 := hbs.size
  clear BA0
  clear BA1
  clear Oq
  clear Bq
  clear Bg
  clear HG
  have BA0 := BA0'
  clear BA0'
  have BA1 := BA1'
  clear BA1'
  have Oq := Oq'
  clear Oq'
  have Bq := Bq'
  clear Bq'
  have Bg := Bg'
  clear Bg'
  have HG := HG'
  clear HG'
  clear hbs
  have cBh_0 : wh.cell? ⟨bh, 0, none⟩ = some (.slice h_0A h_0n h_0c) := box_cell Bh.out 0 _ rfl
  have cBh_1 : wh.cell? ⟨bh, 1, none⟩ = some (.int .i64 h_1) := box_cell Bh.out 1 _ rfl
  have cBq_0 : wh.cell? ⟨bq, 0, none⟩ = some (.slice q_0A q_0n q_0c) := box_cell Bq.out 0 _ rfl
  have cBq_1 : wh.cell? ⟨bq, 1, none⟩ = some (.int .i64 q_1) := box_cell Bq.out 1 _ rfl
  go_wp2_with fail
  refine (HREQ.out _ _ _ _ _ r0 Oh.out.rd Oq.out.rd (Nat.le_refl _) (Nat.le_refl _) HRF2.out).mono ?_
  rintro e w19 ⟨rfl, hbs⟩
  clear cBh_0 cBh_1 cBq_0 cBq_1
  have BA0' := Lib.hid (box_below BA0.out hbs)
  have BA1' := Lib.hid (box_below BA1.out hbs)
  have Oq' := Lib.hid (Oq.out.below hbs)
  have Bq' := Lib.hid (box_below Bq.out hbs)
  have Bg' := Lib.hid (box_below Bg.out hbs)
  have HG' := Lib.hid (HG.out.below hbs)
  have Oh' := Lib.hid (Oh.out.below hbs)
  have Bh' := Lib.hid (box_below Bh.out hbs)
  have hbn13 : Below w.heap.size w w19 := bel_then hbn12 hbs hbn12.size
  have hsn13 := hbs.size
  clear BA0
  clear BA1
  clear Oq
  clear Bq
  clear Bg
  clear HG
  clear Oh
  clear Bh
  have BA0 := BA0'
  clear BA0'
  have BA1 := BA1'
  clear BA1'
  have Oq := Oq'
  clear Oq'
  have Bq := Bq'
  clear Bq'
  have Bg := Bg'
  clear Bg'
  have HG := HG'
  clear HG'
  have Oh := Oh'
  clear Oh'
  have Bh := Bh'
  clear Bh'
  clear hbs
  clear Oh
  clear Oq
  clear Bh
  clear Bq
  have cBg_0 : w19.cell? ⟨bg, 0, none⟩ = some (.slice g_0A g_0n g_0c) := box_cell Bg.out 0 _ rfl
  have cBg_1 : w19.cell? ⟨bg, 1, none⟩ = some (.int .i64 g_1) := box_cell Bg.out 1 _ rfl
  go_wp2_with fail
  refine (HELD.out _ _ HG.out.rd (Nat.le_refl _)).mono ?_
  rintro e w20 ⟨rfl, hbs⟩
  clear cBg_0 cBg_1
  go_wp2
  go_ret
  exact ⟨rfl, bel_then hbn13 hbs hbn13.size⟩
end Go.Proofs.Ytpnlnekgekfhgaa.LawTakeReport
