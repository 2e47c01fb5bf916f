/-
  THE WALK of laws.FnExactAppendRecord over this seat's translation: it answers true and turns nothing that was there, if the model and the program keep one contract.
-/
import Derived.Test.YtpghccbknlokcaaJour
import Derived.Test.YtpghccbknlokcaaRecTy
namespace Go.Proofs.Ytpghccbknlokcaa.LawAppendRecord
open Go.ChangeShapes Go.WideShapes Go.ChangeAt Go.RowKit
open Go.Proofs.Ytpghccbknlokcaa.LK
set_option linter.unusedVariables false

set_option maxRecDepth 100000 in
set_option maxHeartbeats 12800000 in
theorem walk (a0_0A : Option Addr) (a0_0n a0_0c : Nat) (a0_1A : Option Addr) (a0_1n a0_1c : Nat) (a0_2 : Int) (d0 : Jour.jty.D) (a1_0 : Int) (a1_1A : Option Addr) (a1_1n a1_1c : Nat) (d1 : RecTy.rty.D) (r0 : Jour.jty.D) (r1 : Bool) (w : World) (hr0 : Jour.jty.Rd w w.heap.size (.agg #[.slice a0_0A a0_0n a0_0c, .slice a0_1A a0_1n a0_1c, .int .i64 a0_2]) d0) (hz0 : SzC 27 Jour.jty (.agg #[.slice a0_0A a0_0n a0_0c, .slice a0_1A a0_1n a0_1c, .int .i64 a0_2]) d0 w) (hr1 : RecTy.rty.Rd w w.heap.size (.agg #[.int .i64 a1_0, .slice a1_1A a1_1n a1_1c]) d1) (hz1 : SzC 28 RecTy.rty (.agg #[.int .i64 a1_0, .slice a1_1A a1_1n a1_1c]) d1 w) (hrf : Jour.jty.Few d0 → RecTy.rty.Few d1 → Jour.jty.Few r0) (hS : Jour.jty.Few d0 → RecTy.rty.Few d1 → ∀ (W : World) (B0 : Nat) (v0 : Value) (B1 : Nat) (v1 : Value), Jour.jty.Rd W B0 v0 d0 → B0 ≤ W.heap.size → RecTy.rty.Rd W B1 v1 d1 → B1 ≤ W.heap.size → Calls Try.prog 29 #[v0, v1] W (Made1 Jour.jty r0 (.bool r1) W)) (hI : Jour.jty.Few d0 → RecTy.rty.Few d1 → ∀ (W : World) (B0 : Nat) (v0 : Value) (B1 : Nat) (v1 : Value), Jour.jty.Rd W B0 v0 d0 → B0 ≤ W.heap.size → RecTy.rty.Rd W B1 v1 d1 → B1 ≤ W.heap.size → Calls Try.prog 32 #[v0, v1] W (Made1 Jour.jty r0 (.bool r1) W)) :
    Calls Try.prog 5 #[.agg #[.slice a0_0A a0_0n a0_0c, .slice a0_1A a0_1n a0_1c, .int .i64 a0_2], .agg #[.int .i64 a1_0, .slice a1_1A a1_1n a1_1c]] w fun e w' => e = .returned (.bool true) ∧ Below w.heap.size w w' := by
  have HR0 := Lib.hid hr0
  have HZ0 := Lib.hid hz0
  clear hr0 hz0
  have HR1 := Lib.hid hr1
  have HZ1 := Lib.hid hz1
  clear hr1 hz1
  have HS := Lib.hid hS
  have HI := Lib.hid hI
  clear hS hI
  have HRF := Lib.hid hrf
  clear hrf
  have hbb1 : (r1 != r1) = false := by simp
  have hb0 : Below w.heap.size w ((w.alloc (.cells #[.slice a0_0A a0_0n a0_0c, .slice a0_1A a0_1n a0_1c, .int .i64 a0_2] 59)).alloc (.cells #[.int .i64 a1_0, .slice a1_1A a1_1n a1_1c] 61)) := bel2 _ _ _
  have BA0 : Hid (((w.alloc (.cells #[.slice a0_0A a0_0n a0_0c, .slice a0_1A a0_1n a0_1c, .int .i64 a0_2] 59)).alloc (.cells #[.int .i64 a1_0, .slice a1_1A a1_1n a1_1c] 61)).heap[w.heap.size]? = some (.cells #[.slice a0_0A a0_0n a0_0c, .slice a0_1A a0_1n a0_1c, .int .i64 a0_2] 59)) := box_alloc (box_new w (.cells #[.slice a0_0A a0_0n a0_0c, .slice a0_1A a0_1n a0_1c, .int .i64 a0_2] 59)) (.cells #[.int .i64 a1_0, .slice a1_1A a1_1n a1_1c] 61)
  have BA1 : Hid (((w.alloc (.cells #[.slice a0_0A a0_0n a0_0c, .slice a0_1A a0_1n a0_1c, .int .i64 a0_2] 59)).alloc (.cells #[.int .i64 a1_0, .slice a1_1A a1_1n a1_1c] 61)).heap[w.heap.size + 1]? = some (.cells #[.int .i64 a1_0, .slice a1_1A a1_1n a1_1c] 61)) := by have h := box_new (w.alloc (.cells #[.slice a0_0A a0_0n a0_0c, .slice a0_1A a0_1n a0_1c, .int .i64 a0_2] 59)) (.cells #[.int .i64 a1_0, .slice a1_1A a1_1n a1_1c] 61); simp only [World.size_alloc] at h; exact h
  have cBA0_0 : ((w.alloc (.cells #[.slice a0_0A a0_0n a0_0c, .slice a0_1A a0_1n a0_1c, .int .i64 a0_2] 59)).alloc (.cells #[.int .i64 a1_0, .slice a1_1A a1_1n a1_1c] 61)).cell? ⟨w.heap.size, 0, none⟩ = some (.slice a0_0A a0_0n a0_0c) := box_cell BA0.out 0 _ rfl
  have cBA0_1 : ((w.alloc (.cells #[.slice a0_0A a0_0n a0_0c, .slice a0_1A a0_1n a0_1c, .int .i64 a0_2] 59)).alloc (.cells #[.int .i64 a1_0, .slice a1_1A a1_1n a1_1c] 61)).cell? ⟨w.heap.size, 1, none⟩ = some (.slice a0_1A a0_1n a0_1c) := box_cell BA0.out 1 _ rfl
  have cBA0_2 : ((w.alloc (.cells #[.slice a0_0A a0_0n a0_0c, .slice a0_1A a0_1n a0_1c, .int .i64 a0_2] 59)).alloc (.cells #[.int .i64 a1_0, .slice a1_1A a1_1n a1_1c] 61)).cell? ⟨w.heap.size, 2, none⟩ = some (.int .i64 a0_2) := box_cell BA0.out 2 _ rfl
  have cBA1_0 : ((w.alloc (.cells #[.slice a0_0A a0_0n a0_0c, .slice a0_1A a0_1n a0_1c, .int .i64 a0_2] 59)).alloc (.cells #[.int .i64 a1_0, .slice a1_1A a1_1n a1_1c] 61)).cell? ⟨w.heap.size + 1, 0, none⟩ = some (.int .i64 a1_0) := box_cell BA1.out 0 _ rfl
  have cBA1_1 : ((w.alloc (.cells #[.slice a0_0A a0_0n a0_0c, .slice a0_1A a0_1n a0_1c, .int .i64 a0_2] 59)).alloc (.cells #[.int .i64 a1_0, .slice a1_1A a1_1n a1_1c] 61)).cell? ⟨w.heap.size + 1, 1, none⟩ = some (.slice a1_1A a1_1n a1_1c) := box_cell BA1.out 1 _ rfl
  go_enter Try.func5, Try.ntmps5
  go_wp2_with fail
  refine (HZ0.out _ 1048576 hb0 (by omega) (by omega)).mono ?_
  rintro e w1 ⟨z0, rfl, hbs, hz0⟩
  clear cBA0_0 cBA0_1 cBA0_2 cBA1_0 cBA1_1
  have BA0' := Lib.hid (box_below BA0.out hbs)
  have BA1' := Lib.hid (box_below BA1.out hbs)
  have hbn1 : Below w.heap.size w w1 := bel_then hb0 hbs hb0.size
  have hsn1 := hbs.size
  simp only [World.size_alloc] at hsn1
  clear BA0
  clear BA1
  have BA0 := BA0'
  clear BA0'
  have BA1 := BA1'
  clear BA1'
  clear hbs
  rcases hz0 with rfl | ⟨hz0a, hz0b, hf0⟩
  · go_wp2
    go_ret
    exact ⟨rfl, hbn1⟩
  have HF0 := Lib.hid hf0
  clear hf0
  have hzd0 : decide (z0 < 0) = false := by simp; omega
  have cBA0_0 : w1.cell? ⟨w.heap.size, 0, none⟩ = some (.slice a0_0A a0_0n a0_0c) := box_cell BA0.out 0 _ rfl
  have cBA0_1 : w1.cell? ⟨w.heap.size, 1, none⟩ = some (.slice a0_1A a0_1n a0_1c) := box_cell BA0.out 1 _ rfl
  have cBA0_2 : w1.cell? ⟨w.heap.size, 2, none⟩ = some (.int .i64 a0_2) := box_cell BA0.out 2 _ rfl
  have cBA1_0 : w1.cell? ⟨w.heap.size + 1, 0, none⟩ = some (.int .i64 a1_0) := box_cell BA1.out 0 _ rfl
  have cBA1_1 : w1.cell? ⟨w.heap.size + 1, 1, none⟩ = some (.slice a1_1A a1_1n a1_1c) := box_cell BA1.out 1 _ rfl
  go_wp2_with fail
  refine (HZ1.out _ z0 hbn1 (by omega) (by omega)).mono ?_
  rintro e w2 ⟨z1, rfl, hbs, hz1⟩
  clear cBA0_0 cBA0_1 cBA0_2 cBA1_0 cBA1_1
  have BA0' := Lib.hid (box_below BA0.out hbs)
  have BA1' := Lib.hid (box_below BA1.out hbs)
  have hbn2 : Below w.heap.size w w2 := bel_then hbn1 hbs hbn1.size
  have hsn2 := hbs.size
  clear BA0
  clear BA1
  have BA0 := BA0'
  clear BA0'
  have BA1 := BA1'
  clear BA1'
  clear hbs
  rcases hz1 with rfl | ⟨hz1a, hz1b, hf1⟩
  · go_wp2
    go_ret
    exact ⟨rfl, hbn2⟩
  have HF1 := Lib.hid hf1
  clear hf1
  have hzd1 : decide (z1 < 0) = false := by simp; omega
  have cBA0_0 : w2.cell? ⟨w.heap.size, 0, none⟩ = some (.slice a0_0A a0_0n a0_0c) := box_cell BA0.out 0 _ rfl
  have cBA0_1 : w2.cell? ⟨w.heap.size, 1, none⟩ = some (.slice a0_1A a0_1n a0_1c) := box_cell BA0.out 1 _ rfl
  have cBA0_2 : w2.cell? ⟨w.heap.size, 2, none⟩ = some (.int .i64 a0_2) := box_cell BA0.out 2 _ rfl
  have cBA1_0 : w2.cell? ⟨w.heap.size + 1, 0, none⟩ = some (.int .i64 a1_0) := box_cell BA1.out 0 _ rfl
  have cBA1_1 : w2.cell? ⟨w.heap.size + 1, 1, none⟩ = some (.slice a1_1A a1_1n a1_1c) := box_cell BA1.out 1 _ rfl
  have HRF2 := Lib.hid (HRF.out HF0.out HF1.out)
  have HS2 := Lib.hid (HS.out HF0.out HF1.out)
  have HI2 := Lib.hid (HI.out HF0.out HF1.out)
  clear HS HI
  have HTO0 : Hid (ToC 30 Jour.jty) := Jour.toJournal_any
  have HTO1 : Hid (ToC 31 RecTy.rty) := RecTy.toRecord_any
  have HEQ0 : Hid (EqC 33 Jour.jty) := Jour.eqJournal_any
  have HMARK0 : Hid (MarkC 35 Jour.jty) := Jour.markJournal_any
  have HEQ1 : Hid (EqC 34 RecTy.rty) := RecTy.eqRecord_any
  have HMARK1 : Hid (MarkC 36 RecTy.rty) := RecTy.markRecord_any
  have HREQ : Hid (EqC 33 Jour.jty) := Jour.eqJournal_any
  have HRMARK : Hid (MarkC 35 Jour.jty) := Jour.markJournal_any
  have HRHELD : Hid (HeldC 37 Jour.jty) := Jour.heldJournal_any
  have cBA0_0 : w2.cell? ⟨w.heap.size, 0, none⟩ = some (.slice a0_0A a0_0n a0_0c) := box_cell BA0.out 0 _ rfl
  have cBA0_1 : w2.cell? ⟨w.heap.size, 1, none⟩ = some (.slice a0_1A a0_1n a0_1c) := box_cell BA0.out 1 _ rfl
  have cBA0_2 : w2.cell? ⟨w.heap.size, 2, none⟩ = some (.int .i64 a0_2) := box_cell BA0.out 2 _ rfl
  have cBA1_0 : w2.cell? ⟨w.heap.size + 1, 0, none⟩ = some (.int .i64 a1_0) := box_cell BA1.out 0 _ rfl
  have cBA1_1 : w2.cell? ⟨w.heap.size + 1, 1, none⟩ = some (.slice a1_1A a1_1n a1_1c) := box_cell BA1.out 1 _ rfl
  go_wp2_with fail
  go_cut [6, 7] (fun s6 s7 wx => ∃ (bq : Nat) (q_0A : Option Addr) (q_0n q_0c : Nat) (q_1A : Option Addr) (q_1n q_1c : Nat) (q_2 : Int) (Sq : Nat → Prop), s6 = .pointer (some ⟨bq, 0, none⟩) ∧ s7 = .bool r1 ∧ Hid (wx.heap[bq]? = some (.cells #[.slice q_0A q_0n q_0c, .slice q_1A q_1n q_1c, .int .i64 q_2] 64)) ∧ Hid (Has Jour.jty wx w2.heap.size wx.heap.size Sq (.agg #[.slice q_0A q_0n q_0c, .slice q_1A q_1n q_1c, .int .i64 q_2]) r0) ∧ Hid (Below w2.heap.size w2 wx))
  case first =>
    go_region_held3 (fun w' => w'.cell? ⟨w.heap.size, 0, none⟩ = some (.slice a0_0A a0_0n a0_0c) ∧ w'.cell? ⟨w.heap.size, 1, none⟩ = some (.slice a0_1A a0_1n a0_1c) ∧ w'.cell? ⟨w.heap.size, 2, none⟩ = some (.int .i64 a0_2) ∧ w'.cell? ⟨w.heap.size + 1, 0, none⟩ = some (.int .i64 a1_0) ∧ w'.cell? ⟨w.heap.size + 1, 1, none⟩ = some (.slice a1_1A a1_1n a1_1c))
      (first | (go_keep; done) | exact ⟨far1 (by omega) (far1 (by omega) (far1 (by omega) (cz0_0))), far1 (by omega) (far1 (by omega) (far1 (by omega) (cz0_1))), far1 (by omega) (far1 (by omega) (far1 (by omega) (cz0_2))), far1 (by omega) (far1 (by omega) (far1 (by omega) (cz1_0))), far1 (by omega) (far1 (by omega) (far1 (by omega) (cz1_1)))⟩ | (refine ⟨cell_keep hbf ?_, cell_keep hbf ?_, cell_keep hbf ?_, cell_keep hbf ?_, cell_keep hbf ?_⟩ <;> simp only [*]; done) | (refine ⟨cell_keep hbd1 ?_, cell_keep hbd1 ?_, cell_keep hbd1 ?_, cell_keep hbd1 ?_, cell_keep hbd1 ?_⟩ <;> simp only [*]; done) | (refine ⟨cell_keep hbd0 ?_, cell_keep hbd0 ?_, cell_keep hbd0 ?_, cell_keep hbd0 ?_, cell_keep hbd0 ?_⟩ <;> simp only [*]; done) | go_keep)
      (first | (have hgo := hbd1; clear hgo; go_at_call 29; refine (HS2.out _ _ _ _ _ (by first | exact (Od0.out.below hbq1).rd | exact ((Od0.out.below hbq1).alloc _).rd) (by exact Nat.le_refl _) (by first | exact Od1.out.rd | exact (Od1.out.alloc _).rd) (by exact Nat.le_refl _)).mono ?_; rintro e w5 ⟨q, Sq, rfl, hOf, hbf⟩; obtain ⟨q_0A, q_0n, q_0c, q_1A, q_1n, q_1c, q_2, rfl⟩ := Jour.shape hOf; have hbq2 : Below w4.heap.size w4 w5 := (by first | exact al0 hbf | exact al1 hbf); have hbz : Below w2.heap.size w2 w5 := bel_then (undrew hbq0) (bel_then hbq1 hbq2 hbq1.size) hbq0.size; have cz0_0 : w5.cell? ⟨w.heap.size, 0, none⟩ = some (.slice a0_0A a0_0n a0_0c) := box_cell (box_below BA0.out hbz) 0 _ rfl; have cz0_1 : w5.cell? ⟨w.heap.size, 1, none⟩ = some (.slice a0_1A a0_1n a0_1c) := box_cell (box_below BA0.out hbz) 1 _ rfl; have cz0_2 : w5.cell? ⟨w.heap.size, 2, none⟩ = some (.int .i64 a0_2) := box_cell (box_below BA0.out hbz) 2 _ rfl; have cz1_0 : w5.cell? ⟨w.heap.size + 1, 0, none⟩ = some (.int .i64 a1_0) := box_cell (box_below BA1.out hbz) 0 _ rfl; have cz1_1 : w5.cell? ⟨w.heap.size + 1, 1, none⟩ = some (.slice a1_1A a1_1n a1_1c) := box_cell (box_below BA1.out hbz) 1 _ rfl; have hz0 := (undrew hbq0).size; have hz1 := hbq1.size; have hz2 := hbq2.size; have hzb0 := box_lt BA0.out; have hzb1 := box_lt BA1.out; (try (have bz2 := box_below bz hbf; clear bz; have bz := bz2; clear bz2)); (try have bz := box_below (box_new _ (.cells #[.slice none 0 0, .slice none 0 0, .int .i64 0] 64)) hbf); (try have ez0 := box_cell bz 0 (.slice none 0 0) rfl); (try have fz0 := box_frozen bz 0); (try have ez1 := box_cell bz 1 (.slice none 0 0) rfl); (try have fz1 := box_frozen bz 1); (try have ez2 := box_cell bz 2 (.int .i64 0) rfl); (try have fz2 := box_frozen bz 2); (try have bZ := Lib.hid bz); (try clear bz)) | (have hgo := hbd0; clear hgo; go_at_call 31; refine (HTO1.out _ w.heap.size _ d1 (by first | exact RecTy.rty.rd_below HR1.out hbp0 (Nat.le_refl _) | exact RecTy.rty.rd_below HR1.out (hbp0.alloc hbp0.size _) (Nat.le_refl _)) (by first | exact hbp0.size | exact Nat.le_trans hbp0.size (Nat.le_of_lt (by simp))) HF1.out).mono ?_; rintro e w4 ⟨y1, Sy1, rfl, hOd1, hbd1⟩; have hbq1 : Below w3.heap.size w3 w4 := (by first | exact al0 hbd1 | exact al1 hbd1); have Od1 := Lib.hid hOd1; clear hOd1; have hbp1 : Below w.heap.size w w4 := bel_then hbp0 hbq1 hbp0.size; (try (have bz2 := box_below bz hbd1; clear bz; have bz := bz2; clear bz2)); (try have bz := box_below (box_new _ (.cells #[.slice none 0 0, .slice none 0 0, .int .i64 0] 64)) hbd1); (try have hzz := box_lt bz)) | (go_at_call 30; refine (HTO0.out _ w.heap.size _ d0 (by first | exact Jour.jty.rd_below HR0.out hbn2.drew (Nat.le_refl _) | exact Jour.jty.rd_below HR0.out (hbn2.drew.alloc hbn2.size _) (Nat.le_refl _)) (by first | exact hbn2.size | exact Nat.le_trans hbn2.size (Nat.le_of_lt (by simp))) HF0.out).mono ?_; rintro e w3 ⟨y0, Sy0, rfl, hOd0, hbd0⟩; have hbq0 : Below w2.drew.heap.size w2.drew w3 := (by first | exact al0 hbd0 | exact al1 hbd0); have Od0 := Lib.hid hOd0; clear hOd0; have hbp0 : Below w.heap.size w w3 := bel_then hbn2.drew hbq0 hbn2.size; (try have bz := box_below (box_newd w2 (.cells #[.slice none 0 0, .slice none 0 0, .int .i64 0] 64)) hbd0); (try have hzz := box_lt bz)))
    all_goals
      go_wp2_with fail
      go_meet
      case rel =>
        first
          | (exact ⟨_, _, _, _, _, _, _, _, Sq, rfl, rfl, box_new _ _, (hOf.alloc _).grow (by omega) (by simp) (Nat.le_refl _), hbz.alloc hbz.size _⟩)
          | (exact ⟨_, _, _, _, _, _, _, _, Sq, rfl, rfl, (box_set (i := 2) (box_set (i := 1) (box_set (i := 0) bZ.out _) _) _), (hOf.turned (((Turned.set (S := fun k => k = w2.heap.size) _ _ _ rfl).trans (Turned.set (S := fun k => k = w2.heap.size) _ _ _ rfl)).trans (Turned.set (S := fun k => k = w2.heap.size) _ _ _ rfl)) (fun k hk e => by have h1 := hOf.inn k hk; first | omega | (simp only [World.size_alloc] at h1; omega))).grow (by first | omega | (simp only [World.size_alloc]; omega)) (by simp [World.setCell]) (Nat.le_refl _), Turned.low hbz (((Turned.set (S := fun k => k = w2.heap.size) _ _ _ rfl).trans (Turned.set (S := fun k => k = w2.heap.size) _ _ _ rfl)).trans (Turned.set (S := fun k => k = w2.heap.size) _ _ _ rfl)) (fun k hk => by omega) hbz.size⟩)
          | (exact ⟨_, _, _, _, _, _, _, _, Sq, rfl, rfl, (box_set (i := 2) (box_set (i := 1) (box_set (i := 0) bZ.out _) _) _), (hOf.turned (((Turned.set (S := fun k => k = w3.heap.size) _ _ _ rfl).trans (Turned.set (S := fun k => k = w3.heap.size) _ _ _ rfl)).trans (Turned.set (S := fun k => k = w3.heap.size) _ _ _ rfl)) (fun k hk e => by have h1 := hOf.inn k hk; first | omega | (simp only [World.size_alloc] at h1; omega))).grow (by first | omega | (simp only [World.size_alloc]; omega)) (by simp [World.setCell]) (Nat.le_refl _), Turned.low hbz (((Turned.set (S := fun k => k = w3.heap.size) _ _ _ rfl).trans (Turned.set (S := fun k => k = w3.heap.size) _ _ _ rfl)).trans (Turned.set (S := fun k => k = w3.heap.size) _ _ _ rfl)) (fun k hk => by omega) hbz.size⟩)
          | (exact ⟨_, _, _, _, _, _, _, _, Sq, rfl, rfl, (box_set (i := 2) (box_set (i := 1) (box_set (i := 0) bZ.out _) _) _), (hOf.turned (((Turned.set (S := fun k => k = w4.heap.size) _ _ _ rfl).trans (Turned.set (S := fun k => k = w4.heap.size) _ _ _ rfl)).trans (Turned.set (S := fun k => k = w4.heap.size) _ _ _ rfl)) (fun k hk e => by have h1 := hOf.inn k hk; first | omega | (simp only [World.size_alloc] at h1; omega))).grow (by first | omega | (simp only [World.size_alloc]; omega)) (by simp [World.setCell]) (Nat.le_refl _), Turned.low hbz (((Turned.set (S := fun k => k = w4.heap.size) _ _ _ rfl).trans (Turned.set (S := fun k => k = w4.heap.size) _ _ _ rfl)).trans (Turned.set (S := fun k => k = w4.heap.size) _ _ _ rfl)) (fun k hk => by omega) hbz.size⟩)
  obtain ⟨wq, hwq⟩ : ∃ x, x = wc := ⟨_, rfl⟩
  subst hwq
  obtain ⟨bq, q_0A, q_0n, q_0c, q_1A, q_1n, q_1c, q_2, Sq, rfl, rfl, Bq, Oq, HBS⟩ := hcut
  clear cBA0_0 cBA0_1 cBA0_2 cBA1_0 cBA1_1
  have hbs := HBS.out
  clear HBS
  have INOq : Hid (∀ k, Sq k → w2.heap.size ≤ k ∧ k < wq.heap.size) := fun k hk => by have h := Oq.out.inn k hk; first | exact h | (simp only [World.size_alloc] at h; exact h)
  have hltq := box_lt Bq.out
  have BA0' := Lib.hid (box_below BA0.out hbs)
  have BA1' := Lib.hid (box_below BA1.out hbs)
  have hbn3 : Below w.heap.size w wq := bel_then hbn2 hbs hbn2.size
  have hsn3 := hbs.size
  clear BA0
  clear BA1
  have BA0 := BA0'
  clear BA0'
  have BA1 := BA1'
  clear BA1'
  clear hbs
  have cBA0_0 : wq.cell? ⟨w.heap.size, 0, none⟩ = some (.slice a0_0A a0_0n a0_0c) := box_cell BA0.out 0 _ rfl
  have cBA0_1 : wq.cell? ⟨w.heap.size, 1, none⟩ = some (.slice a0_1A a0_1n a0_1c) := box_cell BA0.out 1 _ rfl
  have cBA0_2 : wq.cell? ⟨w.heap.size, 2, none⟩ = some (.int .i64 a0_2) := box_cell BA0.out 2 _ rfl
  have cBA1_0 : wq.cell? ⟨w.heap.size + 1, 0, none⟩ = some (.int .i64 a1_0) := box_cell BA1.out 0 _ rfl
  have cBA1_1 : wq.cell? ⟨w.heap.size + 1, 1, none⟩ = some (.slice a1_1A a1_1n a1_1c) := box_cell BA1.out 1 _ rfl
  go_wp2_with fail
  refine (HTO0.out _ w.heap.size _ d0 (Jour.jty.rd_below HR0.out hbn3 (Nat.le_refl _)) hbn3.size HF0.out).mono ?_
  rintro e w6 ⟨x0, Sx0, rfl, hO, hbs⟩
  clear cBA0_0 cBA0_1 cBA0_2 cBA1_0 cBA1_1
  have BA0' := Lib.hid (box_below BA0.out hbs)
  have BA1' := Lib.hid (box_below BA1.out hbs)
  have Oq' := Lib.hid (Oq.out.below hbs)
  have Bq' := Lib.hid (box_below Bq.out hbs)
  have hbn4 : Below w.heap.size w w6 := bel_then hbn3 hbs hbn3.size
  have hsn4 := hbs.size
  clear BA0
  clear BA1
  clear Oq
  clear Bq
  have BA0 := BA0'
  clear BA0'
  have BA1 := BA1'
  clear BA1'
  have Oq := Oq'
  clear Oq'
  have Bq := Bq'
  clear Bq'
  clear hbs
  have Ox0 := Lib.hid hO
  have INOx0 : Hid (∀ k, Sx0 k → wq.heap.size ≤ k ∧ k < w6.heap.size) := fun k hk => by have h := Ox0.out.inn k hk; first | exact h | (simp only [World.size_alloc] at h; exact h)
  obtain ⟨x0_0A, x0_0n, x0_0c, x0_1A, x0_1n, x0_1c, x0_2, rfl⟩ := Jour.shape hO
  clear hO
  have BA0' := Lib.hid (box_alloc BA0.out (.cells #[.slice x0_0A x0_0n x0_0c, .slice x0_1A x0_1n x0_1c, .int .i64 x0_2] 64))
  have BA1' := Lib.hid (box_alloc BA1.out (.cells #[.slice x0_0A x0_0n x0_0c, .slice x0_1A x0_1n x0_1c, .int .i64 x0_2] 64))
  have Oq' := Lib.hid (Oq.out.alloc (.cells #[.slice x0_0A x0_0n x0_0c, .slice x0_1A x0_1n x0_1c, .int .i64 x0_2] 64))
  have Bq' := Lib.hid (box_alloc Bq.out (.cells #[.slice x0_0A x0_0n x0_0c, .slice x0_1A x0_1n x0_1c, .int .i64 x0_2] 64))
  have Ox0' := Lib.hid (Ox0.out.alloc (.cells #[.slice x0_0A x0_0n x0_0c, .slice x0_1A x0_1n x0_1c, .int .i64 x0_2] 64))
  have hbn5 : Below w.heap.size w (w6.alloc (.cells #[.slice x0_0A x0_0n x0_0c, .slice x0_1A x0_1n x0_1c, .int .i64 x0_2] 64)) := hbn4.alloc hbn4.size _
  clear BA0
  clear BA1
  clear Oq
  clear Bq
  clear Ox0
  have BA0 := BA0'
  clear BA0'
  have BA1 := BA1'
  clear BA1'
  have Oq := Oq'
  clear Oq'
  have Bq := Bq'
  clear Bq'
  have Ox0 := Ox0'
  clear Ox0'
  have Bx0 : Hid ((w6.alloc (.cells #[.slice x0_0A x0_0n x0_0c, .slice x0_1A x0_1n x0_1c, .int .i64 x0_2] 64)).heap[w6.heap.size]? = some (.cells #[.slice x0_0A x0_0n x0_0c, .slice x0_1A x0_1n x0_1c, .int .i64 x0_2] 64)) := box_new w6 (.cells #[.slice x0_0A x0_0n x0_0c, .slice x0_1A x0_1n x0_1c, .int .i64 x0_2] 64)
  have cBA0_0 : (w6.alloc (.cells #[.slice x0_0A x0_0n x0_0c, .slice x0_1A x0_1n x0_1c, .int .i64 x0_2] 64)).cell? ⟨w.heap.size, 0, none⟩ = some (.slice a0_0A a0_0n a0_0c) := box_cell BA0.out 0 _ rfl
  have cBA0_1 : (w6.alloc (.cells #[.slice x0_0A x0_0n x0_0c, .slice x0_1A x0_1n x0_1c, .int .i64 x0_2] 64)).cell? ⟨w.heap.size, 1, none⟩ = some (.slice a0_1A a0_1n a0_1c) := box_cell BA0.out 1 _ rfl
  have cBA0_2 : (w6.alloc (.cells #[.slice x0_0A x0_0n x0_0c, .slice x0_1A x0_1n x0_1c, .int .i64 x0_2] 64)).cell? ⟨w.heap.size, 2, none⟩ = some (.int .i64 a0_2) := box_cell BA0.out 2 _ rfl
  have cBA1_0 : (w6.alloc (.cells #[.slice x0_0A x0_0n x0_0c, .slice x0_1A x0_1n x0_1c, .int .i64 x0_2] 64)).cell? ⟨w.heap.size + 1, 0, none⟩ = some (.int .i64 a1_0) := box_cell BA1.out 0 _ rfl
  have cBA1_1 : (w6.alloc (.cells #[.slice x0_0A x0_0n x0_0c, .slice x0_1A x0_1n x0_1c, .int .i64 x0_2] 64)).cell? ⟨w.heap.size + 1, 1, none⟩ = some (.slice a1_1A a1_1n a1_1c) := box_cell BA1.out 1 _ rfl
  go_wp2_with fail
  refine (HTO1.out _ w.heap.size _ d1 (RecTy.rty.rd_below HR1.out hbn5 (Nat.le_refl _)) hbn5.size HF1.out).mono ?_
  rintro e w7 ⟨x1, Sx1, rfl, hO, hbs⟩
  clear cBA0_0 cBA0_1 cBA0_2 cBA1_0 cBA1_1
  have BA0' := Lib.hid (box_below BA0.out hbs)
  have BA1' := Lib.hid (box_below BA1.out hbs)
  have Oq' := Lib.hid (Oq.out.below hbs)
  have Bq' := Lib.hid (box_below Bq.out hbs)
  have Ox0' := Lib.hid (Ox0.out.below hbs)
  have Bx0' := Lib.hid (box_below Bx0.out hbs)
  have hbn6 : Below w.heap.size w w7 := bel_then hbn5 hbs hbn5.size
  have hsn6 := hbs.size
  simp only [World.size_alloc] at hsn6
  clear BA0
  clear BA1
  clear Oq
  clear Bq
  clear Ox0
  clear Bx0
  have BA0 := BA0'
  clear BA0'
  have BA1 := BA1'
  clear BA1'
  have Oq := Oq'
  clear Oq'
  have Bq := Bq'
  clear Bq'
  have Ox0 := Ox0'
  clear Ox0'
  have Bx0 := Bx0'
  clear Bx0'
  clear hbs
  have Ox1 := Lib.hid hO
  have INOx1 : Hid (∀ k, Sx1 k → w6.heap.size + 1 ≤ k ∧ k < w7.heap.size) := fun k hk => by have h := Ox1.out.inn k hk; first | exact h | (simp only [World.size_alloc] at h; exact h)
  obtain ⟨x1_0, x1_1A, x1_1n, x1_1c, rfl⟩ := RecTy.shape hO
  clear hO
  have BA0' := Lib.hid (box_alloc BA0.out (.cells #[.int .i64 x1_0, .slice x1_1A x1_1n x1_1c] 68))
  have BA1' := Lib.hid (box_alloc BA1.out (.cells #[.int .i64 x1_0, .slice x1_1A x1_1n x1_1c] 68))
  have Oq' := Lib.hid (Oq.out.alloc (.cells #[.int .i64 x1_0, .slice x1_1A x1_1n x1_1c] 68))
  have Bq' := Lib.hid (box_alloc Bq.out (.cells #[.int .i64 x1_0, .slice x1_1A x1_1n x1_1c] 68))
  have Ox0' := Lib.hid (Ox0.out.alloc (.cells #[.int .i64 x1_0, .slice x1_1A x1_1n x1_1c] 68))
  have Bx0' := Lib.hid (box_alloc Bx0.out (.cells #[.int .i64 x1_0, .slice x1_1A x1_1n x1_1c] 68))
  have Ox1' := Lib.hid (Ox1.out.alloc (.cells #[.int .i64 x1_0, .slice x1_1A x1_1n x1_1c] 68))
  have hbn7 : Below w.heap.size w (w7.alloc (.cells #[.int .i64 x1_0, .slice x1_1A x1_1n x1_1c] 68)) := hbn6.alloc hbn6.size _
  clear BA0
  clear BA1
  clear Oq
  clear Bq
  clear Ox0
  clear Bx0
  clear Ox1
  have BA0 := BA0'
  clear BA0'
  have BA1 := BA1'
  clear BA1'
  have Oq := Oq'
  clear Oq'
  have Bq := Bq'
  clear Bq'
  have Ox0 := Ox0'
  clear Ox0'
  have Bx0 := Bx0'
  clear Bx0'
  have Ox1 := Ox1'
  clear Ox1'
  have Bx1 : Hid ((w7.alloc (.cells #[.int .i64 x1_0, .slice x1_1A x1_1n x1_1c] 68)).heap[w7.heap.size]? = some (.cells #[.int .i64 x1_0, .slice x1_1A x1_1n x1_1c] 68)) := box_new w7 (.cells #[.int .i64 x1_0, .slice x1_1A x1_1n x1_1c] 68)
  have cBx0_0 : (w7.alloc (.cells #[.int .i64 x1_0, .slice x1_1A x1_1n x1_1c] 68)).cell? ⟨w6.heap.size, 0, none⟩ = some (.slice x0_0A x0_0n x0_0c) := box_cell Bx0.out 0 _ rfl
  have cBx0_1 : (w7.alloc (.cells #[.int .i64 x1_0, .slice x1_1A x1_1n x1_1c] 68)).cell? ⟨w6.heap.size, 1, none⟩ = some (.slice x0_1A x0_1n x0_1c) := box_cell Bx0.out 1 _ rfl
  have cBx0_2 : (w7.alloc (.cells #[.int .i64 x1_0, .slice x1_1A x1_1n x1_1c] 68)).cell? ⟨w6.heap.size, 2, none⟩ = some (.int .i64 x0_2) := box_cell Bx0.out 2 _ rfl
  have cBx1_0 : (w7.alloc (.cells #[.int .i64 x1_0, .slice x1_1A x1_1n x1_1c] 68)).cell? ⟨w7.heap.size, 0, none⟩ = some (.int .i64 x1_0) := box_cell Bx1.out 0 _ rfl
  have cBx1_1 : (w7.alloc (.cells #[.int .i64 x1_0, .slice x1_1A x1_1n x1_1c] 68)).cell? ⟨w7.heap.size, 1, none⟩ = some (.slice x1_1A x1_1n x1_1c) := box_cell Bx1.out 1 _ rfl
  go_wp2_with fail
  refine (HI2.out _ _ _ _ _ Ox0.out.rd (Nat.le_refl _) Ox1.out.rd (Nat.le_refl _)).mono ?_
  rintro e w8 ⟨g, Sg, rfl, hO, hbs⟩
  clear cBx0_0 cBx0_1 cBx0_2 cBx1_0 cBx1_1
  have BA0' := Lib.hid (box_below BA0.out hbs)
  have BA1' := Lib.hid (box_below BA1.out hbs)
  have Oq' := Lib.hid (Oq.out.below hbs)
  have Bq' := Lib.hid (box_below Bq.out hbs)
  have Ox0' := Lib.hid (Ox0.out.below hbs)
  have Bx0' := Lib.hid (box_below Bx0.out hbs)
  have Ox1' := Lib.hid (Ox1.out.below hbs)
  have Bx1' := Lib.hid (box_below Bx1.out hbs)
  have hbn8 : Below w.heap.size w w8 := bel_then hbn7 hbs hbn7.size
  have hsn8 := hbs.size
  simp only [World.size_alloc] at hsn8
  clear BA0
  clear BA1
  clear Oq
  clear Bq
  clear Ox0
  clear Bx0
  clear Ox1
  clear Bx1
  have BA0 := BA0'
  clear BA0'
  have BA1 := BA1'
  clear BA1'
  have Oq := Oq'
  clear Oq'
  have Bq := Bq'
  clear Bq'
  have Ox0 := Ox0'
  clear Ox0'
  have Bx0 := Bx0'
  clear Bx0'
  have Ox1 := Ox1'
  clear Ox1'
  have Bx1 := Bx1'
  clear Bx1'
  clear hbs
  have Og := Lib.hid hO
  have INOg : Hid (∀ k, Sg k → w7.heap.size + 1 ≤ k ∧ k < w8.heap.size) := fun k hk => by have h := Og.out.inn k hk; first | exact h | (simp only [World.size_alloc] at h; exact h)
  obtain ⟨g_0A, g_0n, g_0c, g_1A, g_1n, g_1c, g_2, rfl⟩ := Jour.shape hO
  clear hO
  have BA0' := Lib.hid (box_alloc BA0.out (.cells #[.slice g_0A g_0n g_0c, .slice g_1A g_1n g_1c, .int .i64 g_2] 64))
  have BA1' := Lib.hid (box_alloc BA1.out (.cells #[.slice g_0A g_0n g_0c, .slice g_1A g_1n g_1c, .int .i64 g_2] 64))
  have Oq' := Lib.hid (Oq.out.alloc (.cells #[.slice g_0A g_0n g_0c, .slice g_1A g_1n g_1c, .int .i64 g_2] 64))
  have Bq' := Lib.hid (box_alloc Bq.out (.cells #[.slice g_0A g_0n g_0c, .slice g_1A g_1n g_1c, .int .i64 g_2] 64))
  have Ox0' := Lib.hid (Ox0.out.alloc (.cells #[.slice g_0A g_0n g_0c, .slice g_1A g_1n g_1c, .int .i64 g_2] 64))
  have Bx0' := Lib.hid (box_alloc Bx0.out (.cells #[.slice g_0A g_0n g_0c, .slice g_1A g_1n g_1c, .int .i64 g_2] 64))
  have Ox1' := Lib.hid (Ox1.out.alloc (.cells #[.slice g_0A g_0n g_0c, .slice g_1A g_1n g_1c, .int .i64 g_2] 64))
  have Bx1' := Lib.hid (box_alloc Bx1.out (.cells #[.slice g_0A g_0n g_0c, .slice g_1A g_1n g_1c, .int .i64 g_2] 64))
  have Og' := Lib.hid (Og.out.alloc (.cells #[.slice g_0A g_0n g_0c, .slice g_1A g_1n g_1c, .int .i64 g_2] 64))
  have hbn9 : Below w.heap.size w (w8.alloc (.cells #[.slice g_0A g_0n g_0c, .slice g_1A g_1n g_1c, .int .i64 g_2] 64)) := hbn8.alloc hbn8.size _
  clear BA0
  clear BA1
  clear Oq
  clear Bq
  clear Ox0
  clear Bx0
  clear Ox1
  clear Bx1
  clear Og
  have BA0 := BA0'
  clear BA0'
  have BA1 := BA1'
  clear BA1'
  have Oq := Oq'
  clear Oq'
  have Bq := Bq'
  clear Bq'
  have Ox0 := Ox0'
  clear Ox0'
  have Bx0 := Bx0'
  clear Bx0'
  have Ox1 := Ox1'
  clear Ox1'
  have Bx1 := Bx1'
  clear Bx1'
  have Og := Og'
  clear Og'
  have Bg : Hid ((w8.alloc (.cells #[.slice g_0A g_0n g_0c, .slice g_1A g_1n g_1c, .int .i64 g_2] 64)).heap[w8.heap.size]? = some (.cells #[.slice g_0A g_0n g_0c, .slice g_1A g_1n g_1c, .int .i64 g_2] 64)) := box_new w8 (.cells #[.slice g_0A g_0n g_0c, .slice g_1A g_1n g_1c, .int .i64 g_2] 64)
  have cBg_0 : (w8.alloc (.cells #[.slice g_0A g_0n g_0c, .slice g_1A g_1n g_1c, .int .i64 g_2] 64)).cell? ⟨w8.heap.size, 0, none⟩ = some (.slice g_0A g_0n g_0c) := box_cell Bg.out 0 _ rfl
  have cBg_1 : (w8.alloc (.cells #[.slice g_0A g_0n g_0c, .slice g_1A g_1n g_1c, .int .i64 g_2] 64)).cell? ⟨w8.heap.size, 1, none⟩ = some (.slice g_1A g_1n g_1c) := box_cell Bg.out 1 _ rfl
  have cBg_2 : (w8.alloc (.cells #[.slice g_0A g_0n g_0c, .slice g_1A g_1n g_1c, .int .i64 g_2] 64)).cell? ⟨w8.heap.size, 2, none⟩ = some (.int .i64 g_2) := box_cell Bg.out 2 _ rfl
  have cBq_0 : (w8.alloc (.cells #[.slice g_0A g_0n g_0c, .slice g_1A g_1n g_1c, .int .i64 g_2] 64)).cell? ⟨bq, 0, none⟩ = some (.slice q_0A q_0n q_0c) := box_cell Bq.out 0 _ rfl
  have cBq_1 : (w8.alloc (.cells #[.slice g_0A g_0n g_0c, .slice g_1A g_1n g_1c, .int .i64 g_2] 64)).cell? ⟨bq, 1, none⟩ = some (.slice q_1A q_1n q_1c) := box_cell Bq.out 1 _ rfl
  have cBq_2 : (w8.alloc (.cells #[.slice g_0A g_0n g_0c, .slice g_1A g_1n g_1c, .int .i64 g_2] 64)).cell? ⟨bq, 2, none⟩ = some (.int .i64 q_2) := box_cell Bq.out 2 _ rfl
  go_wp2_with fail
  refine (HREQ.out _ _ _ _ _ r0 Og.out.rd Oq.out.rd (Nat.le_refl _) (Nat.le_refl _) HRF2.out).mono ?_
  rintro e w9 ⟨rfl, hbs⟩
  clear cBg_0 cBg_1 cBg_2 cBq_0 cBq_1 cBq_2
  have BA0' := Lib.hid (box_below BA0.out hbs)
  have BA1' := Lib.hid (box_below BA1.out hbs)
  have Oq' := Lib.hid (Oq.out.below hbs)
  have Bq' := Lib.hid (box_below Bq.out hbs)
  have Ox0' := Lib.hid (Ox0.out.below hbs)
  have Bx0' := Lib.hid (box_below Bx0.out hbs)
  have Ox1' := Lib.hid (Ox1.out.below hbs)
  have Bx1' := Lib.hid (box_below Bx1.out hbs)
  have Og' := Lib.hid (Og.out.below hbs)
  have Bg' := Lib.hid (box_below Bg.out hbs)
  have hbn10 : Below w.heap.size w w9 := bel_then hbn9 hbs hbn9.size
  have hsn10 := hbs.size
  simp only [World.size_alloc] at hsn10
  clear BA0
  clear BA1
  clear Oq
  clear Bq
  clear Ox0
  clear Bx0
  clear Ox1
  clear Bx1
  clear Og
  clear Bg
  have BA0 := BA0'
  clear BA0'
  have BA1 := BA1'
  clear BA1'
  have Oq := Oq'
  clear Oq'
  have Bq := Bq'
  clear Bq'
  have Ox0 := Ox0'
  clear Ox0'
  have Bx0 := Bx0'
  clear Bx0'
  have Ox1 := Ox1'
  clear Ox1'
  have Bx1 := Bx1'
  clear Bx1'
  have Og := Og'
  clear Og'
  have Bg := Bg'
  clear Bg'
  clear hbs
  have cBA0_0 : w9.cell? ⟨w.heap.size, 0, none⟩ = some (.slice a0_0A a0_0n a0_0c) := box_cell BA0.out 0 _ rfl
  have cBA0_1 : w9.cell? ⟨w.heap.size, 1, none⟩ = some (.slice a0_1A a0_1n a0_1c) := box_cell BA0.out 1 _ rfl
  have cBA0_2 : w9.cell? ⟨w.heap.size, 2, none⟩ = some (.int .i64 a0_2) := box_cell BA0.out 2 _ rfl
  have cBx0_0 : w9.cell? ⟨w6.heap.size, 0, none⟩ = some (.slice x0_0A x0_0n x0_0c) := box_cell Bx0.out 0 _ rfl
  have cBx0_1 : w9.cell? ⟨w6.heap.size, 1, none⟩ = some (.slice x0_1A x0_1n x0_1c) := box_cell Bx0.out 1 _ rfl
  have cBx0_2 : w9.cell? ⟨w6.heap.size, 2, none⟩ = some (.int .i64 x0_2) := box_cell Bx0.out 2 _ rfl
  go_wp2_with fail
  go_region_held3 (fun w' => w'.cell? ⟨w.heap.size, 0, none⟩ = some (.slice a0_0A a0_0n a0_0c) ∧ w'.cell? ⟨w.heap.size, 1, none⟩ = some (.slice a0_1A a0_1n a0_1c) ∧ w'.cell? ⟨w.heap.size, 2, none⟩ = some (.int .i64 a0_2) ∧ w'.cell? ⟨w6.heap.size, 0, none⟩ = some (.slice x0_0A x0_0n x0_0c) ∧ w'.cell? ⟨w6.heap.size, 1, none⟩ = some (.slice x0_1A x0_1n x0_1c) ∧ w'.cell? ⟨w6.heap.size, 2, none⟩ = some (.int .i64 x0_2))
    (first | go_keep | (refine ⟨cell_keep hb7 ?_, cell_keep hb7 ?_, cell_keep hb7 ?_, cell_keep hb7 ?_, cell_keep hb7 ?_, cell_keep hb7 ?_⟩ <;> simp only [*]) | (refine ⟨cell_keep hb8 ?_, cell_keep hb8 ?_, cell_keep hb8 ?_, cell_keep hb8 ?_, cell_keep hb8 ?_, cell_keep hb8 ?_⟩ <;> simp only [*]))
    (first | (go_at_call 30; refine (HTO0.out _ w.heap.size _ d0 (by exact Jour.jty.rd_below HR0.out hbn10.drew (Nat.le_refl _)) (by exact hbn10.size) HF0.out).mono ?_; rintro e w10 ⟨t0, St0, rfl, hO7, hb7⟩; have hb7' : Below w9.heap.size w9 w10 := undrew hb7; have HO7 := Lib.hid hO7; clear hO7) | (go_at_call 33; refine (HEQ0.out _ _ _ _ _ d0 (by exact (Ox0.out.below hb7').rd) (by exact HO7.out.rd) (by exact Nat.le_refl _) (by exact Nat.le_refl _) HF0.out).mono ?_; rintro e w11 ⟨rfl, hb8⟩))
  have hbs : Below w9.heap.size w9 w11 := bel_then hb7' hb8 hb7'.size
  clear hb7 hb7' hb8 HO7
  clear cBA0_0 cBA0_1 cBA0_2 cBx0_0 cBx0_1 cBx0_2
  have BA0' := Lib.hid (box_below BA0.out hbs)
  have BA1' := Lib.hid (box_below BA1.out hbs)
  have Oq' := Lib.hid (Oq.out.below hbs)
  have Bq' := Lib.hid (box_below Bq.out hbs)
  have Ox0' := Lib.hid (Ox0.out.below hbs)
  have Bx0' := Lib.hid (box_below Bx0.out hbs)
  have Ox1' := Lib.hid (Ox1.out.below hbs)
  have Bx1' := Lib.hid (box_below Bx1.out hbs)
  have Og' := Lib.hid (Og.out.below hbs)
  have Bg' := Lib.hid (box_below Bg.out hbs)
  have hbn11 : Below w.heap.size w w11 := bel_then hbn10 hbs hbn10.size
  have hsn11 := hbs.size
  clear BA0
  clear BA1
  clear Oq
  clear Bq
  clear Ox0
  clear Bx0
  clear Ox1
  clear Bx1
  clear Og
  clear Bg
  have BA0 := BA0'
  clear BA0'
  have BA1 := BA1'
  clear BA1'
  have Oq := Oq'
  clear Oq'
  have Bq := Bq'
  clear Bq'
  have Ox0 := Ox0'
  clear Ox0'
  have Bx0 := Bx0'
  clear Bx0'
  have Ox1 := Ox1'
  clear Ox1'
  have Bx1 := Bx1'
  clear Bx1'
  have Og := Og'
  clear Og'
  have Bg := Bg'
  clear Bg'
  clear hbs
  have cBA1_0 : w11.cell? ⟨w.heap.size + 1, 0, none⟩ = some (.int .i64 a1_0) := box_cell BA1.out 0 _ rfl
  have cBA1_1 : w11.cell? ⟨w.heap.size + 1, 1, none⟩ = some (.slice a1_1A a1_1n a1_1c) := box_cell BA1.out 1 _ rfl
  have cBx1_0 : w11.cell? ⟨w7.heap.size, 0, none⟩ = some (.int .i64 x1_0) := box_cell Bx1.out 0 _ rfl
  have cBx1_1 : w11.cell? ⟨w7.heap.size, 1, none⟩ = some (.slice x1_1A x1_1n x1_1c) := box_cell Bx1.out 1 _ rfl
  go_wp2_with fail
  go_region_held3 (fun w' => w'.cell? ⟨w.heap.size + 1, 0, none⟩ = some (.int .i64 a1_0) ∧ w'.cell? ⟨w.heap.size + 1, 1, none⟩ = some (.slice a1_1A a1_1n a1_1c) ∧ w'.cell? ⟨w7.heap.size, 0, none⟩ = some (.int .i64 x1_0) ∧ w'.cell? ⟨w7.heap.size, 1, none⟩ = some (.slice x1_1A x1_1n x1_1c))
    (first | go_keep | (refine ⟨cell_keep hb7 ?_, cell_keep hb7 ?_, cell_keep hb7 ?_, cell_keep hb7 ?_⟩ <;> simp only [*]) | (refine ⟨cell_keep hb8 ?_, cell_keep hb8 ?_, cell_keep hb8 ?_, cell_keep hb8 ?_⟩ <;> simp only [*]))
    (first | (go_at_call 31; refine (HTO1.out _ w.heap.size _ d1 (by exact RecTy.rty.rd_below HR1.out hbn11.drew (Nat.le_refl _)) (by exact hbn11.size) HF1.out).mono ?_; rintro e w12 ⟨t1, St1, rfl, hO7, hb7⟩; have hb7' : Below w11.heap.size w11 w12 := undrew hb7; have HO7 := Lib.hid hO7; clear hO7) | (go_at_call 34; refine (HEQ1.out _ _ _ _ _ d1 (by exact (Ox1.out.below hb7').rd) (by exact HO7.out.rd) (by exact Nat.le_refl _) (by exact Nat.le_refl _) HF1.out).mono ?_; rintro e w13 ⟨rfl, hb8⟩))
  have hbs : Below w11.heap.size w11 w13 := bel_then hb7' hb8 hb7'.size
  clear hb7 hb7' hb8 HO7
  clear cBA1_0 cBA1_1 cBx1_0 cBx1_1
  have BA0' := Lib.hid (box_below BA0.out hbs)
  have BA1' := Lib.hid (box_below BA1.out hbs)
  have Oq' := Lib.hid (Oq.out.below hbs)
  have Bq' := Lib.hid (box_below Bq.out hbs)
  have Ox0' := Lib.hid (Ox0.out.below hbs)
  have Bx0' := Lib.hid (box_below Bx0.out hbs)
  have Ox1' := Lib.hid (Ox1.out.below hbs)
  have Bx1' := Lib.hid (box_below Bx1.out hbs)
  have Og' := Lib.hid (Og.out.below hbs)
  have Bg' := Lib.hid (box_below Bg.out hbs)
  have hbn12 : Below w.heap.size w w13 := bel_then hbn11 hbs hbn11.size
  have hsn12 := hbs.size
  clear BA0
  clear BA1
  clear Oq
  clear Bq
  clear Ox0
  clear Bx0
  clear Ox1
  clear Bx1
  clear Og
  clear Bg
  have BA0 := BA0'
  clear BA0'
  have BA1 := BA1'
  clear BA1'
  have Oq := Oq'
  clear Oq'
  have Bq := Bq'
  clear Bq'
  have Ox0 := Ox0'
  clear Ox0'
  have Bx0 := Bx0'
  clear Bx0'
  have Ox1 := Ox1'
  clear Ox1'
  have Bx1 := Bx1'
  clear Bx1'
  have Og := Og'
  clear Og'
  have Bg := Bg'
  clear Bg'
  clear hbs
  have cBx0_0 : w13.cell? ⟨w6.heap.size, 0, none⟩ = some (.slice x0_0A x0_0n x0_0c) := box_cell Bx0.out 0 _ rfl
  have cBx0_1 : w13.cell? ⟨w6.heap.size, 1, none⟩ = some (.slice x0_1A x0_1n x0_1c) := box_cell Bx0.out 1 _ rfl
  have cBx0_2 : w13.cell? ⟨w6.heap.size, 2, none⟩ = some (.int .i64 x0_2) := box_cell Bx0.out 2 _ rfl
  go_wp2_with fail
  refine (HMARK0.out _ _ _ _ _ d0 1 Ox0.out HF0.out (by omega) (by omega)).mono ?_
  rintro e w14 ⟨rfl, hO, ht⟩
  clear cBx0_0 cBx0_1 cBx0_2
  obtain ⟨k0, hk0⟩ : ∃ k : Int, k = 1 + (Jour.jty.cnt d0 : Int) := ⟨_, rfl⟩
  have hk0a : 0 ≤ k0 ∧ k0 ≤ 30000000 := by have := Jour.jty.few_cnt HF0.out; omega
  obtain ⟨hk0b, hk0c⟩ := hk0a
  have hk0d : decide (k0 < 0) = false := by simp; omega
  rw [← hk0]
  clear hk0
  clear Ox0
  clear Bx0
  clear hO
  have BA0' := Lib.hid (box_turned BA0.out ht (fun h => by have := INOx0.out _ h; omega))
  have BA1' := Lib.hid (box_turned BA1.out ht (fun h => by have := INOx0.out _ h; omega))
  have Oq' := Lib.hid (Oq.out.turned ht (fun k h h' => by have := INOx0.out k h'; have := INOq.out k h; omega))
  have Bq' := Lib.hid (box_turned Bq.out ht (fun h => by have := INOx0.out _ h; omega))
  have Ox1' := Lib.hid (Ox1.out.turned ht (fun k h h' => by have := INOx0.out k h'; have := INOx1.out k h; omega))
  have Bx1' := Lib.hid (box_turned Bx1.out ht (fun h => by have := INOx0.out _ h; omega))
  have Og' := Lib.hid (Og.out.turned ht (fun k h h' => by have := INOx0.out k h'; have := INOg.out k h; omega))
  have Bg' := Lib.hid (box_turned Bg.out ht (fun h => by have := INOx0.out _ h; omega))
  have hbn13 : Below w.heap.size w w14 := Turned.low hbn12 ht (fun k h => by have := INOx0.out k h; omega) hbn12.size
  have hsn13 := ht.size
  clear BA0
  clear BA1
  clear Oq
  clear Bq
  clear Ox1
  clear Bx1
  clear Og
  clear Bg
  have BA0 := BA0'
  clear BA0'
  have BA1 := BA1'
  clear BA1'
  have Oq := Oq'
  clear Oq'
  have Bq := Bq'
  clear Bq'
  have Ox1 := Ox1'
  clear Ox1'
  have Bx1 := Bx1'
  clear Bx1'
  have Og := Og'
  clear Og'
  have Bg := Bg'
  clear Bg'
  clear ht
  have cBx1_0 : w14.cell? ⟨w7.heap.size, 0, none⟩ = some (.int .i64 x1_0) := box_cell Bx1.out 0 _ rfl
  have cBx1_1 : w14.cell? ⟨w7.heap.size, 1, none⟩ = some (.slice x1_1A x1_1n x1_1c) := box_cell Bx1.out 1 _ rfl
  go_wp2_with fail
  refine (HMARK1.out _ _ _ _ _ d1 k0 Ox1.out HF1.out (by omega) (by omega)).mono ?_
  rintro e w15 ⟨rfl, hO, ht⟩
  clear cBx1_0 cBx1_1
  obtain ⟨k1, hk1⟩ : ∃ k : Int, k = k0 + (RecTy.rty.cnt d1 : Int) := ⟨_, rfl⟩
  have hk1a : 0 ≤ k1 ∧ k1 ≤ 60000000 := by have := RecTy.rty.few_cnt HF1.out; omega
  obtain ⟨hk1b, hk1c⟩ := hk1a
  have hk1d : decide (k1 < 0) = false := by simp; omega
  rw [← hk1]
  clear hk1
  clear Ox1
  clear Bx1
  clear hO
  have BA0' := Lib.hid (box_turned BA0.out ht (fun h => by have := INOx1.out _ h; omega))
  have BA1' := Lib.hid (box_turned BA1.out ht (fun h => by have := INOx1.out _ h; omega))
  have Oq' := Lib.hid (Oq.out.turned ht (fun k h h' => by have := INOx1.out k h'; have := INOq.out k h; omega))
  have Bq' := Lib.hid (box_turned Bq.out ht (fun h => by have := INOx1.out _ h; omega))
  have Og' := Lib.hid (Og.out.turned ht (fun k h h' => by have := INOx1.out k h'; have := INOg.out k h; omega))
  have Bg' := Lib.hid (box_turned Bg.out ht (fun h => by have := INOx1.out _ h; omega))
  have hbn14 : Below w.heap.size w w15 := Turned.low hbn13 ht (fun k h => by have := INOx1.out k h; omega) hbn13.size
  have hsn14 := ht.size
  clear BA0
  clear BA1
  clear Oq
  clear Bq
  clear Og
  clear Bg
  have BA0 := BA0'
  clear BA0'
  have BA1 := BA1'
  clear BA1'
  have Oq := Oq'
  clear Oq'
  have Bq := Bq'
  clear Bq'
  have Og := Og'
  clear Og'
  have Bg := Bg'
  clear Bg'
  clear ht
  have cBg_0 : w15.cell? ⟨w8.heap.size, 0, none⟩ = some (.slice g_0A g_0n g_0c) := box_cell Bg.out 0 _ rfl
  have cBg_1 : w15.cell? ⟨w8.heap.size, 1, none⟩ = some (.slice g_1A g_1n g_1c) := box_cell Bg.out 1 _ rfl
  have cBg_2 : w15.cell? ⟨w8.heap.size, 2, none⟩ = some (.int .i64 g_2) := box_cell Bg.out 2 _ rfl
  have cBq_0 : w15.cell? ⟨bq, 0, none⟩ = some (.slice q_0A q_0n q_0c) := box_cell Bq.out 0 _ rfl
  have cBq_1 : w15.cell? ⟨bq, 1, none⟩ = some (.slice q_1A q_1n q_1c) := box_cell Bq.out 1 _ rfl
  have cBq_2 : w15.cell? ⟨bq, 2, none⟩ = some (.int .i64 q_2) := box_cell Bq.out 2 _ rfl
  go_wp2_with fail
  refine (HREQ.out _ _ _ _ _ r0 Og.out.rd Oq.out.rd (Nat.le_refl _) (Nat.le_refl _) HRF2.out).mono ?_
  rintro e w16 ⟨rfl, hbs⟩
  clear cBg_0 cBg_1 cBg_2 cBq_0 cBq_1 cBq_2
  have BA0' := Lib.hid (box_below BA0.out hbs)
  have BA1' := Lib.hid (box_below BA1.out hbs)
  have Oq' := Lib.hid (Oq.out.below hbs)
  have Bq' := Lib.hid (box_below Bq.out hbs)
  have Og' := Lib.hid (Og.out.below hbs)
  have Bg' := Lib.hid (box_below Bg.out hbs)
  have hbn15 : Below w.heap.size w w16 := bel_then hbn14 hbs hbn14.size
  have hsn15 := hbs.size
  clear BA0
  clear BA1
  clear Oq
  clear Bq
  clear Og
  clear Bg
  have BA0 := BA0'
  clear BA0'
  have BA1 := BA1'
  clear BA1'
  have Oq := Oq'
  clear Oq'
  have Bq := Bq'
  clear Bq'
  have Og := Og'
  clear Og'
  have Bg := Bg'
  clear Bg'
  clear hbs
  have cBg_0 : w16.cell? ⟨w8.heap.size, 0, none⟩ = some (.slice g_0A g_0n g_0c) := box_cell Bg.out 0 _ rfl
  have cBg_1 : w16.cell? ⟨w8.heap.size, 1, none⟩ = some (.slice g_1A g_1n g_1c) := box_cell Bg.out 1 _ rfl
  have cBg_2 : w16.cell? ⟨w8.heap.size, 2, none⟩ = some (.int .i64 g_2) := box_cell Bg.out 2 _ rfl
  go_wp2_with fail
  refine (HRMARK.out _ _ _ _ _ r0 1 Og.out HRF2.out (by omega) (by omega)).mono ?_
  rintro e w17 ⟨rfl, hO, ht⟩
  clear cBg_0 cBg_1 cBg_2
  have HELD : Hid (∀ (W : World) (B : Nat), Jour.jty.Rd W B (.agg #[.slice g_0A g_0n g_0c, .slice g_1A g_1n g_1c, .int .i64 g_2]) (Jour.jty.mark 1 r0) → B ≤ W.heap.size → Calls Try.prog 37 #[(.agg #[.slice g_0A g_0n g_0c, .slice g_1A g_1n g_1c, .int .i64 g_2]), .int .i64 1] W (Says (.int .i64 (1 + Jour.jty.cnt r0)) W)) := fun W B h hB => HRHELD.out W B _ r0 1 h hB HRF2.out (by omega) (by omega)
  obtain ⟨M, hM⟩ : ∃ M : Int, M = 1 + (Jour.jty.cnt r0 : Int) := ⟨_, rfl⟩
  have hM0 : decide (M < 0) = false := by have := Jour.jty.few_cnt HRF2.out; simp; omega
  have hM1 : ¬ M < 0 := by simpa using hM0
  rw [← hM] at HELD ⊢
  clear hM
  clear Og
  have HG := Lib.hid hO
  clear hO
  have BA0' := Lib.hid (box_turned BA0.out ht (fun h => by have := INOg.out _ h; omega))
  have BA1' := Lib.hid (box_turned BA1.out ht (fun h => by have := INOg.out _ h; omega))
  have Oq' := Lib.hid (Oq.out.turned ht (fun k h h' => by have := INOg.out k h'; have := INOq.out k h; omega))
  have Bq' := Lib.hid (box_turned Bq.out ht (fun h => by have := INOg.out _ h; omega))
  have Bg' := Lib.hid (box_turned Bg.out ht (fun h => by have := INOg.out _ h; omega))
  have hbn16 : Below w.heap.size w w17 := Turned.low hbn15 ht (fun k h => by have := INOg.out k h; omega) hbn15.size
  have hsn16 := ht.size
  clear BA0
  clear BA1
  clear Oq
  clear Bq
  clear Bg
  have BA0 := BA0'
  clear BA0'
  have BA1 := BA1'
  clear BA1'
  have Oq := Oq'
  clear Oq'
  have Bq := Bq'
  clear Bq'
  have Bg := Bg'
  clear Bg'
  clear ht
  have INHG := INOg
  have cBg_0 : w17.cell? ⟨w8.heap.size, 0, none⟩ = some (.slice g_0A g_0n g_0c) := box_cell Bg.out 0 _ rfl
  have cBg_1 : w17.cell? ⟨w8.heap.size, 1, none⟩ = some (.slice g_1A g_1n g_1c) := box_cell Bg.out 1 _ rfl
  have cBg_2 : w17.cell? ⟨w8.heap.size, 2, none⟩ = some (.int .i64 g_2) := box_cell Bg.out 2 _ rfl
  go_wp2_with fail
  refine (HELD.out _ _ HG.out.rd (Nat.le_refl _)).mono ?_
  rintro e w18 ⟨rfl, hbs⟩
  clear cBg_0 cBg_1 cBg_2
  have BA0' := Lib.hid (box_below BA0.out hbs)
  have BA1' := Lib.hid (box_below BA1.out hbs)
  have Oq' := Lib.hid (Oq.out.below hbs)
  have Bq' := Lib.hid (box_below Bq.out hbs)
  have Bg' := Lib.hid (box_below Bg.out hbs)
  have HG' := Lib.hid (HG.out.below hbs)
  have hbn17 : Below w.heap.size w w18 := bel_then hbn16 hbs hbn16.size
  have hsn17 := hbs.size
  clear BA0
  clear BA1
  clear Oq
  clear Bq
  clear Bg
  clear HG
  have BA0 := BA0'
  clear BA0'
  have BA1 := BA1'
  clear BA1'
  have Oq := Oq'
  clear Oq'
  have Bq := Bq'
  clear Bq'
  have Bg := Bg'
  clear Bg'
  have HG := HG'
  clear HG'
  clear hbs
  have cBA0_0 : w18.cell? ⟨w.heap.size, 0, none⟩ = some (.slice a0_0A a0_0n a0_0c) := box_cell BA0.out 0 _ rfl
  have cBA0_1 : w18.cell? ⟨w.heap.size, 1, none⟩ = some (.slice a0_1A a0_1n a0_1c) := box_cell BA0.out 1 _ rfl
  have cBA0_2 : w18.cell? ⟨w.heap.size, 2, none⟩ = some (.int .i64 a0_2) := box_cell BA0.out 2 _ rfl
  have cBA1_0 : w18.cell? ⟨w.heap.size + 1, 0, none⟩ = some (.int .i64 a1_0) := box_cell BA1.out 0 _ rfl
  have cBA1_1 : w18.cell? ⟨w.heap.size + 1, 1, none⟩ = some (.slice a1_1A a1_1n a1_1c) := box_cell BA1.out 1 _ rfl
  go_wp2_with fail
  go_cut [15, 16] (fun s15 s16 wx => ∃ (bh : Nat) (h_0A : Option Addr) (h_0n h_0c : Nat) (h_1A : Option Addr) (h_1n h_1c : Nat) (h_2 : Int) (Sh : Nat → Prop), s15 = .pointer (some ⟨bh, 0, none⟩) ∧ s16 = .bool r1 ∧ Hid (wx.heap[bh]? = some (.cells #[.slice h_0A h_0n h_0c, .slice h_1A h_1n h_1c, .int .i64 h_2] 64)) ∧ Hid (Has Jour.jty wx w18.heap.size wx.heap.size Sh (.agg #[.slice h_0A h_0n h_0c, .slice h_1A h_1n h_1c, .int .i64 h_2]) r0) ∧ Hid (Below w18.heap.size w18 wx))
  case first =>
    go_region_held3 (fun w' => w'.cell? ⟨w.heap.size, 0, none⟩ = some (.slice a0_0A a0_0n a0_0c) ∧ w'.cell? ⟨w.heap.size, 1, none⟩ = some (.slice a0_1A a0_1n a0_1c) ∧ w'.cell? ⟨w.heap.size, 2, none⟩ = some (.int .i64 a0_2) ∧ w'.cell? ⟨w.heap.size + 1, 0, none⟩ = some (.int .i64 a1_0) ∧ w'.cell? ⟨w.heap.size + 1, 1, none⟩ = some (.slice a1_1A a1_1n a1_1c))
      (first | (go_keep; done) | exact ⟨far1 (by omega) (far1 (by omega) (far1 (by omega) (cz0_0))), far1 (by omega) (far1 (by omega) (far1 (by omega) (cz0_1))), far1 (by omega) (far1 (by omega) (far1 (by omega) (cz0_2))), far1 (by omega) (far1 (by omega) (far1 (by omega) (cz1_0))), far1 (by omega) (far1 (by omega) (far1 (by omega) (cz1_1)))⟩ | (refine ⟨cell_keep hbf ?_, cell_keep hbf ?_, cell_keep hbf ?_, cell_keep hbf ?_, cell_keep hbf ?_⟩ <;> simp only [*]; done) | (refine ⟨cell_keep hbd1 ?_, cell_keep hbd1 ?_, cell_keep hbd1 ?_, cell_keep hbd1 ?_, cell_keep hbd1 ?_⟩ <;> simp only [*]; done) | (refine ⟨cell_keep hbd0 ?_, cell_keep hbd0 ?_, cell_keep hbd0 ?_, cell_keep hbd0 ?_, cell_keep hbd0 ?_⟩ <;> simp only [*]; done) | go_keep)
      (first | (have hgo := hbd1; clear hgo; go_at_call 32; refine (HI2.out _ _ _ _ _ (by first | exact (Od0.out.below hbq1).rd | exact ((Od0.out.below hbq1).alloc _).rd) (by exact Nat.le_refl _) (by first | exact Od1.out.rd | exact (Od1.out.alloc _).rd) (by exact Nat.le_refl _)).mono ?_; rintro e w21 ⟨h, Sh, rfl, hOf, hbf⟩; obtain ⟨h_0A, h_0n, h_0c, h_1A, h_1n, h_1c, h_2, rfl⟩ := Jour.shape hOf; have hbq2 : Below w20.heap.size w20 w21 := (by first | exact al0 hbf | exact al1 hbf); have hbz : Below w18.heap.size w18 w21 := bel_then (undrew hbq0) (bel_then hbq1 hbq2 hbq1.size) hbq0.size; have cz0_0 : w21.cell? ⟨w.heap.size, 0, none⟩ = some (.slice a0_0A a0_0n a0_0c) := box_cell (box_below BA0.out hbz) 0 _ rfl; have cz0_1 : w21.cell? ⟨w.heap.size, 1, none⟩ = some (.slice a0_1A a0_1n a0_1c) := box_cell (box_below BA0.out hbz) 1 _ rfl; have cz0_2 : w21.cell? ⟨w.heap.size, 2, none⟩ = some (.int .i64 a0_2) := box_cell (box_below BA0.out hbz) 2 _ rfl; have cz1_0 : w21.cell? ⟨w.heap.size + 1, 0, none⟩ = some (.int .i64 a1_0) := box_cell (box_below BA1.out hbz) 0 _ rfl; have cz1_1 : w21.cell? ⟨w.heap.size + 1, 1, none⟩ = some (.slice a1_1A a1_1n a1_1c) := box_cell (box_below BA1.out hbz) 1 _ rfl; have hz0 := (undrew hbq0).size; have hz1 := hbq1.size; have hz2 := hbq2.size; have hzb0 := box_lt BA0.out; have hzb1 := box_lt BA1.out; (try (have bz2 := box_below bz hbf; clear bz; have bz := bz2; clear bz2)); (try have bz := box_below (box_new _ (.cells #[.slice none 0 0, .slice none 0 0, .int .i64 0] 64)) hbf); (try have ez0 := box_cell bz 0 (.slice none 0 0) rfl); (try have fz0 := box_frozen bz 0); (try have ez1 := box_cell bz 1 (.slice none 0 0) rfl); (try have fz1 := box_frozen bz 1); (try have ez2 := box_cell bz 2 (.int .i64 0) rfl); (try have fz2 := box_frozen bz 2); (try have bZ := Lib.hid bz); (try clear bz)) | (have hgo := hbd0; clear hgo; go_at_call 31; refine (HTO1.out _ w.heap.size _ d1 (by first | exact RecTy.rty.rd_below HR1.out hbp0 (Nat.le_refl _) | exact RecTy.rty.rd_below HR1.out (hbp0.alloc hbp0.size _) (Nat.le_refl _)) (by first | exact hbp0.size | exact Nat.le_trans hbp0.size (Nat.le_of_lt (by simp))) HF1.out).mono ?_; rintro e w20 ⟨u1, Su1, rfl, hOd1, hbd1⟩; have hbq1 : Below w19.heap.size w19 w20 := (by first | exact al0 hbd1 | exact al1 hbd1); have Od1 := Lib.hid hOd1; clear hOd1; have hbp1 : Below w.heap.size w w20 := bel_then hbp0 hbq1 hbp0.size; (try (have bz2 := box_below bz hbd1; clear bz; have bz := bz2; clear bz2)); (try have bz := box_below (box_new _ (.cells #[.slice none 0 0, .slice none 0 0, .int .i64 0] 64)) hbd1); (try have hzz := box_lt bz)) | (go_at_call 30; refine (HTO0.out _ w.heap.size _ d0 (by first | exact Jour.jty.rd_below HR0.out hbn17.drew (Nat.le_refl _) | exact Jour.jty.rd_below HR0.out (hbn17.drew.alloc hbn17.size _) (Nat.le_refl _)) (by first | exact hbn17.size | exact Nat.le_trans hbn17.size (Nat.le_of_lt (by simp))) HF0.out).mono ?_; rintro e w19 ⟨u0, Su0, rfl, hOd0, hbd0⟩; have hbq0 : Below w18.drew.heap.size w18.drew w19 := (by first | exact al0 hbd0 | exact al1 hbd0); have Od0 := Lib.hid hOd0; clear hOd0; have hbp0 : Below w.heap.size w w19 := bel_then hbn17.drew hbq0 hbn17.size; (try have bz := box_below (box_newd w18 (.cells #[.slice none 0 0, .slice none 0 0, .int .i64 0] 64)) hbd0); (try have hzz := box_lt bz)))
    all_goals
      go_wp2_with fail
      go_meet
      case rel =>
        first
          | (exact ⟨_, _, _, _, _, _, _, _, Sh, rfl, rfl, box_new _ _, (hOf.alloc _).grow (by omega) (by simp) (Nat.le_refl _), hbz.alloc hbz.size _⟩)
          | (exact ⟨_, _, _, _, _, _, _, _, Sh, rfl, rfl, (box_set (i := 2) (box_set (i := 1) (box_set (i := 0) bZ.out _) _) _), (hOf.turned (((Turned.set (S := fun k => k = w18.heap.size) _ _ _ rfl).trans (Turned.set (S := fun k => k = w18.heap.size) _ _ _ rfl)).trans (Turned.set (S := fun k => k = w18.heap.size) _ _ _ rfl)) (fun k hk e => by have h1 := hOf.inn k hk; first | omega | (simp only [World.size_alloc] at h1; omega))).grow (by first | omega | (simp only [World.size_alloc]; omega)) (by simp [World.setCell]) (Nat.le_refl _), Turned.low hbz (((Turned.set (S := fun k => k = w18.heap.size) _ _ _ rfl).trans (Turned.set (S := fun k => k = w18.heap.size) _ _ _ rfl)).trans (Turned.set (S := fun k => k = w18.heap.size) _ _ _ rfl)) (fun k hk => by omega) hbz.size⟩)
          | (exact ⟨_, _, _, _, _, _, _, _, Sh, rfl, rfl, (box_set (i := 2) (box_set (i := 1) (box_set (i := 0) bZ.out _) _) _), (hOf.turned (((Turned.set (S := fun k => k = w19.heap.size) _ _ _ rfl).trans (Turned.set (S := fun k => k = w19.heap.size) _ _ _ rfl)).trans (Turned.set (S := fun k => k = w19.heap.size) _ _ _ rfl)) (fun k hk e => by have h1 := hOf.inn k hk; first | omega | (simp only [World.size_alloc] at h1; omega))).grow (by first | omega | (simp only [World.size_alloc]; omega)) (by simp [World.setCell]) (Nat.le_refl _), Turned.low hbz (((Turned.set (S := fun k => k = w19.heap.size) _ _ _ rfl).trans (Turned.set (S := fun k => k = w19.heap.size) _ _ _ rfl)).trans (Turned.set (S := fun k => k = w19.heap.size) _ _ _ rfl)) (fun k hk => by omega) hbz.size⟩)
          | (exact ⟨_, _, _, _, _, _, _, _, Sh, rfl, rfl, (box_set (i := 2) (box_set (i := 1) (box_set (i := 0) bZ.out _) _) _), (hOf.turned (((Turned.set (S := fun k => k = w20.heap.size) _ _ _ rfl).trans (Turned.set (S := fun k => k = w20.heap.size) _ _ _ rfl)).trans (Turned.set (S := fun k => k = w20.heap.size) _ _ _ rfl)) (fun k hk e => by have h1 := hOf.inn k hk; first | omega | (simp only [World.size_alloc] at h1; omega))).grow (by first | omega | (simp only [World.size_alloc]; omega)) (by simp [World.setCell]) (Nat.le_refl _), Turned.low hbz (((Turned.set (S := fun k => k = w20.heap.size) _ _ _ rfl).trans (Turned.set (S := fun k => k = w20.heap.size) _ _ _ rfl)).trans (Turned.set (S := fun k => k = w20.heap.size) _ _ _ rfl)) (fun k hk => by omega) hbz.size⟩)
  obtain ⟨wh, hwq⟩ : ∃ x, x = wc := ⟨_, rfl⟩
  subst hwq
  obtain ⟨bh, h_0A, h_0n, h_0c, h_1A, h_1n, h_1c, h_2, Sh, rfl, rfl, Bh, Oh, HBS⟩ := hcut
  clear cBA0_0 cBA0_1 cBA0_2 cBA1_0 cBA1_1
  have hbs := HBS.out
  clear HBS
  have INOh : Hid (∀ k, Sh k → w18.heap.size ≤ k ∧ k < wh.heap.size) := fun k hk => by have h := Oh.out.inn k hk; first | exact h | (simp only [World.size_alloc] at h; exact h)
  have hlth := box_lt Bh.out
  have BA0' := Lib.hid (box_below BA0.out hbs)
  have BA1' := Lib.hid (box_below BA1.out hbs)
  have Oq' := Lib.hid (Oq.out.below hbs)
  have Bq' := Lib.hid (box_below Bq.out hbs)
  have Bg' := Lib.hid (box_below Bg.out hbs)
  have HG' := Lib.hid (HG.out.below hbs)
  have hbn18 : Below w.heap.size w wh := bel_then hbn17 hbs hbn17.size
  have hsn18 := hbs.size
  clear BA0
  clear BA1
  clear Oq
  clear Bq
  clear Bg
  clear HG
  have BA0 := BA0'
  clear BA0'
  have BA1 := BA1'
  clear BA1'
  have Oq := Oq'
  clear Oq'
  have Bq := Bq'
  clear Bq'
  have Bg := Bg'
  clear Bg'
  have HG := HG'
  clear HG'
  clear hbs
  have cBh_0 : wh.cell? ⟨bh, 0, none⟩ = some (.slice h_0A h_0n h_0c) := box_cell Bh.out 0 _ rfl
  have cBh_1 : wh.cell? ⟨bh, 1, none⟩ = some (.slice h_1A h_1n h_1c) := box_cell Bh.out 1 _ rfl
  have cBh_2 : wh.cell? ⟨bh, 2, none⟩ = some (.int .i64 h_2) := box_cell Bh.out 2 _ rfl
  have cBq_0 : wh.cell? ⟨bq, 0, none⟩ = some (.slice q_0A q_0n q_0c) := box_cell Bq.out 0 _ rfl
  have cBq_1 : wh.cell? ⟨bq, 1, none⟩ = some (.slice q_1A q_1n q_1c) := box_cell Bq.out 1 _ rfl
  have cBq_2 : wh.cell? ⟨bq, 2, none⟩ = some (.int .i64 q_2) := box_cell Bq.out 2 _ rfl
  go_wp2_with fail
  refine (HREQ.out _ _ _ _ _ r0 Oh.out.rd Oq.out.rd (Nat.le_refl _) (Nat.le_refl _) HRF2.out).mono ?_
  rintro e w22 ⟨rfl, hbs⟩
  clear cBh_0 cBh_1 cBh_2 cBq_0 cBq_1 cBq_2
  have BA0' := Lib.hid (box_below BA0.out hbs)
  have BA1' := Lib.hid (box_below BA1.out hbs)
  have Oq' := Lib.hid (Oq.out.below hbs)
  have Bq' := Lib.hid (box_below Bq.out hbs)
  have Bg' := Lib.hid (box_below Bg.out hbs)
  have HG' := Lib.hid (HG.out.below hbs)
  have Oh' := Lib.hid (Oh.out.below hbs)
  have Bh' := Lib.hid (box_below Bh.out hbs)
  have hbn19 : Below w.heap.size w w22 := bel_then hbn18 hbs hbn18.size
  have hsn19 := hbs.size
  clear BA0
  clear BA1
  clear Oq
  clear Bq
  clear Bg
  clear HG
  clear Oh
  clear Bh
  have BA0 := BA0'
  clear BA0'
  have BA1 := BA1'
  clear BA1'
  have Oq := Oq'
  clear Oq'
  have Bq := Bq'
  clear Bq'
  have Bg := Bg'
  clear Bg'
  have HG := HG'
  clear HG'
  have Oh := Oh'
  clear Oh'
  have Bh := Bh'
  clear Bh'
  clear hbs
  clear Oh
  clear Oq
  clear Bh
  clear Bq
  have cBg_0 : w22.cell? ⟨w8.heap.size, 0, none⟩ = some (.slice g_0A g_0n g_0c) := box_cell Bg.out 0 _ rfl
  have cBg_1 : w22.cell? ⟨w8.heap.size, 1, none⟩ = some (.slice g_1A g_1n g_1c) := box_cell Bg.out 1 _ rfl
  have cBg_2 : w22.cell? ⟨w8.heap.size, 2, none⟩ = some (.int .i64 g_2) := box_cell Bg.out 2 _ rfl
  go_wp2_with fail
  refine (HELD.out _ _ HG.out.rd (Nat.le_refl _)).mono ?_
  rintro e w23 ⟨rfl, hbs⟩
  clear cBg_0 cBg_1 cBg_2
  go_wp2
  go_ret
  exact ⟨rfl, bel_then hbn19 hbs hbn19.size⟩
end Go.Proofs.Ytpghccbknlokcaa.LawAppendRecord
