/-
  THE WALK of laws.FnExactReadJournal over this seat's translation: it answers true and turns nothing that was there, if the model and the program keep one contract.
-/
import Derived.Test.YtpghccbknlokcaaDoorJourC
import Derived.Test.YtpghccbknlokcaaDoorRecsTy
namespace Go.Proofs.YtpghccbknlokcaaDoor.LawReadJournal
open Go.ChangeShapes Go.WideShapes Go.ChangeAt Go.RowKit
open Go.Proofs.YtpghccbknlokcaaDoor.LK
set_option linter.unusedVariables false

set_option maxRecDepth 100000 in
set_option maxHeartbeats 12800000 in
theorem walk (a0_0A : Option Addr) (a0_0n a0_0c : Nat) (a0_1A : Option Addr) (a0_1n a0_1c : Nat) (a0_2 : Int) (d0 : JourC.cty.D) (r0 : RecsTy.sty.D) (r1 : Bool) (w : World) (hr0 : JourC.cty.Rd w w.heap.size (.agg #[.slice a0_0A a0_0n a0_0c, .slice a0_1A a0_1n a0_1c, .int .i64 a0_2]) d0) (hz0 : SzC 16 JourC.cty (.agg #[.slice a0_0A a0_0n a0_0c, .slice a0_1A a0_1n a0_1c, .int .i64 a0_2]) d0 w) (hrf : JourC.cty.Few d0 → RecsTy.sty.Few r0) (hS : JourC.cty.Few d0 → ∀ (W : World) (B0 : Nat) (v0 : Value), Below w.heap.size w W → JourC.cty.Rd W B0 v0 d0 → B0 ≤ W.heap.size → Calls Tryd.prog 17 #[v0] W (Made1 RecsTy.sty r0 (.bool r1) W)) (hI : JourC.cty.Few d0 → ∀ (W : World) (B0 : Nat) (v0 : Value), Below w.heap.size w W → JourC.cty.Rd W B0 v0 d0 → B0 ≤ W.heap.size → Calls Tryd.prog 11 #[v0] W (Made1 RecsTy.sty r0 (.bool r1) W)) :
    Calls Tryd.prog 4 #[.agg #[.slice a0_0A a0_0n a0_0c, .slice a0_1A a0_1n a0_1c, .int .i64 a0_2]] w fun e w' => e = .returned (.bool true) ∧ Below w.heap.size w w' := by
  have HR0 := Lib.hid hr0
  have HZ0 := Lib.hid hz0
  clear hr0 hz0
  have HS := Lib.hid hS
  have HI := Lib.hid hI
  clear hS hI
  have HRF := Lib.hid hrf
  clear hrf
  have hbb1 : (r1 != r1) = false := by simp
  have hb0 : Below w.heap.size w (w.alloc (.cells #[.slice a0_0A a0_0n a0_0c, .slice a0_1A a0_1n a0_1c, .int .i64 a0_2] 43)) := bel1 _ _
  have BA0 : Hid ((w.alloc (.cells #[.slice a0_0A a0_0n a0_0c, .slice a0_1A a0_1n a0_1c, .int .i64 a0_2] 43)).heap[w.heap.size]? = some (.cells #[.slice a0_0A a0_0n a0_0c, .slice a0_1A a0_1n a0_1c, .int .i64 a0_2] 43)) := box_new w (.cells #[.slice a0_0A a0_0n a0_0c, .slice a0_1A a0_1n a0_1c, .int .i64 a0_2] 43)
  have cBA0_0 : (w.alloc (.cells #[.slice a0_0A a0_0n a0_0c, .slice a0_1A a0_1n a0_1c, .int .i64 a0_2] 43)).cell? ⟨w.heap.size, 0, none⟩ = some (.slice a0_0A a0_0n a0_0c) := box_cell BA0.out 0 _ rfl
  have cBA0_1 : (w.alloc (.cells #[.slice a0_0A a0_0n a0_0c, .slice a0_1A a0_1n a0_1c, .int .i64 a0_2] 43)).cell? ⟨w.heap.size, 1, none⟩ = some (.slice a0_1A a0_1n a0_1c) := box_cell BA0.out 1 _ rfl
  have cBA0_2 : (w.alloc (.cells #[.slice a0_0A a0_0n a0_0c, .slice a0_1A a0_1n a0_1c, .int .i64 a0_2] 43)).cell? ⟨w.heap.size, 2, none⟩ = some (.int .i64 a0_2) := box_cell BA0.out 2 _ rfl
  go_enter Tryd.func4, Tryd.ntmps4
  go_wp2_with fail
  refine (HZ0.out _ 1048576 hb0 (by omega) (by omega)).mono ?_
  rintro e w1 ⟨z0, rfl, hbs, hz0⟩
  clear cBA0_0 cBA0_1 cBA0_2
  have BA0' := Lib.hid (box_below BA0.out hbs)
  have hbn1 : Below w.heap.size w w1 := bel_then hb0 hbs hb0.size
  have hsn1 := hbs.size
  simp only [World.size_alloc] at hsn1
  clear BA0
  have BA0 := BA0'
  clear BA0'
  clear hbs
  rcases hz0 with rfl | ⟨hz0a, hz0b, hf0⟩
  · go_wp2
    go_ret
    exact ⟨rfl, hbn1⟩
  have HF0 := Lib.hid hf0
  clear hf0
  have hzd0 : decide (z0 < 0) = false := by simp; omega
  have cBA0_0 : w1.cell? ⟨w.heap.size, 0, none⟩ = some (.slice a0_0A a0_0n a0_0c) := box_cell BA0.out 0 _ rfl
  have cBA0_1 : w1.cell? ⟨w.heap.size, 1, none⟩ = some (.slice a0_1A a0_1n a0_1c) := box_cell BA0.out 1 _ rfl
  have cBA0_2 : w1.cell? ⟨w.heap.size, 2, none⟩ = some (.int .i64 a0_2) := box_cell BA0.out 2 _ rfl
  have HRF2 := Lib.hid (HRF.out HF0.out)
  have HS2 := Lib.hid (HS.out HF0.out)
  have HI2 := Lib.hid (HI.out HF0.out)
  clear HS HI
  have HTO0 : Hid (ToC 18 JourC.cty) := JourC.toJournal_any
  have HEQ0 : Hid (EqC 20 JourC.cty) := JourC.eqJournal_any
  have HMARK0 : Hid (MarkC 21 JourC.cty) := JourC.markJournal_any
  have HREQ : Hid (EqC 19 RecsTy.sty) := RecsTy.eqRecordS_any
  have HRMARK : Hid (MarkC 22 RecsTy.sty) := RecsTy.markRecordS_any
  have HRHELD : Hid (HeldC 23 RecsTy.sty) := RecsTy.heldRecordS_any
  go_wp2_with fail
  refine (HTO0.out _ w.heap.size _ d0 (JourC.cty.rd_below HR0.out hbn1 (Nat.le_refl _)) hbn1.size HF0.out).mono ?_
  rintro e w2 ⟨y0, Sy0, rfl, hO, hbs⟩
  clear cBA0_0 cBA0_1 cBA0_2
  have BA0' := Lib.hid (box_below BA0.out hbs)
  have hbn2 : Below w.heap.size w w2 := bel_then hbn1 hbs hbn1.size
  have hsn2 := hbs.size
  clear BA0
  have BA0 := BA0'
  clear BA0'
  clear hbs
  have Oy0 := Lib.hid hO
  clear hO
  have INOy0 : Hid (∀ k, Sy0 k → w1.heap.size ≤ k ∧ k < w2.heap.size) := fun k hk => by have h := Oy0.out.inn k hk; first | exact h | (simp only [World.size_alloc] at h; exact h)
  go_wp2_with fail
  refine (HS2.out _ _ _ hbn2 Oy0.out.rd (Nat.le_refl _)).mono ?_
  rintro e w3 ⟨q, Sq, rfl, hO, hbs⟩
  have BA0' := Lib.hid (box_below BA0.out hbs)
  have Oy0' := Lib.hid (Oy0.out.below hbs)
  have hbn3 : Below w.heap.size w w3 := bel_then hbn2 hbs hbn2.size
  have hsn3 := hbs.size
  clear BA0
  clear Oy0
  have BA0 := BA0'
  clear BA0'
  have Oy0 := Oy0'
  clear Oy0'
  clear hbs
  have Oq := Lib.hid hO
  have INOq : Hid (∀ k, Sq k → w2.heap.size ≤ k ∧ k < w3.heap.size) := fun k hk => by have h := Oq.out.inn k hk; first | exact h | (simp only [World.size_alloc] at h; exact h)
  clear hO
  clear Oy0
  have cBA0_0 : w3.cell? ⟨w.heap.size, 0, none⟩ = some (.slice a0_0A a0_0n a0_0c) := box_cell BA0.out 0 _ rfl
  have cBA0_1 : w3.cell? ⟨w.heap.size, 1, none⟩ = some (.slice a0_1A a0_1n a0_1c) := box_cell BA0.out 1 _ rfl
  have cBA0_2 : w3.cell? ⟨w.heap.size, 2, none⟩ = some (.int .i64 a0_2) := box_cell BA0.out 2 _ rfl
  go_wp2_with fail
  refine (HTO0.out _ w.heap.size _ d0 (JourC.cty.rd_below HR0.out hbn3 (Nat.le_refl _)) hbn3.size HF0.out).mono ?_
  rintro e w4 ⟨x0, Sx0, rfl, hO, hbs⟩
  clear cBA0_0 cBA0_1 cBA0_2
  have BA0' := Lib.hid (box_below BA0.out hbs)
  have Oq' := Lib.hid (Oq.out.below hbs)
  have hbn4 : Below w.heap.size w w4 := bel_then hbn3 hbs hbn3.size
  have hsn4 := hbs.size
  clear BA0
  clear Oq
  have BA0 := BA0'
  clear BA0'
  have Oq := Oq'
  clear Oq'
  clear hbs
  have Ox0 := Lib.hid hO
  have INOx0 : Hid (∀ k, Sx0 k → w3.heap.size ≤ k ∧ k < w4.heap.size) := fun k hk => by have h := Ox0.out.inn k hk; first | exact h | (simp only [World.size_alloc] at h; exact h)
  obtain ⟨x0_0A, x0_0n, x0_0c, x0_1A, x0_1n, x0_1c, x0_2, rfl⟩ := JourC.shape hO
  clear hO
  have BA0' := Lib.hid (box_alloc BA0.out (.cells #[.slice x0_0A x0_0n x0_0c, .slice x0_1A x0_1n x0_1c, .int .i64 x0_2] 25))
  have Oq' := Lib.hid (Oq.out.alloc (.cells #[.slice x0_0A x0_0n x0_0c, .slice x0_1A x0_1n x0_1c, .int .i64 x0_2] 25))
  have Ox0' := Lib.hid (Ox0.out.alloc (.cells #[.slice x0_0A x0_0n x0_0c, .slice x0_1A x0_1n x0_1c, .int .i64 x0_2] 25))
  have hbn5 : Below w.heap.size w (w4.alloc (.cells #[.slice x0_0A x0_0n x0_0c, .slice x0_1A x0_1n x0_1c, .int .i64 x0_2] 25)) := hbn4.alloc hbn4.size _
  clear BA0
  clear Oq
  clear Ox0
  have BA0 := BA0'
  clear BA0'
  have Oq := Oq'
  clear Oq'
  have Ox0 := Ox0'
  clear Ox0'
  have Bx0 : Hid ((w4.alloc (.cells #[.slice x0_0A x0_0n x0_0c, .slice x0_1A x0_1n x0_1c, .int .i64 x0_2] 25)).heap[w4.heap.size]? = some (.cells #[.slice x0_0A x0_0n x0_0c, .slice x0_1A x0_1n x0_1c, .int .i64 x0_2] 25)) := box_new w4 (.cells #[.slice x0_0A x0_0n x0_0c, .slice x0_1A x0_1n x0_1c, .int .i64 x0_2] 25)
  have cBx0_0 : (w4.alloc (.cells #[.slice x0_0A x0_0n x0_0c, .slice x0_1A x0_1n x0_1c, .int .i64 x0_2] 25)).cell? ⟨w4.heap.size, 0, none⟩ = some (.slice x0_0A x0_0n x0_0c) := box_cell Bx0.out 0 _ rfl
  have cBx0_1 : (w4.alloc (.cells #[.slice x0_0A x0_0n x0_0c, .slice x0_1A x0_1n x0_1c, .int .i64 x0_2] 25)).cell? ⟨w4.heap.size, 1, none⟩ = some (.slice x0_1A x0_1n x0_1c) := box_cell Bx0.out 1 _ rfl
  have cBx0_2 : (w4.alloc (.cells #[.slice x0_0A x0_0n x0_0c, .slice x0_1A x0_1n x0_1c, .int .i64 x0_2] 25)).cell? ⟨w4.heap.size, 2, none⟩ = some (.int .i64 x0_2) := box_cell Bx0.out 2 _ rfl
  go_wp2_with fail
  refine (HI2.out _ _ _ hbn5 Ox0.out.rd (Nat.le_refl _)).mono ?_
  rintro e w5 ⟨g, Sg, rfl, hO, hbs⟩
  clear cBx0_0 cBx0_1 cBx0_2
  have BA0' := Lib.hid (box_below BA0.out hbs)
  have Oq' := Lib.hid (Oq.out.below hbs)
  have Ox0' := Lib.hid (Ox0.out.below hbs)
  have Bx0' := Lib.hid (box_below Bx0.out hbs)
  have hbn6 : Below w.heap.size w w5 := bel_then hbn5 hbs hbn5.size
  have hsn6 := hbs.size
  simp only [World.size_alloc] at hsn6
  clear BA0
  clear Oq
  clear Ox0
  clear Bx0
  have BA0 := BA0'
  clear BA0'
  have Oq := Oq'
  clear Oq'
  have Ox0 := Ox0'
  clear Ox0'
  have Bx0 := Bx0'
  clear Bx0'
  clear hbs
  have Og := Lib.hid hO
  have INOg : Hid (∀ k, Sg k → w4.heap.size + 1 ≤ k ∧ k < w5.heap.size) := fun k hk => by have h := Og.out.inn k hk; first | exact h | (simp only [World.size_alloc] at h; exact h)
  clear hO
  go_wp2_with fail
  refine (HREQ.out _ _ _ _ _ r0 Og.out.rd Oq.out.rd (Nat.le_refl _) (Nat.le_refl _) HRF2.out).mono ?_
  rintro e w6 ⟨rfl, hbs⟩
  have BA0' := Lib.hid (box_below BA0.out hbs)
  have Oq' := Lib.hid (Oq.out.below hbs)
  have Ox0' := Lib.hid (Ox0.out.below hbs)
  have Bx0' := Lib.hid (box_below Bx0.out hbs)
  have Og' := Lib.hid (Og.out.below hbs)
  have hbn7 : Below w.heap.size w w6 := bel_then hbn6 hbs hbn6.size
  have hsn7 := hbs.size
  clear BA0
  clear Oq
  clear Ox0
  clear Bx0
  clear Og
  have BA0 := BA0'
  clear BA0'
  have Oq := Oq'
  clear Oq'
  have Ox0 := Ox0'
  clear Ox0'
  have Bx0 := Bx0'
  clear Bx0'
  have Og := Og'
  clear Og'
  clear hbs
  have cBA0_0 : w6.cell? ⟨w.heap.size, 0, none⟩ = some (.slice a0_0A a0_0n a0_0c) := box_cell BA0.out 0 _ rfl
  have cBA0_1 : w6.cell? ⟨w.heap.size, 1, none⟩ = some (.slice a0_1A a0_1n a0_1c) := box_cell BA0.out 1 _ rfl
  have cBA0_2 : w6.cell? ⟨w.heap.size, 2, none⟩ = some (.int .i64 a0_2) := box_cell BA0.out 2 _ rfl
  have cBx0_0 : w6.cell? ⟨w4.heap.size, 0, none⟩ = some (.slice x0_0A x0_0n x0_0c) := box_cell Bx0.out 0 _ rfl
  have cBx0_1 : w6.cell? ⟨w4.heap.size, 1, none⟩ = some (.slice x0_1A x0_1n x0_1c) := box_cell Bx0.out 1 _ rfl
  have cBx0_2 : w6.cell? ⟨w4.heap.size, 2, none⟩ = some (.int .i64 x0_2) := box_cell Bx0.out 2 _ rfl
  go_wp2_with fail
  go_region_held3 (fun w' => w'.cell? ⟨w.heap.size, 0, none⟩ = some (.slice a0_0A a0_0n a0_0c) ∧ w'.cell? ⟨w.heap.size, 1, none⟩ = some (.slice a0_1A a0_1n a0_1c) ∧ w'.cell? ⟨w.heap.size, 2, none⟩ = some (.int .i64 a0_2) ∧ w'.cell? ⟨w4.heap.size, 0, none⟩ = some (.slice x0_0A x0_0n x0_0c) ∧ w'.cell? ⟨w4.heap.size, 1, none⟩ = some (.slice x0_1A x0_1n x0_1c) ∧ w'.cell? ⟨w4.heap.size, 2, none⟩ = some (.int .i64 x0_2))
    (first | go_keep | (refine ⟨cell_keep hb7 ?_, cell_keep hb7 ?_, cell_keep hb7 ?_, cell_keep hb7 ?_, cell_keep hb7 ?_, cell_keep hb7 ?_⟩ <;> simp only [*]) | (refine ⟨cell_keep hb8 ?_, cell_keep hb8 ?_, cell_keep hb8 ?_, cell_keep hb8 ?_, cell_keep hb8 ?_, cell_keep hb8 ?_⟩ <;> simp only [*]))
    (first | (go_at_call 18; refine (HTO0.out _ w.heap.size _ d0 (by exact JourC.cty.rd_below HR0.out hbn7.drew (Nat.le_refl _)) (by exact hbn7.size) HF0.out).mono ?_; rintro e w7 ⟨t0, St0, rfl, hO7, hb7⟩; have hb7' : Below w6.heap.size w6 w7 := undrew hb7; have HO7 := Lib.hid hO7; clear hO7) | (go_at_call 20; refine (HEQ0.out _ _ _ _ _ d0 (by exact (Ox0.out.below hb7').rd) (by exact HO7.out.rd) (by exact Nat.le_refl _) (by exact Nat.le_refl _) HF0.out).mono ?_; rintro e w8 ⟨rfl, hb8⟩))
  have hbs : Below w6.heap.size w6 w8 := bel_then hb7' hb8 hb7'.size
  clear hb7 hb7' hb8 HO7
  clear cBA0_0 cBA0_1 cBA0_2 cBx0_0 cBx0_1 cBx0_2
  have BA0' := Lib.hid (box_below BA0.out hbs)
  have Oq' := Lib.hid (Oq.out.below hbs)
  have Ox0' := Lib.hid (Ox0.out.below hbs)
  have Bx0' := Lib.hid (box_below Bx0.out hbs)
  have Og' := Lib.hid (Og.out.below hbs)
  have hbn8 : Below w.heap.size w w8 := bel_then hbn7 hbs hbn7.size
  have hsn8 := hbs.size
  clear BA0
  clear Oq
  clear Ox0
  clear Bx0
  clear Og
  have BA0 := BA0'
  clear BA0'
  have Oq := Oq'
  clear Oq'
  have Ox0 := Ox0'
  clear Ox0'
  have Bx0 := Bx0'
  clear Bx0'
  have Og := Og'
  clear Og'
  clear hbs
  have cBx0_0 : w8.cell? ⟨w4.heap.size, 0, none⟩ = some (.slice x0_0A x0_0n x0_0c) := box_cell Bx0.out 0 _ rfl
  have cBx0_1 : w8.cell? ⟨w4.heap.size, 1, none⟩ = some (.slice x0_1A x0_1n x0_1c) := box_cell Bx0.out 1 _ rfl
  have cBx0_2 : w8.cell? ⟨w4.heap.size, 2, none⟩ = some (.int .i64 x0_2) := box_cell Bx0.out 2 _ rfl
  go_wp2_with fail
  refine (HMARK0.out _ _ _ _ _ d0 1 Ox0.out HF0.out (by omega) (by omega)).mono ?_
  rintro e w9 ⟨rfl, hO, ht⟩
  clear cBx0_0 cBx0_1 cBx0_2
  obtain ⟨k0, hk0⟩ : ∃ k : Int, k = 1 + (JourC.cty.cnt d0 : Int) := ⟨_, rfl⟩
  have hk0a : 0 ≤ k0 ∧ k0 ≤ 30000000 := by have := JourC.cty.few_cnt HF0.out; omega
  obtain ⟨hk0b, hk0c⟩ := hk0a
  have hk0d : decide (k0 < 0) = false := by simp; omega
  rw [← hk0]
  clear hk0
  clear Ox0
  clear Bx0
  clear hO
  have BA0' := Lib.hid (box_turned BA0.out ht (fun h => by have := INOx0.out _ h; omega))
  have Oq' := Lib.hid (Oq.out.turned ht (fun k h h' => by have := INOx0.out k h'; have := INOq.out k h; omega))
  have Og' := Lib.hid (Og.out.turned ht (fun k h h' => by have := INOx0.out k h'; have := INOg.out k h; omega))
  have hbn9 : Below w.heap.size w w9 := Turned.low hbn8 ht (fun k h => by have := INOx0.out k h; omega) hbn8.size
  have hsn9 := ht.size
  clear BA0
  clear Oq
  clear Og
  have BA0 := BA0'
  clear BA0'
  have Oq := Oq'
  clear Oq'
  have Og := Og'
  clear Og'
  clear ht
  go_wp2_with fail
  refine (HREQ.out _ _ _ _ _ r0 Og.out.rd Oq.out.rd (Nat.le_refl _) (Nat.le_refl _) HRF2.out).mono ?_
  rintro e w10 ⟨rfl, hbs⟩
  have BA0' := Lib.hid (box_below BA0.out hbs)
  have Oq' := Lib.hid (Oq.out.below hbs)
  have Og' := Lib.hid (Og.out.below hbs)
  have hbn10 : Below w.heap.size w w10 := bel_then hbn9 hbs hbn9.size
  have hsn10 := hbs.size
  clear BA0
  clear Oq
  clear Og
  have BA0 := BA0'
  clear BA0'
  have Oq := Oq'
  clear Oq'
  have Og := Og'
  clear Og'
  clear hbs
  go_wp2_with fail
  refine (HRMARK.out _ _ _ _ _ r0 1 Og.out HRF2.out (by omega) (by omega)).mono ?_
  rintro e w11 ⟨rfl, hO, ht⟩
  have HELD : Hid (∀ (W : World) (B : Nat), RecsTy.sty.Rd W B g (RecsTy.sty.mark 1 r0) → B ≤ W.heap.size → Calls Tryd.prog 23 #[g, .int .i64 1] W (Says (.int .i64 (1 + RecsTy.sty.cnt r0)) W)) := fun W B h hB => HRHELD.out W B _ r0 1 h hB HRF2.out (by omega) (by omega)
  obtain ⟨M, hM⟩ : ∃ M : Int, M = 1 + (RecsTy.sty.cnt r0 : Int) := ⟨_, rfl⟩
  have hM0 : decide (M < 0) = false := by have := RecsTy.sty.few_cnt HRF2.out; simp; omega
  have hM1 : ¬ M < 0 := by simpa using hM0
  rw [← hM] at HELD ⊢
  clear hM
  clear Og
  have HG := Lib.hid hO
  clear hO
  have BA0' := Lib.hid (box_turned BA0.out ht (fun h => by have := INOg.out _ h; omega))
  have Oq' := Lib.hid (Oq.out.turned ht (fun k h h' => by have := INOg.out k h'; have := INOq.out k h; omega))
  have hbn11 : Below w.heap.size w w11 := Turned.low hbn10 ht (fun k h => by have := INOg.out k h; omega) hbn10.size
  have hsn11 := ht.size
  clear BA0
  clear Oq
  have BA0 := BA0'
  clear BA0'
  have Oq := Oq'
  clear Oq'
  clear ht
  have INHG := INOg
  go_wp2_with fail
  refine (HELD.out _ _ HG.out.rd (Nat.le_refl _)).mono ?_
  rintro e w12 ⟨rfl, hbs⟩
  have BA0' := Lib.hid (box_below BA0.out hbs)
  have Oq' := Lib.hid (Oq.out.below hbs)
  have HG' := Lib.hid (HG.out.below hbs)
  have hbn12 : Below w.heap.size w w12 := bel_then hbn11 hbs hbn11.size
  have hsn12 := hbs.size
  clear BA0
  clear Oq
  clear HG
  have BA0 := BA0'
  clear BA0'
  have Oq := Oq'
  clear Oq'
  have HG := HG'
  clear HG'
  clear hbs
  have cBA0_0 : w12.cell? ⟨w.heap.size, 0, none⟩ = some (.slice a0_0A a0_0n a0_0c) := box_cell BA0.out 0 _ rfl
  have cBA0_1 : w12.cell? ⟨w.heap.size, 1, none⟩ = some (.slice a0_1A a0_1n a0_1c) := box_cell BA0.out 1 _ rfl
  have cBA0_2 : w12.cell? ⟨w.heap.size, 2, none⟩ = some (.int .i64 a0_2) := box_cell BA0.out 2 _ rfl
  go_wp2_with fail
  refine (HTO0.out _ w.heap.size _ d0 (JourC.cty.rd_below HR0.out hbn12 (Nat.le_refl _)) hbn12.size HF0.out).mono ?_
  rintro e w13 ⟨u0, Su0, rfl, hO, hbs⟩
  clear cBA0_0 cBA0_1 cBA0_2
  have BA0' := Lib.hid (box_below BA0.out hbs)
  have Oq' := Lib.hid (Oq.out.below hbs)
  have HG' := Lib.hid (HG.out.below hbs)
  have hbn13 : Below w.heap.size w w13 := bel_then hbn12 hbs hbn12.size
  have hsn13 := hbs.size
  clear BA0
  clear Oq
  clear HG
  have BA0 := BA0'
  clear BA0'
  have Oq := Oq'
  clear Oq'
  have HG := HG'
  clear HG'
  clear hbs
  have Ou0 := Lib.hid hO
  clear hO
  have INOu0 : Hid (∀ k, Su0 k → w12.heap.size ≤ k ∧ k < w13.heap.size) := fun k hk => by have h := Ou0.out.inn k hk; first | exact h | (simp only [World.size_alloc] at h; exact h)
  go_wp2_with fail
  refine (HI2.out _ _ _ hbn13 Ou0.out.rd (Nat.le_refl _)).mono ?_
  rintro e w14 ⟨h, Sh, rfl, hO, hbs⟩
  have BA0' := Lib.hid (box_below BA0.out hbs)
  have Oq' := Lib.hid (Oq.out.below hbs)
  have HG' := Lib.hid (HG.out.below hbs)
  have Ou0' := Lib.hid (Ou0.out.below hbs)
  have hbn14 : Below w.heap.size w w14 := bel_then hbn13 hbs hbn13.size
  have hsn14 := hbs.size
  clear BA0
  clear Oq
  clear HG
  clear Ou0
  have BA0 := BA0'
  clear BA0'
  have Oq := Oq'
  clear Oq'
  have HG := HG'
  clear HG'
  have Ou0 := Ou0'
  clear Ou0'
  clear hbs
  have Oh := Lib.hid hO
  have INOh : Hid (∀ k, Sh k → w13.heap.size ≤ k ∧ k < w14.heap.size) := fun k hk => by have h := Oh.out.inn k hk; first | exact h | (simp only [World.size_alloc] at h; exact h)
  clear hO
  clear Ou0
  go_wp2_with fail
  refine (HREQ.out _ _ _ _ _ r0 Oh.out.rd Oq.out.rd (Nat.le_refl _) (Nat.le_refl _) HRF2.out).mono ?_
  rintro e w15 ⟨rfl, hbs⟩
  have BA0' := Lib.hid (box_below BA0.out hbs)
  have Oq' := Lib.hid (Oq.out.below hbs)
  have HG' := Lib.hid (HG.out.below hbs)
  have Oh' := Lib.hid (Oh.out.below hbs)
  have hbn15 : Below w.heap.size w w15 := bel_then hbn14 hbs hbn14.size
  have hsn15 := hbs.size
  clear BA0
  clear Oq
  clear HG
  clear Oh
  have BA0 := BA0'
  clear BA0'
  have Oq := Oq'
  clear Oq'
  have HG := HG'
  clear HG'
  have Oh := Oh'
  clear Oh'
  clear hbs
  clear Oh
  clear Oq
  go_wp2_with fail
  refine (HELD.out _ _ HG.out.rd (Nat.le_refl _)).mono ?_
  rintro e w16 ⟨rfl, hbs⟩
  go_wp2
  go_ret
  exact ⟨rfl, bel_then hbn15 hbs hbn15.size⟩
end Go.Proofs.YtpghccbknlokcaaDoor.LawReadJournal
