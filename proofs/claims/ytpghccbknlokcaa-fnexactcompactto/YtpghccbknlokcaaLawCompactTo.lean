/-
  THE WALK of laws.FnExactCompactTo over this seat's translation: it answers true and turns nothing that was there, if the model and the program keep one contract.
-/
import Derived.Test.YtpghccbknlokcaaJour
import Derived.Test.YtpghccbknlokcaaRecsTy
import Derived.Test.YtpghccbknlokcaaRecsArg
namespace Go.Proofs.Ytpghccbknlokcaa.LawCompactTo
open Go.ChangeShapes Go.WideShapes Go.ChangeAt Go.RowKit
open Go.Proofs.Ytpghccbknlokcaa.LK
set_option linter.unusedVariables false

set_option maxRecDepth 100000 in
set_option maxHeartbeats 12800000 in
theorem walk (a0_0A : Option Addr) (a0_0n a0_0c : Nat) (a0_1A : Option Addr) (a0_1n a0_1c : Nat) (a0_2 : Int) (d0 : Jour.jty.D) (a1 : Value) (d1 : RecsTy.sty.D) (r0 : Jour.jty.D) (r1 : Bool) (w : World) (hr0 : Jour.jty.Rd w w.heap.size (.agg #[.slice a0_0A a0_0n a0_0c, .slice a0_1A a0_1n a0_1c, .int .i64 a0_2]) d0) (hz0 : SzC 27 Jour.jty (.agg #[.slice a0_0A a0_0n a0_0c, .slice a0_1A a0_1n a0_1c, .int .i64 a0_2]) d0 w) (hr1 : RecsTy.sty.Rd w w.heap.size (a1) d1) (hz1 : SzC 38 RecsTy.sty (a1) d1 w) (hrf : Jour.jty.Few d0 → RecsTy.sty.Few d1 → Jour.jty.Few r0) (hS : Jour.jty.Few d0 → RecsTy.sty.Few d1 → ∀ (W : World) (B0 : Nat) (v0 : Value) (B1 : Nat) (v1 : Value), Jour.jty.Rd W B0 v0 d0 → B0 ≤ W.heap.size → RecsTy.sty.Rd W B1 v1 d1 → B1 ≤ W.heap.size → Calls Try.prog 39 #[v0, v1] W (Made1 Jour.jty r0 (.bool r1) W)) (hI : Jour.jty.Few d0 → RecsTy.sty.Few d1 → ∀ (W : World) (B0 : Nat) (v0 : Value) (B1 : Nat) (v1 : Value), Jour.jty.Rd W B0 v0 d0 → B0 ≤ W.heap.size → RecsTy.sty.Rd W B1 v1 d1 → B1 ≤ W.heap.size → Calls Try.prog 41 #[v0, v1] W (Made1 Jour.jty r0 (.bool r1) W)) :
    Calls Try.prog 6 #[.agg #[.slice a0_0A a0_0n a0_0c, .slice a0_1A a0_1n a0_1c, .int .i64 a0_2], a1] w fun e w' => e = .returned (.bool true) ∧ Below w.heap.size w w' := by
  have HR0 := Lib.hid hr0
  have HZ0 := Lib.hid hz0
  clear hr0 hz0
  have HR1 := Lib.hid hr1
  have HZ1 := Lib.hid hz1
  clear hr1 hz1
  have HS := Lib.hid hS
  have HI := Lib.hid hI
  clear hS hI
  have HRF := Lib.hid hrf
  clear hrf
  have hbb1 : (r1 != r1) = false := by simp
  have hb0 : Below w.heap.size w (w.alloc (.cells #[.slice a0_0A a0_0n a0_0c, .slice a0_1A a0_1n a0_1c, .int .i64 a0_2] 59)) := bel1 _ _
  have BA0 : Hid ((w.alloc (.cells #[.slice a0_0A a0_0n a0_0c, .slice a0_1A a0_1n a0_1c, .int .i64 a0_2] 59)).heap[w.heap.size]? = some (.cells #[.slice a0_0A a0_0n a0_0c, .slice a0_1A a0_1n a0_1c, .int .i64 a0_2] 59)) := box_new w (.cells #[.slice a0_0A a0_0n a0_0c, .slice a0_1A a0_1n a0_1c, .int .i64 a0_2] 59)
  have cBA0_0 : (w.alloc (.cells #[.slice a0_0A a0_0n a0_0c, .slice a0_1A a0_1n a0_1c, .int .i64 a0_2] 59)).cell? ⟨w.heap.size, 0, none⟩ = some (.slice a0_0A a0_0n a0_0c) := box_cell BA0.out 0 _ rfl
  have cBA0_1 : (w.alloc (.cells #[.slice a0_0A a0_0n a0_0c, .slice a0_1A a0_1n a0_1c, .int .i64 a0_2] 59)).cell? ⟨w.heap.size, 1, none⟩ = some (.slice a0_1A a0_1n a0_1c) := box_cell BA0.out 1 _ rfl
  have cBA0_2 : (w.alloc (.cells #[.slice a0_0A a0_0n a0_0c, .slice a0_1A a0_1n a0_1c, .int .i64 a0_2] 59)).cell? ⟨w.heap.size, 2, none⟩ = some (.int .i64 a0_2) := box_cell BA0.out 2 _ rfl
  go_enter Try.func6, Try.ntmps6
  go_wp2_with fail
  refine (HZ0.out _ 1048576 hb0 (by omega) (by omega)).mono ?_
  rintro e w1 ⟨z0, rfl, hbs, hz0⟩
  clear cBA0_0 cBA0_1 cBA0_2
  have BA0' := Lib.hid (box_below BA0.out hbs)
  have hbn1 : Below w.heap.size w w1 := bel_then hb0 hbs hb0.size
  have hsn1 := hbs.size
  simp only [World.size_alloc] at hsn1
  clear BA0
  have BA0 := BA0'
  clear BA0'
  clear hbs
  rcases hz0 with rfl | ⟨hz0a, hz0b, hf0⟩
  · go_wp2
    go_ret
    exact ⟨rfl, hbn1⟩
  have HF0 := Lib.hid hf0
  clear hf0
  have hzd0 : decide (z0 < 0) = false := by simp; omega
  have cBA0_0 : w1.cell? ⟨w.heap.size, 0, none⟩ = some (.slice a0_0A a0_0n a0_0c) := box_cell BA0.out 0 _ rfl
  have cBA0_1 : w1.cell? ⟨w.heap.size, 1, none⟩ = some (.slice a0_1A a0_1n a0_1c) := box_cell BA0.out 1 _ rfl
  have cBA0_2 : w1.cell? ⟨w.heap.size, 2, none⟩ = some (.int .i64 a0_2) := box_cell BA0.out 2 _ rfl
  go_wp2_with fail
  refine (HZ1.out _ z0 hbn1 (by omega) (by omega)).mono ?_
  rintro e w2 ⟨z1, rfl, hbs, hz1⟩
  clear cBA0_0 cBA0_1 cBA0_2
  have BA0' := Lib.hid (box_below BA0.out hbs)
  have hbn2 : Below w.heap.size w w2 := bel_then hbn1 hbs hbn1.size
  have hsn2 := hbs.size
  clear BA0
  have BA0 := BA0'
  clear BA0'
  clear hbs
  rcases hz1 with rfl | ⟨hz1a, hz1b, hf1⟩
  · go_wp2
    go_ret
    exact ⟨rfl, hbn2⟩
  have HF1 := Lib.hid hf1
  clear hf1
  have hzd1 : decide (z1 < 0) = false := by simp; omega
  have cBA0_0 : w2.cell? ⟨w.heap.size, 0, none⟩ = some (.slice a0_0A a0_0n a0_0c) := box_cell BA0.out 0 _ rfl
  have cBA0_1 : w2.cell? ⟨w.heap.size, 1, none⟩ = some (.slice a0_1A a0_1n a0_1c) := box_cell BA0.out 1 _ rfl
  have cBA0_2 : w2.cell? ⟨w.heap.size, 2, none⟩ = some (.int .i64 a0_2) := box_cell BA0.out 2 _ rfl
  have HRF2 := Lib.hid (HRF.out HF0.out HF1.out)
  have HS2 := Lib.hid (HS.out HF0.out HF1.out)
  have HI2 := Lib.hid (HI.out HF0.out HF1.out)
  clear HS HI
  have HTO0 : Hid (ToC 30 Jour.jty) := Jour.toJournal_any
  have HTO1 : Hid (ToC 40 RecsTy.sty) := RecsTy.toRecordS_any
  have HEQ0 : Hid (EqC 33 Jour.jty) := Jour.eqJournal_any
  have HMARK0 : Hid (MarkC 35 Jour.jty) := Jour.markJournal_any
  have HEQ1 : Hid (EqC 42 RecsTy.sty) := RecsTy.eqRecordS_any
  have HMARK1 : Hid (MarkC 43 RecsTy.sty) := RecsTy.markRecordS_any
  have HREQ : Hid (EqC 33 Jour.jty) := Jour.eqJournal_any
  have HRMARK : Hid (MarkC 35 Jour.jty) := Jour.markJournal_any
  have HRHELD : Hid (HeldC 37 Jour.jty) := Jour.heldJournal_any
  go_wp2_with fail
  refine (HTO0.out _ w.heap.size _ d0 (Jour.jty.rd_below HR0.out hbn2 (Nat.le_refl _)) hbn2.size HF0.out).mono ?_
  rintro e w3 ⟨y0, Sy0, rfl, hO, hbs⟩
  clear cBA0_0 cBA0_1 cBA0_2
  have BA0' := Lib.hid (box_below BA0.out hbs)
  have hbn3 : Below w.heap.size w w3 := bel_then hbn2 hbs hbn2.size
  have hsn3 := hbs.size
  clear BA0
  have BA0 := BA0'
  clear BA0'
  clear hbs
  have Oy0 := Lib.hid hO
  clear hO
  have INOy0 : Hid (∀ k, Sy0 k → w2.heap.size ≤ k ∧ k < w3.heap.size) := fun k hk => by have h := Oy0.out.inn k hk; first | exact h | (simp only [World.size_alloc] at h; exact h)
  have cBA0_0 : w3.cell? ⟨w.heap.size, 0, none⟩ = some (.slice a0_0A a0_0n a0_0c) := box_cell BA0.out 0 _ rfl
  have cBA0_1 : w3.cell? ⟨w.heap.size, 1, none⟩ = some (.slice a0_1A a0_1n a0_1c) := box_cell BA0.out 1 _ rfl
  have cBA0_2 : w3.cell? ⟨w.heap.size, 2, none⟩ = some (.int .i64 a0_2) := box_cell BA0.out 2 _ rfl
  go_wp2_with fail
  refine (HTO1.out _ w.heap.size _ d1 (RecsTy.sty.rd_below HR1.out hbn3 (Nat.le_refl _)) hbn3.size HF1.out).mono ?_
  rintro e w4 ⟨y1, Sy1, rfl, hO, hbs⟩
  clear cBA0_0 cBA0_1 cBA0_2
  have BA0' := Lib.hid (box_below BA0.out hbs)
  have Oy0' := Lib.hid (Oy0.out.below hbs)
  have hbn4 : Below w.heap.size w w4 := bel_then hbn3 hbs hbn3.size
  have hsn4 := hbs.size
  clear BA0
  clear Oy0
  have BA0 := BA0'
  clear BA0'
  have Oy0 := Oy0'
  clear Oy0'
  clear hbs
  have Oy1 := Lib.hid hO
  clear hO
  have INOy1 : Hid (∀ k, Sy1 k → w3.heap.size ≤ k ∧ k < w4.heap.size) := fun k hk => by have h := Oy1.out.inn k hk; first | exact h | (simp only [World.size_alloc] at h; exact h)
  go_wp2_with fail
  refine (HS2.out _ _ _ _ _ Oy0.out.rd (Nat.le_refl _) Oy1.out.rd (Nat.le_refl _)).mono ?_
  rintro e w5 ⟨q, Sq, rfl, hO, hbs⟩
  have BA0' := Lib.hid (box_below BA0.out hbs)
  have Oy0' := Lib.hid (Oy0.out.below hbs)
  have Oy1' := Lib.hid (Oy1.out.below hbs)
  have hbn5 : Below w.heap.size w w5 := bel_then hbn4 hbs hbn4.size
  have hsn5 := hbs.size
  clear BA0
  clear Oy0
  clear Oy1
  have BA0 := BA0'
  clear BA0'
  have Oy0 := Oy0'
  clear Oy0'
  have Oy1 := Oy1'
  clear Oy1'
  clear hbs
  have Oq := Lib.hid hO
  have INOq : Hid (∀ k, Sq k → w4.heap.size ≤ k ∧ k < w5.heap.size) := fun k hk => by have h := Oq.out.inn k hk; first | exact h | (simp only [World.size_alloc] at h; exact h)
  obtain ⟨q_0A, q_0n, q_0c, q_1A, q_1n, q_1c, q_2, rfl⟩ := Jour.shape hO
  clear hO
  have BA0' := Lib.hid (box_alloc BA0.out (.cells #[.slice q_0A q_0n q_0c, .slice q_1A q_1n q_1c, .int .i64 q_2] 64))
  have Oy0' := Lib.hid (Oy0.out.alloc (.cells #[.slice q_0A q_0n q_0c, .slice q_1A q_1n q_1c, .int .i64 q_2] 64))
  have Oy1' := Lib.hid (Oy1.out.alloc (.cells #[.slice q_0A q_0n q_0c, .slice q_1A q_1n q_1c, .int .i64 q_2] 64))
  have Oq' := Lib.hid (Oq.out.alloc (.cells #[.slice q_0A q_0n q_0c, .slice q_1A q_1n q_1c, .int .i64 q_2] 64))
  have hbn6 : Below w.heap.size w (w5.alloc (.cells #[.slice q_0A q_0n q_0c, .slice q_1A q_1n q_1c, .int .i64 q_2] 64)) := hbn5.alloc hbn5.size _
  clear BA0
  clear Oy0
  clear Oy1
  clear Oq
  have BA0 := BA0'
  clear BA0'
  have Oy0 := Oy0'
  clear Oy0'
  have Oy1 := Oy1'
  clear Oy1'
  have Oq := Oq'
  clear Oq'
  have Bq : Hid ((w5.alloc (.cells #[.slice q_0A q_0n q_0c, .slice q_1A q_1n q_1c, .int .i64 q_2] 64)).heap[w5.heap.size]? = some (.cells #[.slice q_0A q_0n q_0c, .slice q_1A q_1n q_1c, .int .i64 q_2] 64)) := box_new w5 (.cells #[.slice q_0A q_0n q_0c, .slice q_1A q_1n q_1c, .int .i64 q_2] 64)
  clear Oy0
  clear Oy1
  have cBA0_0 : (w5.alloc (.cells #[.slice q_0A q_0n q_0c, .slice q_1A q_1n q_1c, .int .i64 q_2] 64)).cell? ⟨w.heap.size, 0, none⟩ = some (.slice a0_0A a0_0n a0_0c) := box_cell BA0.out 0 _ rfl
  have cBA0_1 : (w5.alloc (.cells #[.slice q_0A q_0n q_0c, .slice q_1A q_1n q_1c, .int .i64 q_2] 64)).cell? ⟨w.heap.size, 1, none⟩ = some (.slice a0_1A a0_1n a0_1c) := box_cell BA0.out 1 _ rfl
  have cBA0_2 : (w5.alloc (.cells #[.slice q_0A q_0n q_0c, .slice q_1A q_1n q_1c, .int .i64 q_2] 64)).cell? ⟨w.heap.size, 2, none⟩ = some (.int .i64 a0_2) := box_cell BA0.out 2 _ rfl
  go_wp2_with fail
  refine (HTO0.out _ w.heap.size _ d0 (Jour.jty.rd_below HR0.out hbn6 (Nat.le_refl _)) hbn6.size HF0.out).mono ?_
  rintro e w6 ⟨x0, Sx0, rfl, hO, hbs⟩
  clear cBA0_0 cBA0_1 cBA0_2
  have BA0' := Lib.hid (box_below BA0.out hbs)
  have Oq' := Lib.hid (Oq.out.below hbs)
  have Bq' := Lib.hid (box_below Bq.out hbs)
  have hbn7 : Below w.heap.size w w6 := bel_then hbn6 hbs hbn6.size
  have hsn7 := hbs.size
  simp only [World.size_alloc] at hsn7
  clear BA0
  clear Oq
  clear Bq
  have BA0 := BA0'
  clear BA0'
  have Oq := Oq'
  clear Oq'
  have Bq := Bq'
  clear Bq'
  clear hbs
  have Ox0 := Lib.hid hO
  have INOx0 : Hid (∀ k, Sx0 k → w5.heap.size + 1 ≤ k ∧ k < w6.heap.size) := fun k hk => by have h := Ox0.out.inn k hk; first | exact h | (simp only [World.size_alloc] at h; exact h)
  obtain ⟨x0_0A, x0_0n, x0_0c, x0_1A, x0_1n, x0_1c, x0_2, rfl⟩ := Jour.shape hO
  clear hO
  have BA0' := Lib.hid (box_alloc BA0.out (.cells #[.slice x0_0A x0_0n x0_0c, .slice x0_1A x0_1n x0_1c, .int .i64 x0_2] 64))
  have Oq' := Lib.hid (Oq.out.alloc (.cells #[.slice x0_0A x0_0n x0_0c, .slice x0_1A x0_1n x0_1c, .int .i64 x0_2] 64))
  have Bq' := Lib.hid (box_alloc Bq.out (.cells #[.slice x0_0A x0_0n x0_0c, .slice x0_1A x0_1n x0_1c, .int .i64 x0_2] 64))
  have Ox0' := Lib.hid (Ox0.out.alloc (.cells #[.slice x0_0A x0_0n x0_0c, .slice x0_1A x0_1n x0_1c, .int .i64 x0_2] 64))
  have hbn8 : Below w.heap.size w (w6.alloc (.cells #[.slice x0_0A x0_0n x0_0c, .slice x0_1A x0_1n x0_1c, .int .i64 x0_2] 64)) := hbn7.alloc hbn7.size _
  clear BA0
  clear Oq
  clear Bq
  clear Ox0
  have BA0 := BA0'
  clear BA0'
  have Oq := Oq'
  clear Oq'
  have Bq := Bq'
  clear Bq'
  have Ox0 := Ox0'
  clear Ox0'
  have Bx0 : Hid ((w6.alloc (.cells #[.slice x0_0A x0_0n x0_0c, .slice x0_1A x0_1n x0_1c, .int .i64 x0_2] 64)).heap[w6.heap.size]? = some (.cells #[.slice x0_0A x0_0n x0_0c, .slice x0_1A x0_1n x0_1c, .int .i64 x0_2] 64)) := box_new w6 (.cells #[.slice x0_0A x0_0n x0_0c, .slice x0_1A x0_1n x0_1c, .int .i64 x0_2] 64)
  have cBA0_0 : (w6.alloc (.cells #[.slice x0_0A x0_0n x0_0c, .slice x0_1A x0_1n x0_1c, .int .i64 x0_2] 64)).cell? ⟨w.heap.size, 0, none⟩ = some (.slice a0_0A a0_0n a0_0c) := box_cell BA0.out 0 _ rfl
  have cBA0_1 : (w6.alloc (.cells #[.slice x0_0A x0_0n x0_0c, .slice x0_1A x0_1n x0_1c, .int .i64 x0_2] 64)).cell? ⟨w.heap.size, 1, none⟩ = some (.slice a0_1A a0_1n a0_1c) := box_cell BA0.out 1 _ rfl
  have cBA0_2 : (w6.alloc (.cells #[.slice x0_0A x0_0n x0_0c, .slice x0_1A x0_1n x0_1c, .int .i64 x0_2] 64)).cell? ⟨w.heap.size, 2, none⟩ = some (.int .i64 a0_2) := box_cell BA0.out 2 _ rfl
  go_wp2_with fail
  refine (HTO1.out _ w.heap.size _ d1 (RecsTy.sty.rd_below HR1.out hbn8 (Nat.le_refl _)) hbn8.size HF1.out).mono ?_
  rintro e w7 ⟨x1, Sx1, rfl, hO, hbs⟩
  clear cBA0_0 cBA0_1 cBA0_2
  have BA0' := Lib.hid (box_below BA0.out hbs)
  have Oq' := Lib.hid (Oq.out.below hbs)
  have Bq' := Lib.hid (box_below Bq.out hbs)
  have Ox0' := Lib.hid (Ox0.out.below hbs)
  have Bx0' := Lib.hid (box_below Bx0.out hbs)
  have hbn9 : Below w.heap.size w w7 := bel_then hbn8 hbs hbn8.size
  have hsn9 := hbs.size
  simp only [World.size_alloc] at hsn9
  clear BA0
  clear Oq
  clear Bq
  clear Ox0
  clear Bx0
  have BA0 := BA0'
  clear BA0'
  have Oq := Oq'
  clear Oq'
  have Bq := Bq'
  clear Bq'
  have Ox0 := Ox0'
  clear Ox0'
  have Bx0 := Bx0'
  clear Bx0'
  clear hbs
  have Ox1 := Lib.hid hO
  have INOx1 : Hid (∀ k, Sx1 k → w6.heap.size + 1 ≤ k ∧ k < w7.heap.size) := fun k hk => by have h := Ox1.out.inn k hk; first | exact h | (simp only [World.size_alloc] at h; exact h)
  clear hO
  have cBx0_0 : w7.cell? ⟨w6.heap.size, 0, none⟩ = some (.slice x0_0A x0_0n x0_0c) := box_cell Bx0.out 0 _ rfl
  have cBx0_1 : w7.cell? ⟨w6.heap.size, 1, none⟩ = some (.slice x0_1A x0_1n x0_1c) := box_cell Bx0.out 1 _ rfl
  have cBx0_2 : w7.cell? ⟨w6.heap.size, 2, none⟩ = some (.int .i64 x0_2) := box_cell Bx0.out 2 _ rfl
  go_wp2_with fail
  refine (HI2.out _ _ _ _ _ Ox0.out.rd (Nat.le_refl _) Ox1.out.rd (Nat.le_refl _)).mono ?_
  rintro e w8 ⟨g, Sg, rfl, hO, hbs⟩
  clear cBx0_0 cBx0_1 cBx0_2
  have BA0' := Lib.hid (box_below BA0.out hbs)
  have Oq' := Lib.hid (Oq.out.below hbs)
  have Bq' := Lib.hid (box_below Bq.out hbs)
  have Ox0' := Lib.hid (Ox0.out.below hbs)
  have Bx0' := Lib.hid (box_below Bx0.out hbs)
  have Ox1' := Lib.hid (Ox1.out.below hbs)
  have hbn10 : Below w.heap.size w w8 := bel_then hbn9 hbs hbn9.size
  have hsn10 := hbs.size
  clear BA0
  clear Oq
  clear Bq
  clear Ox0
  clear Bx0
  clear Ox1
  have BA0 := BA0'
  clear BA0'
  have Oq := Oq'
  clear Oq'
  have Bq := Bq'
  clear Bq'
  have Ox0 := Ox0'
  clear Ox0'
  have Bx0 := Bx0'
  clear Bx0'
  have Ox1 := Ox1'
  clear Ox1'
  clear hbs
  have Og := Lib.hid hO
  have INOg : Hid (∀ k, Sg k → w7.heap.size ≤ k ∧ k < w8.heap.size) := fun k hk => by have h := Og.out.inn k hk; first | exact h | (simp only [World.size_alloc] at h; exact h)
  obtain ⟨g_0A, g_0n, g_0c, g_1A, g_1n, g_1c, g_2, rfl⟩ := Jour.shape hO
  clear hO
  have BA0' := Lib.hid (box_alloc BA0.out (.cells #[.slice g_0A g_0n g_0c, .slice g_1A g_1n g_1c, .int .i64 g_2] 64))
  have Oq' := Lib.hid (Oq.out.alloc (.cells #[.slice g_0A g_0n g_0c, .slice g_1A g_1n g_1c, .int .i64 g_2] 64))
  have Bq' := Lib.hid (box_alloc Bq.out (.cells #[.slice g_0A g_0n g_0c, .slice g_1A g_1n g_1c, .int .i64 g_2] 64))
  have Ox0' := Lib.hid (Ox0.out.alloc (.cells #[.slice g_0A g_0n g_0c, .slice g_1A g_1n g_1c, .int .i64 g_2] 64))
  have Bx0' := Lib.hid (box_alloc Bx0.out (.cells #[.slice g_0A g_0n g_0c, .slice g_1A g_1n g_1c, .int .i64 g_2] 64))
  have Ox1' := Lib.hid (Ox1.out.alloc (.cells #[.slice g_0A g_0n g_0c, .slice g_1A g_1n g_1c, .int .i64 g_2] 64))
  have Og' := Lib.hid (Og.out.alloc (.cells #[.slice g_0A g_0n g_0c, .slice g_1A g_1n g_1c, .int .i64 g_2] 64))
  have hbn11 : Below w.heap.size w (w8.alloc (.cells #[.slice g_0A g_0n g_0c, .slice g_1A g_1n g_1c, .int .i64 g_2] 64)) := hbn10.alloc hbn10.size _
  clear BA0
  clear Oq
  clear Bq
  clear Ox0
  clear Bx0
  clear Ox1
  clear Og
  have BA0 := BA0'
  clear BA0'
  have Oq := Oq'
  clear Oq'
  have Bq := Bq'
  clear Bq'
  have Ox0 := Ox0'
  clear Ox0'
  have Bx0 := Bx0'
  clear Bx0'
  have Ox1 := Ox1'
  clear Ox1'
  have Og := Og'
  clear Og'
  have Bg : Hid ((w8.alloc (.cells #[.slice g_0A g_0n g_0c, .slice g_1A g_1n g_1c, .int .i64 g_2] 64)).heap[w8.heap.size]? = some (.cells #[.slice g_0A g_0n g_0c, .slice g_1A g_1n g_1c, .int .i64 g_2] 64)) := box_new w8 (.cells #[.slice g_0A g_0n g_0c, .slice g_1A g_1n g_1c, .int .i64 g_2] 64)
  have cBg_0 : (w8.alloc (.cells #[.slice g_0A g_0n g_0c, .slice g_1A g_1n g_1c, .int .i64 g_2] 64)).cell? ⟨w8.heap.size, 0, none⟩ = some (.slice g_0A g_0n g_0c) := box_cell Bg.out 0 _ rfl
  have cBg_1 : (w8.alloc (.cells #[.slice g_0A g_0n g_0c, .slice g_1A g_1n g_1c, .int .i64 g_2] 64)).cell? ⟨w8.heap.size, 1, none⟩ = some (.slice g_1A g_1n g_1c) := box_cell Bg.out 1 _ rfl
  have cBg_2 : (w8.alloc (.cells #[.slice g_0A g_0n g_0c, .slice g_1A g_1n g_1c, .int .i64 g_2] 64)).cell? ⟨w8.heap.size, 2, none⟩ = some (.int .i64 g_2) := box_cell Bg.out 2 _ rfl
  have cBq_0 : (w8.alloc (.cells #[.slice g_0A g_0n g_0c, .slice g_1A g_1n g_1c, .int .i64 g_2] 64)).cell? ⟨w5.heap.size, 0, none⟩ = some (.slice q_0A q_0n q_0c) := box_cell Bq.out 0 _ rfl
  have cBq_1 : (w8.alloc (.cells #[.slice g_0A g_0n g_0c, .slice g_1A g_1n g_1c, .int .i64 g_2] 64)).cell? ⟨w5.heap.size, 1, none⟩ = some (.slice q_1A q_1n q_1c) := box_cell Bq.out 1 _ rfl
  have cBq_2 : (w8.alloc (.cells #[.slice g_0A g_0n g_0c, .slice g_1A g_1n g_1c, .int .i64 g_2] 64)).cell? ⟨w5.heap.size, 2, none⟩ = some (.int .i64 q_2) := box_cell Bq.out 2 _ rfl
  go_wp2_with fail
  refine (HREQ.out _ _ _ _ _ r0 Og.out.rd Oq.out.rd (Nat.le_refl _) (Nat.le_refl _) HRF2.out).mono ?_
  rintro e w9 ⟨rfl, hbs⟩
  clear cBg_0 cBg_1 cBg_2 cBq_0 cBq_1 cBq_2
  have BA0' := Lib.hid (box_below BA0.out hbs)
  have Oq' := Lib.hid (Oq.out.below hbs)
  have Bq' := Lib.hid (box_below Bq.out hbs)
  have Ox0' := Lib.hid (Ox0.out.below hbs)
  have Bx0' := Lib.hid (box_below Bx0.out hbs)
  have Ox1' := Lib.hid (Ox1.out.below hbs)
  have Og' := Lib.hid (Og.out.below hbs)
  have Bg' := Lib.hid (box_below Bg.out hbs)
  have hbn12 : Below w.heap.size w w9 := bel_then hbn11 hbs hbn11.size
  have hsn12 := hbs.size
  simp only [World.size_alloc] at hsn12
  clear BA0
  clear Oq
  clear Bq
  clear Ox0
  clear Bx0
  clear Ox1
  clear Og
  clear Bg
  have BA0 := BA0'
  clear BA0'
  have Oq := Oq'
  clear Oq'
  have Bq := Bq'
  clear Bq'
  have Ox0 := Ox0'
  clear Ox0'
  have Bx0 := Bx0'
  clear Bx0'
  have Ox1 := Ox1'
  clear Ox1'
  have Og := Og'
  clear Og'
  have Bg := Bg'
  clear Bg'
  clear hbs
  have cBA0_0 : w9.cell? ⟨w.heap.size, 0, none⟩ = some (.slice a0_0A a0_0n a0_0c) := box_cell BA0.out 0 _ rfl
  have cBA0_1 : w9.cell? ⟨w.heap.size, 1, none⟩ = some (.slice a0_1A a0_1n a0_1c) := box_cell BA0.out 1 _ rfl
  have cBA0_2 : w9.cell? ⟨w.heap.size, 2, none⟩ = some (.int .i64 a0_2) := box_cell BA0.out 2 _ rfl
  have cBx0_0 : w9.cell? ⟨w6.heap.size, 0, none⟩ = some (.slice x0_0A x0_0n x0_0c) := box_cell Bx0.out 0 _ rfl
  have cBx0_1 : w9.cell? ⟨w6.heap.size, 1, none⟩ = some (.slice x0_1A x0_1n x0_1c) := box_cell Bx0.out 1 _ rfl
  have cBx0_2 : w9.cell? ⟨w6.heap.size, 2, none⟩ = some (.int .i64 x0_2) := box_cell Bx0.out 2 _ rfl
  go_wp2_with fail
  go_region_held3 (fun w' => w'.cell? ⟨w.heap.size, 0, none⟩ = some (.slice a0_0A a0_0n a0_0c) ∧ w'.cell? ⟨w.heap.size, 1, none⟩ = some (.slice a0_1A a0_1n a0_1c) ∧ w'.cell? ⟨w.heap.size, 2, none⟩ = some (.int .i64 a0_2) ∧ w'.cell? ⟨w6.heap.size, 0, none⟩ = some (.slice x0_0A x0_0n x0_0c) ∧ w'.cell? ⟨w6.heap.size, 1, none⟩ = some (.slice x0_1A x0_1n x0_1c) ∧ w'.cell? ⟨w6.heap.size, 2, none⟩ = some (.int .i64 x0_2))
    (first | go_keep | (refine ⟨cell_keep hb7 ?_, cell_keep hb7 ?_, cell_keep hb7 ?_, cell_keep hb7 ?_, cell_keep hb7 ?_, cell_keep hb7 ?_⟩ <;> simp only [*]) | (refine ⟨cell_keep hb8 ?_, cell_keep hb8 ?_, cell_keep hb8 ?_, cell_keep hb8 ?_, cell_keep hb8 ?_, cell_keep hb8 ?_⟩ <;> simp only [*]))
    (first | (go_at_call 30; refine (HTO0.out _ w.heap.size _ d0 (by exact Jour.jty.rd_below HR0.out hbn12.drew (Nat.le_refl _)) (by exact hbn12.size) HF0.out).mono ?_; rintro e w10 ⟨t0, St0, rfl, hO7, hb7⟩; have hb7' : Below w9.heap.size w9 w10 := undrew hb7; have HO7 := Lib.hid hO7; clear hO7) | (go_at_call 33; refine (HEQ0.out _ _ _ _ _ d0 (by exact (Ox0.out.below hb7').rd) (by exact HO7.out.rd) (by exact Nat.le_refl _) (by exact Nat.le_refl _) HF0.out).mono ?_; rintro e w11 ⟨rfl, hb8⟩))
  have hbs : Below w9.heap.size w9 w11 := bel_then hb7' hb8 hb7'.size
  clear hb7 hb7' hb8 HO7
  clear cBA0_0 cBA0_1 cBA0_2 cBx0_0 cBx0_1 cBx0_2
  have BA0' := Lib.hid (box_below BA0.out hbs)
  have Oq' := Lib.hid (Oq.out.below hbs)
  have Bq' := Lib.hid (box_below Bq.out hbs)
  have Ox0' := Lib.hid (Ox0.out.below hbs)
  have Bx0' := Lib.hid (box_below Bx0.out hbs)
  have Ox1' := Lib.hid (Ox1.out.below hbs)
  have Og' := Lib.hid (Og.out.below hbs)
  have Bg' := Lib.hid (box_below Bg.out hbs)
  have hbn13 : Below w.heap.size w w11 := bel_then hbn12 hbs hbn12.size
  have hsn13 := hbs.size
  clear BA0
  clear Oq
  clear Bq
  clear Ox0
  clear Bx0
  clear Ox1
  clear Og
  clear Bg
  have BA0 := BA0'
  clear BA0'
  have Oq := Oq'
  clear Oq'
  have Bq := Bq'
  clear Bq'
  have Ox0 := Ox0'
  clear Ox0'
  have Bx0 := Bx0'
  clear Bx0'
  have Ox1 := Ox1'
  clear Ox1'
  have Og := Og'
  clear Og'
  have Bg := Bg'
  clear Bg'
  clear hbs
  go_wp2_with fail
  refine (HTO1.out _ w.heap.size _ d1 (RecsTy.sty.rd_below HR1.out hbn13 (Nat.le_refl _)) hbn13.size HF1.out).mono ?_
  rintro e w12 ⟨t1, St1, rfl, hO, hbs⟩
  have BA0' := Lib.hid (box_below BA0.out hbs)
  have Oq' := Lib.hid (Oq.out.below hbs)
  have Bq' := Lib.hid (box_below Bq.out hbs)
  have Ox0' := Lib.hid (Ox0.out.below hbs)
  have Bx0' := Lib.hid (box_below Bx0.out hbs)
  have Ox1' := Lib.hid (Ox1.out.below hbs)
  have Og' := Lib.hid (Og.out.below hbs)
  have Bg' := Lib.hid (box_below Bg.out hbs)
  have hbn14 : Below w.heap.size w w12 := bel_then hbn13 hbs hbn13.size
  have hsn14 := hbs.size
  clear BA0
  clear Oq
  clear Bq
  clear Ox0
  clear Bx0
  clear Ox1
  clear Og
  clear Bg
  have BA0 := BA0'
  clear BA0'
  have Oq := Oq'
  clear Oq'
  have Bq := Bq'
  clear Bq'
  have Ox0 := Ox0'
  clear Ox0'
  have Bx0 := Bx0'
  clear Bx0'
  have Ox1 := Ox1'
  clear Ox1'
  have Og := Og'
  clear Og'
  have Bg := Bg'
  clear Bg'
  clear hbs
  have Ot := Lib.hid hO
  clear hO
  go_wp2_with fail
  refine (HEQ1.out _ _ _ _ _ d1 Ox1.out.rd Ot.out.rd (Nat.le_refl _) (Nat.le_refl _) HF1.out).mono ?_
  rintro e w13 ⟨rfl, hbs⟩
  clear Ot
  have BA0' := Lib.hid (box_below BA0.out hbs)
  have Oq' := Lib.hid (Oq.out.below hbs)
  have Bq' := Lib.hid (box_below Bq.out hbs)
  have Ox0' := Lib.hid (Ox0.out.below hbs)
  have Bx0' := Lib.hid (box_below Bx0.out hbs)
  have Ox1' := Lib.hid (Ox1.out.below hbs)
  have Og' := Lib.hid (Og.out.below hbs)
  have Bg' := Lib.hid (box_below Bg.out hbs)
  have hbn15 : Below w.heap.size w w13 := bel_then hbn14 hbs hbn14.size
  have hsn15 := hbs.size
  clear BA0
  clear Oq
  clear Bq
  clear Ox0
  clear Bx0
  clear Ox1
  clear Og
  clear Bg
  have BA0 := BA0'
  clear BA0'
  have Oq := Oq'
  clear Oq'
  have Bq := Bq'
  clear Bq'
  have Ox0 := Ox0'
  clear Ox0'
  have Bx0 := Bx0'
  clear Bx0'
  have Ox1 := Ox1'
  clear Ox1'
  have Og := Og'
  clear Og'
  have Bg := Bg'
  clear Bg'
  clear hbs
  have cBx0_0 : w13.cell? ⟨w6.heap.size, 0, none⟩ = some (.slice x0_0A x0_0n x0_0c) := box_cell Bx0.out 0 _ rfl
  have cBx0_1 : w13.cell? ⟨w6.heap.size, 1, none⟩ = some (.slice x0_1A x0_1n x0_1c) := box_cell Bx0.out 1 _ rfl
  have cBx0_2 : w13.cell? ⟨w6.heap.size, 2, none⟩ = some (.int .i64 x0_2) := box_cell Bx0.out 2 _ rfl
  go_wp2_with fail
  refine (HMARK0.out _ _ _ _ _ d0 1 Ox0.out HF0.out (by omega) (by omega)).mono ?_
  rintro e w14 ⟨rfl, hO, ht⟩
  clear cBx0_0 cBx0_1 cBx0_2
  obtain ⟨k0, hk0⟩ : ∃ k : Int, k = 1 + (Jour.jty.cnt d0 : Int) := ⟨_, rfl⟩
  have hk0a : 0 ≤ k0 ∧ k0 ≤ 30000000 := by have := Jour.jty.few_cnt HF0.out; omega
  obtain ⟨hk0b, hk0c⟩ := hk0a
  have hk0d : decide (k0 < 0) = false := by simp; omega
  rw [← hk0]
  clear hk0
  clear Ox0
  clear Bx0
  clear hO
  have BA0' := Lib.hid (box_turned BA0.out ht (fun h => by have := INOx0.out _ h; omega))
  have Oq' := Lib.hid (Oq.out.turned ht (fun k h h' => by have := INOx0.out k h'; have := INOq.out k h; omega))
  have Bq' := Lib.hid (box_turned Bq.out ht (fun h => by have := INOx0.out _ h; omega))
  have Ox1' := Lib.hid (Ox1.out.turned ht (fun k h h' => by have := INOx0.out k h'; have := INOx1.out k h; omega))
  have Og' := Lib.hid (Og.out.turned ht (fun k h h' => by have := INOx0.out k h'; have := INOg.out k h; omega))
  have Bg' := Lib.hid (box_turned Bg.out ht (fun h => by have := INOx0.out _ h; omega))
  have hbn16 : Below w.heap.size w w14 := Turned.low hbn15 ht (fun k h => by have := INOx0.out k h; omega) hbn15.size
  have hsn16 := ht.size
  clear BA0
  clear Oq
  clear Bq
  clear Ox1
  clear Og
  clear Bg
  have BA0 := BA0'
  clear BA0'
  have Oq := Oq'
  clear Oq'
  have Bq := Bq'
  clear Bq'
  have Ox1 := Ox1'
  clear Ox1'
  have Og := Og'
  clear Og'
  have Bg := Bg'
  clear Bg'
  clear ht
  go_wp2_with fail
  refine (HMARK1.out _ _ _ _ _ d1 k0 Ox1.out HF1.out (by omega) (by omega)).mono ?_
  rintro e w15 ⟨rfl, hO, ht⟩
  obtain ⟨k1, hk1⟩ : ∃ k : Int, k = k0 + (RecsTy.sty.cnt d1 : Int) := ⟨_, rfl⟩
  have hk1a : 0 ≤ k1 ∧ k1 ≤ 60000000 := by have := RecsTy.sty.few_cnt HF1.out; omega
  obtain ⟨hk1b, hk1c⟩ := hk1a
  have hk1d : decide (k1 < 0) = false := by simp; omega
  rw [← hk1]
  clear hk1
  clear Ox1
  clear hO
  have BA0' := Lib.hid (box_turned BA0.out ht (fun h => by have := INOx1.out _ h; omega))
  have Oq' := Lib.hid (Oq.out.turned ht (fun k h h' => by have := INOx1.out k h'; have := INOq.out k h; omega))
  have Bq' := Lib.hid (box_turned Bq.out ht (fun h => by have := INOx1.out _ h; omega))
  have Og' := Lib.hid (Og.out.turned ht (fun k h h' => by have := INOx1.out k h'; have := INOg.out k h; omega))
  have Bg' := Lib.hid (box_turned Bg.out ht (fun h => by have := INOx1.out _ h; omega))
  have hbn17 : Below w.heap.size w w15 := Turned.low hbn16 ht (fun k h => by have := INOx1.out k h; omega) hbn16.size
  have hsn17 := ht.size
  clear BA0
  clear Oq
  clear Bq
  clear Og
  clear Bg
  have BA0 := BA0'
  clear BA0'
  have Oq := Oq'
  clear Oq'
  have Bq := Bq'
  clear Bq'
  have Og := Og'
  clear Og'
  have Bg := Bg'
  clear Bg'
  clear ht
  have cBg_0 : w15.cell? ⟨w8.heap.size, 0, none⟩ = some (.slice g_0A g_0n g_0c) := box_cell Bg.out 0 _ rfl
  have cBg_1 : w15.cell? ⟨w8.heap.size, 1, none⟩ = some (.slice g_1A g_1n g_1c) := box_cell Bg.out 1 _ rfl
  have cBg_2 : w15.cell? ⟨w8.heap.size, 2, none⟩ = some (.int .i64 g_2) := box_cell Bg.out 2 _ rfl
  have cBq_0 : w15.cell? ⟨w5.heap.size, 0, none⟩ = some (.slice q_0A q_0n q_0c) := box_cell Bq.out 0 _ rfl
  have cBq_1 : w15.cell? ⟨w5.heap.size, 1, none⟩ = some (.slice q_1A q_1n q_1c) := box_cell Bq.out 1 _ rfl
  have cBq_2 : w15.cell? ⟨w5.heap.size, 2, none⟩ = some (.int .i64 q_2) := box_cell Bq.out 2 _ rfl
  go_wp2_with fail
  refine (HREQ.out _ _ _ _ _ r0 Og.out.rd Oq.out.rd (Nat.le_refl _) (Nat.le_refl _) HRF2.out).mono ?_
  rintro e w16 ⟨rfl, hbs⟩
  clear cBg_0 cBg_1 cBg_2 cBq_0 cBq_1 cBq_2
  have BA0' := Lib.hid (box_below BA0.out hbs)
  have Oq' := Lib.hid (Oq.out.below hbs)
  have Bq' := Lib.hid (box_below Bq.out hbs)
  have Og' := Lib.hid (Og.out.below hbs)
  have Bg' := Lib.hid (box_below Bg.out hbs)
  have hbn18 : Below w.heap.size w w16 := bel_then hbn17 hbs hbn17.size
  have hsn18 := hbs.size
  clear BA0
  clear Oq
  clear Bq
  clear Og
  clear Bg
  have BA0 := BA0'
  clear BA0'
  have Oq := Oq'
  clear Oq'
  have Bq := Bq'
  clear Bq'
  have Og := Og'
  clear Og'
  have Bg := Bg'
  clear Bg'
  clear hbs
  have cBg_0 : w16.cell? ⟨w8.heap.size, 0, none⟩ = some (.slice g_0A g_0n g_0c) := box_cell Bg.out 0 _ rfl
  have cBg_1 : w16.cell? ⟨w8.heap.size, 1, none⟩ = some (.slice g_1A g_1n g_1c) := box_cell Bg.out 1 _ rfl
  have cBg_2 : w16.cell? ⟨w8.heap.size, 2, none⟩ = some (.int .i64 g_2) := box_cell Bg.out 2 _ rfl
  go_wp2_with fail
  refine (HRMARK.out _ _ _ _ _ r0 1 Og.out HRF2.out (by omega) (by omega)).mono ?_
  rintro e w17 ⟨rfl, hO, ht⟩
  clear cBg_0 cBg_1 cBg_2
  have HELD : Hid (∀ (W : World) (B : Nat), Jour.jty.Rd W B (.agg #[.slice g_0A g_0n g_0c, .slice g_1A g_1n g_1c, .int .i64 g_2]) (Jour.jty.mark 1 r0) → B ≤ W.heap.size → Calls Try.prog 37 #[(.agg #[.slice g_0A g_0n g_0c, .slice g_1A g_1n g_1c, .int .i64 g_2]), .int .i64 1] W (Says (.int .i64 (1 + Jour.jty.cnt r0)) W)) := fun W B h hB => HRHELD.out W B _ r0 1 h hB HRF2.out (by omega) (by omega)
  obtain ⟨M, hM⟩ : ∃ M : Int, M = 1 + (Jour.jty.cnt r0 : Int) := ⟨_, rfl⟩
  have hM0 : decide (M < 0) = false := by have := Jour.jty.few_cnt HRF2.out; simp; omega
  have hM1 : ¬ M < 0 := by simpa using hM0
  rw [← hM] at HELD ⊢
  clear hM
  clear Og
  have HG := Lib.hid hO
  clear hO
  have BA0' := Lib.hid (box_turned BA0.out ht (fun h => by have := INOg.out _ h; omega))
  have Oq' := Lib.hid (Oq.out.turned ht (fun k h h' => by have := INOg.out k h'; have := INOq.out k h; omega))
  have Bq' := Lib.hid (box_turned Bq.out ht (fun h => by have := INOg.out _ h; omega))
  have Bg' := Lib.hid (box_turned Bg.out ht (fun h => by have := INOg.out _ h; omega))
  have hbn19 : Below w.heap.size w w17 := Turned.low hbn18 ht (fun k h => by have := INOg.out k h; omega) hbn18.size
  have hsn19 := ht.size
  clear BA0
  clear Oq
  clear Bq
  clear Bg
  have BA0 := BA0'
  clear BA0'
  have Oq := Oq'
  clear Oq'
  have Bq := Bq'
  clear Bq'
  have Bg := Bg'
  clear Bg'
  clear ht
  have INHG := INOg
  have cBg_0 : w17.cell? ⟨w8.heap.size, 0, none⟩ = some (.slice g_0A g_0n g_0c) := box_cell Bg.out 0 _ rfl
  have cBg_1 : w17.cell? ⟨w8.heap.size, 1, none⟩ = some (.slice g_1A g_1n g_1c) := box_cell Bg.out 1 _ rfl
  have cBg_2 : w17.cell? ⟨w8.heap.size, 2, none⟩ = some (.int .i64 g_2) := box_cell Bg.out 2 _ rfl
  go_wp2_with fail
  refine (HELD.out _ _ HG.out.rd (Nat.le_refl _)).mono ?_
  rintro e w18 ⟨rfl, hbs⟩
  clear cBg_0 cBg_1 cBg_2
  have BA0' := Lib.hid (box_below BA0.out hbs)
  have Oq' := Lib.hid (Oq.out.below hbs)
  have Bq' := Lib.hid (box_below Bq.out hbs)
  have Bg' := Lib.hid (box_below Bg.out hbs)
  have HG' := Lib.hid (HG.out.below hbs)
  have hbn20 : Below w.heap.size w w18 := bel_then hbn19 hbs hbn19.size
  have hsn20 := hbs.size
  clear BA0
  clear Oq
  clear Bq
  clear Bg
  clear HG
  have BA0 := BA0'
  clear BA0'
  have Oq := Oq'
  clear Oq'
  have Bq := Bq'
  clear Bq'
  have Bg := Bg'
  clear Bg'
  have HG := HG'
  clear HG'
  clear hbs
  have cBA0_0 : w18.cell? ⟨w.heap.size, 0, none⟩ = some (.slice a0_0A a0_0n a0_0c) := box_cell BA0.out 0 _ rfl
  have cBA0_1 : w18.cell? ⟨w.heap.size, 1, none⟩ = some (.slice a0_1A a0_1n a0_1c) := box_cell BA0.out 1 _ rfl
  have cBA0_2 : w18.cell? ⟨w.heap.size, 2, none⟩ = some (.int .i64 a0_2) := box_cell BA0.out 2 _ rfl
  go_wp2_with fail
  refine (HTO0.out _ w.heap.size _ d0 (Jour.jty.rd_below HR0.out hbn20 (Nat.le_refl _)) hbn20.size HF0.out).mono ?_
  rintro e w19 ⟨u0, Su0, rfl, hO, hbs⟩
  clear cBA0_0 cBA0_1 cBA0_2
  have BA0' := Lib.hid (box_below BA0.out hbs)
  have Oq' := Lib.hid (Oq.out.below hbs)
  have Bq' := Lib.hid (box_below Bq.out hbs)
  have Bg' := Lib.hid (box_below Bg.out hbs)
  have HG' := Lib.hid (HG.out.below hbs)
  have hbn21 : Below w.heap.size w w19 := bel_then hbn20 hbs hbn20.size
  have hsn21 := hbs.size
  clear BA0
  clear Oq
  clear Bq
  clear Bg
  clear HG
  have BA0 := BA0'
  clear BA0'
  have Oq := Oq'
  clear Oq'
  have Bq := Bq'
  clear Bq'
  have Bg := Bg'
  clear Bg'
  have HG := HG'
  clear HG'
  clear hbs
  have Ou0 := Lib.hid hO
  clear hO
  have INOu0 : Hid (∀ k, Su0 k → w18.heap.size ≤ k ∧ k < w19.heap.size) := fun k hk => by have h := Ou0.out.inn k hk; first | exact h | (simp only [World.size_alloc] at h; exact h)
  have cBA0_0 : w19.cell? ⟨w.heap.size, 0, none⟩ = some (.slice a0_0A a0_0n a0_0c) := box_cell BA0.out 0 _ rfl
  have cBA0_1 : w19.cell? ⟨w.heap.size, 1, none⟩ = some (.slice a0_1A a0_1n a0_1c) := box_cell BA0.out 1 _ rfl
  have cBA0_2 : w19.cell? ⟨w.heap.size, 2, none⟩ = some (.int .i64 a0_2) := box_cell BA0.out 2 _ rfl
  go_wp2_with fail
  refine (HTO1.out _ w.heap.size _ d1 (RecsTy.sty.rd_below HR1.out hbn21 (Nat.le_refl _)) hbn21.size HF1.out).mono ?_
  rintro e w20 ⟨u1, Su1, rfl, hO, hbs⟩
  clear cBA0_0 cBA0_1 cBA0_2
  have BA0' := Lib.hid (box_below BA0.out hbs)
  have Oq' := Lib.hid (Oq.out.below hbs)
  have Bq' := Lib.hid (box_below Bq.out hbs)
  have Bg' := Lib.hid (box_below Bg.out hbs)
  have HG' := Lib.hid (HG.out.below hbs)
  have Ou0' := Lib.hid (Ou0.out.below hbs)
  have hbn22 : Below w.heap.size w w20 := bel_then hbn21 hbs hbn21.size
  have hsn22 := hbs.size
  clear BA0
  clear Oq
  clear Bq
  clear Bg
  clear HG
  clear Ou0
  have BA0 := BA0'
  clear BA0'
  have Oq := Oq'
  clear Oq'
  have Bq := Bq'
  clear Bq'
  have Bg := Bg'
  clear Bg'
  have HG := HG'
  clear HG'
  have Ou0 := Ou0'
  clear Ou0'
  clear hbs
  have Ou1 := Lib.hid hO
  clear hO
  have INOu1 : Hid (∀ k, Su1 k → w19.heap.size ≤ k ∧ k < w20.heap.size) := fun k hk => by have h := Ou1.out.inn k hk; first | exact h | (simp only [World.size_alloc] at h; exact h)
  go_wp2_with fail
  refine (HI2.out _ _ _ _ _ Ou0.out.rd (Nat.le_refl _) Ou1.out.rd (Nat.le_refl _)).mono ?_
  rintro e w21 ⟨h, Sh, rfl, hO, hbs⟩
  have BA0' := Lib.hid (box_below BA0.out hbs)
  have Oq' := Lib.hid (Oq.out.below hbs)
  have Bq' := Lib.hid (box_below Bq.out hbs)
  have Bg' := Lib.hid (box_below Bg.out hbs)
  have HG' := Lib.hid (HG.out.below hbs)
  have Ou0' := Lib.hid (Ou0.out.below hbs)
  have Ou1' := Lib.hid (Ou1.out.below hbs)
  have hbn23 : Below w.heap.size w w21 := bel_then hbn22 hbs hbn22.size
  have hsn23 := hbs.size
  clear BA0
  clear Oq
  clear Bq
  clear Bg
  clear HG
  clear Ou0
  clear Ou1
  have BA0 := BA0'
  clear BA0'
  have Oq := Oq'
  clear Oq'
  have Bq := Bq'
  clear Bq'
  have Bg := Bg'
  clear Bg'
  have HG := HG'
  clear HG'
  have Ou0 := Ou0'
  clear Ou0'
  have Ou1 := Ou1'
  clear Ou1'
  clear hbs
  have Oh := Lib.hid hO
  have INOh : Hid (∀ k, Sh k → w20.heap.size ≤ k ∧ k < w21.heap.size) := fun k hk => by have h := Oh.out.inn k hk; first | exact h | (simp only [World.size_alloc] at h; exact h)
  obtain ⟨h_0A, h_0n, h_0c, h_1A, h_1n, h_1c, h_2, rfl⟩ := Jour.shape hO
  clear hO
  have BA0' := Lib.hid (box_alloc BA0.out (.cells #[.slice h_0A h_0n h_0c, .slice h_1A h_1n h_1c, .int .i64 h_2] 64))
  have Oq' := Lib.hid (Oq.out.alloc (.cells #[.slice h_0A h_0n h_0c, .slice h_1A h_1n h_1c, .int .i64 h_2] 64))
  have Bq' := Lib.hid (box_alloc Bq.out (.cells #[.slice h_0A h_0n h_0c, .slice h_1A h_1n h_1c, .int .i64 h_2] 64))
  have Bg' := Lib.hid (box_alloc Bg.out (.cells #[.slice h_0A h_0n h_0c, .slice h_1A h_1n h_1c, .int .i64 h_2] 64))
  have HG' := Lib.hid (HG.out.alloc (.cells #[.slice h_0A h_0n h_0c, .slice h_1A h_1n h_1c, .int .i64 h_2] 64))
  have Ou0' := Lib.hid (Ou0.out.alloc (.cells #[.slice h_0A h_0n h_0c, .slice h_1A h_1n h_1c, .int .i64 h_2] 64))
  have Ou1' := Lib.hid (Ou1.out.alloc (.cells #[.slice h_0A h_0n h_0c, .slice h_1A h_1n h_1c, .int .i64 h_2] 64))
  have Oh' := Lib.hid (Oh.out.alloc (.cells #[.slice h_0A h_0n h_0c, .slice h_1A h_1n h_1c, .int .i64 h_2] 64))
  have hbn24 : Below w.heap.size w (w21.alloc (.cells #[.slice h_0A h_0n h_0c, .slice h_1A h_1n h_1c, .int .i64 h_2] 64)) := hbn23.alloc hbn23.size _
  clear BA0
  clear Oq
  clear Bq
  clear Bg
  clear HG
  clear Ou0
  clear Ou1
  clear Oh
  have BA0 := BA0'
  clear BA0'
  have Oq := Oq'
  clear Oq'
  have Bq := Bq'
  clear Bq'
  have Bg := Bg'
  clear Bg'
  have HG := HG'
  clear HG'
  have Ou0 := Ou0'
  clear Ou0'
  have Ou1 := Ou1'
  clear Ou1'
  have Oh := Oh'
  clear Oh'
  have Bh : Hid ((w21.alloc (.cells #[.slice h_0A h_0n h_0c, .slice h_1A h_1n h_1c, .int .i64 h_2] 64)).heap[w21.heap.size]? = some (.cells #[.slice h_0A h_0n h_0c, .slice h_1A h_1n h_1c, .int .i64 h_2] 64)) := box_new w21 (.cells #[.slice h_0A h_0n h_0c, .slice h_1A h_1n h_1c, .int .i64 h_2] 64)
  clear Ou0
  clear Ou1
  have cBh_0 : (w21.alloc (.cells #[.slice h_0A h_0n h_0c, .slice h_1A h_1n h_1c, .int .i64 h_2] 64)).cell? ⟨w21.heap.size, 0, none⟩ = some (.slice h_0A h_0n h_0c) := box_cell Bh.out 0 _ rfl
  have cBh_1 : (w21.alloc (.cells #[.slice h_0A h_0n h_0c, .slice h_1A h_1n h_1c, .int .i64 h_2] 64)).cell? ⟨w21.heap.size, 1, none⟩ = some (.slice h_1A h_1n h_1c) := box_cell Bh.out 1 _ rfl
  have cBh_2 : (w21.alloc (.cells #[.slice h_0A h_0n h_0c, .slice h_1A h_1n h_1c, .int .i64 h_2] 64)).cell? ⟨w21.heap.size, 2, none⟩ = some (.int .i64 h_2) := box_cell Bh.out 2 _ rfl
  have cBq_0 : (w21.alloc (.cells #[.slice h_0A h_0n h_0c, .slice h_1A h_1n h_1c, .int .i64 h_2] 64)).cell? ⟨w5.heap.size, 0, none⟩ = some (.slice q_0A q_0n q_0c) := box_cell Bq.out 0 _ rfl
  have cBq_1 : (w21.alloc (.cells #[.slice h_0A h_0n h_0c, .slice h_1A h_1n h_1c, .int .i64 h_2] 64)).cell? ⟨w5.heap.size, 1, none⟩ = some (.slice q_1A q_1n q_1c) := box_cell Bq.out 1 _ rfl
  have cBq_2 : (w21.alloc (.cells #[.slice h_0A h_0n h_0c, .slice h_1A h_1n h_1c, .int .i64 h_2] 64)).cell? ⟨w5.heap.size, 2, none⟩ = some (.int .i64 q_2) := box_cell Bq.out 2 _ rfl
  go_wp2_with fail
  refine (HREQ.out _ _ _ _ _ r0 Oh.out.rd Oq.out.rd (Nat.le_refl _) (Nat.le_refl _) HRF2.out).mono ?_
  rintro e w22 ⟨rfl, hbs⟩
  clear cBh_0 cBh_1 cBh_2 cBq_0 cBq_1 cBq_2
  have BA0' := Lib.hid (box_below BA0.out hbs)
  have Oq' := Lib.hid (Oq.out.below hbs)
  have Bq' := Lib.hid (box_below Bq.out hbs)
  have Bg' := Lib.hid (box_below Bg.out hbs)
  have HG' := Lib.hid (HG.out.below hbs)
  have Oh' := Lib.hid (Oh.out.below hbs)
  have Bh' := Lib.hid (box_below Bh.out hbs)
  have hbn25 : Below w.heap.size w w22 := bel_then hbn24 hbs hbn24.size
  have hsn25 := hbs.size
  simp only [World.size_alloc] at hsn25
  clear BA0
  clear Oq
  clear Bq
  clear Bg
  clear HG
  clear Oh
  clear Bh
  have BA0 := BA0'
  clear BA0'
  have Oq := Oq'
  clear Oq'
  have Bq := Bq'
  clear Bq'
  have Bg := Bg'
  clear Bg'
  have HG := HG'
  clear HG'
  have Oh := Oh'
  clear Oh'
  have Bh := Bh'
  clear Bh'
  clear hbs
  clear Oh
  clear Oq
  clear Bh
  clear Bq
  have cBg_0 : w22.cell? ⟨w8.heap.size, 0, none⟩ = some (.slice g_0A g_0n g_0c) := box_cell Bg.out 0 _ rfl
  have cBg_1 : w22.cell? ⟨w8.heap.size, 1, none⟩ = some (.slice g_1A g_1n g_1c) := box_cell Bg.out 1 _ rfl
  have cBg_2 : w22.cell? ⟨w8.heap.size, 2, none⟩ = some (.int .i64 g_2) := box_cell Bg.out 2 _ rfl
  go_wp2_with fail
  refine (HELD.out _ _ HG.out.rd (Nat.le_refl _)).mono ?_
  rintro e w23 ⟨rfl, hbs⟩
  clear cBg_0 cBg_1 cBg_2
  go_wp2
  go_ret
  exact ⟨rfl, bel_then hbn25 hbs hbn25.size⟩
end Go.Proofs.Ytpghccbknlokcaa.LawCompactTo
