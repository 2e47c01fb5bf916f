/-
  THE WALK of laws.FnExactCommandsOf over this seat's translation: it answers true and turns nothing that was there, if the model and the program keep one contract.
-/
import Derived.Test.YtdefckbgcggnoaaEvs
namespace Go.Proofs.Ytdefckbgcggnoaa.LawCommandsOf
open Go.ChangeShapes Go.WideShapes Go.ChangeAt Go.RowKit
open Go.Proofs.Ytdefckbgcggnoaa.LK
set_option linter.unusedVariables false

set_option maxRecDepth 100000 in
set_option maxHeartbeats 12800000 in
theorem walk (a0 : Value) (d0 : Evs.lty.D) (r0 : Evs.lty.D) (w : World) (hr0 : Evs.lty.Rd w w.heap.size (a0) d0) (hz0 : SzC 20 Evs.lty (a0) d0 w) (hrf : Evs.lty.Few d0 → Evs.lty.Few r0) (hS : Evs.lty.Few d0 → ∀ (W : World) (B0 : Nat) (v0 : Value), Evs.lty.Rd W B0 v0 d0 → B0 ≤ W.heap.size → Calls Try.prog 33 #[v0] W (Made Evs.lty r0 W)) (hI : Evs.lty.Few d0 → ∀ (W : World) (B0 : Nat) (v0 : Value), Evs.lty.Rd W B0 v0 d0 → B0 ≤ W.heap.size → Calls Try.prog 34 #[v0] W (Made Evs.lty r0 W)) :
    Calls Try.prog 10 #[a0] w fun e w' => e = .returned (.bool true) ∧ Below w.heap.size w w' := by
  have HR0 := Lib.hid hr0
  have HZ0 := Lib.hid hz0
  clear hr0 hz0
  have HS := Lib.hid hS
  have HI := Lib.hid hI
  clear hS hI
  have HRF := Lib.hid hrf
  clear hrf
  have hb0 : Below w.heap.size w w := Below.refl _ _
  go_enter Try.func10, Try.ntmps10
  go_wp2_with fail
  refine (HZ0.out _ 1048576 hb0 (by omega) (by omega)).mono ?_
  rintro e w1 ⟨z0, rfl, hbs, hz0⟩
  have hbn1 : Below w.heap.size w w1 := bel_then hb0 hbs hb0.size
  have hsn1 := hbs.size
  clear hbs
  rcases hz0 with rfl | ⟨hz0a, hz0b, hf0⟩
  · go_wp2
    go_ret
    exact ⟨rfl, hbn1⟩
  have HF0 := Lib.hid hf0
  clear hf0
  have hzd0 : decide (z0 < 0) = false := by simp; omega
  have HRF2 := Lib.hid (HRF.out HF0.out)
  have HS2 := Lib.hid (HS.out HF0.out)
  have HI2 := Lib.hid (HI.out HF0.out)
  clear HS HI
  have HTO0 : Hid (ToC 22 Evs.lty) := Evs.toEventS_any
  have HEQ0 : Hid (EqC 24 Evs.lty) := Evs.eqEventS_any
  have HMARK0 : Hid (MarkC 35 Evs.lty) := Evs.markEventS_any
  have HREQ : Hid (EqC 24 Evs.lty) := Evs.eqEventS_any
  have HRMARK : Hid (MarkC 35 Evs.lty) := Evs.markEventS_any
  have HRHELD : Hid (HeldC 36 Evs.lty) := Evs.heldEventS_any
  go_wp2_with fail
  refine (HTO0.out _ w.heap.size _ d0 (Evs.lty.rd_below HR0.out hbn1 (Nat.le_refl _)) hbn1.size HF0.out).mono ?_
  rintro e w2 ⟨y0, Sy0, rfl, hO, hbs⟩
  have hbn2 : Below w.heap.size w w2 := bel_then hbn1 hbs hbn1.size
  have hsn2 := hbs.size
  clear hbs
  have Oy0 := Lib.hid hO
  clear hO
  have INOy0 : Hid (∀ k, Sy0 k → w1.heap.size ≤ k ∧ k < w2.heap.size) := fun k hk => by have h := Oy0.out.inn k hk; first | exact h | (simp only [World.size_alloc] at h; exact h)
  go_wp2_with fail
  refine (HS2.out _ _ _ Oy0.out.rd (Nat.le_refl _)).mono ?_
  rintro e w3 ⟨q, Sq, rfl, hO, hbs⟩
  have Oy0' := Lib.hid (Oy0.out.below hbs)
  have hbn3 : Below w.heap.size w w3 := bel_then hbn2 hbs hbn2.size
  have hsn3 := hbs.size
  clear Oy0
  have Oy0 := Oy0'
  clear Oy0'
  clear hbs
  have Oq := Lib.hid hO
  have INOq : Hid (∀ k, Sq k → w2.heap.size ≤ k ∧ k < w3.heap.size) := fun k hk => by have h := Oq.out.inn k hk; first | exact h | (simp only [World.size_alloc] at h; exact h)
  clear hO
  clear Oy0
  go_wp2_with fail
  refine (HTO0.out _ w.heap.size _ d0 (Evs.lty.rd_below HR0.out hbn3 (Nat.le_refl _)) hbn3.size HF0.out).mono ?_
  rintro e w4 ⟨x0, Sx0, rfl, hO, hbs⟩
  have Oq' := Lib.hid (Oq.out.below hbs)
  have hbn4 : Below w.heap.size w w4 := bel_then hbn3 hbs hbn3.size
  have hsn4 := hbs.size
  clear Oq
  have Oq := Oq'
  clear Oq'
  clear hbs
  have Ox0 := Lib.hid hO
  have INOx0 : Hid (∀ k, Sx0 k → w3.heap.size ≤ k ∧ k < w4.heap.size) := fun k hk => by have h := Ox0.out.inn k hk; first | exact h | (simp only [World.size_alloc] at h; exact h)
  clear hO
  go_wp2_with fail
  refine (HI2.out _ _ _ Ox0.out.rd (Nat.le_refl _)).mono ?_
  rintro e w5 ⟨g, Sg, rfl, hO, hbs⟩
  have Oq' := Lib.hid (Oq.out.below hbs)
  have Ox0' := Lib.hid (Ox0.out.below hbs)
  have hbn5 : Below w.heap.size w w5 := bel_then hbn4 hbs hbn4.size
  have hsn5 := hbs.size
  clear Oq
  clear Ox0
  have Oq := Oq'
  clear Oq'
  have Ox0 := Ox0'
  clear Ox0'
  clear hbs
  have Og := Lib.hid hO
  have INOg : Hid (∀ k, Sg k → w4.heap.size ≤ k ∧ k < w5.heap.size) := fun k hk => by have h := Og.out.inn k hk; first | exact h | (simp only [World.size_alloc] at h; exact h)
  clear hO
  go_wp2_with fail
  refine (HREQ.out _ _ _ _ _ r0 Og.out.rd Oq.out.rd (Nat.le_refl _) (Nat.le_refl _) HRF2.out).mono ?_
  rintro e w6 ⟨rfl, hbs⟩
  have Oq' := Lib.hid (Oq.out.below hbs)
  have Ox0' := Lib.hid (Ox0.out.below hbs)
  have Og' := Lib.hid (Og.out.below hbs)
  have hbn6 : Below w.heap.size w w6 := bel_then hbn5 hbs hbn5.size
  have hsn6 := hbs.size
  clear Oq
  clear Ox0
  clear Og
  have Oq := Oq'
  clear Oq'
  have Ox0 := Ox0'
  clear Ox0'
  have Og := Og'
  clear Og'
  clear hbs
  go_wp2_with fail
  refine (HTO0.out _ w.heap.size _ d0 (Evs.lty.rd_below HR0.out hbn6 (Nat.le_refl _)) hbn6.size HF0.out).mono ?_
  rintro e w7 ⟨t0, St0, rfl, hO, hbs⟩
  have Oq' := Lib.hid (Oq.out.below hbs)
  have Ox0' := Lib.hid (Ox0.out.below hbs)
  have Og' := Lib.hid (Og.out.below hbs)
  have hbn7 : Below w.heap.size w w7 := bel_then hbn6 hbs hbn6.size
  have hsn7 := hbs.size
  clear Oq
  clear Ox0
  clear Og
  have Oq := Oq'
  clear Oq'
  have Ox0 := Ox0'
  clear Ox0'
  have Og := Og'
  clear Og'
  clear hbs
  have Ot := Lib.hid hO
  clear hO
  go_wp2_with fail
  refine (HEQ0.out _ _ _ _ _ d0 Ox0.out.rd Ot.out.rd (Nat.le_refl _) (Nat.le_refl _) HF0.out).mono ?_
  rintro e w8 ⟨rfl, hbs⟩
  clear Ot
  have Oq' := Lib.hid (Oq.out.below hbs)
  have Ox0' := Lib.hid (Ox0.out.below hbs)
  have Og' := Lib.hid (Og.out.below hbs)
  have hbn8 : Below w.heap.size w w8 := bel_then hbn7 hbs hbn7.size
  have hsn8 := hbs.size
  clear Oq
  clear Ox0
  clear Og
  have Oq := Oq'
  clear Oq'
  have Ox0 := Ox0'
  clear Ox0'
  have Og := Og'
  clear Og'
  clear hbs
  go_wp2_with fail
  refine (HMARK0.out _ _ _ _ _ d0 1 Ox0.out HF0.out (by omega) (by omega)).mono ?_
  rintro e w9 ⟨rfl, hO, ht⟩
  obtain ⟨k0, hk0⟩ : ∃ k : Int, k = 1 + (Evs.lty.cnt d0 : Int) := ⟨_, rfl⟩
  have hk0a : 0 ≤ k0 ∧ k0 ≤ 30000000 := by have := Evs.lty.few_cnt HF0.out; omega
  obtain ⟨hk0b, hk0c⟩ := hk0a
  have hk0d : decide (k0 < 0) = false := by simp; omega
  rw [← hk0]
  clear hk0
  clear Ox0
  clear hO
  have Oq' := Lib.hid (Oq.out.turned ht (fun k h h' => by have := INOx0.out k h'; have := INOq.out k h; omega))
  have Og' := Lib.hid (Og.out.turned ht (fun k h h' => by have := INOx0.out k h'; have := INOg.out k h; omega))
  have hbn9 : Below w.heap.size w w9 := Turned.low hbn8 ht (fun k h => by have := INOx0.out k h; omega) hbn8.size
  have hsn9 := ht.size
  clear Oq
  clear Og
  have Oq := Oq'
  clear Oq'
  have Og := Og'
  clear Og'
  clear ht
  go_wp2_with fail
  refine (HREQ.out _ _ _ _ _ r0 Og.out.rd Oq.out.rd (Nat.le_refl _) (Nat.le_refl _) HRF2.out).mono ?_
  rintro e w10 ⟨rfl, hbs⟩
  have Oq' := Lib.hid (Oq.out.below hbs)
  have Og' := Lib.hid (Og.out.below hbs)
  have hbn10 : Below w.heap.size w w10 := bel_then hbn9 hbs hbn9.size
  have hsn10 := hbs.size
  clear Oq
  clear Og
  have Oq := Oq'
  clear Oq'
  have Og := Og'
  clear Og'
  clear hbs
  go_wp2_with fail
  refine (HRMARK.out _ _ _ _ _ r0 1 Og.out HRF2.out (by omega) (by omega)).mono ?_
  rintro e w11 ⟨rfl, hO, ht⟩
  have HELD : Hid (∀ (W : World) (B : Nat), Evs.lty.Rd W B g (Evs.lty.mark 1 r0) → B ≤ W.heap.size → Calls Try.prog 36 #[g, .int .i64 1] W (Says (.int .i64 (1 + Evs.lty.cnt r0)) W)) := fun W B h hB => HRHELD.out W B _ r0 1 h hB HRF2.out (by omega) (by omega)
  obtain ⟨M, hM⟩ : ∃ M : Int, M = 1 + (Evs.lty.cnt r0 : Int) := ⟨_, rfl⟩
  have hM0 : decide (M < 0) = false := by have := Evs.lty.few_cnt HRF2.out; simp; omega
  have hM1 : ¬ M < 0 := by simpa using hM0
  rw [← hM] at HELD ⊢
  clear hM
  clear Og
  have HG := Lib.hid hO
  clear hO
  have Oq' := Lib.hid (Oq.out.turned ht (fun k h h' => by have := INOg.out k h'; have := INOq.out k h; omega))
  have hbn11 : Below w.heap.size w w11 := Turned.low hbn10 ht (fun k h => by have := INOg.out k h; omega) hbn10.size
  have hsn11 := ht.size
  clear Oq
  have Oq := Oq'
  clear Oq'
  clear ht
  have INHG := INOg
  go_wp2_with fail
  refine (HELD.out _ _ HG.out.rd (Nat.le_refl _)).mono ?_
  rintro e w12 ⟨rfl, hbs⟩
  have Oq' := Lib.hid (Oq.out.below hbs)
  have HG' := Lib.hid (HG.out.below hbs)
  have hbn12 : Below w.heap.size w w12 := bel_then hbn11 hbs hbn11.size
  have hsn12 := hbs.size
  clear Oq
  clear HG
  have Oq := Oq'
  clear Oq'
  have HG := HG'
  clear HG'
  clear hbs
  go_wp2_with fail
  refine (HTO0.out _ w.heap.size _ d0 (Evs.lty.rd_below HR0.out hbn12 (Nat.le_refl _)) hbn12.size HF0.out).mono ?_
  rintro e w13 ⟨u0, Su0, rfl, hO, hbs⟩
  have Oq' := Lib.hid (Oq.out.below hbs)
  have HG' := Lib.hid (HG.out.below hbs)
  have hbn13 : Below w.heap.size w w13 := bel_then hbn12 hbs hbn12.size
  have hsn13 := hbs.size
  clear Oq
  clear HG
  have Oq := Oq'
  clear Oq'
  have HG := HG'
  clear HG'
  clear hbs
  have Ou0 := Lib.hid hO
  clear hO
  have INOu0 : Hid (∀ k, Su0 k → w12.heap.size ≤ k ∧ k < w13.heap.size) := fun k hk => by have h := Ou0.out.inn k hk; first | exact h | (simp only [World.size_alloc] at h; exact h)
  go_wp2_with fail
  refine (HI2.out _ _ _ Ou0.out.rd (Nat.le_refl _)).mono ?_
  rintro e w14 ⟨h, Sh, rfl, hO, hbs⟩
  have Oq' := Lib.hid (Oq.out.below hbs)
  have HG' := Lib.hid (HG.out.below hbs)
  have Ou0' := Lib.hid (Ou0.out.below hbs)
  have hbn14 : Below w.heap.size w w14 := bel_then hbn13 hbs hbn13.size
  have hsn14 := hbs.size
  clear Oq
  clear HG
  clear Ou0
  have Oq := Oq'
  clear Oq'
  have HG := HG'
  clear HG'
  have Ou0 := Ou0'
  clear Ou0'
  clear hbs
  have Oh := Lib.hid hO
  have INOh : Hid (∀ k, Sh k → w13.heap.size ≤ k ∧ k < w14.heap.size) := fun k hk => by have h := Oh.out.inn k hk; first | exact h | (simp only [World.size_alloc] at h; exact h)
  clear hO
  clear Ou0
  go_wp2_with fail
  refine (HREQ.out _ _ _ _ _ r0 Oh.out.rd Oq.out.rd (Nat.le_refl _) (Nat.le_refl _) HRF2.out).mono ?_
  rintro e w15 ⟨rfl, hbs⟩
  have Oq' := Lib.hid (Oq.out.below hbs)
  have HG' := Lib.hid (HG.out.below hbs)
  have Oh' := Lib.hid (Oh.out.below hbs)
  have hbn15 : Below w.heap.size w w15 := bel_then hbn14 hbs hbn14.size
  have hsn15 := hbs.size
  clear Oq
  clear HG
  clear Oh
  have Oq := Oq'
  clear Oq'
  have HG := HG'
  clear HG'
  have Oh := Oh'
  clear Oh'
  clear hbs
  clear Oh
  clear Oq
  go_wp2_with fail
  refine (HELD.out _ _ HG.out.rd (Nat.le_refl _)).mono ?_
  rintro e w16 ⟨rfl, hbs⟩
  go_wp2
  go_ret
  exact ⟨rfl, bel_then hbn15 hbs hbn15.size⟩
end Go.Proofs.Ytdefckbgcggnoaa.LawCommandsOf
