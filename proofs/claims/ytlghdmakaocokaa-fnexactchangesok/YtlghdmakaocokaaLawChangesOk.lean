/-
  THE WALK of laws.FnExactChangesOk over this seat's translation: it answers true and turns nothing that was there, if the model and the program keep one contract.
-/
import Derived.Test.YtlghdmakaocokaaChs
namespace Go.Proofs.Ytlghdmakaocokaa.LawChangesOk
open Go.ChangeShapes Go.WideShapes Go.ChangeAt Go.RowKit
open Go.Proofs.Ytlghdmakaocokaa.LK
set_option linter.unusedVariables false

set_option maxRecDepth 100000 in
set_option maxHeartbeats 12800000 in
theorem walk (a0 : Value) (d0 : Chs.lty.D) (r0 : Bool) (w : World) (hr0 : Chs.lty.Rd w w.heap.size (a0) d0) (hz0 : SzC 9 Chs.lty (a0) d0 w) (hS : Chs.lty.Few d0 → ∀ (W : World) (B0 : Nat) (v0 : Value), Chs.lty.Rd W B0 v0 d0 → B0 ≤ W.heap.size → Calls Try.prog 10 #[v0] W (Says (.bool r0) W)) (hI : Chs.lty.Few d0 → ∀ (W : World) (B0 : Nat) (v0 : Value), Chs.lty.Rd W B0 v0 d0 → B0 ≤ W.heap.size → Calls Try.prog 12 #[v0] W (Says (.bool r0) W)) :
    Calls Try.prog 4 #[a0] w fun e w' => e = .returned (.bool true) ∧ Below w.heap.size w w' := by
  have HR0 := Lib.hid hr0
  have HZ0 := Lib.hid hz0
  clear hr0 hz0
  have HS := Lib.hid hS
  have HI := Lib.hid hI
  clear hS hI
  have hbb0 : (r0 != r0) = false := by simp
  have hb0 : Below w.heap.size w w := Below.refl _ _
  go_enter Try.func4, Try.ntmps4
  go_wp2_with fail
  refine (HZ0.out _ 1048576 hb0 (by omega) (by omega)).mono ?_
  rintro e w1 ⟨z0, rfl, hbs, hz0⟩
  have hbn1 : Below w.heap.size w w1 := bel_then hb0 hbs hb0.size
  have hsn1 := hbs.size
  clear hbs
  rcases hz0 with rfl | ⟨hz0a, hz0b, hf0⟩
  · go_wp2
    go_ret
    exact ⟨rfl, hbn1⟩
  have HF0 := Lib.hid hf0
  clear hf0
  have hzd0 : decide (z0 < 0) = false := by simp; omega
  have HS2 := Lib.hid (HS.out HF0.out)
  have HI2 := Lib.hid (HI.out HF0.out)
  clear HS HI
  have HTO0 : Hid (ToC 11 Chs.lty) := Chs.toChangeS_any
  have HEQ0 : Hid (EqC 13 Chs.lty) := Chs.eqChangeS_any
  go_wp2_with fail
  refine (HTO0.out _ w.heap.size _ d0 (Chs.lty.rd_below HR0.out hbn1 (Nat.le_refl _)) hbn1.size HF0.out).mono ?_
  rintro e w2 ⟨y0, Sy0, rfl, hO, hbs⟩
  have hbn2 : Below w.heap.size w w2 := bel_then hbn1 hbs hbn1.size
  have hsn2 := hbs.size
  clear hbs
  have Oy0 := Lib.hid hO
  clear hO
  have INOy0 : Hid (∀ k, Sy0 k → w1.heap.size ≤ k ∧ k < w2.heap.size) := fun k hk => by have h := Oy0.out.inn k hk; first | exact h | (simp only [World.size_alloc] at h; exact h)
  go_wp2_with fail
  refine (HS2.out _ _ _ Oy0.out.rd (Nat.le_refl _)).mono ?_
  rintro e w3 ⟨rfl, hbs⟩
  have Oy0' := Lib.hid (Oy0.out.below hbs)
  have hbn3 : Below w.heap.size w w3 := bel_then hbn2 hbs hbn2.size
  have hsn3 := hbs.size
  clear Oy0
  have Oy0 := Oy0'
  clear Oy0'
  clear hbs
  clear Oy0
  go_wp2_with fail
  refine (HTO0.out _ w.heap.size _ d0 (Chs.lty.rd_below HR0.out hbn3 (Nat.le_refl _)) hbn3.size HF0.out).mono ?_
  rintro e w4 ⟨x0, Sx0, rfl, hO, hbs⟩
  have hbn4 : Below w.heap.size w w4 := bel_then hbn3 hbs hbn3.size
  have hsn4 := hbs.size
  clear hbs
  have Ox0 := Lib.hid hO
  have INOx0 : Hid (∀ k, Sx0 k → w3.heap.size ≤ k ∧ k < w4.heap.size) := fun k hk => by have h := Ox0.out.inn k hk; first | exact h | (simp only [World.size_alloc] at h; exact h)
  clear hO
  go_wp2_with fail
  refine (HI2.out _ _ _ Ox0.out.rd (Nat.le_refl _)).mono ?_
  rintro e w5 ⟨rfl, hbs⟩
  have Ox0' := Lib.hid (Ox0.out.below hbs)
  have hbn5 : Below w.heap.size w w5 := bel_then hbn4 hbs hbn4.size
  have hsn5 := hbs.size
  clear Ox0
  have Ox0 := Ox0'
  clear Ox0'
  clear hbs
  go_wp2_with fail
  refine (HTO0.out _ w.heap.size _ d0 (Chs.lty.rd_below HR0.out hbn5 (Nat.le_refl _)) hbn5.size HF0.out).mono ?_
  rintro e w6 ⟨t0, St0, rfl, hO, hbs⟩
  have Ox0' := Lib.hid (Ox0.out.below hbs)
  have hbn6 : Below w.heap.size w w6 := bel_then hbn5 hbs hbn5.size
  have hsn6 := hbs.size
  clear Ox0
  have Ox0 := Ox0'
  clear Ox0'
  clear hbs
  have Ot := Lib.hid hO
  clear hO
  go_wp2_with fail
  refine (HEQ0.out _ _ _ _ _ d0 Ox0.out.rd Ot.out.rd (Nat.le_refl _) (Nat.le_refl _) HF0.out).mono ?_
  rintro e w7 ⟨rfl, hbs⟩
  clear Ot
  have Ox0' := Lib.hid (Ox0.out.below hbs)
  have hbn7 : Below w.heap.size w w7 := bel_then hbn6 hbs hbn6.size
  have hsn7 := hbs.size
  clear Ox0
  have Ox0 := Ox0'
  clear Ox0'
  clear hbs
  go_wp2
  go_ret
  exact ⟨rfl, hbn7⟩
end Go.Proofs.Ytlghdmakaocokaa.LawChangesOk
