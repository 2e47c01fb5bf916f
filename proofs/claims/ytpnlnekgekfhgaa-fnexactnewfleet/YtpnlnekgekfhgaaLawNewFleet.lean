/-
  THE WALK of laws.FnExactNewFleet over this seat's translation: it answers true and turns nothing that was there, if the model and the program keep one contract.
-/
import Derived.Test.YtpnlnekgekfhgaaFleetTy
namespace Go.Proofs.Ytpnlnekgekfhgaa.LawNewFleet
open Go.ChangeShapes Go.WideShapes Go.ChangeAt Go.RowKit
open Go.Proofs.Ytpnlnekgekfhgaa.LK
set_option linter.unusedVariables false

set_option maxRecDepth 100000 in
set_option maxHeartbeats 12800000 in
theorem walk (r0 : FleetTy.fty.D) (w : World)  (hrf : FleetTy.fty.Few r0) (hS : ∀ (W : World), Calls Try.prog 36 #[] W (Made FleetTy.fty r0 W)) (hI : ∀ (W : World), Calls Try.prog 37 #[] W (Made FleetTy.fty r0 W)) :
    Calls Try.prog 6 #[] w fun e w' => e = .returned (.bool true) ∧ Below w.heap.size w w' := by
  have HS := Lib.hid hS
  have HI := Lib.hid hI
  clear hS hI
  have HRF := Lib.hid hrf
  clear hrf
  have hb0 : Below w.heap.size w w := Below.refl _ _
  go_enter Try.func6, Try.ntmps6
  have HRF2 := Lib.hid (HRF.out )
  have HS2 := Lib.hid (HS.out )
  have HI2 := Lib.hid (HI.out )
  clear HS HI
  have HREQ : Hid (EqC 35 FleetTy.fty) := FleetTy.eqFleet_any
  have HRMARK : Hid (MarkC 38 FleetTy.fty) := FleetTy.markFleet_any
  have HRHELD : Hid (HeldC 39 FleetTy.fty) := FleetTy.heldFleet_any
  go_wp2_with fail
  refine (HS2.out _  ).mono ?_
  rintro e w1 ⟨q, Sq, rfl, hO, hbs⟩
  have hbn1 : Below w.heap.size w w1 := bel_then hb0 hbs hb0.size
  have hsn1 := hbs.size
  clear hbs
  have Oq := Lib.hid hO
  have INOq : Hid (∀ k, Sq k → w.heap.size ≤ k ∧ k < w1.heap.size) := fun k hk => by have h := Oq.out.inn k hk; first | exact h | (simp only [World.size_alloc] at h; exact h)
  obtain ⟨q_0A, q_0n, q_0c, q_1, rfl⟩ := FleetTy.shape hO
  clear hO
  have Oq' := Lib.hid (Oq.out.alloc (.cells #[.slice q_0A q_0n q_0c, .int .i64 q_1] 26))
  have hbn2 : Below w.heap.size w (w1.alloc (.cells #[.slice q_0A q_0n q_0c, .int .i64 q_1] 26)) := hbn1.alloc hbn1.size _
  clear Oq
  have Oq := Oq'
  clear Oq'
  have Bq : Hid ((w1.alloc (.cells #[.slice q_0A q_0n q_0c, .int .i64 q_1] 26)).heap[w1.heap.size]? = some (.cells #[.slice q_0A q_0n q_0c, .int .i64 q_1] 26)) := box_new w1 (.cells #[.slice q_0A q_0n q_0c, .int .i64 q_1] 26)
  go_wp2_with fail
  refine (HI2.out _  ).mono ?_
  rintro e w2 ⟨g, Sg, rfl, hO, hbs⟩
  have Oq' := Lib.hid (Oq.out.below hbs)
  have Bq' := Lib.hid (box_below Bq.out hbs)
  have hbn3 : Below w.heap.size w w2 := bel_then hbn2 hbs hbn2.size
  have hsn3 := hbs.size
  simp only [World.size_alloc] at hsn3
  clear Oq
  clear Bq
  have Oq := Oq'
  clear Oq'
  have Bq := Bq'
  clear Bq'
  clear hbs
  have Og := Lib.hid hO
  have INOg : Hid (∀ k, Sg k → w1.heap.size + 1 ≤ k ∧ k < w2.heap.size) := fun k hk => by have h := Og.out.inn k hk; first | exact h | (simp only [World.size_alloc] at h; exact h)
  obtain ⟨g_0A, g_0n, g_0c, g_1, rfl⟩ := FleetTy.shape hO
  clear hO
  have Oq' := Lib.hid (Oq.out.alloc (.cells #[.slice g_0A g_0n g_0c, .int .i64 g_1] 26))
  have Bq' := Lib.hid (box_alloc Bq.out (.cells #[.slice g_0A g_0n g_0c, .int .i64 g_1] 26))
  have Og' := Lib.hid (Og.out.alloc (.cells #[.slice g_0A g_0n g_0c, .int .i64 g_1] 26))
  have hbn4 : Below w.heap.size w (w2.alloc (.cells #[.slice g_0A g_0n g_0c, .int .i64 g_1] 26)) := hbn3.alloc hbn3.size _
  clear Oq
  clear Bq
  clear Og
  have Oq := Oq'
  clear Oq'
  have Bq := Bq'
  clear Bq'
  have Og := Og'
  clear Og'
  have Bg : Hid ((w2.alloc (.cells #[.slice g_0A g_0n g_0c, .int .i64 g_1] 26)).heap[w2.heap.size]? = some (.cells #[.slice g_0A g_0n g_0c, .int .i64 g_1] 26)) := box_new w2 (.cells #[.slice g_0A g_0n g_0c, .int .i64 g_1] 26)
  have cBg_0 : (w2.alloc (.cells #[.slice g_0A g_0n g_0c, .int .i64 g_1] 26)).cell? ⟨w2.heap.size, 0, none⟩ = some (.slice g_0A g_0n g_0c) := box_cell Bg.out 0 _ rfl
  have cBg_1 : (w2.alloc (.cells #[.slice g_0A g_0n g_0c, .int .i64 g_1] 26)).cell? ⟨w2.heap.size, 1, none⟩ = some (.int .i64 g_1) := box_cell Bg.out 1 _ rfl
  have cBq_0 : (w2.alloc (.cells #[.slice g_0A g_0n g_0c, .int .i64 g_1] 26)).cell? ⟨w1.heap.size, 0, none⟩ = some (.slice q_0A q_0n q_0c) := box_cell Bq.out 0 _ rfl
  have cBq_1 : (w2.alloc (.cells #[.slice g_0A g_0n g_0c, .int .i64 g_1] 26)).cell? ⟨w1.heap.size, 1, none⟩ = some (.int .i64 q_1) := box_cell Bq.out 1 _ rfl
  go_wp2_with fail
  refine (HREQ.out _ _ _ _ _ r0 Og.out.rd Oq.out.rd (Nat.le_refl _) (Nat.le_refl _) HRF2.out).mono ?_
  rintro e w3 ⟨rfl, hbs⟩
  clear cBg_0 cBg_1 cBq_0 cBq_1
  have Oq' := Lib.hid (Oq.out.below hbs)
  have Bq' := Lib.hid (box_below Bq.out hbs)
  have Og' := Lib.hid (Og.out.below hbs)
  have Bg' := Lib.hid (box_below Bg.out hbs)
  have hbn5 : Below w.heap.size w w3 := bel_then hbn4 hbs hbn4.size
  have hsn5 := hbs.size
  simp only [World.size_alloc] at hsn5
  clear Oq
  clear Bq
  clear Og
  clear Bg
  have Oq := Oq'
  clear Oq'
  have Bq := Bq'
  clear Bq'
  have Og := Og'
  clear Og'
  have Bg := Bg'
  clear Bg'
  clear hbs
  have cBg_0 : w3.cell? ⟨w2.heap.size, 0, none⟩ = some (.slice g_0A g_0n g_0c) := box_cell Bg.out 0 _ rfl
  have cBg_1 : w3.cell? ⟨w2.heap.size, 1, none⟩ = some (.int .i64 g_1) := box_cell Bg.out 1 _ rfl
  go_wp2_with fail
  refine (HRMARK.out _ _ _ _ _ r0 1 Og.out HRF2.out (by omega) (by omega)).mono ?_
  rintro e w4 ⟨rfl, hO, ht⟩
  clear cBg_0 cBg_1
  have HELD : Hid (∀ (W : World) (B : Nat), FleetTy.fty.Rd W B (.agg #[.slice g_0A g_0n g_0c, .int .i64 g_1]) (FleetTy.fty.mark 1 r0) → B ≤ W.heap.size → Calls Try.prog 39 #[(.agg #[.slice g_0A g_0n g_0c, .int .i64 g_1]), .int .i64 1] W (Says (.int .i64 (1 + FleetTy.fty.cnt r0)) W)) := fun W B h hB => HRHELD.out W B _ r0 1 h hB HRF2.out (by omega) (by omega)
  obtain ⟨M, hM⟩ : ∃ M : Int, M = 1 + (FleetTy.fty.cnt r0 : Int) := ⟨_, rfl⟩
  have hM0 : decide (M < 0) = false := by have := FleetTy.fty.few_cnt HRF2.out; simp; omega
  have hM1 : ¬ M < 0 := by simpa using hM0
  rw [← hM] at HELD ⊢
  clear hM
  clear Og
  have HG := Lib.hid hO
  clear hO
  have Oq' := Lib.hid (Oq.out.turned ht (fun k h h' => by have := INOg.out k h'; have := INOq.out k h; omega))
  have Bq' := Lib.hid (box_turned Bq.out ht (fun h => by have := INOg.out _ h; omega))
  have Bg' := Lib.hid (box_turned Bg.out ht (fun h => by have := INOg.out _ h; omega))
  have hbn6 : Below w.heap.size w w4 := Turned.low hbn5 ht (fun k h => by have := INOg.out k h; omega) hbn5.size
  have hsn6 := ht.size
  clear Oq
  clear Bq
  clear Bg
  have Oq := Oq'
  clear Oq'
  have Bq := Bq'
  clear Bq'
  have Bg := Bg'
  clear Bg'
  clear ht
  have INHG := INOg
  have cBg_0 : w4.cell? ⟨w2.heap.size, 0, none⟩ = some (.slice g_0A g_0n g_0c) := box_cell Bg.out 0 _ rfl
  have cBg_1 : w4.cell? ⟨w2.heap.size, 1, none⟩ = some (.int .i64 g_1) := box_cell Bg.out 1 _ rfl
  go_wp2_with fail
  refine (HELD.out _ _ HG.out.rd (Nat.le_refl _)).mono ?_
  rintro e w5 ⟨rfl, hbs⟩
  clear cBg_0 cBg_1
  have Oq' := Lib.hid (Oq.out.below hbs)
  have Bq' := Lib.hid (box_below Bq.out hbs)
  have Bg' := Lib.hid (box_below Bg.out hbs)
  have HG' := Lib.hid (HG.out.below hbs)
  have hbn7 : Below w.heap.size w w5 := bel_then hbn6 hbs hbn6.size
  have hsn7 := hbs.size
  clear Oq
  clear Bq
  clear Bg
  clear HG
  have Oq := Oq'
  clear Oq'
  have Bq := Bq'
  clear Bq'
  have Bg := Bg'
  clear Bg'
  have HG := HG'
  clear HG'
  clear hbs
  go_wp2_with fail
  refine (HI2.out _  ).mono ?_
  rintro e w6 ⟨h, Sh, rfl, hO, hbs⟩
  have Oq' := Lib.hid (Oq.out.below hbs)
  have Bq' := Lib.hid (box_below Bq.out hbs)
  have Bg' := Lib.hid (box_below Bg.out hbs)
  have HG' := Lib.hid (HG.out.below hbs)
  have hbn8 : Below w.heap.size w w6 := bel_then hbn7 hbs hbn7.size
  have hsn8 := hbs.size
  clear Oq
  clear Bq
  clear Bg
  clear HG
  have Oq := Oq'
  clear Oq'
  have Bq := Bq'
  clear Bq'
  have Bg := Bg'
  clear Bg'
  have HG := HG'
  clear HG'
  clear hbs
  have Oh := Lib.hid hO
  have INOh : Hid (∀ k, Sh k → w5.heap.size ≤ k ∧ k < w6.heap.size) := fun k hk => by have h := Oh.out.inn k hk; first | exact h | (simp only [World.size_alloc] at h; exact h)
  obtain ⟨h_0A, h_0n, h_0c, h_1, rfl⟩ := FleetTy.shape hO
  clear hO
  have Oq' := Lib.hid (Oq.out.alloc (.cells #[.slice h_0A h_0n h_0c, .int .i64 h_1] 26))
  have Bq' := Lib.hid (box_alloc Bq.out (.cells #[.slice h_0A h_0n h_0c, .int .i64 h_1] 26))
  have Bg' := Lib.hid (box_alloc Bg.out (.cells #[.slice h_0A h_0n h_0c, .int .i64 h_1] 26))
  have HG' := Lib.hid (HG.out.alloc (.cells #[.slice h_0A h_0n h_0c, .int .i64 h_1] 26))
  have Oh' := Lib.hid (Oh.out.alloc (.cells #[.slice h_0A h_0n h_0c, .int .i64 h_1] 26))
  have hbn9 : Below w.heap.size w (w6.alloc (.cells #[.slice h_0A h_0n h_0c, .int .i64 h_1] 26)) := hbn8.alloc hbn8.size _
  clear Oq
  clear Bq
  clear Bg
  clear HG
  clear Oh
  have Oq := Oq'
  clear Oq'
  have Bq := Bq'
  clear Bq'
  have Bg := Bg'
  clear Bg'
  have HG := HG'
  clear HG'
  have Oh := Oh'
  clear Oh'
  have Bh : Hid ((w6.alloc (.cells #[.slice h_0A h_0n h_0c, .int .i64 h_1] 26)).heap[w6.heap.size]? = some (.cells #[.slice h_0A h_0n h_0c, .int .i64 h_1] 26)) := box_new w6 (.cells #[.slice h_0A h_0n h_0c, .int .i64 h_1] 26)
  have cBh_0 : (w6.alloc (.cells #[.slice h_0A h_0n h_0c, .int .i64 h_1] 26)).cell? ⟨w6.heap.size, 0, none⟩ = some (.slice h_0A h_0n h_0c) := box_cell Bh.out 0 _ rfl
  have cBh_1 : (w6.alloc (.cells #[.slice h_0A h_0n h_0c, .int .i64 h_1] 26)).cell? ⟨w6.heap.size, 1, none⟩ = some (.int .i64 h_1) := box_cell Bh.out 1 _ rfl
  have cBq_0 : (w6.alloc (.cells #[.slice h_0A h_0n h_0c, .int .i64 h_1] 26)).cell? ⟨w1.heap.size, 0, none⟩ = some (.slice q_0A q_0n q_0c) := box_cell Bq.out 0 _ rfl
  have cBq_1 : (w6.alloc (.cells #[.slice h_0A h_0n h_0c, .int .i64 h_1] 26)).cell? ⟨w1.heap.size, 1, none⟩ = some (.int .i64 q_1) := box_cell Bq.out 1 _ rfl
  go_wp2_with fail
  refine (HREQ.out _ _ _ _ _ r0 Oh.out.rd Oq.out.rd (Nat.le_refl _) (Nat.le_refl _) HRF2.out).mono ?_
  rintro e w7 ⟨rfl, hbs⟩
  clear cBh_0 cBh_1 cBq_0 cBq_1
  have Oq' := Lib.hid (Oq.out.below hbs)
  have Bq' := Lib.hid (box_below Bq.out hbs)
  have Bg' := Lib.hid (box_below Bg.out hbs)
  have HG' := Lib.hid (HG.out.below hbs)
  have Oh' := Lib.hid (Oh.out.below hbs)
  have Bh' := Lib.hid (box_below Bh.out hbs)
  have hbn10 : Below w.heap.size w w7 := bel_then hbn9 hbs hbn9.size
  have hsn10 := hbs.size
  simp only [World.size_alloc] at hsn10
  clear Oq
  clear Bq
  clear Bg
  clear HG
  clear Oh
  clear Bh
  have Oq := Oq'
  clear Oq'
  have Bq := Bq'
  clear Bq'
  have Bg := Bg'
  clear Bg'
  have HG := HG'
  clear HG'
  have Oh := Oh'
  clear Oh'
  have Bh := Bh'
  clear Bh'
  clear hbs
  clear Oh
  clear Oq
  clear Bh
  clear Bq
  have cBg_0 : w7.cell? ⟨w2.heap.size, 0, none⟩ = some (.slice g_0A g_0n g_0c) := box_cell Bg.out 0 _ rfl
  have cBg_1 : w7.cell? ⟨w2.heap.size, 1, none⟩ = some (.int .i64 g_1) := box_cell Bg.out 1 _ rfl
  go_wp2_with fail
  refine (HELD.out _ _ HG.out.rd (Nat.le_refl _)).mono ?_
  rintro e w8 ⟨rfl, hbs⟩
  clear cBg_0 cBg_1
  go_wp2
  go_ret
  exact ⟨rfl, bel_then hbn10 hbs hbn10.size⟩
end Go.Proofs.Ytpnlnekgekfhgaa.LawNewFleet
