/-
  WHAT THE PROGRAM'S StepsNeeded ANSWERS over this seat's translation.
-/
import Derived.Test.YtlghdmakaocokaaStepS
import Derived.Test.YtlghdmakaocokaaOverI
import Derived.Test.YtlghdmakaocokaaPlanI
namespace Go.Proofs.Ytlghdmakaocokaa.StepI
open Go.ChangeShapes Go.WideShapes Go.ChangeAt Go.RowKit
open Go.Proofs.Ytlghdmakaocokaa.LK Go.Proofs.Ytlghdmakaocokaa.Sp Go.Proofs.Ytlghdmakaocokaa.Cnt Go.Proofs.Ytlghdmakaocokaa.Ends
set_option linter.unusedVariables false
set_option linter.unusedSimpArgs false
theorem overI_is {x0 a b : Int} : overI x0 a a b 0 = isOver x0 (a, b) := by
  simp [overI, isOver]
set_option maxRecDepth 100000 in
set_option maxHeartbeats 12800000 in
theorem StepsNeeded_any (x0 x1 x2 x3 x4 x5 x6 x7 x8 x9 x10 : Int) (w : World) : Calls Try.prog 25 #[.agg #[.int .i64 x0, .int .i64 x1, .int .i64 x2, .int .i64 x3, .int .i64 x4, .int .i64 x5, .int .i64 x6, .int .i64 x7, .int .i64 x8, .int .i64 x9, .int .i64 x10]] w (Says (.int .i64 (stepsV x0 x1 x2 x3 x4 x5 x6 x7 x8 x9 x10)) w) := by
  obtain ⟨R, hR⟩ : ∃ R, R = stepsV x0 x1 x2 x3 x4 x5 x6 x7 x8 x9 x10 := ⟨_, rfl⟩
  rw [← hR]
  have HR := Lib.hid hR
  clear hR
  obtain ⟨V, hV⟩ : ∃ V, V = w.alloc (.cells #[.int .i64 x0, .int .i64 x1, .int .i64 x2, .int .i64 x3, .int .i64 x4, .int .i64 x5, .int .i64 x6, .int .i64 x7, .int .i64 x8, .int .i64 x9, .int .i64 x10] 38) := ⟨_, rfl⟩
  have hbV : Below w.heap.size w V := by rw [hV]; exact bel1 _ _
  have KS : Hid (V.heap[w.heap.size]? = some (.cells #[.int .i64 x0, .int .i64 x1, .int .i64 x2, .int .i64 x3, .int .i64 x4, .int .i64 x5, .int .i64 x6, .int .i64 x7, .int .i64 x8, .int .i64 x9, .int .i64 x10] 38)) := by rw [hV]; exact box_new w _
  go_enter Try.func25, Try.ntmps25
  go_wp2_with fail
  rw [← hV]
  clear hV
  refine (specOk_any x0 x1 x2 x3 x4 x5 x6 x7 x8 x9 x10 _).mono ?_
  rintro e w1 ⟨rfl, hb⟩
  have KS' := Lib.hid (box_below KS.out hb)
  have HB := Lib.hid (bel_then hbV hb hbV.size)
  clear KS hb hbV
  have KS := KS'
  clear KS'
  cases hs : specB x0 x1 x2 x3 x4 x5 x6 x7 x8 x9 x10
  · have HV : Hid (R = -1) := by show R = _; rw [HR.out]; simp [stepsV, hs]
    go_wp2
    go_ret
    exact ⟨by rw [HV.out]; rfl, HB.out⟩
  obtain ⟨N, hN⟩ : ∃ N, N = stepN x0 x1 x2 := ⟨_, rfl⟩
  obtain ⟨hway, hle⟩ := way_all hs
  rw [← hN] at hway hle
  have HV : Hid (R = (N : Int)) := by show R = _; rw [HR.out, hN]; simp [stepsV, hs]
  have hbd := specB_t hs
  have bx : 1 ≤ x0 ∧ x0 ≤ 12 := by omega
  have hN25 : N ≤ 25 := by omega
  clear hN hle hbd HR
  have HWAY := Lib.hid hway
  have HS := Lib.hid hs
  clear hway hs
  have c0 := box_cell KS.out 0 _ rfl
  go_wp2_with fail
  go_region_held3 (fun w' => w'.cell? ⟨w.heap.size, 0, none⟩ = some (.int .i64 x0)) (go_keep) (fail)
  have HBd : Hid (Below w.heap.size w w1.drew) := HB.out.drew
  have KSd : Hid (w1.drew.heap[w.heap.size]? = some (.cells #[.int .i64 x0, .int .i64 x1, .int .i64 x2, .int .i64 x3, .int .i64 x4, .int .i64 x5, .int .i64 x6, .int .i64 x7, .int .i64 x8, .int .i64 x9, .int .i64 x10] 38)) := KS.out
  clear c0 KS HB
  go_wp2_with fail
  go_loopw [3, 4, 5] (fun f o v wr => ∃ (k m : Nat) (a b : Int), f = .int .i64 a ∧ o = .int .i64 b ∧ v = .int .i64 k ∧ k + m = N ∧ a ≤ x0 ∧ Hid (Ends.Way x0 x1 x2 m (a, b)) ∧ Hid (wr.heap[w.heap.size]? = some (.cells #[.int .i64 x0, .int .i64 x1, .int .i64 x2, .int .i64 x3, .int .i64 x4, .int .i64 x5, .int .i64 x6, .int .i64 x7, .int .i64 x8, .int .i64 x9, .int .i64 x10] 38)) ∧ Hid (Below w.heap.size w wr)) (fun f o v wr => 30 - (intOf v).toNat)
  case atStart => exact ⟨0, N, 0, x0, rfl, rfl, rfl, by omega, by omega, HWAY, KSd, HBd⟩
  case round =>
    clear KSd HBd HWAY
    obtain ⟨k, m, a, b, rfl, rfl, rfl, hkm, hax, HW, KS, HB⟩ := hrel
    have ha : 0 ≤ a ∧ a ≤ 30 := (fine_t (way_fine HW.out)).1
    have hb : 0 ≤ b ∧ b ≤ 30 := (fine_t (way_fine HW.out)).2
    obtain ⟨ov, hov⟩ : ∃ v, v = isOver x0 (a, b) := ⟨_, rfl⟩
    have Cov : Hid (∀ W, Calls Try.prog 29 #[.agg #[.int .i64 x0, .int .i64 x1, .int .i64 x2, .int .i64 x3, .int .i64 x4, .int .i64 x5, .int .i64 x6, .int .i64 x7, .int .i64 x8, .int .i64 x9, .int .i64 x10], .agg #[.int .i64 a, .int .i64 a], .agg #[.int .i64 b, .int .i64 b], .int .i64 0] W (Says (.bool ov) W)) := fun W => by have h := PlanOver_any x0 x1 x2 x3 x4 x5 x6 x7 x8 x9 x10 a a b b 0 W; rw [overI_is, ← hov] at h; exact h
    have HOV := Lib.hid hov
    clear hov
    have c0 := box_cell KS.out 0 _ rfl
    have c1 := box_cell KS.out 1 _ rfl
    have c2 := box_cell KS.out 2 _ rfl
    have c3 := box_cell KS.out 3 _ rfl
    have c4 := box_cell KS.out 4 _ rfl
    have c5 := box_cell KS.out 5 _ rfl
    have c6 := box_cell KS.out 6 _ rfl
    have c7 := box_cell KS.out 7 _ rfl
    have c8 := box_cell KS.out 8 _ rfl
    have c9 := box_cell KS.out 9 _ rfl
    have c10 := box_cell KS.out 10 _ rfl
    go_wp2_with fail
    go_region_held3 (fun w' => w'.cell? ⟨w.heap.size, 0, none⟩ = some (.int .i64 x0) ∧ w'.cell? ⟨w.heap.size, 1, none⟩ = some (.int .i64 x1) ∧ w'.cell? ⟨w.heap.size, 2, none⟩ = some (.int .i64 x2) ∧ w'.cell? ⟨w.heap.size, 3, none⟩ = some (.int .i64 x3) ∧ w'.cell? ⟨w.heap.size, 4, none⟩ = some (.int .i64 x4) ∧ w'.cell? ⟨w.heap.size, 5, none⟩ = some (.int .i64 x5) ∧ w'.cell? ⟨w.heap.size, 6, none⟩ = some (.int .i64 x6) ∧ w'.cell? ⟨w.heap.size, 7, none⟩ = some (.int .i64 x7) ∧ w'.cell? ⟨w.heap.size, 8, none⟩ = some (.int .i64 x8) ∧ w'.cell? ⟨w.heap.size, 9, none⟩ = some (.int .i64 x9) ∧ w'.cell? ⟨w.heap.size, 10, none⟩ = some (.int .i64 x10))
      (first | (go_keep; done) | (refine ⟨cell_keep hbC ?_, cell_keep hbC ?_, cell_keep hbC ?_, cell_keep hbC ?_, cell_keep hbC ?_, cell_keep hbC ?_, cell_keep hbC ?_, cell_keep hbC ?_, cell_keep hbC ?_, cell_keep hbC ?_, cell_keep hbC ?_⟩ <;> simp only [*]; done) | (refine ⟨cell_keep hbB ?_, cell_keep hbB ?_, cell_keep hbB ?_, cell_keep hbB ?_, cell_keep hbB ?_, cell_keep hbB ?_, cell_keep hbB ?_, cell_keep hbB ?_, cell_keep hbB ?_, cell_keep hbB ?_, cell_keep hbB ?_⟩ <;> simp only [*]; done) | (refine ⟨cell_keep hbA ?_, cell_keep hbA ?_, cell_keep hbA ?_, cell_keep hbA ?_, cell_keep hbA ?_, cell_keep hbA ?_, cell_keep hbA ?_, cell_keep hbA ?_, cell_keep hbA ?_, cell_keep hbA ?_, cell_keep hbA ?_⟩ <;> simp only [*]; done) | go_keep)
      (first | (have hgo := hbB; clear hgo; go_at_call 29; refine (Cov.out _).mono ?_; rintro e wC ⟨rfl, hbC⟩; have hbz : Below wr.heap.size wr wC := bel_then (undrew hbA) (bel_then hbB hbC hbB.size) (undrew hbA).size) | (have hgo := hbA; clear hgo; go_at_call 30; refine (allUp_any _ _).mono ?_; rintro e wB ⟨rfl, hbB⟩) | (go_at_call 30; refine (allUp_any _ _).mono ?_; rintro e wA ⟨rfl, hbA⟩))
    have KS' := Lib.hid (box_below KS.out hbz)
    have HB' := Lib.hid (bel_then HB.out hbz HB.out.size)
    clear KS HB hbz hbA hbB hbC Cov c0 c1 c2 c3 c4 c5 c6 c7 c8 c9 c10
    have KS := KS'
    have HB := HB'
    clear KS' HB'
    obtain ⟨w2, hw2⟩ : ∃ x, x = wC := ⟨_, rfl⟩
    subst hw2
    cases m with
    | zero =>
      obtain rfl : ov = true := HOV.out.trans HW.out.1
      have HK : Hid (k = N) := (by omega : k = N)
      clear HOV
      go_wp2
      go_ret
      exact ⟨by rw [HV.out, ← HK.out]; rfl, HB.out⟩
    | succ m =>
      obtain rfl : ov = false := HOV.out.trans HW.out.1
      clear HOV
      have hpl := plan_is (a := a) (b := b) HS.out (way_fine HW.out)
      have hpb := plan_bd hpl
      have hcl : a + crV x0 x1 a b 0 x0 ≤ x0 := by unfold crV; omega
      have hd0 : dfV x0 a = 0 := by unfold dfV; omega
      obtain ⟨cr, hcr⟩ : ∃ m, crV x0 x1 a b 0 x0 = m := ⟨_, rfl⟩
      obtain ⟨dr, hdr⟩ : ∃ m, drV x0 b b x0 = m := ⟨_, rfl⟩
      obtain ⟨da, hda⟩ : ∃ m, daV x0 x2 a b b x0 = m := ⟨_, rfl⟩
      have Cpl : Hid (∀ W, Calls Try.prog 31 #[.agg #[.int .i64 x0, .int .i64 x1, .int .i64 x2, .int .i64 x3, .int .i64 x4, .int .i64 x5, .int .i64 x6, .int .i64 x7, .int .i64 x8, .int .i64 x9, .int .i64 x10], .agg #[.int .i64 a, .int .i64 a], .agg #[.int .i64 b, .int .i64 b], .int .i64 0, .int .i64 x0] W (Says (.tuple #[.agg #[.int .i64 cr, .int .i64 dr, .int .i64 da, .int .i64 0], .bool true]) W)) := fun W => by have h := PlanI.planStep_any x0 x1 x2 x3 x4 x5 x6 x7 x8 x9 x10 a a b b 0 x0 W; rw [planT_yes hpl hcr hdr hda hd0] at h; exact h
      have HNX : Hid (Ends.Way x0 x1 x2 m (a + cr, b - (dr + da))) := by show Ends.Way _ _ _ _ _; have h := HW.out.2.2.2; unfold nextQ at h; simp only [hcr, hdr, hda] at h; rw [show b - (dr + da) = b - dr - da by omega]; exact h
      rw [hcr, hdr, hda, hd0] at hpb
      rw [hcr] at hcl
      have bcr : 0 ≤ cr ∧ cr ≤ 30 := hpb.1
      have bdr : 0 ≤ dr ∧ dr ≤ 30 := by omega
      have bda : 0 ≤ da ∧ da ≤ 30 := by omega
      clear hpb hpl hcr hdr hda hd0 HW
      have c0 := box_cell KS.out 0 _ rfl
      have c1 := box_cell KS.out 1 _ rfl
      have c2 := box_cell KS.out 2 _ rfl
      have c3 := box_cell KS.out 3 _ rfl
      have c4 := box_cell KS.out 4 _ rfl
      have c5 := box_cell KS.out 5 _ rfl
      have c6 := box_cell KS.out 6 _ rfl
      have c7 := box_cell KS.out 7 _ rfl
      have c8 := box_cell KS.out 8 _ rfl
      have c9 := box_cell KS.out 9 _ rfl
      have c10 := box_cell KS.out 10 _ rfl
      go_wp2_with fail
      go_cut [6] (fun s6 wx => ∃ bp : Nat, s6 = .pointer (some ⟨bp, 0, none⟩) ∧ Hid (wx.heap[bp]? = some (.cells #[.int .i64 cr, .int .i64 dr, .int .i64 da, .int .i64 0] 55)) ∧ Hid (Below w2.heap.size w2 wx) ∧ w2.heap.size ≤ bp)
      case first =>
        go_region_held3 (fun w' => w'.cell? ⟨w.heap.size, 0, none⟩ = some (.int .i64 x0) ∧ w'.cell? ⟨w.heap.size, 1, none⟩ = some (.int .i64 x1) ∧ w'.cell? ⟨w.heap.size, 2, none⟩ = some (.int .i64 x2) ∧ w'.cell? ⟨w.heap.size, 3, none⟩ = some (.int .i64 x3) ∧ w'.cell? ⟨w.heap.size, 4, none⟩ = some (.int .i64 x4) ∧ w'.cell? ⟨w.heap.size, 5, none⟩ = some (.int .i64 x5) ∧ w'.cell? ⟨w.heap.size, 6, none⟩ = some (.int .i64 x6) ∧ w'.cell? ⟨w.heap.size, 7, none⟩ = some (.int .i64 x7) ∧ w'.cell? ⟨w.heap.size, 8, none⟩ = some (.int .i64 x8) ∧ w'.cell? ⟨w.heap.size, 9, none⟩ = some (.int .i64 x9) ∧ w'.cell? ⟨w.heap.size, 10, none⟩ = some (.int .i64 x10))
          (first | (go_keep; done) | exact ⟨far1 (by omega) (far1 (by omega) (far1 (by omega) (far1 (by omega) (cz0)))), far1 (by omega) (far1 (by omega) (far1 (by omega) (far1 (by omega) (cz1)))), far1 (by omega) (far1 (by omega) (far1 (by omega) (far1 (by omega) (cz2)))), far1 (by omega) (far1 (by omega) (far1 (by omega) (far1 (by omega) (cz3)))), far1 (by omega) (far1 (by omega) (far1 (by omega) (far1 (by omega) (cz4)))), far1 (by omega) (far1 (by omega) (far1 (by omega) (far1 (by omega) (cz5)))), far1 (by omega) (far1 (by omega) (far1 (by omega) (far1 (by omega) (cz6)))), far1 (by omega) (far1 (by omega) (far1 (by omega) (far1 (by omega) (cz7)))), far1 (by omega) (far1 (by omega) (far1 (by omega) (far1 (by omega) (cz8)))), far1 (by omega) (far1 (by omega) (far1 (by omega) (far1 (by omega) (cz9)))), far1 (by omega) (far1 (by omega) (far1 (by omega) (far1 (by omega) (cz10))))⟩ | (refine ⟨cell_keep hbf ?_, cell_keep hbf ?_, cell_keep hbf ?_, cell_keep hbf ?_, cell_keep hbf ?_, cell_keep hbf ?_, cell_keep hbf ?_, cell_keep hbf ?_, cell_keep hbf ?_, cell_keep hbf ?_, cell_keep hbf ?_⟩ <;> simp only [*]; done) | (refine ⟨cell_keep hbd1 ?_, cell_keep hbd1 ?_, cell_keep hbd1 ?_, cell_keep hbd1 ?_, cell_keep hbd1 ?_, cell_keep hbd1 ?_, cell_keep hbd1 ?_, cell_keep hbd1 ?_, cell_keep hbd1 ?_, cell_keep hbd1 ?_, cell_keep hbd1 ?_⟩ <;> simp only [*]; done) | (refine ⟨cell_keep hbd0 ?_, cell_keep hbd0 ?_, cell_keep hbd0 ?_, cell_keep hbd0 ?_, cell_keep hbd0 ?_, cell_keep hbd0 ?_, cell_keep hbd0 ?_, cell_keep hbd0 ?_, cell_keep hbd0 ?_, cell_keep hbd0 ?_, cell_keep hbd0 ?_⟩ <;> simp only [*]; done) | go_keep)
          (first | (have hgo := hbd1; clear hgo; go_at_call 31; refine (Cpl.out _).mono ?_; rintro e w6 ⟨rfl, hbf⟩; have hbq2 : Below w5.heap.size w5 w6 := (by first | exact al0 hbf | exact al1 hbf); have hbz : Below w2.heap.size w2 w6 := bel_then (undrew hbq0) (bel_then hbq1 hbq2 hbq1.size) hbq0.size; have cz0 : w6.cell? ⟨w.heap.size, 0, none⟩ = some (.int .i64 x0) := box_cell (box_below KS.out hbz) 0 _ rfl; have cz1 : w6.cell? ⟨w.heap.size, 1, none⟩ = some (.int .i64 x1) := box_cell (box_below KS.out hbz) 1 _ rfl; have cz2 : w6.cell? ⟨w.heap.size, 2, none⟩ = some (.int .i64 x2) := box_cell (box_below KS.out hbz) 2 _ rfl; have cz3 : w6.cell? ⟨w.heap.size, 3, none⟩ = some (.int .i64 x3) := box_cell (box_below KS.out hbz) 3 _ rfl; have cz4 : w6.cell? ⟨w.heap.size, 4, none⟩ = some (.int .i64 x4) := box_cell (box_below KS.out hbz) 4 _ rfl; have cz5 : w6.cell? ⟨w.heap.size, 5, none⟩ = some (.int .i64 x5) := box_cell (box_below KS.out hbz) 5 _ rfl; have cz6 : w6.cell? ⟨w.heap.size, 6, none⟩ = some (.int .i64 x6) := box_cell (box_below KS.out hbz) 6 _ rfl; have cz7 : w6.cell? ⟨w.heap.size, 7, none⟩ = some (.int .i64 x7) := box_cell (box_below KS.out hbz) 7 _ rfl; have cz8 : w6.cell? ⟨w.heap.size, 8, none⟩ = some (.int .i64 x8) := box_cell (box_below KS.out hbz) 8 _ rfl; have cz9 : w6.cell? ⟨w.heap.size, 9, none⟩ = some (.int .i64 x9) := box_cell (box_below KS.out hbz) 9 _ rfl; have cz10 : w6.cell? ⟨w.heap.size, 10, none⟩ = some (.int .i64 x10) := box_cell (box_below KS.out hbz) 10 _ rfl; have hz0 := (undrew hbq0).size; have hz1 := hbq1.size; have hz2 := hbq2.size; have hzb0 := box_lt KS.out; (try (have bz2 := box_below bz hbf; clear bz; have bz := bz2; clear bz2)); (try have bz := box_below (box_new _ (.cells #[.int .i64 0, .int .i64 0, .int .i64 0, .int .i64 0] 55)) hbf); (try have ez0 := box_cell bz 0 (.int .i64 0) rfl); (try have fz0 := box_frozen bz 0); (try have ez1 := box_cell bz 1 (.int .i64 0) rfl); (try have fz1 := box_frozen bz 1); (try have ez2 := box_cell bz 2 (.int .i64 0) rfl); (try have fz2 := box_frozen bz 2); (try have ez3 := box_cell bz 3 (.int .i64 0) rfl); (try have fz3 := box_frozen bz 3); (try have bZ := Lib.hid bz); (try clear bz)) | (have hgo := hbd0; clear hgo; go_at_call 30; refine (allUp_any _ _).mono ?_; rintro e w5 ⟨rfl, hbd1⟩; have hbq1 : Below w4.heap.size w4 w5 := (by first | exact al0 hbd1 | exact al1 hbd1); (try (have bz2 := box_below bz hbd1; clear bz; have bz := bz2; clear bz2)); (try have bz := box_below (box_new _ (.cells #[.int .i64 0, .int .i64 0, .int .i64 0, .int .i64 0] 55)) hbd1); (try have hzz := box_lt bz)) | (go_at_call 30; refine (allUp_any _ _).mono ?_; rintro e w4 ⟨rfl, hbd0⟩; have hbq0 : Below w2.drew.heap.size w2.drew w4 := (by first | exact al0 hbd0 | exact al1 hbd0); (try have bz := box_below (box_newd w2 (.cells #[.int .i64 0, .int .i64 0, .int .i64 0, .int .i64 0] 55)) hbd0); (try have hzz := box_lt bz)))
        all_goals
          go_wp2_with fail
          go_meet
          case rel =>
            first
              | (with_reducible exact ⟨_, rfl, Lib.hid (box_new _ _), Lib.hid (hbz.alloc hbz.size _), by first | omega | (simp; omega)⟩)
              | (with_reducible exact ⟨_, rfl, Lib.hid (PlanI.set4B bZ.out _ _ _ _), Lib.hid (Turned.low hbz (PlanI.set4T (S := fun k => k = w2.heap.size) rfl _ _ _ _) (fun k hk => by omega) hbz.size), by first | exact Nat.le_refl _ | omega⟩)
              | (with_reducible exact ⟨_, rfl, Lib.hid (PlanI.set4B bZ.out _ _ _ _), Lib.hid (Turned.low hbz (PlanI.set4T (S := fun k => k = w4.heap.size) rfl _ _ _ _) (fun k hk => by omega) hbz.size), by first | exact Nat.le_refl _ | omega⟩)
              | (with_reducible exact ⟨_, rfl, Lib.hid (PlanI.set4B bZ.out _ _ _ _), Lib.hid (Turned.low hbz (PlanI.set4T (S := fun k => k = w5.heap.size) rfl _ _ _ _) (fun k hk => by omega) hbz.size), by first | exact Nat.le_refl _ | omega⟩)
      obtain ⟨w3, hwq⟩ : ∃ x, x = wc := ⟨_, rfl⟩
      subst hwq
      obtain ⟨bp, rfl, KP, HBS, hlo⟩ := hcut
      clear c0 c1 c2 c3 c4 c5 c6 c7 c8 c9 c10
      have KS3 := Lib.hid (box_below KS.out HBS.out)
      have HB3 := Lib.hid (bel_then HB.out HBS.out HB.out.size)
      clear KS HB HBS Cpl
      have p0 := box_cell KP.out 0 _ rfl
      have p1 := box_cell KP.out 1 _ rfl
      have p2 := box_cell KP.out 2 _ rfl
      have p3 := box_cell KP.out 3 _ rfl
      go_wp2
      go_roundw
      case rel => exact ⟨k + 1, m, a + cr, b - (dr + da), by go_num, by go_num, by go_num, by omega, by omega, HNX, KS3, HB3⟩
      case measure => simp [intOf]; omega
end Go.Proofs.Ytlghdmakaocokaa.StepI
