/-
  WHAT THE MODEL'S StepsNeeded ANSWERS over this seat's translation.
-/
import Derived.Test.YtlghdmakaocokaaPlanS
import Derived.Test.YtlghdmakaocokaaPlanF
import Derived.Test.YtlghdmakaocokaaEnds
namespace Go.Proofs.Ytlghdmakaocokaa.Ends
open Go.ChangeShapes Go.WideShapes Go.ChangeAt Go.RowKit
open Go.Proofs.Ytlghdmakaocokaa.LK Go.Proofs.Ytlghdmakaocokaa.Sp Go.Proofs.Ytlghdmakaocokaa.Cnt
open Go.Proofs.Ytlghdmakaocokaa.Tick (inB in_t)
set_option linter.unusedVariables false
set_option linter.unusedSimpArgs false
theorem fine_t {q : Int × Int} (h : fine q = true) : (0 ≤ q.1 ∧ q.1 ≤ 30) ∧ (0 ≤ q.2 ∧ q.2 ≤ 30) := by
  simp only [fine, Bool.and_eq_true] at h
  exact ⟨in_t h.1, in_t h.2⟩
theorem count_same {a : Int} (h : 0 ≤ a ∧ a ≤ 30) : countB a a = true := by
  simp [countB, inB, h.1, h.2]
theorem over_is {x0 x1 x2 x3 x4 x5 x6 x7 x8 x9 x10 a b : Int} (hs : specB x0 x1 x2 x3 x4 x5 x6 x7 x8 x9 x10 = true) (h : fine (a, b) = true) : overB x0 x1 x2 x3 x4 x5 x6 x7 x8 x9 x10 a a b b 0 = isOver x0 (a, b) := by
  have hf := fine_t h
  simp only [overB, isOver, hs, count_same hf.1, count_same hf.2]
  simp
theorem plan_is {x0 x1 x2 x3 x4 x5 x6 x7 x8 x9 x10 a b : Int} (hs : specB x0 x1 x2 x3 x4 x5 x6 x7 x8 x9 x10 = true) (h : fine (a, b) = true) : planB x0 x1 x2 x3 x4 x5 x6 x7 x8 x9 x10 a a b b 0 x0 = true := by
  have hf := fine_t h
  have hb := specB_t hs
  simp only [planB, hs, count_same hf.1, count_same hf.2]
  simp [inB]
  omega
theorem way_fine {r s u : Int} {m : Nat} {q : Int × Int} (h : Way r s u m q) : fine q = true := by
  cases m with
  | zero => exact h.2
  | succ m => exact h.2.1
set_option maxRecDepth 100000 in
set_option maxHeartbeats 12800000 in
theorem specStepsNeeded_any (x0 x1 x2 x3 x4 x5 x6 x7 x8 x9 x10 : Int) (w : World) : Calls Try.prog 23 #[.agg #[.int .i64 x0, .int .i64 x1, .int .i64 x2, .int .i64 x3, .int .i64 x4, .int .i64 x5, .int .i64 x6, .int .i64 x7, .int .i64 x8, .int .i64 x9, .int .i64 x10]] w (Says (.int .i64 (stepsV x0 x1 x2 x3 x4 x5 x6 x7 x8 x9 x10)) w) := by
  obtain ⟨R, hR⟩ : ∃ R, R = stepsV x0 x1 x2 x3 x4 x5 x6 x7 x8 x9 x10 := ⟨_, rfl⟩
  rw [← hR]
  have HR := Lib.hid hR
  clear hR
  obtain ⟨V, hV⟩ : ∃ V, V = w.alloc (.cells #[.int .i64 x0, .int .i64 x1, .int .i64 x2, .int .i64 x3, .int .i64 x4, .int .i64 x5, .int .i64 x6, .int .i64 x7, .int .i64 x8, .int .i64 x9, .int .i64 x10] 38) := ⟨_, rfl⟩
  have hbV : Below w.heap.size w V := by rw [hV]; exact bel1 _ _
  have KS : Hid (V.heap[w.heap.size]? = some (.cells #[.int .i64 x0, .int .i64 x1, .int .i64 x2, .int .i64 x3, .int .i64 x4, .int .i64 x5, .int .i64 x6, .int .i64 x7, .int .i64 x8, .int .i64 x9, .int .i64 x10] 38)) := by rw [hV]; exact box_new w _
  go_enter Try.func23, Try.ntmps23
  go_wp2_with fail
  rw [← hV]
  clear hV
  refine (specSpecOk_any x0 x1 x2 x3 x4 x5 x6 x7 x8 x9 x10 _).mono ?_
  rintro e w1 ⟨rfl, hb⟩
  have KS' := Lib.hid (box_below KS.out hb)
  have HB' := Lib.hid (bel_then hbV hb hbV.size)
  clear KS hb hbV
  have KS := KS'
  have HB := HB'
  clear KS' HB'
  cases hs : specB x0 x1 x2 x3 x4 x5 x6 x7 x8 x9 x10
  · have HV : Hid (R = -1) := by show R = _; rw [HR.out]; simp [stepsV, hs]
    go_wp2
    go_ret
    exact ⟨by rw [HV.out]; rfl, HB.out⟩
  obtain ⟨N, hN⟩ : ∃ N, N = stepN x0 x1 x2 := ⟨_, rfl⟩
  obtain ⟨hway, hle⟩ := way_all hs
  rw [← hN] at hway hle
  have HV : Hid (R = (N : Int)) := by show R = _; rw [HR.out, hN]; simp [stepsV, hs]
  have hbd := specB_t hs
  have bx : 1 ≤ x0 ∧ x0 ≤ 12 := by omega
  have hN25 : N ≤ 25 := by omega
  clear hN hle hbd HR
  have HWAY := Lib.hid hway
  have HS := Lib.hid hs
  clear hway hs
  have KS2 := Lib.hid (box_alloc (box_alloc KS.out (.cells #[.int .i64 0, .int .i64 0] 52)) (.cells #[.int .i64 x0, .int .i64 x0] 52))
  have KF2 := Lib.hid (box_alloc (box_new w1 (.cells #[.int .i64 0, .int .i64 0] 52)) (.cells #[.int .i64 x0, .int .i64 x0] 52))
  have KO2 : Hid (((w1.alloc (.cells #[.int .i64 0, .int .i64 0] 52)).alloc (.cells #[.int .i64 x0, .int .i64 x0] 52)).heap[w1.heap.size + 1]? = some (.cells #[.int .i64 x0, .int .i64 x0] 52)) := by have h := box_new (w1.alloc (.cells #[.int .i64 0, .int .i64 0] 52)) (.cells #[.int .i64 x0, .int .i64 x0] 52); simp only [World.size_alloc] at h; exact h
  have hs1 : w.heap.size < w1.heap.size := box_lt KS.out
  have HB2 := Lib.hid ((HB.out.alloc HB.out.size (.cells #[.int .i64 0, .int .i64 0] 52)).alloc (by simp; omega) (.cells #[.int .i64 x0, .int .i64 x0] 52))
  have c0 := box_cell KS.out 0 _ rfl
  have d0 := box_cell (box_alloc KS.out (.cells #[.int .i64 0, .int .i64 0] 52)) 0 _ rfl
  go_wp2_with fail
  clear c0 d0 KS HB
  go_loopw [5] (fun v wr => ∃ (k m : Nat) (a b : Int), v = .int .i64 k ∧ k + m = N ∧ Hid (Way x0 x1 x2 m (a, b)) ∧ Hid (wr.heap[w.heap.size]? = some (.cells #[.int .i64 x0, .int .i64 x1, .int .i64 x2, .int .i64 x3, .int .i64 x4, .int .i64 x5, .int .i64 x6, .int .i64 x7, .int .i64 x8, .int .i64 x9, .int .i64 x10] 38)) ∧ Hid (wr.heap[w1.heap.size]? = some (.cells #[.int .i64 a, .int .i64 a] 52)) ∧ Hid (wr.heap[w1.heap.size + 1]? = some (.cells #[.int .i64 b, .int .i64 b] 52)) ∧ Hid (Below w.heap.size w wr)) (fun v _ => N - (intOf v).toNat)
  case atStart => exact ⟨0, N, 0, x0, rfl, by omega, HWAY, KS2, KF2, KO2, HB2⟩
  case round =>
    clear KS2 KF2 KO2 HB2 HWAY
    obtain ⟨k, m, a, b, rfl, hkm, HW, KS, KF, KO, HB⟩ := hrel
    have ha : 0 ≤ a ∧ a ≤ 30 := (fine_t (way_fine HW.out)).1
    have hb : 0 ≤ b ∧ b ≤ 30 := (fine_t (way_fine HW.out)).2
    obtain ⟨ov, hov⟩ : ∃ v, v = isOver x0 (a, b) := ⟨_, rfl⟩
    have Cov : Hid (∀ W, Calls Try.prog 27 #[.agg #[.int .i64 x0, .int .i64 x1, .int .i64 x2, .int .i64 x3, .int .i64 x4, .int .i64 x5, .int .i64 x6, .int .i64 x7, .int .i64 x8, .int .i64 x9, .int .i64 x10], .agg #[.int .i64 a, .int .i64 a], .agg #[.int .i64 b, .int .i64 b], .int .i64 0] W (Says (.bool ov) W)) := fun W => by have h := specPlanOver_any x0 x1 x2 x3 x4 x5 x6 x7 x8 x9 x10 a a b b 0 W; rw [over_is HS.out (way_fine HW.out), ← hov] at h; exact h
    have c0 := box_cell KS.out 0 _ rfl
    have c1 := box_cell KS.out 1 _ rfl
    have c2 := box_cell KS.out 2 _ rfl
    have c3 := box_cell KS.out 3 _ rfl
    have c4 := box_cell KS.out 4 _ rfl
    have c5 := box_cell KS.out 5 _ rfl
    have c6 := box_cell KS.out 6 _ rfl
    have c7 := box_cell KS.out 7 _ rfl
    have c8 := box_cell KS.out 8 _ rfl
    have c9 := box_cell KS.out 9 _ rfl
    have c10 := box_cell KS.out 10 _ rfl
    have f0 := box_cell KF.out 0 _ rfl
    have g0 := box_cell KO.out 0 _ rfl
    have f1 := box_cell KF.out 1 _ rfl
    have g1 := box_cell KO.out 1 _ rfl
    go_wp2_with fail
    refine (Cov.out _).mono ?_
    rintro e w2 ⟨rfl, hbq⟩
    have KS' := Lib.hid (box_below KS.out hbq)
    have KF' := Lib.hid (box_below KF.out hbq)
    have KO' := Lib.hid (box_below KO.out hbq)
    have HB' := Lib.hid (bel_then HB.out hbq HB.out.size)
    clear KS KF KO HB hbq
    have KS := KS'
    have KF := KF'
    have KO := KO'
    have HB := HB'
    clear KS' KF' KO' HB'
    clear c0 c1 c2 c3 c4 c5 c6 c7 c8 c9 c10 f0 f1 g0 g1
    clear Cov
    cases m with
    | zero =>
      obtain rfl : ov = true := hov.trans HW.out.1
      have HK : Hid (k = N) := (by omega : k = N)
      clear hov
      go_wp2
      go_ret
      exact ⟨by rw [HV.out, ← HK.out]; rfl, HB.out⟩
    | succ m =>
      obtain rfl : ov = false := hov.trans HW.out.1
      clear hov
      have hpl := plan_is (a := a) (b := b) HS.out (way_fine HW.out)
      have hpb := plan_bd hpl
      obtain ⟨cr, hcr⟩ : ∃ m, crV x0 x1 a b 0 x0 = m := ⟨_, rfl⟩
      obtain ⟨dr, hdr⟩ : ∃ m, drV x0 b b x0 = m := ⟨_, rfl⟩
      obtain ⟨da, hda⟩ : ∃ m, daV x0 x2 a b b x0 = m := ⟨_, rfl⟩
      obtain ⟨df, hdf⟩ : ∃ m, dfV x0 a = m := ⟨_, rfl⟩
      have Cpl : Hid (∀ W, Calls Try.prog 28 #[.agg #[.int .i64 x0, .int .i64 x1, .int .i64 x2, .int .i64 x3, .int .i64 x4, .int .i64 x5, .int .i64 x6, .int .i64 x7, .int .i64 x8, .int .i64 x9, .int .i64 x10], .agg #[.int .i64 a, .int .i64 a], .agg #[.int .i64 b, .int .i64 b], .int .i64 0, .int .i64 x0] W (Says (.tuple #[.agg #[.int .i64 cr, .int .i64 dr, .int .i64 da, .int .i64 df], .bool true]) W)) := fun W => by have h := specPlanStep_any x0 x1 x2 x3 x4 x5 x6 x7 x8 x9 x10 a a b b 0 x0 W; rw [planT_yes hpl hcr hdr hda hdf] at h; exact h
      have HNX : Hid (Way x0 x1 x2 m (a + cr, b - dr - da)) := by have h := HW.out.2.2.2; unfold nextQ at h; simp only [hcr, hdr, hda] at h; exact h
      rw [hcr, hdr, hda, hdf] at hpb
      have bcr : 0 ≤ cr ∧ cr ≤ 30 := hpb.1
      have bdr : 0 ≤ dr ∧ dr ≤ 30 := by omega
      have bda : 0 ≤ da ∧ da ≤ 30 := by omega
      clear hpb hpl hcr hdr hda hdf HW
      have c0 := box_cell KS.out 0 _ rfl
      have c1 := box_cell KS.out 1 _ rfl
      have c2 := box_cell KS.out 2 _ rfl
      have c3 := box_cell KS.out 3 _ rfl
      have c4 := box_cell KS.out 4 _ rfl
      have c5 := box_cell KS.out 5 _ rfl
      have c6 := box_cell KS.out 6 _ rfl
      have c7 := box_cell KS.out 7 _ rfl
      have c8 := box_cell KS.out 8 _ rfl
      have c9 := box_cell KS.out 9 _ rfl
      have c10 := box_cell KS.out 10 _ rfl
      have f0 := box_cell KF.out 0 _ rfl
      have g0 := box_cell KO.out 0 _ rfl
      have f1 := box_cell KF.out 1 _ rfl
      have g1 := box_cell KO.out 1 _ rfl
      go_wp2_with fail
      refine (Cpl.out _).mono ?_
      rintro e w3 ⟨rfl, hbq⟩
      have KS' := Lib.hid (box_below KS.out hbq)
      have KF' := Lib.hid (box_below KF.out hbq)
      have KO' := Lib.hid (box_below KO.out hbq)
      have HB' := Lib.hid (bel_then HB.out hbq HB.out.size)
      clear KS KF KO HB hbq
      have KS := KS'
      have KF := KF'
      have KO := KO'
      have HB := HB'
      clear KS' KF' KO' HB'
      clear c0 c1 c2 c3 c4 c5 c6 c7 c8 c9 c10 f0 f1 g0 g1
      clear Cpl
      have hl3 : w1.heap.size + 1 < w3.heap.size := box_lt KO.out
      have KP0 : (w3.alloc (.cells #[.int .i64 cr, .int .i64 dr, .int .i64 da, .int .i64 df] 55)).heap[w3.heap.size]? = some (.cells #[.int .i64 cr, .int .i64 dr, .int .i64 da, .int .i64 df] 55) := box_new w3 _
      have p0 := box_cell KP0 0 _ rfl
      have p1 := box_cell KP0 1 _ rfl
      have p2 := box_cell KP0 2 _ rfl
      have p3 := box_cell KP0 3 _ rfl
      have KF0 := box_alloc KF.out (.cells #[.int .i64 cr, .int .i64 dr, .int .i64 da, .int .i64 df] 55)
      have KO0 := box_alloc KO.out (.cells #[.int .i64 cr, .int .i64 dr, .int .i64 da, .int .i64 df] 55)
      have KS0 := box_alloc KS.out (.cells #[.int .i64 cr, .int .i64 dr, .int .i64 da, .int .i64 df] 55)
      have HB0 := HB.out.alloc HB.out.size (.cells #[.int .i64 cr, .int .i64 dr, .int .i64 da, .int .i64 df] 55)
      have f0 := box_cell KF0 0 _ rfl
      have g0 := box_cell KO0 0 _ rfl
      have ff0 := box_frozen KF0 0
      have gg0 := box_frozen KO0 0
      have f1 := box_cell KF0 1 _ rfl
      have g1 := box_cell KO0 1 _ rfl
      have ff1 := box_frozen KF0 1
      have gg1 := box_frozen KO0 1
      have KF4 : Hid ((((((w3.alloc (.cells #[.int .i64 cr, .int .i64 dr, .int .i64 da, .int .i64 df] 55)).setCell ⟨w1.heap.size, 0, none⟩ (.int .i64 (a + cr))).setCell ⟨w1.heap.size, 1, none⟩ (.int .i64 (a + cr))).setCell ⟨w1.heap.size + 1, 0, none⟩ (.int .i64 (b - dr - da))).setCell ⟨w1.heap.size + 1, 1, none⟩ (.int .i64 (b - dr - da))).heap[w1.heap.size]? = some (.cells #[.int .i64 ((a + cr)), .int .i64 ((a + cr))] 52)) := by
        show _ = _
        have h1 : ((w3.alloc (.cells #[.int .i64 cr, .int .i64 dr, .int .i64 da, .int .i64 df] 55)).setCell ⟨w1.heap.size, 0, none⟩ (.int .i64 (a + cr))).heap[w1.heap.size]? = some (.cells #[.int .i64 ((a + cr)), .int .i64 a] 52) := by rw [box_set KF0]; rfl
        have h2 : (((w3.alloc (.cells #[.int .i64 cr, .int .i64 dr, .int .i64 da, .int .i64 df] 55)).setCell ⟨w1.heap.size, 0, none⟩ (.int .i64 (a + cr))).setCell ⟨w1.heap.size, 1, none⟩ (.int .i64 (a + cr))).heap[w1.heap.size]? = some (.cells #[.int .i64 ((a + cr)), .int .i64 ((a + cr))] 52) := by rw [box_set h1]; rfl
        exact box_other (box_other h2 ⟨w1.heap.size + 1, 0, none⟩ (.int .i64 (b - dr - da)) (by show _ ≠ w1.heap.size + 1; omega)) ⟨w1.heap.size + 1, 1, none⟩ (.int .i64 (b - dr - da)) (by show _ ≠ w1.heap.size + 1; omega)
      have KO4 : Hid ((((((w3.alloc (.cells #[.int .i64 cr, .int .i64 dr, .int .i64 da, .int .i64 df] 55)).setCell ⟨w1.heap.size, 0, none⟩ (.int .i64 (a + cr))).setCell ⟨w1.heap.size, 1, none⟩ (.int .i64 (a + cr))).setCell ⟨w1.heap.size + 1, 0, none⟩ (.int .i64 (b - dr - da))).setCell ⟨w1.heap.size + 1, 1, none⟩ (.int .i64 (b - dr - da))).heap[w1.heap.size + 1]? = some (.cells #[.int .i64 ((b - dr - da)), .int .i64 ((b - dr - da))] 52)) := by
        show _ = _
        have h0 : (((w3.alloc (.cells #[.int .i64 cr, .int .i64 dr, .int .i64 da, .int .i64 df] 55)).setCell ⟨w1.heap.size, 0, none⟩ (.int .i64 (a + cr))).setCell ⟨w1.heap.size, 1, none⟩ (.int .i64 (a + cr))).heap[w1.heap.size + 1]? = some (.cells #[.int .i64 b, .int .i64 b] 52) := box_other (box_other KO0 ⟨w1.heap.size, 0, none⟩ (.int .i64 (a + cr)) (by show _ ≠ w1.heap.size; omega)) ⟨w1.heap.size, 1, none⟩ (.int .i64 (a + cr)) (by show _ ≠ w1.heap.size; omega)
        have h1 : ((((w3.alloc (.cells #[.int .i64 cr, .int .i64 dr, .int .i64 da, .int .i64 df] 55)).setCell ⟨w1.heap.size, 0, none⟩ (.int .i64 (a + cr))).setCell ⟨w1.heap.size, 1, none⟩ (.int .i64 (a + cr))).setCell ⟨w1.heap.size + 1, 0, none⟩ (.int .i64 (b - dr - da))).heap[w1.heap.size + 1]? = some (.cells #[.int .i64 ((b - dr - da)), .int .i64 b] 52) := by rw [box_set h0]; rfl
        rw [box_set h1]; rfl
      have HT : Turned (fun k => k = w1.heap.size ∨ k = w1.heap.size + 1) (w3.alloc (.cells #[.int .i64 cr, .int .i64 dr, .int .i64 da, .int .i64 df] 55)) (((((w3.alloc (.cells #[.int .i64 cr, .int .i64 dr, .int .i64 da, .int .i64 df] 55)).setCell ⟨w1.heap.size, 0, none⟩ (.int .i64 (a + cr))).setCell ⟨w1.heap.size, 1, none⟩ (.int .i64 (a + cr))).setCell ⟨w1.heap.size + 1, 0, none⟩ (.int .i64 (b - dr - da))).setCell ⟨w1.heap.size + 1, 1, none⟩ (.int .i64 (b - dr - da))) := ((Turned.set _ ⟨w1.heap.size, 0, none⟩ (.int .i64 (a + cr)) (.inl rfl)).trans (Turned.set _ ⟨w1.heap.size, 1, none⟩ (.int .i64 (a + cr)) (.inl rfl))).trans ((Turned.set _ ⟨w1.heap.size + 1, 0, none⟩ (.int .i64 (b - dr - da)) (.inr rfl)).trans (Turned.set _ ⟨w1.heap.size + 1, 1, none⟩ (.int .i64 (b - dr - da)) (.inr rfl)))
      have KS4 : Hid ((((((w3.alloc (.cells #[.int .i64 cr, .int .i64 dr, .int .i64 da, .int .i64 df] 55)).setCell ⟨w1.heap.size, 0, none⟩ (.int .i64 (a + cr))).setCell ⟨w1.heap.size, 1, none⟩ (.int .i64 (a + cr))).setCell ⟨w1.heap.size + 1, 0, none⟩ (.int .i64 (b - dr - da))).setCell ⟨w1.heap.size + 1, 1, none⟩ (.int .i64 (b - dr - da))).heap[w.heap.size]? = some (.cells #[.int .i64 x0, .int .i64 x1, .int .i64 x2, .int .i64 x3, .int .i64 x4, .int .i64 x5, .int .i64 x6, .int .i64 x7, .int .i64 x8, .int .i64 x9, .int .i64 x10] 38)) := box_turned KS0 HT (by omega)
      have HB4 : Hid (Below w.heap.size w (((((w3.alloc (.cells #[.int .i64 cr, .int .i64 dr, .int .i64 da, .int .i64 df] 55)).setCell ⟨w1.heap.size, 0, none⟩ (.int .i64 (a + cr))).setCell ⟨w1.heap.size, 1, none⟩ (.int .i64 (a + cr))).setCell ⟨w1.heap.size + 1, 0, none⟩ (.int .i64 (b - dr - da))).setCell ⟨w1.heap.size + 1, 1, none⟩ (.int .i64 (b - dr - da)))) := Turned.low HB0 HT (fun k hk => by omega) HB0.size
      clear KF KO KS HB KF0 KO0 KS0 KP0 HT
      go_wp2
      go_roundw
      case rel => exact ⟨k + 1, m, a + cr, b - dr - da, by go_num, by omega, HNX, KS4, KF4, KO4, HB4⟩
      case measure => simp [intOf]; omega
end Go.Proofs.Ytlghdmakaocokaa.Ends
