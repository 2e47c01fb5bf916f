/-
  THE WALK of laws.FnPlans over this seat's translation: it answers true and turns nothing that was there, if the program's PlanStep, Ceiling and Floor keep their contracts.
-/
import Derived.Test.YtmmdpljimjfkdaaPlanS
import Derived.Test.YtmmdpljimjfkdaaPlanF
import Derived.Test.YtmmdpljimjfkdaaDrawCt
import Derived.Deep.RegionHeld3
import Derived.Deep.DeepCutAuto
import Derived.Deep.Cut
import Derived.Test.YtmmdpljimjfkdaaByteAt
namespace Go.Proofs.Ytmmdpljimjfkdaa.LawPlans
open Go.ChangeShapes Go.WideShapes Go.ChangeAt Go.RowKit
open Go.Proofs.Ytmmdpljimjfkdaa.LK Go.Proofs.Ytmmdpljimjfkdaa.Sp Go.Proofs.Ytmmdpljimjfkdaa.Cnt
open Go.Proofs.Ytmmdpljimjfkdaa.Ints (big_any)
open Go.Proofs.Ytmmdpljimjfkdaa.DrawCt (PsSaid)
set_option linter.unusedVariables false
set_option linter.unusedSimpArgs false
set_option maxRecDepth 100000 in
set_option maxHeartbeats 12800000 in
theorem law_plans (A : Option Addr) (n c : Nat) (w : World) (hD : n ≤ 1048576 → Calls Try.prog 15 #[.slice A n c] w (PsSaid w)) (hP : ∀ (x0 x1 x2 x3 x4 x5 x6 x7 x8 x9 x10 fl fa ol oa go li : Int) (W : World), Calls Try.prog 17 #[.agg #[.int .i64 x0, .int .i64 x1, .int .i64 x2, .int .i64 x3, .int .i64 x4, .int .i64 x5, .int .i64 x6, .int .i64 x7, .int .i64 x8, .int .i64 x9, .int .i64 x10], .agg #[.int .i64 fl, .int .i64 fa], .agg #[.int .i64 ol, .int .i64 oa], .int .i64 go, .int .i64 li] W (Says (planT x0 x1 x2 x3 x4 x5 x6 x7 x8 x9 x10 fl fa ol oa go li) W)) (hC : ∀ (x0 x1 x2 x3 x4 x5 x6 x7 x8 x9 x10 : Int) (W : World), Calls Try.prog 18 #[.agg #[.int .i64 x0, .int .i64 x1, .int .i64 x2, .int .i64 x3, .int .i64 x4, .int .i64 x5, .int .i64 x6, .int .i64 x7, .int .i64 x8, .int .i64 x9, .int .i64 x10]] W (Says (.int .i64 (ceilV x0 x1 x2 x3 x4 x5 x6 x7 x8 x9 x10)) W)) (hF : ∀ (x0 x1 x2 x3 x4 x5 x6 x7 x8 x9 x10 : Int) (W : World), Calls Try.prog 19 #[.agg #[.int .i64 x0, .int .i64 x1, .int .i64 x2, .int .i64 x3, .int .i64 x4, .int .i64 x5, .int .i64 x6, .int .i64 x7, .int .i64 x8, .int .i64 x9, .int .i64 x10]] W (Says (.int .i64 (floorV x0 x1 x2 x3 x4 x5 x6 x7 x8 x9 x10)) W)) :
    Calls Try.prog 3 #[.slice A n c] w fun e w' => e = .returned (.bool true) ∧ Below w.heap.size w w' := by
  have HDR := Lib.hid hD
  have HP := Lib.hid hP
  have HC := Lib.hid hC
  have HF := Lib.hid hF
  clear hD hP hC hF
  by_cases hbig : (1048576 : Int) < n
  · have hd : decide ((1048576 : Int) < n) = true := by simp; omega
    go_enter Try.func3, Try.ntmps3
    go_wp2_with (go_at_call 14; refine (big_any A n c _).mono ?_; rintro e w' ⟨rfl, rfl⟩)
    go_ret
    exact ⟨rfl, Below.refl _ _⟩
  have hd : decide ((1048576 : Int) < n) = false := by simp; omega
  have hn : n ≤ 1048576 := by omega
  clear hbig
  go_enter Try.func3, Try.ntmps3
  go_wp2_with (go_at_call 14; refine (big_any A n c _).mono ?_; rintro e w' ⟨rfl, rfl⟩)
  refine (HDR.out hn).mono ?_
  clear HDR hn hd
  rintro e w0 ⟨x0, x1, x2, x3, x4, x5, x6, x7, x8, x9, x10, l0, a0, l1, a1, m, k, rfl, hb1⟩
  have hw0 : w.heap.size ≤ w0.heap.size := hb1.size
  obtain ⟨V, hV⟩ : ∃ V, V = ((w0.alloc (.cells #[.int .i64 x0, .int .i64 x1, .int .i64 x2, .int .i64 x3, .int .i64 x4, .int .i64 x5, .int .i64 x6, .int .i64 x7, .int .i64 x8, .int .i64 x9, .int .i64 x10] 25)).alloc (.cells #[.int .i64 l0, .int .i64 a0] 27)).alloc (.cells #[.int .i64 l1, .int .i64 a1] 27) := ⟨_, rfl⟩
  have hbV : Below w0.heap.size w0 V := by rw [hV]; exact bel3 _ _ _ _
  have KS : Hid (V.heap[w0.heap.size]? = some (.cells #[.int .i64 x0, .int .i64 x1, .int .i64 x2, .int .i64 x3, .int .i64 x4, .int .i64 x5, .int .i64 x6, .int .i64 x7, .int .i64 x8, .int .i64 x9, .int .i64 x10] 25)) := by have h := box_alloc (box_alloc (box_new w0 (.cells #[.int .i64 x0, .int .i64 x1, .int .i64 x2, .int .i64 x3, .int .i64 x4, .int .i64 x5, .int .i64 x6, .int .i64 x7, .int .i64 x8, .int .i64 x9, .int .i64 x10] 25)) (.cells #[.int .i64 l0, .int .i64 a0] 27)) (.cells #[.int .i64 l1, .int .i64 a1] 27); (try simp only [World.size_alloc] at h); rw [hV]; exact h
  have KF : Hid (V.heap[w0.heap.size + 1]? = some (.cells #[.int .i64 l0, .int .i64 a0] 27)) := by have h := box_alloc (box_new (w0.alloc (.cells #[.int .i64 x0, .int .i64 x1, .int .i64 x2, .int .i64 x3, .int .i64 x4, .int .i64 x5, .int .i64 x6, .int .i64 x7, .int .i64 x8, .int .i64 x9, .int .i64 x10] 25)) (.cells #[.int .i64 l0, .int .i64 a0] 27)) (.cells #[.int .i64 l1, .int .i64 a1] 27); (try simp only [World.size_alloc] at h); rw [hV]; exact h
  have KO : Hid (V.heap[w0.heap.size + 1 + 1]? = some (.cells #[.int .i64 l1, .int .i64 a1] 27)) := by have h := box_new ((w0.alloc (.cells #[.int .i64 x0, .int .i64 x1, .int .i64 x2, .int .i64 x3, .int .i64 x4, .int .i64 x5, .int .i64 x6, .int .i64 x7, .int .i64 x8, .int .i64 x9, .int .i64 x10] 25)).alloc (.cells #[.int .i64 l0, .int .i64 a0] 27)) (.cells #[.int .i64 l1, .int .i64 a1] 27); (try simp only [World.size_alloc] at h); rw [hV]; exact h
  have HB := Lib.hid (bel_then hb1 hbV hb1.size)
  clear hb1 hbV
  obtain ⟨T, hT⟩ : ∃ T, T = planT x0 x1 x2 x3 x4 x5 x6 x7 x8 x9 x10 l0 a0 l1 a1 m k := ⟨_, rfl⟩
  have CS : Hid (∀ W, Calls Try.prog 16 #[.agg #[.int .i64 x0, .int .i64 x1, .int .i64 x2, .int .i64 x3, .int .i64 x4, .int .i64 x5, .int .i64 x6, .int .i64 x7, .int .i64 x8, .int .i64 x9, .int .i64 x10], .agg #[.int .i64 l0, .int .i64 a0], .agg #[.int .i64 l1, .int .i64 a1], .int .i64 m, .int .i64 k] W (Says T W)) := fun W => by rw [hT]; exact specPlanStep_any x0 x1 x2 x3 x4 x5 x6 x7 x8 x9 x10 l0 a0 l1 a1 m k W
  have CI : Hid (∀ W, Calls Try.prog 17 #[.agg #[.int .i64 x0, .int .i64 x1, .int .i64 x2, .int .i64 x3, .int .i64 x4, .int .i64 x5, .int .i64 x6, .int .i64 x7, .int .i64 x8, .int .i64 x9, .int .i64 x10], .agg #[.int .i64 l0, .int .i64 a0], .agg #[.int .i64 l1, .int .i64 a1], .int .i64 m, .int .i64 k] W (Says T W)) := fun W => by rw [hT]; exact HP.out x0 x1 x2 x3 x4 x5 x6 x7 x8 x9 x10 l0 a0 l1 a1 m k W
  cases hpl : planB x0 x1 x2 x3 x4 x5 x6 x7 x8 x9 x10 l0 a0 l1 a1 m k
  · obtain rfl : T = .tuple #[.agg #[.int .i64 0, .int .i64 0, .int .i64 0, .int .i64 0], .bool false] := hT.trans (planT_no hpl)
    clear hT hpl
    have c0 := box_cell KS.out 0 _ rfl
    have c1 := box_cell KS.out 1 _ rfl
    have c2 := box_cell KS.out 2 _ rfl
    have c3 := box_cell KS.out 3 _ rfl
    have c4 := box_cell KS.out 4 _ rfl
    have c5 := box_cell KS.out 5 _ rfl
    have c6 := box_cell KS.out 6 _ rfl
    have c7 := box_cell KS.out 7 _ rfl
    have c8 := box_cell KS.out 8 _ rfl
    have c9 := box_cell KS.out 9 _ rfl
    have c10 := box_cell KS.out 10 _ rfl
    have f0 := box_cell KF.out 0 _ rfl
    have f1 := box_cell KF.out 1 _ rfl
    have g0 := box_cell KO.out 0 _ rfl
    have g1 := box_cell KO.out 1 _ rfl
    go_wp2_with fail
    rw [← hV]
    clear hV
    refine (CS.out _).mono ?_
    rintro e w1 ⟨rfl, hb⟩
    clear c0 c1 c2 c3 c4 c5 c6 c7 c8 c9 c10 f0 f1 g0 g1
    have KS' := Lib.hid (box_alloc (box_below KS.out hb) (.cells #[.int .i64 0, .int .i64 0, .int .i64 0, .int .i64 0] 31))
    have KF' := Lib.hid (box_alloc (box_below KF.out hb) (.cells #[.int .i64 0, .int .i64 0, .int .i64 0, .int .i64 0] 31))
    have KO' := Lib.hid (box_alloc (box_below KO.out hb) (.cells #[.int .i64 0, .int .i64 0, .int .i64 0, .int .i64 0] 31))
    have HBx := bel_then HB.out hb HB.out.size
    have HB' := Lib.hid (HBx.alloc HBx.size (.cells #[.int .i64 0, .int .i64 0, .int .i64 0, .int .i64 0] 31))
    clear KS KF KO HB HBx
    have KS := KS'
    have KF := KF'
    have KO := KO'
    have HB := HB'
    clear KS' KF' KO' HB'
    have KW := Lib.hid (box_new w1 (.cells #[.int .i64 0, .int .i64 0, .int .i64 0, .int .i64 0] 31))
    clear hb CS
    have c0 := box_cell KS.out 0 _ rfl
    have c1 := box_cell KS.out 1 _ rfl
    have c2 := box_cell KS.out 2 _ rfl
    have c3 := box_cell KS.out 3 _ rfl
    have c4 := box_cell KS.out 4 _ rfl
    have c5 := box_cell KS.out 5 _ rfl
    have c6 := box_cell KS.out 6 _ rfl
    have c7 := box_cell KS.out 7 _ rfl
    have c8 := box_cell KS.out 8 _ rfl
    have c9 := box_cell KS.out 9 _ rfl
    have c10 := box_cell KS.out 10 _ rfl
    have f0 := box_cell KF.out 0 _ rfl
    have f1 := box_cell KF.out 1 _ rfl
    have g0 := box_cell KO.out 0 _ rfl
    have g1 := box_cell KO.out 1 _ rfl
    go_wp2_with fail
    refine (CI.out _).mono ?_
    rintro e w2 ⟨rfl, hb⟩
    clear c0 c1 c2 c3 c4 c5 c6 c7 c8 c9 c10 f0 f1 g0 g1
    have KS' := Lib.hid (box_alloc (box_below KS.out hb) (.cells #[.int .i64 0, .int .i64 0, .int .i64 0, .int .i64 0] 31))
    have KF' := Lib.hid (box_alloc (box_below KF.out hb) (.cells #[.int .i64 0, .int .i64 0, .int .i64 0, .int .i64 0] 31))
    have KO' := Lib.hid (box_alloc (box_below KO.out hb) (.cells #[.int .i64 0, .int .i64 0, .int .i64 0, .int .i64 0] 31))
    have KW' := Lib.hid (box_alloc (box_below KW.out hb) (.cells #[.int .i64 0, .int .i64 0, .int .i64 0, .int .i64 0] 31))
    have HBx := bel_then HB.out hb HB.out.size
    have HB' := Lib.hid (HBx.alloc HBx.size (.cells #[.int .i64 0, .int .i64 0, .int .i64 0, .int .i64 0] 31))
    clear KS KF KO KW HB HBx
    have KS := KS'
    have KF := KF'
    have KO := KO'
    have KW := KW'
    have HB := HB'
    clear KS' KF' KO' KW' HB'
    have KP := Lib.hid (box_new w2 (.cells #[.int .i64 0, .int .i64 0, .int .i64 0, .int .i64 0] 31))
    clear hb CI
    have v0 := box_cell KW.out 0 _ rfl
    have v1 := box_cell KW.out 1 _ rfl
    have v2 := box_cell KW.out 2 _ rfl
    have v3 := box_cell KW.out 3 _ rfl
    have p0 := box_cell KP.out 0 _ rfl
    have p1 := box_cell KP.out 1 _ rfl
    have p2 := box_cell KP.out 2 _ rfl
    have p3 := box_cell KP.out 3 _ rfl
    go_wp2
    go_ret
    exact ⟨rfl, HB.out⟩
  obtain ⟨hs, b1, b2, b3, b4⟩ := planB_t hpl
  have hbd := specB_t hs
  have bx : 0 ≤ x0 ∧ x0 ≤ 12 := by omega
  clear hbd
  have hpb := plan_bd hpl
  have hcl := plan_ceil hpl
  have hfl := plan_floor hpl
  unfold lossV at hfl
  obtain ⟨cr, hcr⟩ : ∃ z, crV x0 x1 l0 l1 m k = z := ⟨_, rfl⟩
  obtain ⟨dr, hdr⟩ : ∃ z, drV x0 l1 a1 k = z := ⟨_, rfl⟩
  obtain ⟨da, hda⟩ : ∃ z, daV x0 x2 a0 l1 a1 k = z := ⟨_, rfl⟩
  obtain ⟨df, hdf⟩ : ∃ z, dfV x0 l0 = z := ⟨_, rfl⟩
  obtain rfl : T = .tuple #[.agg #[.int .i64 cr, .int .i64 dr, .int .i64 da, .int .i64 df], .bool true] := hT.trans (planT_yes hpl hcr hdr hda hdf)
  rw [hcr, hdr, hda, hdf] at hpb
  rw [hcr] at hcl
  rw [hda, hdf] at hfl
  clear hT hpl hcr hdr hda hdf
  obtain ⟨ce, hce⟩ : ∃ z, x0 + x1 = z := ⟨_, rfl⟩
  obtain ⟨flo, hflo⟩ : ∃ z, x0 - x2 = z := ⟨_, rfl⟩
  have CC : Hid (∀ W, Calls Try.prog 18 #[.agg #[.int .i64 x0, .int .i64 x1, .int .i64 x2, .int .i64 x3, .int .i64 x4, .int .i64 x5, .int .i64 x6, .int .i64 x7, .int .i64 x8, .int .i64 x9, .int .i64 x10]] W (Says (.int .i64 ce) W)) := fun W => by have h := HC.out x0 x1 x2 x3 x4 x5 x6 x7 x8 x9 x10 W; unfold ceilV at h; rw [if_pos hs, hce] at h; exact h
  have CF : Hid (∀ W, Calls Try.prog 19 #[.agg #[.int .i64 x0, .int .i64 x1, .int .i64 x2, .int .i64 x3, .int .i64 x4, .int .i64 x5, .int .i64 x6, .int .i64 x7, .int .i64 x8, .int .i64 x9, .int .i64 x10]] W (Says (.int .i64 flo) W)) := fun W => by have h := HF.out x0 x1 x2 x3 x4 x5 x6 x7 x8 x9 x10 W; unfold floorV at h; rw [if_pos hs, hflo] at h; exact h
  rw [hce] at hcl
  rw [hflo] at hfl
  clear hce hflo HC HF HP
  have HS := Lib.hid hs
  clear hs
  have HCL := Lib.hid hcl
  have HFL := Lib.hid hfl
  clear hcl hfl
  obtain ⟨p1b, p2b, p3b, p4b⟩ := hpb
  have c0 := box_cell KS.out 0 _ rfl
  have c1 := box_cell KS.out 1 _ rfl
  have c2 := box_cell KS.out 2 _ rfl
  have c3 := box_cell KS.out 3 _ rfl
  have c4 := box_cell KS.out 4 _ rfl
  have c5 := box_cell KS.out 5 _ rfl
  have c6 := box_cell KS.out 6 _ rfl
  have c7 := box_cell KS.out 7 _ rfl
  have c8 := box_cell KS.out 8 _ rfl
  have c9 := box_cell KS.out 9 _ rfl
  have c10 := box_cell KS.out 10 _ rfl
  have f0 := box_cell KF.out 0 _ rfl
  have f1 := box_cell KF.out 1 _ rfl
  have g0 := box_cell KO.out 0 _ rfl
  have g1 := box_cell KO.out 1 _ rfl
  go_wp2_with fail
  rw [← hV]
  clear hV
  refine (CS.out _).mono ?_
  rintro e w1 ⟨rfl, hb⟩
  clear c0 c1 c2 c3 c4 c5 c6 c7 c8 c9 c10 f0 f1 g0 g1
  have KS' := Lib.hid (box_alloc (box_below KS.out hb) (.cells #[.int .i64 cr, .int .i64 dr, .int .i64 da, .int .i64 df] 31))
  have KF' := Lib.hid (box_alloc (box_below KF.out hb) (.cells #[.int .i64 cr, .int .i64 dr, .int .i64 da, .int .i64 df] 31))
  have KO' := Lib.hid (box_alloc (box_below KO.out hb) (.cells #[.int .i64 cr, .int .i64 dr, .int .i64 da, .int .i64 df] 31))
  have HBx := bel_then HB.out hb HB.out.size
  have HB' := Lib.hid (HBx.alloc HBx.size (.cells #[.int .i64 cr, .int .i64 dr, .int .i64 da, .int .i64 df] 31))
  clear KS KF KO HB HBx
  have KS := KS'
  have KF := KF'
  have KO := KO'
  have HB := HB'
  clear KS' KF' KO' HB'
  have KW := Lib.hid (box_new w1 (.cells #[.int .i64 cr, .int .i64 dr, .int .i64 da, .int .i64 df] 31))
  clear hb CS
  have c0 := box_cell KS.out 0 _ rfl
  have c1 := box_cell KS.out 1 _ rfl
  have c2 := box_cell KS.out 2 _ rfl
  have c3 := box_cell KS.out 3 _ rfl
  have c4 := box_cell KS.out 4 _ rfl
  have c5 := box_cell KS.out 5 _ rfl
  have c6 := box_cell KS.out 6 _ rfl
  have c7 := box_cell KS.out 7 _ rfl
  have c8 := box_cell KS.out 8 _ rfl
  have c9 := box_cell KS.out 9 _ rfl
  have c10 := box_cell KS.out 10 _ rfl
  have f0 := box_cell KF.out 0 _ rfl
  have f1 := box_cell KF.out 1 _ rfl
  have g0 := box_cell KO.out 0 _ rfl
  have g1 := box_cell KO.out 1 _ rfl
  go_wp2_with fail
  refine (CI.out _).mono ?_
  rintro e w2 ⟨rfl, hb⟩
  clear c0 c1 c2 c3 c4 c5 c6 c7 c8 c9 c10 f0 f1 g0 g1
  have KS' := Lib.hid (box_alloc (box_below KS.out hb) (.cells #[.int .i64 cr, .int .i64 dr, .int .i64 da, .int .i64 df] 31))
  have KF' := Lib.hid (box_alloc (box_below KF.out hb) (.cells #[.int .i64 cr, .int .i64 dr, .int .i64 da, .int .i64 df] 31))
  have KO' := Lib.hid (box_alloc (box_below KO.out hb) (.cells #[.int .i64 cr, .int .i64 dr, .int .i64 da, .int .i64 df] 31))
  have KW' := Lib.hid (box_alloc (box_below KW.out hb) (.cells #[.int .i64 cr, .int .i64 dr, .int .i64 da, .int .i64 df] 31))
  have HBx := bel_then HB.out hb HB.out.size
  have HB' := Lib.hid (HBx.alloc HBx.size (.cells #[.int .i64 cr, .int .i64 dr, .int .i64 da, .int .i64 df] 31))
  clear KS KF KO KW HB HBx
  have KS := KS'
  have KF := KF'
  have KO := KO'
  have KW := KW'
  have HB := HB'
  clear KS' KF' KO' KW' HB'
  have KP := Lib.hid (box_new w2 (.cells #[.int .i64 cr, .int .i64 dr, .int .i64 da, .int .i64 df] 31))
  clear hb CI
  have c0 := box_cell KS.out 0 _ rfl
  have c1 := box_cell KS.out 1 _ rfl
  have c2 := box_cell KS.out 2 _ rfl
  have c3 := box_cell KS.out 3 _ rfl
  have c4 := box_cell KS.out 4 _ rfl
  have c5 := box_cell KS.out 5 _ rfl
  have c6 := box_cell KS.out 6 _ rfl
  have c7 := box_cell KS.out 7 _ rfl
  have c8 := box_cell KS.out 8 _ rfl
  have c9 := box_cell KS.out 9 _ rfl
  have c10 := box_cell KS.out 10 _ rfl
  have f0 := box_cell KF.out 0 _ rfl
  have f1 := box_cell KF.out 1 _ rfl
  have g0 := box_cell KO.out 0 _ rfl
  have g1 := box_cell KO.out 1 _ rfl
  have v0 := box_cell KW.out 0 _ rfl
  have v1 := box_cell KW.out 1 _ rfl
  have v2 := box_cell KW.out 2 _ rfl
  have v3 := box_cell KW.out 3 _ rfl
  have p0 := box_cell KP.out 0 _ rfl
  have p1 := box_cell KP.out 1 _ rfl
  have p2 := box_cell KP.out 2 _ rfl
  have p3 := box_cell KP.out 3 _ rfl
  have hwa : IntKind.i64.wrap (l0 + l1 + m) = l0 + l1 + m := IntWalk.i64_in _ ⟨by omega, by omega⟩
  have n_cr : decide (cr < 0) = false := by simp; omega
  have n_dr : decide (dr < 0) = false := by simp; omega
  have n_da : decide (da < 0) = false := by simp; omega
  have n_df : decide (df < 0) = false := by simp; omega
  have n5 : decide (a1 < da) = false := by simp; omega
  have hwb : IntKind.i64.wrap (l1 - a1) = l1 - a1 := IntWalk.i64_in _ ⟨by omega, by omega⟩
  have n6 : decide (l1 - a1 < dr) = false := by simp; omega
  have n7 : decide (l0 < df) = false := by simp; omega
  go_upto_region 13 with fail
  clear n_cr n_dr n_da n_df n5 hwb n6 n7
  clear c0 c1 c2 c3 c4 c5 c6 c7 c8 c9 c10 f0 f1 g0 g1 v0 v1 v2 v3 p0 p1 p2 p3
  obtain ⟨wz, hwz⟩ : ∃ x, x = w2.alloc (.cells #[.int .i64 cr, .int .i64 dr, .int .i64 da, .int .i64 df] 31) := ⟨_, rfl⟩
  rw [← hwz] at KS KF KO KP HB ⊢
  clear hwz KW
  have c0 := box_cell KS.out 0 _ rfl
  have c1 := box_cell KS.out 1 _ rfl
  have c2 := box_cell KS.out 2 _ rfl
  have c3 := box_cell KS.out 3 _ rfl
  have c4 := box_cell KS.out 4 _ rfl
  have c5 := box_cell KS.out 5 _ rfl
  have c6 := box_cell KS.out 6 _ rfl
  have c7 := box_cell KS.out 7 _ rfl
  have c8 := box_cell KS.out 8 _ rfl
  have c9 := box_cell KS.out 9 _ rfl
  have c10 := box_cell KS.out 10 _ rfl
  have p0 := box_cell KP.out 0 _ rfl
  have hwc : IntKind.i64.wrap (l0 + l1 + m + cr) = l0 + l1 + m + cr := IntWalk.i64_in _ ⟨by omega, by omega⟩
  by_cases hle : l0 + l1 + m ≤ ce
  case neg =>
    have hdl : decide (l0 + l1 + m ≤ ce) = false := by simp; omega
    refine wp_region_held_drew (S := fun w' => w'.cell? ⟨w0.heap.size, 0, none⟩ = some (.int .i64 x0) ∧ w'.cell? ⟨w0.heap.size, 1, none⟩ = some (.int .i64 x1) ∧ w'.cell? ⟨w0.heap.size, 2, none⟩ = some (.int .i64 x2) ∧ w'.cell? ⟨w0.heap.size, 3, none⟩ = some (.int .i64 x3) ∧ w'.cell? ⟨w0.heap.size, 4, none⟩ = some (.int .i64 x4) ∧ w'.cell? ⟨w0.heap.size, 5, none⟩ = some (.int .i64 x5) ∧ w'.cell? ⟨w0.heap.size, 6, none⟩ = some (.int .i64 x6) ∧ w'.cell? ⟨w0.heap.size, 7, none⟩ = some (.int .i64 x7) ∧ w'.cell? ⟨w0.heap.size, 8, none⟩ = some (.int .i64 x8) ∧ w'.cell? ⟨w0.heap.size, 9, none⟩ = some (.int .i64 x9) ∧ w'.cell? ⟨w0.heap.size, 10, none⟩ = some (.int .i64 x10) ∧ w'.cell? ⟨w2.heap.size, 0, none⟩ = some (.int .i64 cr)) (by kernel_rfl) ⟨c0, c1, c2, c3, c4, c5, c6, c7, c8, c9, c10, p0⟩ (fun hHeld => ?_)
    refine wpAnyH_take (i := 0) (v := ?v1) rfl (by kernel_rfl) (by kernel_rfl) (by kernel_rfl) (fun _ _ _ h => h) (Or.inl ⟨by rfl, ?hy1⟩) (by assumption) ?_
    case hy1 => (intro w0 hSw; (try dsimp only at hSw); go_simp <;> with_reducible rfl)
    try simp only [Act.put, List.getElem_toArray, List.getElem_cons_zero, List.getElem_cons_succ, List.setIfInBounds_toArray, List.set_cons_zero, List.set_cons_succ]
    refine wpAnyH_take (i := 1) (v := ?v2) rfl (by kernel_rfl) (by kernel_rfl) (by kernel_rfl) (fun _ _ _ h => h) (Or.inl ⟨by rfl, ?hy2⟩) (by assumption) ?_
    case hy2 => (intro w0 hSw; (try dsimp only at hSw); go_simp <;> with_reducible rfl)
    try simp only [Act.put, List.getElem_toArray, List.getElem_cons_zero, List.getElem_cons_succ, List.setIfInBounds_toArray, List.set_cons_zero, List.set_cons_succ]
    refine wpAnyH_ready (rs := [2]) (by kernel_rfl) (by simp) (AllReadyH.cons rfl (fun K hK => ?_) AllReadyH.nil)
    go_simp
    refine (CC.out _).mono ?_
    rintro e w6 ⟨rfl, hb2⟩
    have hb3 : Below wz.heap.size wz w6 := undrew hb2
    clear hHeld
    refine hK _ _ (by exact ⟨cell_keep hb3 c0, cell_keep hb3 c1, cell_keep hb3 c2, cell_keep hb3 c3, cell_keep hb3 c4, cell_keep hb3 c5, cell_keep hb3 c6, cell_keep hb3 c7, cell_keep hb3 c8, cell_keep hb3 c9, cell_keep hb3 c10, cell_keep hb3 p0⟩) (fun hHeld => ?_)
    clear hK K
    try simp only [Act.put, List.getElem_toArray, List.getElem_cons_zero, List.getElem_cons_succ, List.setIfInBounds_toArray, List.set_cons_zero, List.set_cons_succ]
    refine wpAnyH_take (i := 3) (v := ?v4) rfl (by kernel_rfl) (by kernel_rfl) (by kernel_rfl) (fun _ _ _ h => h) (Or.inl ⟨by rfl, ?hy4⟩) (by assumption) ?_
    case hy4 => (intro w0 hSw; (try dsimp only at hSw); go_simp <;> with_reducible rfl)
    try simp only [Act.put, List.getElem_toArray, List.getElem_cons_zero, List.getElem_cons_succ, List.setIfInBounds_toArray, List.set_cons_zero, List.set_cons_succ]
    refine wpAnyH_take (i := 4) (v := ?v5) rfl (by kernel_rfl) (by kernel_rfl) (by kernel_rfl) (fun _ _ _ h => h) (Or.inl ⟨by rfl, ?hy5⟩) (by assumption) ?_
    case hy5 => (intro w0 hSw; (try dsimp only at hSw); go_simp <;> with_reducible rfl)
    try simp only [Act.put, List.getElem_toArray, List.getElem_cons_zero, List.getElem_cons_succ, List.setIfInBounds_toArray, List.set_cons_zero, List.set_cons_succ]
    refine wpAnyH_take (i := 5) (v := undef) rfl (by kernel_rfl) (by kernel_rfl) (by kernel_rfl) (fun _ _ _ h => h) (Or.inr ⟨by rfl, rfl⟩) (by assumption) ?_
    try simp only [Act.put, List.getElem_toArray, List.getElem_cons_zero, List.getElem_cons_succ, List.setIfInBounds_toArray, List.set_cons_zero, List.set_cons_succ]
    refine wpAnyH_take (i := 6) (v := undef) rfl (by kernel_rfl) (by kernel_rfl) (by kernel_rfl) (fun _ _ _ h => h) (Or.inr ⟨by rfl, rfl⟩) (by assumption) ?_
    try simp only [Act.put, List.getElem_toArray, List.getElem_cons_zero, List.getElem_cons_succ, List.setIfInBounds_toArray, List.set_cons_zero, List.set_cons_succ]
    refine wpAnyH_take (i := 7) (v := undef) rfl (by kernel_rfl) (by kernel_rfl) (by kernel_rfl) (fun _ _ _ h => h) (Or.inr ⟨by rfl, rfl⟩) (by assumption) ?_
    try simp only [Act.put, List.getElem_toArray, List.getElem_cons_zero, List.getElem_cons_succ, List.setIfInBounds_toArray, List.set_cons_zero, List.set_cons_succ]
    refine wpAnyH_take (i := 8) (v := undef) rfl (by kernel_rfl) (by kernel_rfl) (by kernel_rfl) (fun _ _ _ h => h) (Or.inr ⟨by rfl, rfl⟩) (by assumption) ?_
    try simp only [Act.put, List.getElem_toArray, List.getElem_cons_zero, List.getElem_cons_succ, List.setIfInBounds_toArray, List.set_cons_zero, List.set_cons_succ]
    refine wpAnyH_take (i := 9) (v := undef) rfl (by kernel_rfl) (by kernel_rfl) (by kernel_rfl) (fun _ _ _ h => h) (Or.inr ⟨by rfl, rfl⟩) (by assumption) ?_
    try simp only [Act.put, List.getElem_toArray, List.getElem_cons_zero, List.getElem_cons_succ, List.setIfInBounds_toArray, List.set_cons_zero, List.set_cons_succ]
    refine wpAnyH_take (i := 10) (v := undef) rfl (by kernel_rfl) (by kernel_rfl) (by kernel_rfl) (fun _ _ _ h => h) (Or.inr ⟨by rfl, rfl⟩) (by assumption) ?_
    try simp only [Act.put, List.getElem_toArray, List.getElem_cons_zero, List.getElem_cons_succ, List.setIfInBounds_toArray, List.set_cons_zero, List.set_cons_succ]
    refine wpAnyH_take (i := 11) (v := undef) rfl (by kernel_rfl) (by kernel_rfl) (by kernel_rfl) (fun _ _ _ h => h) (Or.inr ⟨by rfl, rfl⟩) (by assumption) ?_
    try simp only [Act.put, List.getElem_toArray, List.getElem_cons_zero, List.getElem_cons_succ, List.setIfInBounds_toArray, List.set_cons_zero, List.set_cons_succ]
    refine wpAnyH_take (i := 12) (v := ?v13) rfl (by kernel_rfl) (by kernel_rfl) (by kernel_rfl) (fun _ _ _ h => h) (Or.inl ⟨by rfl, ?hy13⟩) (by assumption) ?_
    case hy13 => (intro w0 hSw; (try dsimp only at hSw); go_simp <;> with_reducible rfl)
    try simp only [Act.put, List.getElem_toArray, List.getElem_cons_zero, List.getElem_cons_succ, List.setIfInBounds_toArray, List.set_cons_zero, List.set_cons_succ]
    refine wpAnyH_done (by kernel_rfl) ?_ _
    have hbz := hb3
    clear hb2 hb3 hHeld
    clear c0 c1 c2 c3 c4 c5 c6 c7 c8 c9 c10 p0
    have KS' := Lib.hid (box_below KS.out hbz)
    clear KS
    have KS := KS'
    clear KS'
    have KF' := Lib.hid (box_below KF.out hbz)
    clear KF
    have KF := KF'
    clear KF'
    have KO' := Lib.hid (box_below KO.out hbz)
    clear KO
    have KO := KO'
    clear KO'
    have KP' := Lib.hid (box_below KP.out hbz)
    clear KP
    have KP := KP'
    clear KP'
    have HB' := Lib.hid (bel_then HB.out hbz HB.out.size)
    clear HB hbz
    have HB := HB'
    clear HB'
    have hw1 : IntKind.i64.wrap (l0 - a0) = l0 - a0 := IntWalk.i64_in _ ⟨by omega, by omega⟩
    have hw2 : IntKind.i64.wrap (a0 + a1) = a0 + a1 := IntWalk.i64_in _ ⟨by omega, by omega⟩
    have hw3 : IntKind.i64.wrap (da + df) = da + df := IntWalk.i64_in _ ⟨by omega, by omega⟩
    have hw4 : IntKind.i64.wrap (da + df - (l0 - a0)) = da + df - (l0 - a0) := IntWalk.i64_in _ ⟨by omega, by omega⟩
    by_cases hg : l0 - a0 < df
    case pos =>
      have hd : decide (l0 - a0 < df) = true := by simp [hg]
      have HFL2 : Hid (a0 + a1 < flo ∨ flo ≤ a0 + a1 - (da + df - (l0 - a0))) := by show _ ∨ _; have h := HFL.out; rw [if_pos hg] at h; exact h
      have hw5 : IntKind.i64.wrap (a0 + a1 - (da + df - (l0 - a0))) = a0 + a1 - (da + df - (l0 - a0)) := IntWalk.i64_in _ ⟨by omega, by omega⟩
      have c0 := box_cell KS.out 0 _ rfl
      have c1 := box_cell KS.out 1 _ rfl
      have c2 := box_cell KS.out 2 _ rfl
      have c3 := box_cell KS.out 3 _ rfl
      have c4 := box_cell KS.out 4 _ rfl
      have c5 := box_cell KS.out 5 _ rfl
      have c6 := box_cell KS.out 6 _ rfl
      have c7 := box_cell KS.out 7 _ rfl
      have c8 := box_cell KS.out 8 _ rfl
      have c9 := box_cell KS.out 9 _ rfl
      have c10 := box_cell KS.out 10 _ rfl
      have f0 := box_cell KF.out 0 _ rfl
      have f1 := box_cell KF.out 1 _ rfl
      have g0 := box_cell KO.out 0 _ rfl
      have g1 := box_cell KO.out 1 _ rfl
      have p0 := box_cell KP.out 0 _ rfl
      have p1 := box_cell KP.out 1 _ rfl
      have p2 := box_cell KP.out 2 _ rfl
      have p3 := box_cell KP.out 3 _ rfl
      go_wp2_with fail
      refine (CF.out _).mono ?_
      rintro e w8 ⟨rfl, hb⟩
      clear c0 c1 c2 c3 c4 c5 c6 c7 c8 c9 c10 f0 f1 g0 g1 p0 p1 p2 p3
      have KS8 := Lib.hid (box_below KS.out hb)
      have HB8 := Lib.hid (bel_then HB.out hb HB.out.size)
      clear hb KS KF KO KP HB
      by_cases hv : a0 + a1 < flo
      case pos =>
        have hdv : decide (a0 + a1 < flo) = true := by simp [hv]
        go_wp2
        go_ret
        exact ⟨rfl, HB8.out⟩
      case neg =>
        have hdv : decide (a0 + a1 < flo) = false := by simp [hv]
        have hdz : decide (flo ≤ a0 + a1 - (da + df - (l0 - a0))) = true := by have h := HFL2.out; simp; omega
        clear HFL2
        have c0 := box_cell KS8.out 0 _ rfl
        have c1 := box_cell KS8.out 1 _ rfl
        have c2 := box_cell KS8.out 2 _ rfl
        have c3 := box_cell KS8.out 3 _ rfl
        have c4 := box_cell KS8.out 4 _ rfl
        have c5 := box_cell KS8.out 5 _ rfl
        have c6 := box_cell KS8.out 6 _ rfl
        have c7 := box_cell KS8.out 7 _ rfl
        have c8 := box_cell KS8.out 8 _ rfl
        have c9 := box_cell KS8.out 9 _ rfl
        have c10 := box_cell KS8.out 10 _ rfl
        go_wp2_with fail
        refine (CF.out _).mono ?_
        rintro e w9 ⟨rfl, hb⟩
        have HB9 := Lib.hid (bel_then HB8.out hb HB8.out.size)
        clear hb KS8 HB8 c0 c1 c2 c3 c4 c5 c6 c7 c8 c9 c10
        go_wp2
        go_ret
        exact ⟨rfl, HB9.out⟩
    case neg =>
      have hd : decide (l0 - a0 < df) = false := by simp [hg]
      have HFL2 : Hid (a0 + a1 < flo ∨ flo ≤ a0 + a1 - da) := by show _ ∨ _; have h := HFL.out; rw [if_neg hg] at h; exact h
      have hw5 : IntKind.i64.wrap (a0 + a1 - da) = a0 + a1 - da := IntWalk.i64_in _ ⟨by omega, by omega⟩
      have c0 := box_cell KS.out 0 _ rfl
      have c1 := box_cell KS.out 1 _ rfl
      have c2 := box_cell KS.out 2 _ rfl
      have c3 := box_cell KS.out 3 _ rfl
      have c4 := box_cell KS.out 4 _ rfl
      have c5 := box_cell KS.out 5 _ rfl
      have c6 := box_cell KS.out 6 _ rfl
      have c7 := box_cell KS.out 7 _ rfl
      have c8 := box_cell KS.out 8 _ rfl
      have c9 := box_cell KS.out 9 _ rfl
      have c10 := box_cell KS.out 10 _ rfl
      have f0 := box_cell KF.out 0 _ rfl
      have f1 := box_cell KF.out 1 _ rfl
      have g0 := box_cell KO.out 0 _ rfl
      have g1 := box_cell KO.out 1 _ rfl
      have p0 := box_cell KP.out 0 _ rfl
      have p1 := box_cell KP.out 1 _ rfl
      have p2 := box_cell KP.out 2 _ rfl
      have p3 := box_cell KP.out 3 _ rfl
      go_wp2_with fail
      refine (CF.out _).mono ?_
      rintro e w8 ⟨rfl, hb⟩
      clear c0 c1 c2 c3 c4 c5 c6 c7 c8 c9 c10 f0 f1 g0 g1 p0 p1 p2 p3
      have KS8 := Lib.hid (box_below KS.out hb)
      have HB8 := Lib.hid (bel_then HB.out hb HB.out.size)
      clear hb KS KF KO KP HB
      by_cases hv : a0 + a1 < flo
      case pos =>
        have hdv : decide (a0 + a1 < flo) = true := by simp [hv]
        go_wp2
        go_ret
        exact ⟨rfl, HB8.out⟩
      case neg =>
        have hdv : decide (a0 + a1 < flo) = false := by simp [hv]
        have hdz : decide (flo ≤ a0 + a1 - da) = true := by have h := HFL2.out; simp; omega
        clear HFL2
        have c0 := box_cell KS8.out 0 _ rfl
        have c1 := box_cell KS8.out 1 _ rfl
        have c2 := box_cell KS8.out 2 _ rfl
        have c3 := box_cell KS8.out 3 _ rfl
        have c4 := box_cell KS8.out 4 _ rfl
        have c5 := box_cell KS8.out 5 _ rfl
        have c6 := box_cell KS8.out 6 _ rfl
        have c7 := box_cell KS8.out 7 _ rfl
        have c8 := box_cell KS8.out 8 _ rfl
        have c9 := box_cell KS8.out 9 _ rfl
        have c10 := box_cell KS8.out 10 _ rfl
        go_wp2_with fail
        refine (CF.out _).mono ?_
        rintro e w9 ⟨rfl, hb⟩
        have HB9 := Lib.hid (bel_then HB8.out hb HB8.out.size)
        clear hb KS8 HB8 c0 c1 c2 c3 c4 c5 c6 c7 c8 c9 c10
        go_wp2
        go_ret
        exact ⟨rfl, HB9.out⟩
  case pos =>
    have hdl : decide (l0 + l1 + m ≤ ce) = true := by simp; omega
    have hdg : decide (ce < l0 + l1 + m + cr) = false := by have h := HCL.out hle; simp; omega
    refine wp_region_held_drew (S := fun w' => w'.cell? ⟨w0.heap.size, 0, none⟩ = some (.int .i64 x0) ∧ w'.cell? ⟨w0.heap.size, 1, none⟩ = some (.int .i64 x1) ∧ w'.cell? ⟨w0.heap.size, 2, none⟩ = some (.int .i64 x2) ∧ w'.cell? ⟨w0.heap.size, 3, none⟩ = some (.int .i64 x3) ∧ w'.cell? ⟨w0.heap.size, 4, none⟩ = some (.int .i64 x4) ∧ w'.cell? ⟨w0.heap.size, 5, none⟩ = some (.int .i64 x5) ∧ w'.cell? ⟨w0.heap.size, 6, none⟩ = some (.int .i64 x6) ∧ w'.cell? ⟨w0.heap.size, 7, none⟩ = some (.int .i64 x7) ∧ w'.cell? ⟨w0.heap.size, 8, none⟩ = some (.int .i64 x8) ∧ w'.cell? ⟨w0.heap.size, 9, none⟩ = some (.int .i64 x9) ∧ w'.cell? ⟨w0.heap.size, 10, none⟩ = some (.int .i64 x10) ∧ w'.cell? ⟨w2.heap.size, 0, none⟩ = some (.int .i64 cr)) (by kernel_rfl) ⟨c0, c1, c2, c3, c4, c5, c6, c7, c8, c9, c10, p0⟩ (fun hHeld => ?_)
    refine wpAnyH_take (i := 0) (v := ?v14) rfl (by kernel_rfl) (by kernel_rfl) (by kernel_rfl) (fun _ _ _ h => h) (Or.inl ⟨by rfl, ?hy14⟩) (by assumption) ?_
    case hy14 => (intro w0 hSw; (try dsimp only at hSw); go_simp <;> with_reducible rfl)
    try simp only [Act.put, List.getElem_toArray, List.getElem_cons_zero, List.getElem_cons_succ, List.setIfInBounds_toArray, List.set_cons_zero, List.set_cons_succ]
    refine wpAnyH_take (i := 1) (v := ?v15) rfl (by kernel_rfl) (by kernel_rfl) (by kernel_rfl) (fun _ _ _ h => h) (Or.inl ⟨by rfl, ?hy15⟩) (by assumption) ?_
    case hy15 => (intro w0 hSw; (try dsimp only at hSw); go_simp <;> with_reducible rfl)
    try simp only [Act.put, List.getElem_toArray, List.getElem_cons_zero, List.getElem_cons_succ, List.setIfInBounds_toArray, List.set_cons_zero, List.set_cons_succ]
    refine wpAnyH_ready (rs := [2]) (by kernel_rfl) (by simp) (AllReadyH.cons rfl (fun K hK => ?_) AllReadyH.nil)
    go_simp
    refine (CC.out _).mono ?_
    rintro e w6 ⟨rfl, hb2⟩
    have hb3 : Below wz.heap.size wz w6 := undrew hb2
    clear hHeld
    refine hK _ _ (by exact ⟨cell_keep hb3 c0, cell_keep hb3 c1, cell_keep hb3 c2, cell_keep hb3 c3, cell_keep hb3 c4, cell_keep hb3 c5, cell_keep hb3 c6, cell_keep hb3 c7, cell_keep hb3 c8, cell_keep hb3 c9, cell_keep hb3 c10, cell_keep hb3 p0⟩) (fun hHeld => ?_)
    clear hK K
    try simp only [Act.put, List.getElem_toArray, List.getElem_cons_zero, List.getElem_cons_succ, List.setIfInBounds_toArray, List.set_cons_zero, List.set_cons_succ]
    refine wpAnyH_take (i := 3) (v := ?v17) rfl (by kernel_rfl) (by kernel_rfl) (by kernel_rfl) (fun _ _ _ h => h) (Or.inl ⟨by rfl, ?hy17⟩) (by assumption) ?_
    case hy17 => (intro w0 hSw; (try dsimp only at hSw); go_simp <;> with_reducible rfl)
    try simp only [Act.put, List.getElem_toArray, List.getElem_cons_zero, List.getElem_cons_succ, List.setIfInBounds_toArray, List.set_cons_zero, List.set_cons_succ]
    refine wpAnyH_take (i := 4) (v := ?v18) rfl (by kernel_rfl) (by kernel_rfl) (by kernel_rfl) (fun _ _ _ h => h) (Or.inl ⟨by rfl, ?hy18⟩) (by assumption) ?_
    case hy18 => (intro w0 hSw; (try dsimp only at hSw); go_simp <;> with_reducible rfl)
    try simp only [Act.put, List.getElem_toArray, List.getElem_cons_zero, List.getElem_cons_succ, List.setIfInBounds_toArray, List.set_cons_zero, List.set_cons_succ]
    refine wpAnyH_take (i := 5) (v := ?v19) rfl (by kernel_rfl) (by kernel_rfl) (by kernel_rfl) (fun _ _ _ h => h) (Or.inl ⟨by rfl, ?hy19⟩) (by assumption) ?_
    case hy19 => (intro w0 hSw; (try dsimp only at hSw); go_simp <;> with_reducible rfl)
    try simp only [Act.put, List.getElem_toArray, List.getElem_cons_zero, List.getElem_cons_succ, List.setIfInBounds_toArray, List.set_cons_zero, List.set_cons_succ]
    refine wpAnyH_take (i := 6) (v := ?v20) rfl (by kernel_rfl) (by kernel_rfl) (by kernel_rfl) (fun _ _ _ h => h) (Or.inl ⟨by rfl, ?hy20⟩) (by assumption) ?_
    case hy20 => (intro w0 hSw; (try dsimp only at hSw); go_simp <;> with_reducible rfl)
    try simp only [Act.put, List.getElem_toArray, List.getElem_cons_zero, List.getElem_cons_succ, List.setIfInBounds_toArray, List.set_cons_zero, List.set_cons_succ]
    refine wpAnyH_take (i := 7) (v := ?v21) rfl (by kernel_rfl) (by kernel_rfl) (by kernel_rfl) (fun _ _ _ h => h) (Or.inl ⟨by rfl, ?hy21⟩) (by assumption) ?_
    case hy21 => (intro w0 hSw; (try dsimp only at hSw); go_simp <;> with_reducible rfl)
    try simp only [Act.put, List.getElem_toArray, List.getElem_cons_zero, List.getElem_cons_succ, List.setIfInBounds_toArray, List.set_cons_zero, List.set_cons_succ]
    refine wpAnyH_take (i := 8) (v := ?v22) rfl (by kernel_rfl) (by kernel_rfl) (by kernel_rfl) (fun _ _ _ h => h) (Or.inl ⟨by rfl, ?hy22⟩) (by assumption) ?_
    case hy22 => (intro w0 hSw; (try dsimp only at hSw); go_simp <;> with_reducible rfl)
    try simp only [Act.put, List.getElem_toArray, List.getElem_cons_zero, List.getElem_cons_succ, List.setIfInBounds_toArray, List.set_cons_zero, List.set_cons_succ]
    refine wpAnyH_take (i := 9) (v := ?v23) rfl (by kernel_rfl) (by kernel_rfl) (by kernel_rfl) (fun _ _ _ h => h) (Or.inl ⟨by rfl, ?hy23⟩) (by assumption) ?_
    case hy23 => (intro w0 hSw; (try dsimp only at hSw); go_simp <;> with_reducible rfl)
    try simp only [Act.put, List.getElem_toArray, List.getElem_cons_zero, List.getElem_cons_succ, List.setIfInBounds_toArray, List.set_cons_zero, List.set_cons_succ]
    refine wpAnyH_ready (rs := [10]) (by kernel_rfl) (by simp) (AllReadyH.cons rfl (fun K hK => ?_) AllReadyH.nil)
    go_simp
    refine (CC.out _).mono ?_
    rintro e w7 ⟨rfl, hb4⟩
    clear hHeld
    refine hK _ _ (by exact ⟨cell_keep hb4 (cell_keep hb3 c0), cell_keep hb4 (cell_keep hb3 c1), cell_keep hb4 (cell_keep hb3 c2), cell_keep hb4 (cell_keep hb3 c3), cell_keep hb4 (cell_keep hb3 c4), cell_keep hb4 (cell_keep hb3 c5), cell_keep hb4 (cell_keep hb3 c6), cell_keep hb4 (cell_keep hb3 c7), cell_keep hb4 (cell_keep hb3 c8), cell_keep hb4 (cell_keep hb3 c9), cell_keep hb4 (cell_keep hb3 c10), cell_keep hb4 (cell_keep hb3 p0)⟩) (fun hHeld => ?_)
    clear hK K
    try simp only [Act.put, List.getElem_toArray, List.getElem_cons_zero, List.getElem_cons_succ, List.setIfInBounds_toArray, List.set_cons_zero, List.set_cons_succ]
    refine wpAnyH_take (i := 11) (v := ?v25) rfl (by kernel_rfl) (by kernel_rfl) (by kernel_rfl) (fun _ _ _ h => h) (Or.inl ⟨by rfl, ?hy25⟩) (by assumption) ?_
    case hy25 => (intro w0 hSw; (try dsimp only at hSw); go_simp <;> with_reducible rfl)
    try simp only [Act.put, List.getElem_toArray, List.getElem_cons_zero, List.getElem_cons_succ, List.setIfInBounds_toArray, List.set_cons_zero, List.set_cons_succ]
    refine wpAnyH_take (i := 12) (v := ?v26) rfl (by kernel_rfl) (by kernel_rfl) (by kernel_rfl) (fun _ _ _ h => h) (Or.inl ⟨by rfl, ?hy26⟩) (by assumption) ?_
    case hy26 => (intro w0 hSw; (try dsimp only at hSw); go_simp <;> with_reducible rfl)
    try simp only [Act.put, List.getElem_toArray, List.getElem_cons_zero, List.getElem_cons_succ, List.setIfInBounds_toArray, List.set_cons_zero, List.set_cons_succ]
    refine wpAnyH_done (by kernel_rfl) ?_ _
    have hbz := bel_then hb3 hb4 hb3.size
    clear hb2 hb3 hb4 hHeld
    clear c0 c1 c2 c3 c4 c5 c6 c7 c8 c9 c10 p0
    have KS' := Lib.hid (box_below KS.out hbz)
    clear KS
    have KS := KS'
    clear KS'
    have KF' := Lib.hid (box_below KF.out hbz)
    clear KF
    have KF := KF'
    clear KF'
    have KO' := Lib.hid (box_below KO.out hbz)
    clear KO
    have KO := KO'
    clear KO'
    have KP' := Lib.hid (box_below KP.out hbz)
    clear KP
    have KP := KP'
    clear KP'
    have HB' := Lib.hid (bel_then HB.out hbz HB.out.size)
    clear HB hbz
    have HB := HB'
    clear HB'
    have hw1 : IntKind.i64.wrap (l0 - a0) = l0 - a0 := IntWalk.i64_in _ ⟨by omega, by omega⟩
    have hw2 : IntKind.i64.wrap (a0 + a1) = a0 + a1 := IntWalk.i64_in _ ⟨by omega, by omega⟩
    have hw3 : IntKind.i64.wrap (da + df) = da + df := IntWalk.i64_in _ ⟨by omega, by omega⟩
    have hw4 : IntKind.i64.wrap (da + df - (l0 - a0)) = da + df - (l0 - a0) := IntWalk.i64_in _ ⟨by omega, by omega⟩
    by_cases hg : l0 - a0 < df
    case pos =>
      have hd : decide (l0 - a0 < df) = true := by simp [hg]
      have HFL2 : Hid (a0 + a1 < flo ∨ flo ≤ a0 + a1 - (da + df - (l0 - a0))) := by show _ ∨ _; have h := HFL.out; rw [if_pos hg] at h; exact h
      have hw5 : IntKind.i64.wrap (a0 + a1 - (da + df - (l0 - a0))) = a0 + a1 - (da + df - (l0 - a0)) := IntWalk.i64_in _ ⟨by omega, by omega⟩
      have c0 := box_cell KS.out 0 _ rfl
      have c1 := box_cell KS.out 1 _ rfl
      have c2 := box_cell KS.out 2 _ rfl
      have c3 := box_cell KS.out 3 _ rfl
      have c4 := box_cell KS.out 4 _ rfl
      have c5 := box_cell KS.out 5 _ rfl
      have c6 := box_cell KS.out 6 _ rfl
      have c7 := box_cell KS.out 7 _ rfl
      have c8 := box_cell KS.out 8 _ rfl
      have c9 := box_cell KS.out 9 _ rfl
      have c10 := box_cell KS.out 10 _ rfl
      have f0 := box_cell KF.out 0 _ rfl
      have f1 := box_cell KF.out 1 _ rfl
      have g0 := box_cell KO.out 0 _ rfl
      have g1 := box_cell KO.out 1 _ rfl
      have p0 := box_cell KP.out 0 _ rfl
      have p1 := box_cell KP.out 1 _ rfl
      have p2 := box_cell KP.out 2 _ rfl
      have p3 := box_cell KP.out 3 _ rfl
      go_wp2_with fail
      refine (CF.out _).mono ?_
      rintro e w8 ⟨rfl, hb⟩
      clear c0 c1 c2 c3 c4 c5 c6 c7 c8 c9 c10 f0 f1 g0 g1 p0 p1 p2 p3
      have KS8 := Lib.hid (box_below KS.out hb)
      have HB8 := Lib.hid (bel_then HB.out hb HB.out.size)
      clear hb KS KF KO KP HB
      by_cases hv : a0 + a1 < flo
      case pos =>
        have hdv : decide (a0 + a1 < flo) = true := by simp [hv]
        go_wp2
        go_ret
        exact ⟨rfl, HB8.out⟩
      case neg =>
        have hdv : decide (a0 + a1 < flo) = false := by simp [hv]
        have hdz : decide (flo ≤ a0 + a1 - (da + df - (l0 - a0))) = true := by have h := HFL2.out; simp; omega
        clear HFL2
        have c0 := box_cell KS8.out 0 _ rfl
        have c1 := box_cell KS8.out 1 _ rfl
        have c2 := box_cell KS8.out 2 _ rfl
        have c3 := box_cell KS8.out 3 _ rfl
        have c4 := box_cell KS8.out 4 _ rfl
        have c5 := box_cell KS8.out 5 _ rfl
        have c6 := box_cell KS8.out 6 _ rfl
        have c7 := box_cell KS8.out 7 _ rfl
        have c8 := box_cell KS8.out 8 _ rfl
        have c9 := box_cell KS8.out 9 _ rfl
        have c10 := box_cell KS8.out 10 _ rfl
        go_wp2_with fail
        refine (CF.out _).mono ?_
        rintro e w9 ⟨rfl, hb⟩
        have HB9 := Lib.hid (bel_then HB8.out hb HB8.out.size)
        clear hb KS8 HB8 c0 c1 c2 c3 c4 c5 c6 c7 c8 c9 c10
        go_wp2
        go_ret
        exact ⟨rfl, HB9.out⟩
    case neg =>
      have hd : decide (l0 - a0 < df) = false := by simp [hg]
      have HFL2 : Hid (a0 + a1 < flo ∨ flo ≤ a0 + a1 - da) := by show _ ∨ _; have h := HFL.out; rw [if_neg hg] at h; exact h
      have hw5 : IntKind.i64.wrap (a0 + a1 - da) = a0 + a1 - da := IntWalk.i64_in _ ⟨by omega, by omega⟩
      have c0 := box_cell KS.out 0 _ rfl
      have c1 := box_cell KS.out 1 _ rfl
      have c2 := box_cell KS.out 2 _ rfl
      have c3 := box_cell KS.out 3 _ rfl
      have c4 := box_cell KS.out 4 _ rfl
      have c5 := box_cell KS.out 5 _ rfl
      have c6 := box_cell KS.out 6 _ rfl
      have c7 := box_cell KS.out 7 _ rfl
      have c8 := box_cell KS.out 8 _ rfl
      have c9 := box_cell KS.out 9 _ rfl
      have c10 := box_cell KS.out 10 _ rfl
      have f0 := box_cell KF.out 0 _ rfl
      have f1 := box_cell KF.out 1 _ rfl
      have g0 := box_cell KO.out 0 _ rfl
      have g1 := box_cell KO.out 1 _ rfl
      have p0 := box_cell KP.out 0 _ rfl
      have p1 := box_cell KP.out 1 _ rfl
      have p2 := box_cell KP.out 2 _ rfl
      have p3 := box_cell KP.out 3 _ rfl
      go_wp2_with fail
      refine (CF.out _).mono ?_
      rintro e w8 ⟨rfl, hb⟩
      clear c0 c1 c2 c3 c4 c5 c6 c7 c8 c9 c10 f0 f1 g0 g1 p0 p1 p2 p3
      have KS8 := Lib.hid (box_below KS.out hb)
      have HB8 := Lib.hid (bel_then HB.out hb HB.out.size)
      clear hb KS KF KO KP HB
      by_cases hv : a0 + a1 < flo
      case pos =>
        have hdv : decide (a0 + a1 < flo) = true := by simp [hv]
        go_wp2
        go_ret
        exact ⟨rfl, HB8.out⟩
      case neg =>
        have hdv : decide (a0 + a1 < flo) = false := by simp [hv]
        have hdz : decide (flo ≤ a0 + a1 - da) = true := by have h := HFL2.out; simp; omega
        clear HFL2
        have c0 := box_cell KS8.out 0 _ rfl
        have c1 := box_cell KS8.out 1 _ rfl
        have c2 := box_cell KS8.out 2 _ rfl
        have c3 := box_cell KS8.out 3 _ rfl
        have c4 := box_cell KS8.out 4 _ rfl
        have c5 := box_cell KS8.out 5 _ rfl
        have c6 := box_cell KS8.out 6 _ rfl
        have c7 := box_cell KS8.out 7 _ rfl
        have c8 := box_cell KS8.out 8 _ rfl
        have c9 := box_cell KS8.out 9 _ rfl
        have c10 := box_cell KS8.out 10 _ rfl
        go_wp2_with fail
        refine (CF.out _).mono ?_
        rintro e w9 ⟨rfl, hb⟩
        have HB9 := Lib.hid (bel_then HB8.out hb HB8.out.size)
        clear hb KS8 HB8 c0 c1 c2 c3 c4 c5 c6 c7 c8 c9 c10
        go_wp2
        go_ret
        exact ⟨rfl, HB9.out⟩
end Go.Proofs.Ytmmdpljimjfkdaa.LawPlans
