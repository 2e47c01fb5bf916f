/-
  WHAT THE MODEL'S PlanStep ANSWERS over this seat's translation.
-/
import Derived.Test.YtlghdmakaocokaaCnt
namespace Go.Proofs.Ytlghdmakaocokaa.Cnt
open Go.ChangeShapes Go.WideShapes Go.ChangeAt Go.RowKit
open Go.Proofs.Ytlghdmakaocokaa.LK Go.Proofs.Ytlghdmakaocokaa.Sp Go.Proofs.Ytlghdmakaocokaa.Put
open Go.Proofs.Ytlghdmakaocokaa.Tick (inB in_t in_f l01In_any)
set_option linter.unusedVariables false
set_option linter.unusedSimpArgs false
theorem box_drew {w : World} {b : Nat} {ob : Obj} (h : w.heap[b]? = some ob) : w.drew.heap[b]? = some ob := h
theorem least_at (a b m : Int) (h : min a b = m) (w : World) : Calls Try.prog 34 #[.int .i64 a, .int .i64 b] w fun e w' => e = .returned (.int .i64 m) ∧ w = w' := by
  subst h
  exact least_any a b w
theorem above_at (a m : Int) (h : max 0 a = m) (w : World) : Calls Try.prog 33 #[.int .i64 a] w fun e w' => e = .returned (.int .i64 m) ∧ w = w' := by
  subst h
  exact above_any a w
theorem planT_yes {x0 x1 x2 x3 x4 x5 x6 x7 x8 x9 x10 fl fa ol oa go li cr dr da df : Int} (h : planB x0 x1 x2 x3 x4 x5 x6 x7 x8 x9 x10 fl fa ol oa go li = true) (h1 : crV x0 x1 fl ol go li = cr) (h2 : drV x0 ol oa li = dr) (h3 : daV x0 x2 fa ol oa li = da) (h4 : dfV x0 fl = df) : planT x0 x1 x2 x3 x4 x5 x6 x7 x8 x9 x10 fl fa ol oa go li = .tuple #[.agg #[.int .i64 cr, .int .i64 dr, .int .i64 da, .int .i64 df], .bool true] := by
  subst h1 h2 h3 h4
  unfold planT
  rw [if_pos h]
theorem planT_no {x0 x1 x2 x3 x4 x5 x6 x7 x8 x9 x10 fl fa ol oa go li : Int} (h : planB x0 x1 x2 x3 x4 x5 x6 x7 x8 x9 x10 fl fa ol oa go li = false) : planT x0 x1 x2 x3 x4 x5 x6 x7 x8 x9 x10 fl fa ol oa go li = .tuple #[.agg #[.int .i64 0, .int .i64 0, .int .i64 0, .int .i64 0], .bool false] := by
  unfold planT
  rw [h]
  rfl
set_option maxRecDepth 100000 in
set_option maxHeartbeats 12800000 in
theorem specPlanStep_any (x0 x1 x2 x3 x4 x5 x6 x7 x8 x9 x10 fl fa ol oa go li : Int) (w : World) : Calls Try.prog 28 #[.agg #[.int .i64 x0, .int .i64 x1, .int .i64 x2, .int .i64 x3, .int .i64 x4, .int .i64 x5, .int .i64 x6, .int .i64 x7, .int .i64 x8, .int .i64 x9, .int .i64 x10], .agg #[.int .i64 fl, .int .i64 fa], .agg #[.int .i64 ol, .int .i64 oa], .int .i64 go, .int .i64 li] w (Says (planT x0 x1 x2 x3 x4 x5 x6 x7 x8 x9 x10 fl fa ol oa go li) w) := by
  obtain ⟨T, hT⟩ : ∃ T, T = planT x0 x1 x2 x3 x4 x5 x6 x7 x8 x9 x10 fl fa ol oa go li := ⟨_, rfl⟩
  rw [← hT]
  have HT := Lib.hid hT
  clear hT
  obtain ⟨V0, hV0⟩ : ∃ V, V = ((w.alloc (.cells #[.int .i64 x0, .int .i64 x1, .int .i64 x2, .int .i64 x3, .int .i64 x4, .int .i64 x5, .int .i64 x6, .int .i64 x7, .int .i64 x8, .int .i64 x9, .int .i64 x10] 38)).alloc (.cells #[.int .i64 fl, .int .i64 fa] 52)).alloc (.cells #[.int .i64 ol, .int .i64 oa] 52) := ⟨_, rfl⟩
  obtain ⟨V, hV⟩ : ∃ V, V = V0.alloc (.cells #[.int .i64 0, .int .i64 0, .int .i64 0, .int .i64 0] 55) := ⟨_, rfl⟩
  have hs0 : V0.heap.size = w.heap.size + 1 + 1 + 1 := by rw [hV0]; simp only [World.size_alloc]
  have hb0 : Below w.heap.size w V0 := by rw [hV0]; exact bel3 _ _ _ _
  have HB : Hid (Below w.heap.size w V) := by rw [hV]; exact hb0.alloc hb0.size _
  clear hb0
  have KS : Hid (V.heap[w.heap.size]? = some (.cells #[.int .i64 x0, .int .i64 x1, .int .i64 x2, .int .i64 x3, .int .i64 x4, .int .i64 x5, .int .i64 x6, .int .i64 x7, .int .i64 x8, .int .i64 x9, .int .i64 x10] 38)) := by have h := box_alloc (box_alloc (box_alloc (box_new w (.cells #[.int .i64 x0, .int .i64 x1, .int .i64 x2, .int .i64 x3, .int .i64 x4, .int .i64 x5, .int .i64 x6, .int .i64 x7, .int .i64 x8, .int .i64 x9, .int .i64 x10] 38)) (.cells #[.int .i64 fl, .int .i64 fa] 52)) (.cells #[.int .i64 ol, .int .i64 oa] 52)) (.cells #[.int .i64 0, .int .i64 0, .int .i64 0, .int .i64 0] 55); (try simp only [World.size_alloc] at h); rw [hV, hV0]; exact h
  have KF : Hid (V.heap[w.heap.size + 1]? = some (.cells #[.int .i64 fl, .int .i64 fa] 52)) := by have h := box_alloc (box_alloc (box_new (w.alloc (.cells #[.int .i64 x0, .int .i64 x1, .int .i64 x2, .int .i64 x3, .int .i64 x4, .int .i64 x5, .int .i64 x6, .int .i64 x7, .int .i64 x8, .int .i64 x9, .int .i64 x10] 38)) (.cells #[.int .i64 fl, .int .i64 fa] 52)) (.cells #[.int .i64 ol, .int .i64 oa] 52)) (.cells #[.int .i64 0, .int .i64 0, .int .i64 0, .int .i64 0] 55); (try simp only [World.size_alloc] at h); rw [hV, hV0]; exact h
  have KO : Hid (V.heap[w.heap.size + 1 + 1]? = some (.cells #[.int .i64 ol, .int .i64 oa] 52)) := by have h := box_alloc (box_new ((w.alloc (.cells #[.int .i64 x0, .int .i64 x1, .int .i64 x2, .int .i64 x3, .int .i64 x4, .int .i64 x5, .int .i64 x6, .int .i64 x7, .int .i64 x8, .int .i64 x9, .int .i64 x10] 38)).alloc (.cells #[.int .i64 fl, .int .i64 fa] 52)) (.cells #[.int .i64 ol, .int .i64 oa] 52)) (.cells #[.int .i64 0, .int .i64 0, .int .i64 0, .int .i64 0] 55); (try simp only [World.size_alloc] at h); rw [hV, hV0]; exact h
  have KR : Hid (V.heap[w.heap.size + 1 + 1 + 1]? = some (.cells #[.int .i64 0, .int .i64 0, .int .i64 0, .int .i64 0] 55)) := by have h := box_new V0 (.cells #[.int .i64 0, .int .i64 0, .int .i64 0, .int .i64 0] 55); rw [hs0] at h; rw [hV]; exact h
  rw [hV0] at hV
  clear hs0 hV0
  go_enter Try.func28, Try.ntmps28
  have c0 := box_cell KS.out 0 _ rfl
  have c1 := box_cell KS.out 1 _ rfl
  have c2 := box_cell KS.out 2 _ rfl
  have c3 := box_cell KS.out 3 _ rfl
  have c4 := box_cell KS.out 4 _ rfl
  have c5 := box_cell KS.out 5 _ rfl
  have c6 := box_cell KS.out 6 _ rfl
  have c7 := box_cell KS.out 7 _ rfl
  have c8 := box_cell KS.out 8 _ rfl
  have c9 := box_cell KS.out 9 _ rfl
  have c10 := box_cell KS.out 10 _ rfl
  have f0 := box_cell KF.out 0 _ rfl
  have g0 := box_cell KO.out 0 _ rfl
  have f1 := box_cell KF.out 1 _ rfl
  have g1 := box_cell KO.out 1 _ rfl
  go_wp2_with fail
  rw [← hV]
  clear hV
  refine (specSpecOk_any x0 x1 x2 x3 x4 x5 x6 x7 x8 x9 x10 _).mono ?_
  rintro e wq ⟨rfl, hb⟩
  have KS' := Lib.hid (box_below KS.out hb)
  have KF' := Lib.hid (box_below KF.out hb)
  have KO' := Lib.hid (box_below KO.out hb)
  have KR' := Lib.hid (box_below KR.out hb)
  have HB' := Lib.hid (bel_then HB.out hb HB.out.size)
  clear KS KF KO KR HB hb
  have KS := KS'
  have KF := KF'
  have KO := KO'
  have KR := KR'
  have HB := HB'
  clear KS' KF' KO' KR' HB'
  clear c0 c1 c2 c3 c4 c5 c6 c7 c8 c9 c10 f0 f1 g0 g1
  cases h1 : specB x0 x1 x2 x3 x4 x5 x6 x7 x8 x9 x10
  · have HN : Hid (planB x0 x1 x2 x3 x4 x5 x6 x7 x8 x9 x10 fl fa ol oa go li = false) := by show _ = false; simp [planB, h1]
    have RB := setRow_box (vs := #[.int .i64 0, .int .i64 0, .int .i64 0, .int .i64 0]) KR.out
    have r0 := box_cell RB 0 _ rfl
    have r1 := box_cell RB 1 _ rfl
    have r2 := box_cell RB 2 _ rfl
    have r3 := box_cell RB 3 _ rfl
    have HBF := Lib.hid (setRow_below HB.out (w.heap.size + 1 + 1 + 1) #[.int .i64 0, .int .i64 0, .int .i64 0, .int .i64 0] (by omega) HB.out.size)
    go_wp2_with (refine wpList_put rfl rfl 55 _ _ rfl (w.heap.size + 1 + 1 + 1) _ rfl rfl _ _ KR.out (Try.sizeOf55 _) rfl (by simp [Value.oneCell']) ?_)
    exact bodyPost_ret (v := .tuple #[.agg #[.int .i64 0, .int .i64 0, .int .i64 0, .int .i64 0], .bool false]) (by simp [results, Try.results28, go_sem, r0, r1, r2, r3]) rfl ⟨by rw [HT.out, planT_no HN.out], HBF.out⟩
  have Hh1 := Lib.hid h1
  clear h1
  have c0 := box_cell KS.out 0 _ rfl
  have c1 := box_cell KS.out 1 _ rfl
  have c2 := box_cell KS.out 2 _ rfl
  have c3 := box_cell KS.out 3 _ rfl
  have c4 := box_cell KS.out 4 _ rfl
  have c5 := box_cell KS.out 5 _ rfl
  have c6 := box_cell KS.out 6 _ rfl
  have c7 := box_cell KS.out 7 _ rfl
  have c8 := box_cell KS.out 8 _ rfl
  have c9 := box_cell KS.out 9 _ rfl
  have c10 := box_cell KS.out 10 _ rfl
  have f0 := box_cell KF.out 0 _ rfl
  have g0 := box_cell KO.out 0 _ rfl
  have f1 := box_cell KF.out 1 _ rfl
  have g1 := box_cell KO.out 1 _ rfl
  go_wp2_with fail
  refine (specCountOk_any fl fa _).mono ?_
  rintro e wq ⟨rfl, hb⟩
  have KS' := Lib.hid (box_below KS.out hb)
  have KF' := Lib.hid (box_below KF.out hb)
  have KO' := Lib.hid (box_below KO.out hb)
  have KR' := Lib.hid (box_below KR.out hb)
  have HB' := Lib.hid (bel_then HB.out hb HB.out.size)
  clear KS KF KO KR HB hb
  have KS := KS'
  have KF := KF'
  have KO := KO'
  have KR := KR'
  have HB := HB'
  clear KS' KF' KO' KR' HB'
  clear c0 c1 c2 c3 c4 c5 c6 c7 c8 c9 c10 f0 f1 g0 g1
  cases h2 : countB fl fa
  · have HN : Hid (planB x0 x1 x2 x3 x4 x5 x6 x7 x8 x9 x10 fl fa ol oa go li = false) := by show _ = false; simp [planB, h2]
    have RB := setRow_box (vs := #[.int .i64 0, .int .i64 0, .int .i64 0, .int .i64 0]) KR.out
    have r0 := box_cell RB 0 _ rfl
    have r1 := box_cell RB 1 _ rfl
    have r2 := box_cell RB 2 _ rfl
    have r3 := box_cell RB 3 _ rfl
    have HBF := Lib.hid (setRow_below HB.out (w.heap.size + 1 + 1 + 1) #[.int .i64 0, .int .i64 0, .int .i64 0, .int .i64 0] (by omega) HB.out.size)
    go_wp2_with (refine wpList_put rfl rfl 55 _ _ rfl (w.heap.size + 1 + 1 + 1) _ rfl rfl _ _ KR.out (Try.sizeOf55 _) rfl (by simp [Value.oneCell']) ?_)
    exact bodyPost_ret (v := .tuple #[.agg #[.int .i64 0, .int .i64 0, .int .i64 0, .int .i64 0], .bool false]) (by simp [results, Try.results28, go_sem, r0, r1, r2, r3]) rfl ⟨by rw [HT.out, planT_no HN.out], HBF.out⟩
  have Hh2 := Lib.hid h2
  clear h2
  have c0 := box_cell KS.out 0 _ rfl
  have c1 := box_cell KS.out 1 _ rfl
  have c2 := box_cell KS.out 2 _ rfl
  have c3 := box_cell KS.out 3 _ rfl
  have c4 := box_cell KS.out 4 _ rfl
  have c5 := box_cell KS.out 5 _ rfl
  have c6 := box_cell KS.out 6 _ rfl
  have c7 := box_cell KS.out 7 _ rfl
  have c8 := box_cell KS.out 8 _ rfl
  have c9 := box_cell KS.out 9 _ rfl
  have c10 := box_cell KS.out 10 _ rfl
  have f0 := box_cell KF.out 0 _ rfl
  have g0 := box_cell KO.out 0 _ rfl
  have f1 := box_cell KF.out 1 _ rfl
  have g1 := box_cell KO.out 1 _ rfl
  go_wp2_with fail
  refine (specCountOk_any ol oa _).mono ?_
  rintro e wq ⟨rfl, hb⟩
  have KS' := Lib.hid (box_below KS.out hb)
  have KF' := Lib.hid (box_below KF.out hb)
  have KO' := Lib.hid (box_below KO.out hb)
  have KR' := Lib.hid (box_below KR.out hb)
  have HB' := Lib.hid (bel_then HB.out hb HB.out.size)
  clear KS KF KO KR HB hb
  have KS := KS'
  have KF := KF'
  have KO := KO'
  have KR := KR'
  have HB := HB'
  clear KS' KF' KO' KR' HB'
  clear c0 c1 c2 c3 c4 c5 c6 c7 c8 c9 c10 f0 f1 g0 g1
  cases h3 : countB ol oa
  · have HN : Hid (planB x0 x1 x2 x3 x4 x5 x6 x7 x8 x9 x10 fl fa ol oa go li = false) := by show _ = false; simp [planB, h3]
    have RB := setRow_box (vs := #[.int .i64 0, .int .i64 0, .int .i64 0, .int .i64 0]) KR.out
    have r0 := box_cell RB 0 _ rfl
    have r1 := box_cell RB 1 _ rfl
    have r2 := box_cell RB 2 _ rfl
    have r3 := box_cell RB 3 _ rfl
    have HBF := Lib.hid (setRow_below HB.out (w.heap.size + 1 + 1 + 1) #[.int .i64 0, .int .i64 0, .int .i64 0, .int .i64 0] (by omega) HB.out.size)
    go_wp2_with (refine wpList_put rfl rfl 55 _ _ rfl (w.heap.size + 1 + 1 + 1) _ rfl rfl _ _ KR.out (Try.sizeOf55 _) rfl (by simp [Value.oneCell']) ?_)
    exact bodyPost_ret (v := .tuple #[.agg #[.int .i64 0, .int .i64 0, .int .i64 0, .int .i64 0], .bool false]) (by simp [results, Try.results28, go_sem, r0, r1, r2, r3]) rfl ⟨by rw [HT.out, planT_no HN.out], HBF.out⟩
  have Hh3 := Lib.hid h3
  clear h3
  have c0 := box_cell KS.out 0 _ rfl
  have c1 := box_cell KS.out 1 _ rfl
  have c2 := box_cell KS.out 2 _ rfl
  have c3 := box_cell KS.out 3 _ rfl
  have c4 := box_cell KS.out 4 _ rfl
  have c5 := box_cell KS.out 5 _ rfl
  have c6 := box_cell KS.out 6 _ rfl
  have c7 := box_cell KS.out 7 _ rfl
  have c8 := box_cell KS.out 8 _ rfl
  have c9 := box_cell KS.out 9 _ rfl
  have c10 := box_cell KS.out 10 _ rfl
  have f0 := box_cell KF.out 0 _ rfl
  have g0 := box_cell KO.out 0 _ rfl
  have f1 := box_cell KF.out 1 _ rfl
  have g1 := box_cell KO.out 1 _ rfl
  go_wp2_with fail
  refine (l01In_any _ _ _ _).mono ?_
  rintro e wq ⟨rfl, rfl⟩
  clear c0 c1 c2 c3 c4 c5 c6 c7 c8 c9 c10 f0 f1 g0 g1
  cases h4 : inB go 0 30
  · have HN : Hid (planB x0 x1 x2 x3 x4 x5 x6 x7 x8 x9 x10 fl fa ol oa go li = false) := by show _ = false; simp [planB, h4]
    have RB := setRow_box (vs := #[.int .i64 0, .int .i64 0, .int .i64 0, .int .i64 0]) KR.out
    have r0 := box_cell RB 0 _ rfl
    have r1 := box_cell RB 1 _ rfl
    have r2 := box_cell RB 2 _ rfl
    have r3 := box_cell RB 3 _ rfl
    have HBF := Lib.hid (setRow_below HB.out (w.heap.size + 1 + 1 + 1) #[.int .i64 0, .int .i64 0, .int .i64 0, .int .i64 0] (by omega) HB.out.size)
    go_wp2_with (refine wpList_put rfl rfl 55 _ _ rfl (w.heap.size + 1 + 1 + 1) _ rfl rfl _ _ KR.out (Try.sizeOf55 _) rfl (by simp [Value.oneCell']) ?_)
    exact bodyPost_ret (v := .tuple #[.agg #[.int .i64 0, .int .i64 0, .int .i64 0, .int .i64 0], .bool false]) (by simp [results, Try.results28, go_sem, r0, r1, r2, r3]) rfl ⟨by rw [HT.out, planT_no HN.out], HBF.out⟩
  have Hh4 := Lib.hid h4
  clear h4
  have c0 := box_cell KS.out 0 _ rfl
  have c1 := box_cell KS.out 1 _ rfl
  have c2 := box_cell KS.out 2 _ rfl
  have c3 := box_cell KS.out 3 _ rfl
  have c4 := box_cell KS.out 4 _ rfl
  have c5 := box_cell KS.out 5 _ rfl
  have c6 := box_cell KS.out 6 _ rfl
  have c7 := box_cell KS.out 7 _ rfl
  have c8 := box_cell KS.out 8 _ rfl
  have c9 := box_cell KS.out 9 _ rfl
  have c10 := box_cell KS.out 10 _ rfl
  have f0 := box_cell KF.out 0 _ rfl
  have g0 := box_cell KO.out 0 _ rfl
  have f1 := box_cell KF.out 1 _ rfl
  have g1 := box_cell KO.out 1 _ rfl
  go_wp2_with fail
  refine (l01In_any _ _ _ _).mono ?_
  rintro e wq ⟨rfl, rfl⟩
  clear c0 c1 c2 c3 c4 c5 c6 c7 c8 c9 c10 f0 f1 g0 g1
  cases h5 : inB li 0 x0
  · have HN : Hid (planB x0 x1 x2 x3 x4 x5 x6 x7 x8 x9 x10 fl fa ol oa go li = false) := by show _ = false; simp [planB, h5]
    have RB := setRow_box (vs := #[.int .i64 0, .int .i64 0, .int .i64 0, .int .i64 0]) KR.out
    have r0 := box_cell RB 0 _ rfl
    have r1 := box_cell RB 1 _ rfl
    have r2 := box_cell RB 2 _ rfl
    have r3 := box_cell RB 3 _ rfl
    have HBF := Lib.hid (setRow_below HB.out (w.heap.size + 1 + 1 + 1) #[.int .i64 0, .int .i64 0, .int .i64 0, .int .i64 0] (by omega) HB.out.size)
    go_wp2_with (refine wpList_put rfl rfl 55 _ _ rfl (w.heap.size + 1 + 1 + 1) _ rfl rfl _ _ KR.out (Try.sizeOf55 _) rfl (by simp [Value.oneCell']) ?_)
    exact bodyPost_ret (v := .tuple #[.agg #[.int .i64 0, .int .i64 0, .int .i64 0, .int .i64 0], .bool false]) (by simp [results, Try.results28, go_sem, r0, r1, r2, r3]) rfl ⟨by rw [HT.out, planT_no HN.out], HBF.out⟩
  have HP : Hid (planB x0 x1 x2 x3 x4 x5 x6 x7 x8 x9 x10 fl fa ol oa go li = true) := by show _ = true; simp [planB, Hh1.out, Hh2.out, Hh3.out, Hh4.out, h5]
  have b1 := specB_t Hh1.out
  have b2 := countB_t Hh2.out
  have b3 := countB_t Hh3.out
  have b4 := in_t Hh4.out
  have b5 := in_t h5
  clear h5 Hh1 Hh2 Hh3 Hh4
  have bx : (1 ≤ x0 ∧ x0 ≤ 12) ∧ (0 ≤ x1 ∧ x1 ≤ 12) ∧ (0 ≤ x2 ∧ x2 ≤ 12) := by omega
  clear b1
  obtain ⟨m1, hm1⟩ : ∃ m, (min (li - fl) (x0 + x1 - fl - ol - go)) = m := ⟨_, rfl⟩
  obtain ⟨cr, hcr⟩ : ∃ m, (max 0 m1) = m := ⟨_, rfl⟩
  obtain ⟨sp, hsp⟩ : ∃ m, (max 0 (fa + oa - (x0 - x2))) = m := ⟨_, rfl⟩
  obtain ⟨ro, hro⟩ : ∃ m, (if li < x0 then max 0 (ol - (x0 - li)) else ol) = m := ⟨_, rfl⟩
  obtain ⟨dr, hdr⟩ : ∃ m, (min ro (ol - oa)) = m := ⟨_, rfl⟩
  obtain ⟨m2, hm2⟩ : ∃ m, (min sp oa) = m := ⟨_, rfl⟩
  obtain ⟨da, hda⟩ : ∃ m, (min m2 (ro - dr)) = m := ⟨_, rfl⟩
  obtain ⟨df, hdf⟩ : ∃ m, (max 0 (fl - x0)) = m := ⟨_, rfl⟩
  have bm1 : -100 ≤ m1 ∧ m1 ≤ 30 := by omega
  have bcr : 0 ≤ cr ∧ cr ≤ 30 := by omega
  have bsp : 0 ≤ sp ∧ sp ≤ 100 := by omega
  have bro : 0 ≤ ro ∧ ro ≤ 30 := by split at hro <;> omega
  have bdr : 0 ≤ dr ∧ dr ≤ 30 := by omega
  have bm2 : 0 ≤ m2 ∧ m2 ≤ 30 := by omega
  have bda : 0 ≤ da ∧ da ≤ 30 := by omega
  have bdf : 0 ≤ df ∧ df ≤ 30 := by omega
  have brd : 0 ≤ ro - dr ∧ ro - dr ≤ 30 := by omega
  have HY : Hid (T = .tuple #[.agg #[.int .i64 cr, .int .i64 dr, .int .i64 da, .int .i64 df], .bool true]) := by
    show T = _
    rw [HT.out]
    refine planT_yes HP.out ?_ ?_ ?_ ?_
    · unfold crV; rw [hm1, hcr]
    · unfold drV roV; rw [hro, hdr]
    · unfold daV drV spV roV; rw [hsp, hro, hdr, hm2, hda]
    · exact hdf
  have Hm1 := Lib.hid hm1
  clear hm1
  have Hcr := Lib.hid hcr
  clear hcr
  have Hsp := Lib.hid hsp
  clear hsp
  have Hdr := Lib.hid hdr
  clear hdr
  have Hm2 := Lib.hid hm2
  clear hm2
  have Hda := Lib.hid hda
  clear hda
  have Hdf := Lib.hid hdf
  clear hdf
  have Hro := Lib.hid hro
  clear hro HT HP
  have c0 := box_cell KS.out 0 _ rfl
  have c1 := box_cell KS.out 1 _ rfl
  have c2 := box_cell KS.out 2 _ rfl
  have c3 := box_cell KS.out 3 _ rfl
  have c4 := box_cell KS.out 4 _ rfl
  have c5 := box_cell KS.out 5 _ rfl
  have c6 := box_cell KS.out 6 _ rfl
  have c7 := box_cell KS.out 7 _ rfl
  have c8 := box_cell KS.out 8 _ rfl
  have c9 := box_cell KS.out 9 _ rfl
  have c10 := box_cell KS.out 10 _ rfl
  have f0 := box_cell KF.out 0 _ rfl
  have g0 := box_cell KO.out 0 _ rfl
  have f1 := box_cell KF.out 1 _ rfl
  have g1 := box_cell KO.out 1 _ rfl
  go_wp2_with fail
  refine (least_at _ _ m1 Hm1.out _).mono ?_
  rintro e wq ⟨rfl, rfl⟩
  go_wp2_with fail
  refine (above_at m1 cr Hcr.out _).mono ?_
  rintro e wq ⟨rfl, rfl⟩
  have hpb : w.heap.size + 1 + 1 + 1 < wq.heap.size := box_lt KR.out
  obtain ⟨W1, hW1⟩ : ∃ W, W = wq.alloc (.cells #[.int .i64 cr, .int .i64 0, .int .i64 0, .int .i64 0] 55) := ⟨_, rfl⟩
  have KS' := Lib.hid (box_alloc KS.out (.cells #[.int .i64 cr, .int .i64 0, .int .i64 0, .int .i64 0] 55))
  rw [← hW1] at KS'
  have KF' := Lib.hid (box_alloc KF.out (.cells #[.int .i64 cr, .int .i64 0, .int .i64 0, .int .i64 0] 55))
  rw [← hW1] at KF'
  have KO' := Lib.hid (box_alloc KO.out (.cells #[.int .i64 cr, .int .i64 0, .int .i64 0, .int .i64 0] 55))
  rw [← hW1] at KO'
  have KR' := Lib.hid (box_alloc KR.out (.cells #[.int .i64 cr, .int .i64 0, .int .i64 0, .int .i64 0] 55))
  rw [← hW1] at KR'
  have KP : Hid (W1.heap[wq.heap.size]? = some (.cells #[.int .i64 cr, .int .i64 0, .int .i64 0, .int .i64 0] 55)) := by rw [hW1]; exact box_new wq _
  have HB' : Hid (Below w.heap.size w W1) := by rw [hW1]; exact HB.out.alloc HB.out.size _
  clear c0 c1 c2 c3 c4 c5 c6 c7 c8 c9 c10 f0 f1 g0 g1
  have c0 := box_cell (box_alloc KS.out (.cells #[.int .i64 cr, .int .i64 0, .int .i64 0, .int .i64 0] 55)) 0 _ rfl
  have c1 := box_cell (box_alloc KS.out (.cells #[.int .i64 cr, .int .i64 0, .int .i64 0, .int .i64 0] 55)) 1 _ rfl
  have c2 := box_cell (box_alloc KS.out (.cells #[.int .i64 cr, .int .i64 0, .int .i64 0, .int .i64 0] 55)) 2 _ rfl
  have c3 := box_cell (box_alloc KS.out (.cells #[.int .i64 cr, .int .i64 0, .int .i64 0, .int .i64 0] 55)) 3 _ rfl
  have c4 := box_cell (box_alloc KS.out (.cells #[.int .i64 cr, .int .i64 0, .int .i64 0, .int .i64 0] 55)) 4 _ rfl
  have c5 := box_cell (box_alloc KS.out (.cells #[.int .i64 cr, .int .i64 0, .int .i64 0, .int .i64 0] 55)) 5 _ rfl
  have c6 := box_cell (box_alloc KS.out (.cells #[.int .i64 cr, .int .i64 0, .int .i64 0, .int .i64 0] 55)) 6 _ rfl
  have c7 := box_cell (box_alloc KS.out (.cells #[.int .i64 cr, .int .i64 0, .int .i64 0, .int .i64 0] 55)) 7 _ rfl
  have c8 := box_cell (box_alloc KS.out (.cells #[.int .i64 cr, .int .i64 0, .int .i64 0, .int .i64 0] 55)) 8 _ rfl
  have c9 := box_cell (box_alloc KS.out (.cells #[.int .i64 cr, .int .i64 0, .int .i64 0, .int .i64 0] 55)) 9 _ rfl
  have c10 := box_cell (box_alloc KS.out (.cells #[.int .i64 cr, .int .i64 0, .int .i64 0, .int .i64 0] 55)) 10 _ rfl
  have f0 := box_cell (box_alloc KF.out (.cells #[.int .i64 cr, .int .i64 0, .int .i64 0, .int .i64 0] 55)) 0 _ rfl
  have g0 := box_cell (box_alloc KO.out (.cells #[.int .i64 cr, .int .i64 0, .int .i64 0, .int .i64 0] 55)) 0 _ rfl
  have f1 := box_cell (box_alloc KF.out (.cells #[.int .i64 cr, .int .i64 0, .int .i64 0, .int .i64 0] 55)) 1 _ rfl
  have g1 := box_cell (box_alloc KO.out (.cells #[.int .i64 cr, .int .i64 0, .int .i64 0, .int .i64 0] 55)) 1 _ rfl
  go_wp2_with fail
  rw [← hW1]
  clear hW1
  clear c0 c1 c2 c3 c4 c5 c6 c7 c8 c9 c10 f0 f1 g0 g1
  clear KS KF KO KR HB
  have KS := KS'
  have KF := KF'
  have KO := KO'
  have KR := KR'
  have HB := HB'
  clear KS' KF' KO' KR' HB'
  have c0 := box_cell KS.out 0 _ rfl
  have c1 := box_cell KS.out 1 _ rfl
  have c2 := box_cell KS.out 2 _ rfl
  have c3 := box_cell KS.out 3 _ rfl
  have c4 := box_cell KS.out 4 _ rfl
  have c5 := box_cell KS.out 5 _ rfl
  have c6 := box_cell KS.out 6 _ rfl
  have c7 := box_cell KS.out 7 _ rfl
  have c8 := box_cell KS.out 8 _ rfl
  have c9 := box_cell KS.out 9 _ rfl
  have c10 := box_cell KS.out 10 _ rfl
  have f0 := box_cell KF.out 0 _ rfl
  have g0 := box_cell KO.out 0 _ rfl
  have f1 := box_cell KF.out 1 _ rfl
  have g1 := box_cell KO.out 1 _ rfl
  refine (above_at _ sp Hsp.out _).mono ?_
  rintro e wz ⟨rfl, rfl⟩
  go_upto_if 78 with fail
  go_cut [14] (fun v wx => v = .int .i64 ro ∧ W1 = wx)
  case first =>
    by_cases hli : li < x0
    · have hr : Hid (max 0 (ol - (x0 - li)) = ro) := by have h := Hro.out; rw [if_pos hli] at h; exact h
      go_wp2_with fail
      refine (above_at _ ro hr.out _).mono ?_
      rintro e wz ⟨rfl, rfl⟩
      go_wp2_with fail
      go_meet
      case rel => exact ⟨rfl, rfl⟩
    · have hr : Hid (ol = ro) := by have h := Hro.out; rw [if_neg hli] at h; exact h
      go_wp2_with fail
      go_meet
      case rel => exact ⟨by rw [← hr.out], rfl⟩
  obtain ⟨rfl, hwx⟩ := hcut
  subst hwx
  clear Hro
  go_wp2_with fail
  refine (least_at ro (ol - oa) dr Hdr.out _).mono ?_
  rintro e wz ⟨rfl, rfl⟩
  have cz := box_cell KP.out 1 _ rfl
  have fz := box_frozen KP.out 1
  obtain ⟨W2, hW2⟩ : ∃ W, W = W1.setCell ⟨wq.heap.size, 1, none⟩ (.int .i64 dr) := ⟨_, rfl⟩
  have KP' : Hid (W2.heap[wq.heap.size]? = some (.cells #[.int .i64 cr, .int .i64 dr, .int .i64 0, .int .i64 0] 55)) := by show _ = _; have h := box_set (w := W1) (i := 1) KP.out (.int .i64 dr); rw [hW2]; simpa using h
  have KS' := Lib.hid (box_other (w := W1) KS.out ⟨wq.heap.size, 1, none⟩ (.int .i64 dr) (by show _ ≠ wq.heap.size; omega))
  rw [← hW2] at KS'
  have KF' := Lib.hid (box_other (w := W1) KF.out ⟨wq.heap.size, 1, none⟩ (.int .i64 dr) (by show _ ≠ wq.heap.size; omega))
  rw [← hW2] at KF'
  have KO' := Lib.hid (box_other (w := W1) KO.out ⟨wq.heap.size, 1, none⟩ (.int .i64 dr) (by show _ ≠ wq.heap.size; omega))
  rw [← hW2] at KO'
  have KR' := Lib.hid (box_other (w := W1) KR.out ⟨wq.heap.size, 1, none⟩ (.int .i64 dr) (by show _ ≠ wq.heap.size; omega))
  rw [← hW2] at KR'
  have HB' : Hid (Below w.heap.size w W2) := by rw [hW2]; exact Turned.low HB.out (Turned.set (S := fun k => k = wq.heap.size) _ ⟨wq.heap.size, 1, none⟩ _ rfl) (fun k hk => by omega) HB.out.size
  go_wp2_with fail
  rw [← hW2]
  clear hW2 cz fz KP
  have KP := KP'
  clear KP'
  clear c0 c1 c2 c3 c4 c5 c6 c7 c8 c9 c10 f0 f1 g0 g1
  clear KS KF KO KR HB
  have KS := KS'
  have KF := KF'
  have KO := KO'
  have KR := KR'
  have HB := HB'
  clear KS' KF' KO' KR' HB'
  have c0 := box_cell KS.out 0 _ rfl
  have c1 := box_cell KS.out 1 _ rfl
  have c2 := box_cell KS.out 2 _ rfl
  have c3 := box_cell KS.out 3 _ rfl
  have c4 := box_cell KS.out 4 _ rfl
  have c5 := box_cell KS.out 5 _ rfl
  have c6 := box_cell KS.out 6 _ rfl
  have c7 := box_cell KS.out 7 _ rfl
  have c8 := box_cell KS.out 8 _ rfl
  have c9 := box_cell KS.out 9 _ rfl
  have c10 := box_cell KS.out 10 _ rfl
  have f0 := box_cell KF.out 0 _ rfl
  have g0 := box_cell KO.out 0 _ rfl
  have f1 := box_cell KF.out 1 _ rfl
  have g1 := box_cell KO.out 1 _ rfl
  have p1 := box_cell KP.out 1 _ rfl
  have cz := box_cell KP.out 2 _ rfl
  have fz := box_frozen KP.out 2
  obtain ⟨W3a, hW3a⟩ : ∃ W, W = W2.setCell ⟨wq.heap.size, 2, none⟩ (.int .i64 da) := ⟨_, rfl⟩
  have KP' : Hid (W3a.heap[wq.heap.size]? = some (.cells #[.int .i64 cr, .int .i64 dr, .int .i64 da, .int .i64 0] 55)) := by show _ = _; have h := box_set (w := W2) (i := 2) KP.out (.int .i64 da); rw [hW3a]; simpa using h
  have KS' := Lib.hid (box_other (w := W2) KS.out ⟨wq.heap.size, 2, none⟩ (.int .i64 da) (by show _ ≠ wq.heap.size; omega))
  rw [← hW3a] at KS'
  have KF' := Lib.hid (box_other (w := W2) KF.out ⟨wq.heap.size, 2, none⟩ (.int .i64 da) (by show _ ≠ wq.heap.size; omega))
  rw [← hW3a] at KF'
  have KO' := Lib.hid (box_other (w := W2) KO.out ⟨wq.heap.size, 2, none⟩ (.int .i64 da) (by show _ ≠ wq.heap.size; omega))
  rw [← hW3a] at KO'
  have KR' := Lib.hid (box_other (w := W2) KR.out ⟨wq.heap.size, 2, none⟩ (.int .i64 da) (by show _ ≠ wq.heap.size; omega))
  rw [← hW3a] at KR'
  have HB' : Hid (Below w.heap.size w W3a) := by rw [hW3a]; exact Turned.low HB.out (Turned.set (S := fun k => k = wq.heap.size) _ ⟨wq.heap.size, 2, none⟩ _ rfl) (fun k hk => by omega) HB.out.size
  have hwd : IntKind.i64.wrap (ro - dr) = ro - dr := IntWalk.i64_in _ ⟨by omega, by omega⟩
  go_region_held3 (fun w' => w'.cell? ⟨w.heap.size + 1 + 1, 1, none⟩ = some (.int .i64 oa) ∧ w'.cell? ⟨wq.heap.size, 1, none⟩ = some (.int .i64 dr))
    (first | exact ⟨g1, p1⟩ | (go_keep; done) | exact ⟨by simp [go_sem, g1], by simp [go_sem, p1]⟩)
    (first | (go_at_call 34; refine (least_at m2 (ro - dr) da Hda.out _).mono ?_; rintro e wz ⟨rfl, rfl⟩) | (go_at_call 34; refine (least_at sp oa m2 Hm2.out _).mono ?_; rintro e wz ⟨rfl, rfl⟩))
  all_goals
    rw [← hW3a]
    clear hW3a cz fz KP p1
    obtain ⟨W3, hW3⟩ : ∃ W, W = W3a.drew := ⟨_, rfl⟩
    rw [← hW3]
    have KS2 := Lib.hid (box_drew KS'.out)
    rw [← hW3] at KS2
    have KF2 := Lib.hid (box_drew KF'.out)
    rw [← hW3] at KF2
    have KO2 := Lib.hid (box_drew KO'.out)
    rw [← hW3] at KO2
    have KR2 := Lib.hid (box_drew KR'.out)
    rw [← hW3] at KR2
    have KP2 := Lib.hid (box_drew KP'.out)
    rw [← hW3] at KP2
    have HB2 : Hid (Below w.heap.size w W3) := by rw [hW3]; exact HB'.out.drew
    clear hW3 KS' KF' KO' KR' HB HB' KP' KS KF KO KR
    clear c0 c1 c2 c3 c4 c5 c6 c7 c8 c9 c10 f0 f1 g0 g1
    have KS := KS2
    have KF := KF2
    have KO := KO2
    have KR := KR2
    have KP := KP2
    have HB := HB2
    clear KS2 KF2 KO2 KR2 KP2 HB2
    have c0 := box_cell KS.out 0 _ rfl
    have c1 := box_cell KS.out 1 _ rfl
    have c2 := box_cell KS.out 2 _ rfl
    have c3 := box_cell KS.out 3 _ rfl
    have c4 := box_cell KS.out 4 _ rfl
    have c5 := box_cell KS.out 5 _ rfl
    have c6 := box_cell KS.out 6 _ rfl
    have c7 := box_cell KS.out 7 _ rfl
    have c8 := box_cell KS.out 8 _ rfl
    have c9 := box_cell KS.out 9 _ rfl
    have c10 := box_cell KS.out 10 _ rfl
    have f0 := box_cell KF.out 0 _ rfl
    have g0 := box_cell KO.out 0 _ rfl
    have f1 := box_cell KF.out 1 _ rfl
    have g1 := box_cell KO.out 1 _ rfl
    go_wp2_with fail
    refine (above_at (fl - x0) df Hdf.out _).mono ?_
    rintro e wz ⟨rfl, rfl⟩
    have cz := box_cell KP.out 3 _ rfl
    have fz := box_frozen KP.out 3
    have K4 : (W3.setCell ⟨wq.heap.size, 3, none⟩ (.int .i64 df)).heap[wq.heap.size]? = some (.cells #[.int .i64 cr, .int .i64 dr, .int .i64 da, .int .i64 df] 55) := by have h := box_set (w := W3) (i := 3) KP.out (.int .i64 df); simpa using h
    have k0 := box_cell K4 0 _ rfl
    have k1 := box_cell K4 1 _ rfl
    have k2 := box_cell K4 2 _ rfl
    have k3 := box_cell K4 3 _ rfl
    have KR4 := box_other (w := W3) KR.out ⟨wq.heap.size, 3, none⟩ (.int .i64 df) (by show _ ≠ wq.heap.size; omega)
    have RB := setRow_box (vs := #[.int .i64 cr, .int .i64 dr, .int .i64 da, .int .i64 df]) KR4
    have r0 := box_cell RB 0 _ rfl
    have r1 := box_cell RB 1 _ rfl
    have r2 := box_cell RB 2 _ rfl
    have r3 := box_cell RB 3 _ rfl
    have HB4 : Below w.heap.size w (W3.setCell ⟨wq.heap.size, 3, none⟩ (.int .i64 df)) := Turned.low HB.out (Turned.set (S := fun k => k = wq.heap.size) _ ⟨wq.heap.size, 3, none⟩ _ rfl) (fun k hk => by omega) HB.out.size
    have HBF := Lib.hid (setRow_below HB4 (w.heap.size + 1 + 1 + 1) #[.int .i64 cr, .int .i64 dr, .int .i64 da, .int .i64 df] (by omega) HB4.size)
    go_wp2_with (refine wpList_put rfl rfl 55 _ _ rfl (w.heap.size + 1 + 1 + 1) _ rfl rfl _ _ KR4 (Try.sizeOf55 _) rfl (by simp [Value.oneCell']) ?_)
    exact bodyPost_ret (v := .tuple #[.agg #[.int .i64 cr, .int .i64 dr, .int .i64 da, .int .i64 df], .bool true]) (by simp [results, Try.results28, go_sem, r0, r1, r2, r3]) rfl ⟨by rw [HY.out], HBF.out⟩
end Go.Proofs.Ytlghdmakaocokaa.Cnt
