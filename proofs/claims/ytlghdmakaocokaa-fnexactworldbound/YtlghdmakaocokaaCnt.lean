/-
  COUNTS AND PLANS over this seat's translation: as arguments; what the model's CountOk, Ceiling, Floor, LimitOf, PlanOver and PlanStep answer.
-/
import Derived.Test.YtlghdmakaocokaaSp
import Derived.Test.YtlghdmakaocokaaTick2
import Derived.Test.YtlghdmakaocokaaPut
import Derived.Deep.RegionHeld3
import Derived.Deep.DeepCutAuto
import Derived.Deep.Cut
namespace Go.Proofs.Ytlghdmakaocokaa.Cnt
open Go.ChangeShapes Go.WideShapes Go.ChangeAt Go.RowKit
open Go.Proofs.Ytlghdmakaocokaa.LK Go.Proofs.Ytlghdmakaocokaa.Sp Go.Proofs.Ytlghdmakaocokaa.Put
open Go.Proofs.Ytlghdmakaocokaa.Tick (inB in_t in_f l01In_any)
set_option linter.unusedVariables false
set_option linter.unusedSimpArgs false
def countB (l a : Int) : Bool := inB l 0 30 && inB a 0 l
theorem countB_t {l a : Int} (h : countB l a = true) : (0 ≤ l ∧ l ≤ 30) ∧ (0 ≤ a ∧ a ≤ l) := by
  simp only [countB, inB, Bool.and_eq_true, decide_eq_true_eq] at h
  omega
def ceilV (x0 x1 x2 x3 x4 x5 x6 x7 x8 x9 x10 : Int) : Int := if specB x0 x1 x2 x3 x4 x5 x6 x7 x8 x9 x10 then x0 + x1 else -1
def floorV (x0 x1 x2 x3 x4 x5 x6 x7 x8 x9 x10 : Int) : Int := if specB x0 x1 x2 x3 x4 x5 x6 x7 x8 x9 x10 then x0 - x2 else -1
def limV (x0 x1 x2 x3 x4 x5 x6 x7 x8 x9 x10 : Int) (b : Bool) : Int := if specB x0 x1 x2 x3 x4 x5 x6 x7 x8 x9 x10 then (if 0 < x9 ∧ b = false then x9 else x0) else 0
def overB (x0 x1 x2 x3 x4 x5 x6 x7 x8 x9 x10 fl fa ol oa go : Int) : Bool := specB x0 x1 x2 x3 x4 x5 x6 x7 x8 x9 x10 && countB fl fa && countB ol oa && decide (fl = x0) && decide (fa = x0) && decide (ol = 0) && decide (go = 0)
def planB (x0 x1 x2 x3 x4 x5 x6 x7 x8 x9 x10 fl fa ol oa go li : Int) : Bool := specB x0 x1 x2 x3 x4 x5 x6 x7 x8 x9 x10 && countB fl fa && countB ol oa && inB go 0 30 && inB li 0 x0
def crV (r s fl ol go li : Int) : Int := max 0 (min (li - fl) (r + s - fl - ol - go))
def spV (r o fa oa : Int) : Int := max 0 (fa + oa - (r - o))
def roV (r ol li : Int) : Int := if li < r then max 0 (ol - (r - li)) else ol
def drV (r ol oa li : Int) : Int := min (roV r ol li) (ol - oa)
def daV (r o fa ol oa li : Int) : Int := min (min (spV r o fa oa) oa) (roV r ol li - drV r ol oa li)
def dfV (r fl : Int) : Int := max 0 (fl - r)
def planT (x0 x1 x2 x3 x4 x5 x6 x7 x8 x9 x10 fl fa ol oa go li : Int) : Value := if planB x0 x1 x2 x3 x4 x5 x6 x7 x8 x9 x10 fl fa ol oa go li then .tuple #[.agg #[.int .i64 (crV x0 x1 fl ol go li), .int .i64 (drV x0 ol oa li), .int .i64 (daV x0 x2 fa ol oa li), .int .i64 (dfV x0 fl)], .bool true] else .tuple #[.agg #[.int .i64 0, .int .i64 0, .int .i64 0, .int .i64 0], .bool false]
set_option maxHeartbeats 1600000 in
theorem specCountOk_any (l a : Int) (w : World) : Calls Try.prog 32 #[.agg #[.int .i64 l, .int .i64 a]] w (Says (.bool (countB l a)) w) := by
  obtain ⟨V, hV⟩ : ∃ V, V = w.alloc (.cells #[.int .i64 l, .int .i64 a] 52) := ⟨_, rfl⟩
  have hbV : Below w.heap.size w V := by rw [hV]; exact bel1 _ _
  have KC : Hid (V.heap[w.heap.size]? = some (.cells #[.int .i64 l, .int .i64 a] 52)) := by rw [hV]; exact box_new w _
  have c0 := box_cell KC.out 0 _ rfl
  have c1 := box_cell KC.out 1 _ rfl
  go_enter Try.func32, Try.ntmps32
  go_wp2_with fail
  rw [← hV]
  clear hV
  refine (l01In_any _ _ _ _).mono ?_
  rintro e w' ⟨rfl, rfl⟩
  cases h1 : inB l 0 30
  · go_wp2
    go_ret
    exact ⟨by simp [countB, h1], hbV⟩
  · go_wp2_with fail
    refine (l01In_any _ _ _ _).mono ?_
    rintro e w' ⟨rfl, rfl⟩
    go_wp2
    go_ret
    exact ⟨by simp [countB, h1], hbV⟩
theorem least_any (a b : Int) (w : World) : Calls Try.prog 34 #[.int .i64 a, .int .i64 b] w fun e w' => e = .returned (.int .i64 (min a b)) ∧ w = w' := by
  by_cases h : a < b
  · have hv : min a b = a := by omega
    rw [hv]
    clear hv
    go_enter Try.func34, Try.ntmps34
    go_wp2
    go_ret
    exact ⟨rfl, rfl⟩
  · have hv : min a b = b := by omega
    rw [hv]
    clear hv
    go_enter Try.func34, Try.ntmps34
    go_wp2
    go_ret
    exact ⟨rfl, rfl⟩
theorem above_any (a : Int) (w : World) : Calls Try.prog 33 #[.int .i64 a] w fun e w' => e = .returned (.int .i64 (max 0 a)) ∧ w = w' := by
  by_cases h : a < 0
  · have hv : max 0 a = 0 := by omega
    rw [hv]
    clear hv
    go_enter Try.func33, Try.ntmps33
    go_wp2
    go_ret
    exact ⟨rfl, rfl⟩
  · have hv : max 0 a = a := by omega
    rw [hv]
    clear hv
    go_enter Try.func33, Try.ntmps33
    go_wp2
    go_ret
    exact ⟨rfl, rfl⟩
set_option maxRecDepth 100000 in
set_option maxHeartbeats 6400000 in
theorem specPlanOver_any (x0 x1 x2 x3 x4 x5 x6 x7 x8 x9 x10 fl fa ol oa go : Int) (w : World) : Calls Try.prog 27 #[.agg #[.int .i64 x0, .int .i64 x1, .int .i64 x2, .int .i64 x3, .int .i64 x4, .int .i64 x5, .int .i64 x6, .int .i64 x7, .int .i64 x8, .int .i64 x9, .int .i64 x10], .agg #[.int .i64 fl, .int .i64 fa], .agg #[.int .i64 ol, .int .i64 oa], .int .i64 go] w (Says (.bool (overB x0 x1 x2 x3 x4 x5 x6 x7 x8 x9 x10 fl fa ol oa go)) w) := by
  obtain ⟨R, hR⟩ : ∃ R, R = overB x0 x1 x2 x3 x4 x5 x6 x7 x8 x9 x10 fl fa ol oa go := ⟨_, rfl⟩
  rw [← hR]
  have HR := Lib.hid hR
  clear hR
  obtain ⟨V, hV⟩ : ∃ V, V = ((w.alloc (.cells #[.int .i64 x0, .int .i64 x1, .int .i64 x2, .int .i64 x3, .int .i64 x4, .int .i64 x5, .int .i64 x6, .int .i64 x7, .int .i64 x8, .int .i64 x9, .int .i64 x10] 38)).alloc (.cells #[.int .i64 fl, .int .i64 fa] 52)).alloc (.cells #[.int .i64 ol, .int .i64 oa] 52) := ⟨_, rfl⟩
  have hbV : Below w.heap.size w V := by rw [hV]; exact bel3 _ _ _ _
  have KS : Hid (V.heap[w.heap.size]? = some (.cells #[.int .i64 x0, .int .i64 x1, .int .i64 x2, .int .i64 x3, .int .i64 x4, .int .i64 x5, .int .i64 x6, .int .i64 x7, .int .i64 x8, .int .i64 x9, .int .i64 x10] 38)) := by have h := box_alloc (box_alloc (box_new w (.cells #[.int .i64 x0, .int .i64 x1, .int .i64 x2, .int .i64 x3, .int .i64 x4, .int .i64 x5, .int .i64 x6, .int .i64 x7, .int .i64 x8, .int .i64 x9, .int .i64 x10] 38)) (.cells #[.int .i64 fl, .int .i64 fa] 52)) (.cells #[.int .i64 ol, .int .i64 oa] 52); (try simp only [World.size_alloc] at h); rw [hV]; exact h
  have KF : Hid (V.heap[w.heap.size + 1]? = some (.cells #[.int .i64 fl, .int .i64 fa] 52)) := by have h := box_alloc (box_new (w.alloc (.cells #[.int .i64 x0, .int .i64 x1, .int .i64 x2, .int .i64 x3, .int .i64 x4, .int .i64 x5, .int .i64 x6, .int .i64 x7, .int .i64 x8, .int .i64 x9, .int .i64 x10] 38)) (.cells #[.int .i64 fl, .int .i64 fa] 52)) (.cells #[.int .i64 ol, .int .i64 oa] 52); (try simp only [World.size_alloc] at h); rw [hV]; exact h
  have KO : Hid (V.heap[w.heap.size + 1 + 1]? = some (.cells #[.int .i64 ol, .int .i64 oa] 52)) := by have h := box_new ((w.alloc (.cells #[.int .i64 x0, .int .i64 x1, .int .i64 x2, .int .i64 x3, .int .i64 x4, .int .i64 x5, .int .i64 x6, .int .i64 x7, .int .i64 x8, .int .i64 x9, .int .i64 x10] 38)).alloc (.cells #[.int .i64 fl, .int .i64 fa] 52)) (.cells #[.int .i64 ol, .int .i64 oa] 52); (try simp only [World.size_alloc] at h); rw [hV]; exact h
  have HB := Lib.hid hbV
  clear hbV
  go_enter Try.func27, Try.ntmps27
  have c0 := box_cell KS.out 0 _ rfl
  have c1 := box_cell KS.out 1 _ rfl
  have c2 := box_cell KS.out 2 _ rfl
  have c3 := box_cell KS.out 3 _ rfl
  have c4 := box_cell KS.out 4 _ rfl
  have c5 := box_cell KS.out 5 _ rfl
  have c6 := box_cell KS.out 6 _ rfl
  have c7 := box_cell KS.out 7 _ rfl
  have c8 := box_cell KS.out 8 _ rfl
  have c9 := box_cell KS.out 9 _ rfl
  have c10 := box_cell KS.out 10 _ rfl
  have f0 := box_cell KF.out 0 _ rfl
  have g0 := box_cell KO.out 0 _ rfl
  have f1 := box_cell KF.out 1 _ rfl
  have g1 := box_cell KO.out 1 _ rfl
  go_wp2_with fail
  rw [← hV]
  clear hV
  refine (specSpecOk_any x0 x1 x2 x3 x4 x5 x6 x7 x8 x9 x10 _).mono ?_
  rintro e wq ⟨rfl, hb⟩
  have KS' := Lib.hid (box_below KS.out hb)
  have KF' := Lib.hid (box_below KF.out hb)
  have KO' := Lib.hid (box_below KO.out hb)
  have HB' := Lib.hid (bel_then HB.out hb HB.out.size)
  clear KS KF KO HB hb
  have KS := KS'
  have KF := KF'
  have KO := KO'
  have HB := HB'
  clear KS' KF' KO' HB'
  clear c0 c1 c2 c3 c4 c5 c6 c7 c8 c9 c10 f0 f1 g0 g1
  cases h1 : specB x0 x1 x2 x3 x4 x5 x6 x7 x8 x9 x10
  · have HV : Hid (R = false) := by show R = false; rw [HR.out]; simp [overB, h1]
    go_wp2
    go_ret
    exact ⟨by rw [HV.out]; rfl, HB.out⟩
  have c0 := box_cell KS.out 0 _ rfl
  have c1 := box_cell KS.out 1 _ rfl
  have c2 := box_cell KS.out 2 _ rfl
  have c3 := box_cell KS.out 3 _ rfl
  have c4 := box_cell KS.out 4 _ rfl
  have c5 := box_cell KS.out 5 _ rfl
  have c6 := box_cell KS.out 6 _ rfl
  have c7 := box_cell KS.out 7 _ rfl
  have c8 := box_cell KS.out 8 _ rfl
  have c9 := box_cell KS.out 9 _ rfl
  have c10 := box_cell KS.out 10 _ rfl
  have f0 := box_cell KF.out 0 _ rfl
  have g0 := box_cell KO.out 0 _ rfl
  have f1 := box_cell KF.out 1 _ rfl
  have g1 := box_cell KO.out 1 _ rfl
  have H1 := Lib.hid h1
  clear h1
  go_wp2_with fail
  refine (specCountOk_any fl fa _).mono ?_
  rintro e wq ⟨rfl, hb⟩
  have KS' := Lib.hid (box_below KS.out hb)
  have KF' := Lib.hid (box_below KF.out hb)
  have KO' := Lib.hid (box_below KO.out hb)
  have HB' := Lib.hid (bel_then HB.out hb HB.out.size)
  clear KS KF KO HB hb
  have KS := KS'
  have KF := KF'
  have KO := KO'
  have HB := HB'
  clear KS' KF' KO' HB'
  clear c0 c1 c2 c3 c4 c5 c6 c7 c8 c9 c10 f0 f1 g0 g1
  cases h2 : countB fl fa
  · have HV : Hid (R = false) := by show R = false; rw [HR.out]; simp [overB, h2]
    go_wp2
    go_ret
    exact ⟨by rw [HV.out]; rfl, HB.out⟩
  have c0 := box_cell KS.out 0 _ rfl
  have c1 := box_cell KS.out 1 _ rfl
  have c2 := box_cell KS.out 2 _ rfl
  have c3 := box_cell KS.out 3 _ rfl
  have c4 := box_cell KS.out 4 _ rfl
  have c5 := box_cell KS.out 5 _ rfl
  have c6 := box_cell KS.out 6 _ rfl
  have c7 := box_cell KS.out 7 _ rfl
  have c8 := box_cell KS.out 8 _ rfl
  have c9 := box_cell KS.out 9 _ rfl
  have c10 := box_cell KS.out 10 _ rfl
  have f0 := box_cell KF.out 0 _ rfl
  have g0 := box_cell KO.out 0 _ rfl
  have f1 := box_cell KF.out 1 _ rfl
  have g1 := box_cell KO.out 1 _ rfl
  have H2 := Lib.hid h2
  clear h2
  go_wp2_with fail
  refine (specCountOk_any ol oa _).mono ?_
  rintro e wq ⟨rfl, hb⟩
  have KS' := Lib.hid (box_below KS.out hb)
  have KF' := Lib.hid (box_below KF.out hb)
  have KO' := Lib.hid (box_below KO.out hb)
  have HB' := Lib.hid (bel_then HB.out hb HB.out.size)
  clear KS KF KO HB hb
  have KS := KS'
  have KF := KF'
  have KO := KO'
  have HB := HB'
  clear KS' KF' KO' HB'
  clear c0 c1 c2 c3 c4 c5 c6 c7 c8 c9 c10 f0 f1 g0 g1
  cases h3 : countB ol oa
  · have HV : Hid (R = false) := by show R = false; rw [HR.out]; simp [overB, h3]
    go_wp2
    go_ret
    exact ⟨by rw [HV.out]; rfl, HB.out⟩
  have c0 := box_cell KS.out 0 _ rfl
  have c1 := box_cell KS.out 1 _ rfl
  have c2 := box_cell KS.out 2 _ rfl
  have c3 := box_cell KS.out 3 _ rfl
  have c4 := box_cell KS.out 4 _ rfl
  have c5 := box_cell KS.out 5 _ rfl
  have c6 := box_cell KS.out 6 _ rfl
  have c7 := box_cell KS.out 7 _ rfl
  have c8 := box_cell KS.out 8 _ rfl
  have c9 := box_cell KS.out 9 _ rfl
  have c10 := box_cell KS.out 10 _ rfl
  have f0 := box_cell KF.out 0 _ rfl
  have g0 := box_cell KO.out 0 _ rfl
  have f1 := box_cell KF.out 1 _ rfl
  have g1 := box_cell KO.out 1 _ rfl
  have H3 := Lib.hid h3
  clear h3
  by_cases q1 : fl = x0 <;> by_cases q2 : fa = x0 <;> by_cases q3 : ol = 0 <;> by_cases q4 : go = 0
  all_goals
    have HV : Hid (R = (decide (fl = x0) && decide (fa = x0) && decide (ol = 0) && decide (go = 0))) := by show R = _; rw [HR.out]; simp [overB, H1.out, H2.out, H3.out]
    go_wp2
    go_ret
    exact ⟨by rw [HV.out]; simp [q1, q2, q3, q4] <;> rfl, HB.out⟩
end Go.Proofs.Ytlghdmakaocokaa.Cnt
