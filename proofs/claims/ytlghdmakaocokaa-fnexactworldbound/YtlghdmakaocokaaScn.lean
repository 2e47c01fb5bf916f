/-
  THE SCENE OF A STEP over this seat's translation: its ok, alive, spare and room.
-/
import Derived.Test.YtlghdmakaocokaaCntI
import Derived.Test.YtlghdmakaocokaaPlanS
import Derived.Test.YtlghdmakaocokaaPlanF
import Derived.Test.YtlghdmakaocokaaEachI
import Derived.Deep.RegionHeld3
namespace Go.Proofs.Ytlghdmakaocokaa.Scn
open Go.ChangeShapes Go.WideShapes Go.ChangeAt Go.RowKit
open Go.Proofs.Ytlghdmakaocokaa.LK Go.Proofs.Ytlghdmakaocokaa.Sp Go.Proofs.Ytlghdmakaocokaa.Put Go.Proofs.Ytlghdmakaocokaa.Cnt Go.Proofs.Ytlghdmakaocokaa.Each
open Go.Proofs.Ytlghdmakaocokaa.Tick (inB in_t in_f)
set_option linter.unusedVariables false
set_option linter.unusedSimpArgs false
/-- A scene, as a value and as cells. -/
def scV (x0 x1 x2 x3 x4 x5 x6 x7 x8 x9 x10 fl fa ol oa go li : Int) : Value := .agg #[.int .i64 x0, .int .i64 x1, .int .i64 x2, .int .i64 x3, .int .i64 x4, .int .i64 x5, .int .i64 x6, .int .i64 x7, .int .i64 x8, .int .i64 x9, .int .i64 x10, .int .i64 fl, .int .i64 fa, .int .i64 ol, .int .i64 oa, .int .i64 go, .int .i64 li]
set_option maxRecDepth 100000 in
set_option maxHeartbeats 3200000 in
theorem alive_any (x0 x1 x2 x3 x4 x5 x6 x7 x8 x9 x10 fl fa ol oa go li : Int) (w : World) (hb : (0 ≤ fl ∧ fl ≤ 30) ∧ (0 ≤ ol ∧ ol ≤ 30) ∧ (0 ≤ go ∧ go ≤ 30)) : Calls Try.prog 44 #[.agg #[.int .i64 x0, .int .i64 x1, .int .i64 x2, .int .i64 x3, .int .i64 x4, .int .i64 x5, .int .i64 x6, .int .i64 x7, .int .i64 x8, .int .i64 x9, .int .i64 x10, .int .i64 fl, .int .i64 fa, .int .i64 ol, .int .i64 oa, .int .i64 go, .int .i64 li]] w (Says (.int .i64 (fl + ol + go)) w) := by
  obtain ⟨V, hV⟩ : ∃ V, V = w.alloc (.cells #[.int .i64 x0, .int .i64 x1, .int .i64 x2, .int .i64 x3, .int .i64 x4, .int .i64 x5, .int .i64 x6, .int .i64 x7, .int .i64 x8, .int .i64 x9, .int .i64 x10, .int .i64 fl, .int .i64 fa, .int .i64 ol, .int .i64 oa, .int .i64 go, .int .i64 li] 63) := ⟨_, rfl⟩
  have HBV : Hid (Below w.heap.size w V) := by show Below _ _ _; rw [hV]; exact bel1 _ _
  have KS : Hid (V.heap[w.heap.size]? = some (.cells #[.int .i64 x0, .int .i64 x1, .int .i64 x2, .int .i64 x3, .int .i64 x4, .int .i64 x5, .int .i64 x6, .int .i64 x7, .int .i64 x8, .int .i64 x9, .int .i64 x10, .int .i64 fl, .int .i64 fa, .int .i64 ol, .int .i64 oa, .int .i64 go, .int .i64 li] 63)) := by rw [hV]; exact box_new w _
  obtain ⟨b1, b2, b3⟩ := hb
  have hw1 : IntKind.i64.wrap (fl + ol) = fl + ol := IntWalk.i64_in _ ⟨by omega, by omega⟩
  have hw2 : IntKind.i64.wrap (fl + ol + go) = fl + ol + go := IntWalk.i64_in _ ⟨by omega, by omega⟩
  go_enter Try.func44, Try.ntmps44
  have HB := Lib.hid (bel1 w (.cells #[.int .i64 x0, .int .i64 x1, .int .i64 x2, .int .i64 x3, .int .i64 x4, .int .i64 x5, .int .i64 x6, .int .i64 x7, .int .i64 x8, .int .i64 x9, .int .i64 x10, .int .i64 fl, .int .i64 fa, .int .i64 ol, .int .i64 oa, .int .i64 go, .int .i64 li] 63))
  go_wp2
  go_ret
  exact ⟨rfl, HB.out⟩
set_option maxRecDepth 100000 in
set_option maxHeartbeats 3200000 in
theorem room_any (x0 x1 x2 x3 x4 x5 x6 x7 x8 x9 x10 fl fa ol oa go li : Int) (w : World) (hb : (0 ≤ x0 ∧ x0 ≤ 12) ∧ (0 ≤ ol ∧ ol ≤ 30) ∧ (0 ≤ li ∧ li ≤ x0)) : Calls Try.prog 46 #[.agg #[.int .i64 x0, .int .i64 x1, .int .i64 x2, .int .i64 x3, .int .i64 x4, .int .i64 x5, .int .i64 x6, .int .i64 x7, .int .i64 x8, .int .i64 x9, .int .i64 x10, .int .i64 fl, .int .i64 fa, .int .i64 ol, .int .i64 oa, .int .i64 go, .int .i64 li]] w (Says (.int .i64 (roV x0 ol li)) w) := by
  obtain ⟨V, hV⟩ : ∃ V, V = w.alloc (.cells #[.int .i64 x0, .int .i64 x1, .int .i64 x2, .int .i64 x3, .int .i64 x4, .int .i64 x5, .int .i64 x6, .int .i64 x7, .int .i64 x8, .int .i64 x9, .int .i64 x10, .int .i64 fl, .int .i64 fa, .int .i64 ol, .int .i64 oa, .int .i64 go, .int .i64 li] 63) := ⟨_, rfl⟩
  have HBV : Hid (Below w.heap.size w V) := by show Below _ _ _; rw [hV]; exact bel1 _ _
  have KS : Hid (V.heap[w.heap.size]? = some (.cells #[.int .i64 x0, .int .i64 x1, .int .i64 x2, .int .i64 x3, .int .i64 x4, .int .i64 x5, .int .i64 x6, .int .i64 x7, .int .i64 x8, .int .i64 x9, .int .i64 x10, .int .i64 fl, .int .i64 fa, .int .i64 ol, .int .i64 oa, .int .i64 go, .int .i64 li] 63)) := by rw [hV]; exact box_new w _
  obtain ⟨b1, b2, b3⟩ := hb
  have hw1 : IntKind.i64.wrap (x0 - li) = x0 - li := IntWalk.i64_in _ ⟨by omega, by omega⟩
  have hro : max 0 (ol - (x0 - li)) = roV x0 ol li := by unfold roV; split <;> omega
  have HA : Hid (∀ W : World, Calls Try.prog 42 #[.int .i64 ol, .int .i64 (x0 - li)] W (Says (.int .i64 (roV x0 ol li)) W)) := fun W => above_any ol (x0 - li) _ _ W rfl (by omega) hro
  clear hro
  go_enter Try.func46, Try.ntmps46
  go_wp2_with fail
  rw [← hV]
  clear hV
  refine (HA.out _).mono ?_
  rintro e w1 ⟨rfl, hb⟩
  have HB := Lib.hid (bel_then HBV.out hb HBV.out.size)
  clear hb
  go_wp2
  go_ret
  exact ⟨rfl, HB.out⟩
set_option maxRecDepth 100000 in
set_option maxHeartbeats 3200000 in
theorem spare_any (x0 x1 x2 x3 x4 x5 x6 x7 x8 x9 x10 fl fa ol oa go li : Int) (w : World) (hs : specB x0 x1 x2 x3 x4 x5 x6 x7 x8 x9 x10 = true) (hb : (0 ≤ fa ∧ fa ≤ 30) ∧ (0 ≤ oa ∧ oa ≤ 30)) : Calls Try.prog 48 #[.agg #[.int .i64 x0, .int .i64 x1, .int .i64 x2, .int .i64 x3, .int .i64 x4, .int .i64 x5, .int .i64 x6, .int .i64 x7, .int .i64 x8, .int .i64 x9, .int .i64 x10, .int .i64 fl, .int .i64 fa, .int .i64 ol, .int .i64 oa, .int .i64 go, .int .i64 li]] w (Says (.int .i64 (spV x0 x2 fa oa)) w) := by
  obtain ⟨V, hV⟩ : ∃ V, V = w.alloc (.cells #[.int .i64 x0, .int .i64 x1, .int .i64 x2, .int .i64 x3, .int .i64 x4, .int .i64 x5, .int .i64 x6, .int .i64 x7, .int .i64 x8, .int .i64 x9, .int .i64 x10, .int .i64 fl, .int .i64 fa, .int .i64 ol, .int .i64 oa, .int .i64 go, .int .i64 li] 63) := ⟨_, rfl⟩
  have HBV : Hid (Below w.heap.size w V) := by show Below _ _ _; rw [hV]; exact bel1 _ _
  have KS : Hid (V.heap[w.heap.size]? = some (.cells #[.int .i64 x0, .int .i64 x1, .int .i64 x2, .int .i64 x3, .int .i64 x4, .int .i64 x5, .int .i64 x6, .int .i64 x7, .int .i64 x8, .int .i64 x9, .int .i64 x10, .int .i64 fl, .int .i64 fa, .int .i64 ol, .int .i64 oa, .int .i64 go, .int .i64 li] 63)) := by rw [hV]; exact box_new w _
  obtain ⟨b1, b2⟩ := hb
  have hbd := specB_t hs
  have bx : (0 ≤ x0 ∧ x0 ≤ 12) ∧ (0 ≤ x2 ∧ x2 ≤ 12) := by omega
  clear hbd
  have hw1 : IntKind.i64.wrap (fa + oa) = fa + oa := IntWalk.i64_in _ ⟨by omega, by omega⟩
  obtain ⟨flo, hflo⟩ : ∃ z, z = x0 - x2 := ⟨_, rfl⟩
  have bf : -12 ≤ flo ∧ flo ≤ 12 := by omega
  have hsp : max 0 (fa + oa - flo) = spV x0 x2 fa oa := by unfold spV; rw [hflo]
  have HA : Hid (∀ W : World, Calls Try.prog 42 #[.int .i64 (fa + oa), .int .i64 flo] W (Says (.int .i64 (spV x0 x2 fa oa)) W)) := fun W => above_any (fa + oa) flo _ _ W rfl (by omega) hsp
  have HF : Hid (∀ W : World, Calls Try.prog 52 #[.agg #[.int .i64 x0, .int .i64 x1, .int .i64 x2, .int .i64 x3, .int .i64 x4, .int .i64 x5, .int .i64 x6, .int .i64 x7, .int .i64 x8, .int .i64 x9, .int .i64 x10]] W (Says (.int .i64 flo) W)) := fun W => by have h := Floor_any x0 x1 x2 x3 x4 x5 x6 x7 x8 x9 x10 W; unfold floorV at h; rw [if_pos hs, ← hflo] at h; exact h
  clear hsp hflo hs
  have c0 := box_cell KS.out 0 _ rfl
  have c1 := box_cell KS.out 1 _ rfl
  have c2 := box_cell KS.out 2 _ rfl
  have c3 := box_cell KS.out 3 _ rfl
  have c4 := box_cell KS.out 4 _ rfl
  have c5 := box_cell KS.out 5 _ rfl
  have c6 := box_cell KS.out 6 _ rfl
  have c7 := box_cell KS.out 7 _ rfl
  have c8 := box_cell KS.out 8 _ rfl
  have c9 := box_cell KS.out 9 _ rfl
  have c10 := box_cell KS.out 10 _ rfl
  have c11 := box_cell KS.out 11 _ rfl
  have c12 := box_cell KS.out 12 _ rfl
  have c13 := box_cell KS.out 13 _ rfl
  have c14 := box_cell KS.out 14 _ rfl
  have c15 := box_cell KS.out 15 _ rfl
  have c16 := box_cell KS.out 16 _ rfl
  go_enter Try.func48, Try.ntmps48
  go_wp2_with fail
  rw [← hV]
  clear hV
  go_region_held3 (fun w' => w'.cell? ⟨w.heap.size, 0, none⟩ = some (.int .i64 x0) ∧ w'.cell? ⟨w.heap.size, 1, none⟩ = some (.int .i64 x1) ∧ w'.cell? ⟨w.heap.size, 2, none⟩ = some (.int .i64 x2) ∧ w'.cell? ⟨w.heap.size, 3, none⟩ = some (.int .i64 x3) ∧ w'.cell? ⟨w.heap.size, 4, none⟩ = some (.int .i64 x4) ∧ w'.cell? ⟨w.heap.size, 5, none⟩ = some (.int .i64 x5) ∧ w'.cell? ⟨w.heap.size, 6, none⟩ = some (.int .i64 x6) ∧ w'.cell? ⟨w.heap.size, 7, none⟩ = some (.int .i64 x7) ∧ w'.cell? ⟨w.heap.size, 8, none⟩ = some (.int .i64 x8) ∧ w'.cell? ⟨w.heap.size, 9, none⟩ = some (.int .i64 x9) ∧ w'.cell? ⟨w.heap.size, 10, none⟩ = some (.int .i64 x10) ∧ w'.cell? ⟨w.heap.size, 11, none⟩ = some (.int .i64 fl) ∧ w'.cell? ⟨w.heap.size, 12, none⟩ = some (.int .i64 fa) ∧ w'.cell? ⟨w.heap.size, 13, none⟩ = some (.int .i64 ol) ∧ w'.cell? ⟨w.heap.size, 14, none⟩ = some (.int .i64 oa) ∧ w'.cell? ⟨w.heap.size, 15, none⟩ = some (.int .i64 go) ∧ w'.cell? ⟨w.heap.size, 16, none⟩ = some (.int .i64 li))
    (first | (go_keep; done) | (refine ⟨cell_keep hbd1 ?_, cell_keep hbd1 ?_, cell_keep hbd1 ?_, cell_keep hbd1 ?_, cell_keep hbd1 ?_, cell_keep hbd1 ?_, cell_keep hbd1 ?_, cell_keep hbd1 ?_, cell_keep hbd1 ?_, cell_keep hbd1 ?_, cell_keep hbd1 ?_, cell_keep hbd1 ?_, cell_keep hbd1 ?_, cell_keep hbd1 ?_, cell_keep hbd1 ?_, cell_keep hbd1 ?_, cell_keep hbd1 ?_⟩ <;> simp only [*]; done) | (refine ⟨cell_keep hbd0 ?_, cell_keep hbd0 ?_, cell_keep hbd0 ?_, cell_keep hbd0 ?_, cell_keep hbd0 ?_, cell_keep hbd0 ?_, cell_keep hbd0 ?_, cell_keep hbd0 ?_, cell_keep hbd0 ?_, cell_keep hbd0 ?_, cell_keep hbd0 ?_, cell_keep hbd0 ?_, cell_keep hbd0 ?_, cell_keep hbd0 ?_, cell_keep hbd0 ?_, cell_keep hbd0 ?_, cell_keep hbd0 ?_⟩ <;> simp only [*]; done) | go_keep)
    (first | (go_at_call 52; refine (HF.out _).mono ?_; rintro e w1 ⟨rfl, hbd0⟩) | (have hgo := hbd0; clear hgo; go_at_call 42; refine (HA.out _).mono ?_; rintro e w2 ⟨rfl, hbd1⟩; have hbz : Below V.heap.size V w2 := bel_then (undrew hbd0) hbd1 hbd0.size))
  all_goals
    have HB := Lib.hid (bel_then HBV.out hbz HBV.out.size)
    clear hbz
    go_wp2
    go_ret
    exact ⟨rfl, HB.out⟩
set_option maxRecDepth 100000 in
set_option maxHeartbeats 3200000 in
theorem ok_any (x0 x1 x2 x3 x4 x5 x6 x7 x8 x9 x10 fl fa ol oa go li : Int) (w : World) : Calls Try.prog 35 #[.agg #[.int .i64 x0, .int .i64 x1, .int .i64 x2, .int .i64 x3, .int .i64 x4, .int .i64 x5, .int .i64 x6, .int .i64 x7, .int .i64 x8, .int .i64 x9, .int .i64 x10, .int .i64 fl, .int .i64 fa, .int .i64 ol, .int .i64 oa, .int .i64 go, .int .i64 li]] w (Says (.bool (planB x0 x1 x2 x3 x4 x5 x6 x7 x8 x9 x10 fl fa ol oa go li)) w) := by
  obtain ⟨V, hV⟩ : ∃ V, V = w.alloc (.cells #[.int .i64 x0, .int .i64 x1, .int .i64 x2, .int .i64 x3, .int .i64 x4, .int .i64 x5, .int .i64 x6, .int .i64 x7, .int .i64 x8, .int .i64 x9, .int .i64 x10, .int .i64 fl, .int .i64 fa, .int .i64 ol, .int .i64 oa, .int .i64 go, .int .i64 li] 63) := ⟨_, rfl⟩
  have HBV : Hid (Below w.heap.size w V) := by show Below _ _ _; rw [hV]; exact bel1 _ _
  have KS : Hid (V.heap[w.heap.size]? = some (.cells #[.int .i64 x0, .int .i64 x1, .int .i64 x2, .int .i64 x3, .int .i64 x4, .int .i64 x5, .int .i64 x6, .int .i64 x7, .int .i64 x8, .int .i64 x9, .int .i64 x10, .int .i64 fl, .int .i64 fa, .int .i64 ol, .int .i64 oa, .int .i64 go, .int .i64 li] 63)) := by rw [hV]; exact box_new w _
  obtain ⟨R, hR⟩ : ∃ R, R = planB x0 x1 x2 x3 x4 x5 x6 x7 x8 x9 x10 fl fa ol oa go li := ⟨_, rfl⟩
  rw [← hR]
  have HR := Lib.hid hR
  clear hR
  go_enter Try.func35, Try.ntmps35
  go_wp2_with fail
  rw [← hV]
  clear hV
  refine (specOk_any x0 x1 x2 x3 x4 x5 x6 x7 x8 x9 x10 _).mono ?_
  rintro e w1 ⟨rfl, hb⟩
  have K1 := Lib.hid (box_below KS.out hb)
  have B1 := Lib.hid (bel_then HBV.out hb HBV.out.size)
  clear hb KS HBV
  cases h1 : specB x0 x1 x2 x3 x4 x5 x6 x7 x8 x9 x10
  · have HF : Hid (R = false) := by show _ = _; rw [HR.out]; simp [planB, h1]
    clear h1
    go_wp2
    go_ret
    exact ⟨by rw [HF.out]; rfl, B1.out⟩
  have H1 := Lib.hid h1
  clear h1
  have c11 := box_cell K1.out 11 _ rfl
  have c12 := box_cell K1.out 12 _ rfl
  go_wp2_with fail
  refine (CountOk_any fl fa _).mono ?_
  clear c11 c12
  rintro e w2 ⟨rfl, hb⟩
  have K2 := Lib.hid (box_below K1.out hb)
  have B2 := Lib.hid (bel_then B1.out hb B1.out.size)
  clear hb K1 B1
  cases h2 : countB fl fa
  · have HF : Hid (R = false) := by show _ = _; rw [HR.out]; simp [planB, H1.out, h2]
    clear h2
    go_wp2
    go_ret
    exact ⟨by rw [HF.out]; rfl, B2.out⟩
  have H2 := Lib.hid h2
  clear h2
  have c13 := box_cell K2.out 13 _ rfl
  have c14 := box_cell K2.out 14 _ rfl
  go_wp2_with fail
  refine (CountOk_any ol oa _).mono ?_
  clear c13 c14
  rintro e w3 ⟨rfl, hb⟩
  have K3 := Lib.hid (box_below K2.out hb)
  have B3 := Lib.hid (bel_then B2.out hb B2.out.size)
  clear hb K2 B2
  cases h3 : countB ol oa
  · have HF : Hid (R = false) := by show _ = _; rw [HR.out]; simp [planB, H1.out, H2.out, h3]
    clear h3
    go_wp2
    go_ret
    exact ⟨by rw [HF.out]; rfl, B3.out⟩
  have H3 := Lib.hid h3
  clear h3
  have c15 := box_cell K3.out 15 _ rfl
  go_wp2_with fail
  refine (within_any go 0 30 _).mono ?_
  clear c15
  rintro e w' ⟨rfl, rfl⟩
  cases h4 : inB go 0 30
  · have HF : Hid (R = false) := by show _ = _; rw [HR.out]; simp [planB, H1.out, H2.out, H3.out, h4]
    clear h4
    go_wp2
    go_ret
    exact ⟨by rw [HF.out]; rfl, B3.out⟩
  have H4 := Lib.hid h4
  clear h4
  have c16 := box_cell K3.out 16 _ rfl
  have c0 := box_cell K3.out 0 _ rfl
  go_wp2_with fail
  refine (within_any li 0 x0 _).mono ?_
  clear c16 c0
  rintro e w' ⟨rfl, rfl⟩
  have HF : Hid (R = inB li 0 x0) := by show _ = _; rw [HR.out]; simp [planB, H1.out, H2.out, H3.out, H4.out]
  go_wp2
  go_ret
  exact ⟨by rw [HF.out]; rfl, B3.out⟩
/-- A rule as a value: which function, over the scene's block. -/
abbrev ruF (g B : Nat) : Value := .func (.func g) #[] #[.pointer (some ⟨B, 0, none⟩)]
set_option maxRecDepth 100000 in
set_option maxHeartbeats 3200000 in
theorem rulesOf_any (x0 x1 x2 x3 x4 x5 x6 x7 x8 x9 x10 fl fa ol oa go li : Int) (w : World) : Calls Try.prog 37 #[.agg #[.int .i64 x0, .int .i64 x1, .int .i64 x2, .int .i64 x3, .int .i64 x4, .int .i64 x5, .int .i64 x6, .int .i64 x7, .int .i64 x8, .int .i64 x9, .int .i64 x10, .int .i64 fl, .int .i64 fa, .int .i64 ol, .int .i64 oa, .int .i64 go, .int .i64 li]] w fun e w' => e = .returned (.slice (some ⟨w.heap.size + 1, 0, none⟩) 4 4) ∧ w' = (w.alloc (.cells #[.int .i64 x0, .int .i64 x1, .int .i64 x2, .int .i64 x3, .int .i64 x4, .int .i64 x5, .int .i64 x6, .int .i64 x7, .int .i64 x8, .int .i64 x9, .int .i64 x10, .int .i64 fl, .int .i64 fa, .int .i64 ol, .int .i64 oa, .int .i64 go, .int .i64 li] 63)).alloc (.cells #[ruF 40 w.heap.size, ruF 45 w.heap.size, ruF 47 w.heap.size, ruF 49 w.heap.size] 69) := by
  go_enter Try.func37, Try.ntmps37
  go_wp2
  go_ret
  exact ⟨rfl, rfl⟩
end Go.Proofs.Ytlghdmakaocokaa.Scn
