/-
  WHAT WorldBound ANSWERS over this seat's translation, the model's and the program's.
-/
import Derived.Test.YtlghdmakaocokaaStepI
import Derived.Test.YtlghdmakaocokaaWld
import Derived.Lib.Hide
namespace Go.Proofs.Ytlghdmakaocokaa.WBound
open Go.ChangeShapes Go.WideShapes Go.ChangeAt Go.RowKit Go.Deep
open Go.Proofs.Ytlghdmakaocokaa.LK Go.Proofs.Ytlghdmakaocokaa.Sp Go.Proofs.Ytlghdmakaocokaa.Wld Go.Proofs.Ytlghdmakaocokaa.Ends
set_option linter.unusedVariables false
set_option linter.unusedSimpArgs false
def boundV (x0 x1 x2 x3 x4 x5 x6 x7 x8 x9 x10 y0 y1 y2 y3 : Int) : Int :=
  if specB x0 x1 x2 x3 x4 x5 x6 x7 x8 x9 x10 && worldB y0 y1 y2 y3 then 2 * ((stepsV x0 x1 x2 x3 x4 x5 x6 x7 x8 x9 x10 + 2) * (2 * y0 + x3 + 2) + x10 + y0 + x3 + 2) + (x4 + 1) * (y0 + x6 + 2) else -1
theorem wrap_id {x : Int} (h0 : -9223372036854775808 ≤ x) (h1 : x ≤ 9223372036854775807) : IntKind.i64.wrap x = x := by
  simp [IntKind.wrap, IntKind.bits, IntKind.signed]
  omega
theorem mul_bd {a b m k : Int} (ha : 0 ≤ a) (ha2 : a ≤ m) (hb : 0 ≤ b) (hb2 : b ≤ k) (hm : 0 ≤ m) : 0 ≤ a * b ∧ a * b ≤ m * k :=
  ⟨Int.mul_nonneg ha hb, Int.mul_le_mul ha2 hb2 hb hm⟩

set_option maxRecDepth 100000 in
set_option maxHeartbeats 12800000 in
theorem specWorldBound_any (x0 x1 x2 x3 x4 x5 x6 x7 x8 x9 x10 y0 y1 y2 y3 : Int) (w : World) : Calls Try.prog 14 #[.agg #[.int .i64 x0, .int .i64 x1, .int .i64 x2, .int .i64 x3, .int .i64 x4, .int .i64 x5, .int .i64 x6, .int .i64 x7, .int .i64 x8, .int .i64 x9, .int .i64 x10], .agg #[.int .i64 y0, .int .i64 y1, .int .i64 y2, .int .i64 y3]] w (Says (.int .i64 (boundV x0 x1 x2 x3 x4 x5 x6 x7 x8 x9 x10 y0 y1 y2 y3)) w) := by
  obtain ⟨R, hR⟩ : ∃ R, R = boundV x0 x1 x2 x3 x4 x5 x6 x7 x8 x9 x10 y0 y1 y2 y3 := ⟨_, rfl⟩
  rw [← hR]
  have HR := Lib.hid hR
  clear hR
  obtain ⟨V, hV⟩ : ∃ V, V = (w.alloc (.cells #[.int .i64 x0, .int .i64 x1, .int .i64 x2, .int .i64 x3, .int .i64 x4, .int .i64 x5, .int .i64 x6, .int .i64 x7, .int .i64 x8, .int .i64 x9, .int .i64 x10] 38)).alloc (.cells #[.int .i64 y0, .int .i64 y1, .int .i64 y2, .int .i64 y3] 25) := ⟨_, rfl⟩
  have hbV : Below w.heap.size w V := by rw [hV]; exact bel2 _ _ _
  have KS0 : Hid (V.heap[w.heap.size]? = some (.cells #[.int .i64 x0, .int .i64 x1, .int .i64 x2, .int .i64 x3, .int .i64 x4, .int .i64 x5, .int .i64 x6, .int .i64 x7, .int .i64 x8, .int .i64 x9, .int .i64 x10] 38)) := by rw [hV]; exact box_alloc (box_new w _) _
  have KW0 : Hid (V.heap[w.heap.size + 1]? = some (.cells #[.int .i64 y0, .int .i64 y1, .int .i64 y2, .int .i64 y3] 25)) := by rw [hV]; have h := box_new (w.alloc (.cells #[.int .i64 x0, .int .i64 x1, .int .i64 x2, .int .i64 x3, .int .i64 x4, .int .i64 x5, .int .i64 x6, .int .i64 x7, .int .i64 x8, .int .i64 x9, .int .i64 x10] 38)) (.cells #[.int .i64 y0, .int .i64 y1, .int .i64 y2, .int .i64 y3] 25); simp only [World.size_alloc] at h; exact h
  go_enter Try.func14, Try.ntmps14
  go_upto_region 1 with fail
  rw [← hV]
  clear hV
  have c0 : V.cell? ⟨w.heap.size, 0, none⟩ = some (.int .i64 x0) := box_cell KS0.out 0 _ rfl
  have c1 : V.cell? ⟨w.heap.size, 1, none⟩ = some (.int .i64 x1) := box_cell KS0.out 1 _ rfl
  have c2 : V.cell? ⟨w.heap.size, 2, none⟩ = some (.int .i64 x2) := box_cell KS0.out 2 _ rfl
  have c3 : V.cell? ⟨w.heap.size, 3, none⟩ = some (.int .i64 x3) := box_cell KS0.out 3 _ rfl
  have c4 : V.cell? ⟨w.heap.size, 4, none⟩ = some (.int .i64 x4) := box_cell KS0.out 4 _ rfl
  have c5 : V.cell? ⟨w.heap.size, 5, none⟩ = some (.int .i64 x5) := box_cell KS0.out 5 _ rfl
  have c6 : V.cell? ⟨w.heap.size, 6, none⟩ = some (.int .i64 x6) := box_cell KS0.out 6 _ rfl
  have c7 : V.cell? ⟨w.heap.size, 7, none⟩ = some (.int .i64 x7) := box_cell KS0.out 7 _ rfl
  have c8 : V.cell? ⟨w.heap.size, 8, none⟩ = some (.int .i64 x8) := box_cell KS0.out 8 _ rfl
  have c9 : V.cell? ⟨w.heap.size, 9, none⟩ = some (.int .i64 x9) := box_cell KS0.out 9 _ rfl
  have c10 : V.cell? ⟨w.heap.size, 10, none⟩ = some (.int .i64 x10) := box_cell KS0.out 10 _ rfl
  have d0 : V.cell? ⟨w.heap.size + 1, 0, none⟩ = some (.int .i64 y0) := box_cell KW0.out 0 _ rfl
  have d1 : V.cell? ⟨w.heap.size + 1, 1, none⟩ = some (.int .i64 y1) := box_cell KW0.out 1 _ rfl
  have d2 : V.cell? ⟨w.heap.size + 1, 2, none⟩ = some (.int .i64 y2) := box_cell KW0.out 2 _ rfl
  have d3 : V.cell? ⟨w.heap.size + 1, 3, none⟩ = some (.int .i64 y3) := box_cell KW0.out 3 _ rfl
  go_wp2_with fail
  refine (specSpecOk_any x0 x1 x2 x3 x4 x5 x6 x7 x8 x9 x10 _).mono ?_
  rintro e w1 ⟨rfl, hb⟩
  have KS1 := Lib.hid (box_below KS0.out hb)
  have KW1 := Lib.hid (box_below KW0.out hb)
  have HB1 := Lib.hid (bel_then hbV hb hbV.size)
  clear KS0 KW0 hb c0 c1 c2 c3 c4 c5 c6 c7 c8 c9 c10 d0 d1 d2 d3
  clear hbV
  have c0 : w1.cell? ⟨w.heap.size, 0, none⟩ = some (.int .i64 x0) := box_cell KS1.out 0 _ rfl
  have c1 : w1.cell? ⟨w.heap.size, 1, none⟩ = some (.int .i64 x1) := box_cell KS1.out 1 _ rfl
  have c2 : w1.cell? ⟨w.heap.size, 2, none⟩ = some (.int .i64 x2) := box_cell KS1.out 2 _ rfl
  have c3 : w1.cell? ⟨w.heap.size, 3, none⟩ = some (.int .i64 x3) := box_cell KS1.out 3 _ rfl
  have c4 : w1.cell? ⟨w.heap.size, 4, none⟩ = some (.int .i64 x4) := box_cell KS1.out 4 _ rfl
  have c5 : w1.cell? ⟨w.heap.size, 5, none⟩ = some (.int .i64 x5) := box_cell KS1.out 5 _ rfl
  have c6 : w1.cell? ⟨w.heap.size, 6, none⟩ = some (.int .i64 x6) := box_cell KS1.out 6 _ rfl
  have c7 : w1.cell? ⟨w.heap.size, 7, none⟩ = some (.int .i64 x7) := box_cell KS1.out 7 _ rfl
  have c8 : w1.cell? ⟨w.heap.size, 8, none⟩ = some (.int .i64 x8) := box_cell KS1.out 8 _ rfl
  have c9 : w1.cell? ⟨w.heap.size, 9, none⟩ = some (.int .i64 x9) := box_cell KS1.out 9 _ rfl
  have c10 : w1.cell? ⟨w.heap.size, 10, none⟩ = some (.int .i64 x10) := box_cell KS1.out 10 _ rfl
  have d0 : w1.cell? ⟨w.heap.size + 1, 0, none⟩ = some (.int .i64 y0) := box_cell KW1.out 0 _ rfl
  have d1 : w1.cell? ⟨w.heap.size + 1, 1, none⟩ = some (.int .i64 y1) := box_cell KW1.out 1 _ rfl
  have d2 : w1.cell? ⟨w.heap.size + 1, 2, none⟩ = some (.int .i64 y2) := box_cell KW1.out 2 _ rfl
  have d3 : w1.cell? ⟨w.heap.size + 1, 3, none⟩ = some (.int .i64 y3) := box_cell KW1.out 3 _ rfl
  cases hs : specB x0 x1 x2 x3 x4 x5 x6 x7 x8 x9 x10
  · have HV : Hid (R = -1) := by show R = _; rw [HR.out]; simp [boundV, hs]
    go_wp2
    go_ret
    exact ⟨by rw [HV.out]; rfl, HB1.out⟩
  go_wp2_with fail
  refine (specWorldOk_any y0 y1 y2 y3 _).mono ?_
  rintro e w2 ⟨rfl, hb⟩
  have KS2 := Lib.hid (box_below KS1.out hb)
  have KW2 := Lib.hid (box_below KW1.out hb)
  have HB2 := Lib.hid (bel_then HB1.out hb HB1.out.size)
  clear KS1 KW1 hb c0 c1 c2 c3 c4 c5 c6 c7 c8 c9 c10 d0 d1 d2 d3
  have c0 : w2.cell? ⟨w.heap.size, 0, none⟩ = some (.int .i64 x0) := box_cell KS2.out 0 _ rfl
  have c1 : w2.cell? ⟨w.heap.size, 1, none⟩ = some (.int .i64 x1) := box_cell KS2.out 1 _ rfl
  have c2 : w2.cell? ⟨w.heap.size, 2, none⟩ = some (.int .i64 x2) := box_cell KS2.out 2 _ rfl
  have c3 : w2.cell? ⟨w.heap.size, 3, none⟩ = some (.int .i64 x3) := box_cell KS2.out 3 _ rfl
  have c4 : w2.cell? ⟨w.heap.size, 4, none⟩ = some (.int .i64 x4) := box_cell KS2.out 4 _ rfl
  have c5 : w2.cell? ⟨w.heap.size, 5, none⟩ = some (.int .i64 x5) := box_cell KS2.out 5 _ rfl
  have c6 : w2.cell? ⟨w.heap.size, 6, none⟩ = some (.int .i64 x6) := box_cell KS2.out 6 _ rfl
  have c7 : w2.cell? ⟨w.heap.size, 7, none⟩ = some (.int .i64 x7) := box_cell KS2.out 7 _ rfl
  have c8 : w2.cell? ⟨w.heap.size, 8, none⟩ = some (.int .i64 x8) := box_cell KS2.out 8 _ rfl
  have c9 : w2.cell? ⟨w.heap.size, 9, none⟩ = some (.int .i64 x9) := box_cell KS2.out 9 _ rfl
  have c10 : w2.cell? ⟨w.heap.size, 10, none⟩ = some (.int .i64 x10) := box_cell KS2.out 10 _ rfl
  have d0 : w2.cell? ⟨w.heap.size + 1, 0, none⟩ = some (.int .i64 y0) := box_cell KW2.out 0 _ rfl
  have d1 : w2.cell? ⟨w.heap.size + 1, 1, none⟩ = some (.int .i64 y1) := box_cell KW2.out 1 _ rfl
  have d2 : w2.cell? ⟨w.heap.size + 1, 2, none⟩ = some (.int .i64 y2) := box_cell KW2.out 2 _ rfl
  have d3 : w2.cell? ⟨w.heap.size + 1, 3, none⟩ = some (.int .i64 y3) := box_cell KW2.out 3 _ rfl
  cases hw : worldB y0 y1 y2 y3
  · have HV : Hid (R = -1) := by show R = _; rw [HR.out]; simp [boundV, hw]
    go_wp2
    go_ret
    exact ⟨by rw [HV.out]; rfl, HB2.out⟩
  obtain ⟨N, hN⟩ : ∃ N, N = stepsV x0 x1 x2 x3 x4 x5 x6 x7 x8 x9 x10 := ⟨_, rfl⟩
  have bN : 0 ≤ N ∧ N ≤ 25 := by
    have h1 := (way_all hs).2
    have h2 := specB_t hs
    rw [hN, stepsV, if_pos hs]
    omega
  have HST : Hid (∀ W : World, Calls Try.prog 23 #[.agg #[.int .i64 x0, .int .i64 x1, .int .i64 x2, .int .i64 x3, .int .i64 x4, .int .i64 x5, .int .i64 x6, .int .i64 x7, .int .i64 x8, .int .i64 x9, .int .i64 x10]] W (Says (.int .i64 N) W)) := fun W => by rw [hN]; exact specStepsNeeded_any x0 x1 x2 x3 x4 x5 x6 x7 x8 x9 x10 W
  have bs := specB_t hs
  have bw := worldB_t hw
  have bx3 : 0 ≤ x3 ∧ x3 ≤ 1000 := by omega
  have bx4 : 0 ≤ x4 ∧ x4 ≤ 20 := by omega
  have bx6 : 0 ≤ x6 ∧ x6 ≤ 10000 := by omega
  have bx10 : 0 ≤ x10 ∧ x10 ≤ 1000 := by omega
  have by0 : 1 ≤ y0 ∧ y0 ≤ 10 := by omega
  clear bs bw
  obtain ⟨P, hP⟩ : ∃ P, (N + 2) * (2 * y0 + x3 + 2) = P := ⟨_, rfl⟩
  obtain ⟨Q, hQ⟩ : ∃ Q, (x4 + 1) * (y0 + x6 + 2) = Q := ⟨_, rfl⟩
  have bP : 0 ≤ P ∧ P ≤ 30000 := by
    have h := mul_bd (a := N + 2) (b := 2 * y0 + x3 + 2) (m := 27) (k := 1022) (by omega) (by omega) (by omega) (by omega) (by omega)
    rw [hP] at h
    omega
  have bQ : 0 ≤ Q ∧ Q ≤ 300000 := by
    have h := mul_bd (a := x4 + 1) (b := y0 + x6 + 2) (m := 21) (k := 10012) (by omega) (by omega) (by omega) (by omega) (by omega)
    rw [hQ] at h
    omega
  have HV : Hid (R = 2 * (P + x10 + y0 + x3 + 2) + Q) := by show R = _; rw [HR.out, boundV, hs, hw, ← hN, ← hP, ← hQ]; rfl
  clear hs hw hN
  have a1 : IntKind.i64.wrap (N + 2) = N + 2 := wrap_id (by omega) (by omega)
  have a2 : IntKind.i64.wrap (2 * y0) = 2 * y0 := wrap_id (by omega) (by omega)
  have a3 : IntKind.i64.wrap (2 * y0 + x3) = 2 * y0 + x3 := wrap_id (by omega) (by omega)
  have a4 : IntKind.i64.wrap (2 * y0 + x3 + 2) = 2 * y0 + x3 + 2 := wrap_id (by omega) (by omega)
  have a5 : IntKind.i64.wrap P = P := wrap_id (by omega) (by omega)
  have a6 : IntKind.i64.wrap (P + x10) = P + x10 := wrap_id (by omega) (by omega)
  have a7 : IntKind.i64.wrap (P + x10 + y0) = P + x10 + y0 := wrap_id (by omega) (by omega)
  have a8 : IntKind.i64.wrap (P + x10 + y0 + x3) = P + x10 + y0 + x3 := wrap_id (by omega) (by omega)
  have a9 : IntKind.i64.wrap (P + x10 + y0 + x3 + 2) = P + x10 + y0 + x3 + 2 := wrap_id (by omega) (by omega)
  have a10 : IntKind.i64.wrap (2 * (P + x10 + y0 + x3 + 2)) = 2 * (P + x10 + y0 + x3 + 2) := wrap_id (by omega) (by omega)
  have a11 : IntKind.i64.wrap (x4 + 1) = x4 + 1 := wrap_id (by omega) (by omega)
  have a12 : IntKind.i64.wrap (y0 + x6) = y0 + x6 := wrap_id (by omega) (by omega)
  have a13 : IntKind.i64.wrap (y0 + x6 + 2) = y0 + x6 + 2 := wrap_id (by omega) (by omega)
  have a14 : IntKind.i64.wrap Q = Q := wrap_id (by omega) (by omega)
  have a15 : IntKind.i64.wrap (2 * (P + x10 + y0 + x3 + 2) + Q) = 2 * (P + x10 + y0 + x3 + 2) + Q := wrap_id (by omega) (by omega)
  clear bN bx3 bx4 bx6 bx10 by0 bP bQ
  go_upto_region 3 with fail
  refine wp_region_held_drew (S := fun w' => w'.cell? ⟨w.heap.size, 0, none⟩ = some (.int .i64 x0) ∧ w'.cell? ⟨w.heap.size, 1, none⟩ = some (.int .i64 x1) ∧ w'.cell? ⟨w.heap.size, 2, none⟩ = some (.int .i64 x2) ∧ w'.cell? ⟨w.heap.size, 3, none⟩ = some (.int .i64 x3) ∧ w'.cell? ⟨w.heap.size, 4, none⟩ = some (.int .i64 x4) ∧ w'.cell? ⟨w.heap.size, 5, none⟩ = some (.int .i64 x5) ∧ w'.cell? ⟨w.heap.size, 6, none⟩ = some (.int .i64 x6) ∧ w'.cell? ⟨w.heap.size, 7, none⟩ = some (.int .i64 x7) ∧ w'.cell? ⟨w.heap.size, 8, none⟩ = some (.int .i64 x8) ∧ w'.cell? ⟨w.heap.size, 9, none⟩ = some (.int .i64 x9) ∧ w'.cell? ⟨w.heap.size, 10, none⟩ = some (.int .i64 x10) ∧ w'.cell? ⟨w.heap.size + 1, 0, none⟩ = some (.int .i64 y0)) (by kernel_rfl) ⟨c0, c1, c2, c3, c4, c5, c6, c7, c8, c9, c10, d0⟩ (fun hHeld => ?_)
  refine wpAnyH_take (i := 0) (v := ?v1) rfl (by kernel_rfl) (by kernel_rfl) (by kernel_rfl) (fun _ _ _ h => h) (Or.inl ⟨by rfl, ?hy1⟩) (by assumption) ?_
  case hy1 => (intro w0 hSw; (try dsimp only at hSw); go_simp <;> with_reducible rfl)
  try simp only [Act.put, List.getElem_toArray, List.getElem_cons_zero, List.getElem_cons_succ, List.setIfInBounds_toArray, List.set_cons_zero, List.set_cons_succ]
  refine wpAnyH_take (i := 3) (v := ?v2) rfl (by kernel_rfl) (by kernel_rfl) (by kernel_rfl) (fun _ _ _ h => h) (Or.inl ⟨by rfl, ?hy2⟩) (by assumption) ?_
  case hy2 => (intro w0 hSw; (try dsimp only at hSw); go_simp <;> with_reducible rfl)
  try simp only [Act.put, List.getElem_toArray, List.getElem_cons_zero, List.getElem_cons_succ, List.setIfInBounds_toArray, List.set_cons_zero, List.set_cons_succ]
  refine wpAnyH_take (i := 4) (v := ?v3) rfl (by kernel_rfl) (by kernel_rfl) (by kernel_rfl) (fun _ _ _ h => h) (Or.inl ⟨by rfl, ?hy3⟩) (by assumption) ?_
  case hy3 => (intro w0 hSw; (try dsimp only at hSw); go_simp <;> with_reducible rfl)
  try simp only [Act.put, List.getElem_toArray, List.getElem_cons_zero, List.getElem_cons_succ, List.setIfInBounds_toArray, List.set_cons_zero, List.set_cons_succ]
  refine wpAnyH_take (i := 5) (v := ?v4) rfl (by kernel_rfl) (by kernel_rfl) (by kernel_rfl) (fun _ _ _ h => h) (Or.inl ⟨by rfl, ?hy4⟩) (by assumption) ?_
  case hy4 => (intro w0 hSw; (try dsimp only at hSw); go_simp <;> with_reducible rfl)
  try simp only [Act.put, List.getElem_toArray, List.getElem_cons_zero, List.getElem_cons_succ, List.setIfInBounds_toArray, List.set_cons_zero, List.set_cons_succ]
  refine wpAnyH_take (i := 6) (v := ?v5) rfl (by kernel_rfl) (by kernel_rfl) (by kernel_rfl) (fun _ _ _ h => h) (Or.inl ⟨by rfl, ?hy5⟩) (by assumption) ?_
  case hy5 => (intro w0 hSw; (try dsimp only at hSw); go_simp <;> with_reducible rfl)
  try simp only [Act.put, List.getElem_toArray, List.getElem_cons_zero, List.getElem_cons_succ, List.setIfInBounds_toArray, List.set_cons_zero, List.set_cons_succ]
  refine wpAnyH_take (i := 7) (v := ?v6) rfl (by kernel_rfl) (by kernel_rfl) (by kernel_rfl) (fun _ _ _ h => h) (Or.inl ⟨by rfl, ?hy6⟩) (by assumption) ?_
  case hy6 => (intro w0 hSw; (try dsimp only at hSw); go_simp <;> with_reducible rfl)
  try simp only [Act.put, List.getElem_toArray, List.getElem_cons_zero, List.getElem_cons_succ, List.setIfInBounds_toArray, List.set_cons_zero, List.set_cons_succ]
  refine wpAnyH_take (i := 8) (v := ?v7) rfl (by kernel_rfl) (by kernel_rfl) (by kernel_rfl) (fun _ _ _ h => h) (Or.inl ⟨by rfl, ?hy7⟩) (by assumption) ?_
  case hy7 => (intro w0 hSw; (try dsimp only at hSw); go_simp <;> with_reducible rfl)
  try simp only [Act.put, List.getElem_toArray, List.getElem_cons_zero, List.getElem_cons_succ, List.setIfInBounds_toArray, List.set_cons_zero, List.set_cons_succ]
  refine wpAnyH_take (i := 9) (v := ?v8) rfl (by kernel_rfl) (by kernel_rfl) (by kernel_rfl) (fun _ _ _ h => h) (Or.inl ⟨by rfl, ?hy8⟩) (by assumption) ?_
  case hy8 => (intro w0 hSw; (try dsimp only at hSw); go_simp <;> with_reducible rfl)
  try simp only [Act.put, List.getElem_toArray, List.getElem_cons_zero, List.getElem_cons_succ, List.setIfInBounds_toArray, List.set_cons_zero, List.set_cons_succ]
  refine wpAnyH_take (i := 11) (v := ?v9) rfl (by kernel_rfl) (by kernel_rfl) (by kernel_rfl) (fun _ _ _ h => h) (Or.inl ⟨by rfl, ?hy9⟩) (by assumption) ?_
  case hy9 => (intro w0 hSw; (try dsimp only at hSw); go_simp <;> with_reducible rfl)
  try simp only [Act.put, List.getElem_toArray, List.getElem_cons_zero, List.getElem_cons_succ, List.setIfInBounds_toArray, List.set_cons_zero, List.set_cons_succ]
  refine wpAnyH_take (i := 12) (v := ?v10) rfl (by kernel_rfl) (by kernel_rfl) (by kernel_rfl) (fun _ _ _ h => h) (Or.inl ⟨by rfl, ?hy10⟩) (by assumption) ?_
  case hy10 => (intro w0 hSw; (try dsimp only at hSw); go_simp <;> with_reducible rfl)
  try simp only [Act.put, List.getElem_toArray, List.getElem_cons_zero, List.getElem_cons_succ, List.setIfInBounds_toArray, List.set_cons_zero, List.set_cons_succ]
  refine wpAnyH_take (i := 14) (v := ?v11) rfl (by kernel_rfl) (by kernel_rfl) (by kernel_rfl) (fun _ _ _ h => h) (Or.inl ⟨by rfl, ?hy11⟩) (by assumption) ?_
  case hy11 => (intro w0 hSw; (try dsimp only at hSw); go_simp <;> with_reducible rfl)
  try simp only [Act.put, List.getElem_toArray, List.getElem_cons_zero, List.getElem_cons_succ, List.setIfInBounds_toArray, List.set_cons_zero, List.set_cons_succ]
  refine wpAnyH_take (i := 15) (v := ?v12) rfl (by kernel_rfl) (by kernel_rfl) (by kernel_rfl) (fun _ _ _ h => h) (Or.inl ⟨by rfl, ?hy12⟩) (by assumption) ?_
  case hy12 => (intro w0 hSw; (try dsimp only at hSw); go_simp <;> with_reducible rfl)
  try simp only [Act.put, List.getElem_toArray, List.getElem_cons_zero, List.getElem_cons_succ, List.setIfInBounds_toArray, List.set_cons_zero, List.set_cons_succ]
  refine wpAnyH_take (i := 17) (v := ?v13) rfl (by kernel_rfl) (by kernel_rfl) (by kernel_rfl) (fun _ _ _ h => h) (Or.inl ⟨by rfl, ?hy13⟩) (by assumption) ?_
  case hy13 => (intro w0 hSw; (try dsimp only at hSw); go_simp <;> with_reducible rfl)
  try simp only [Act.put, List.getElem_toArray, List.getElem_cons_zero, List.getElem_cons_succ, List.setIfInBounds_toArray, List.set_cons_zero, List.set_cons_succ]
  refine wpAnyH_take (i := 18) (v := ?v14) rfl (by kernel_rfl) (by kernel_rfl) (by kernel_rfl) (fun _ _ _ h => h) (Or.inl ⟨by rfl, ?hy14⟩) (by assumption) ?_
  case hy14 => (intro w0 hSw; (try dsimp only at hSw); go_simp <;> with_reducible rfl)
  try simp only [Act.put, List.getElem_toArray, List.getElem_cons_zero, List.getElem_cons_succ, List.setIfInBounds_toArray, List.set_cons_zero, List.set_cons_succ]
  refine wpAnyH_ready (rs := [1]) (by kernel_rfl) (by simp) (AllReadyH.cons rfl (fun K hK => ?_) AllReadyH.nil)
  go_simp
  refine (HST.out _).mono ?_
  rintro e w3 ⟨rfl, hb0⟩
  have hb : Below w2.heap.size w2 w3 := undrew hb0
  clear hHeld
  refine hK _ _ (by exact ⟨LK.cell_keep hb c0, LK.cell_keep hb c1, LK.cell_keep hb c2, LK.cell_keep hb c3, LK.cell_keep hb c4, LK.cell_keep hb c5, LK.cell_keep hb c6, LK.cell_keep hb c7, LK.cell_keep hb c8, LK.cell_keep hb c9, LK.cell_keep hb c10, LK.cell_keep hb d0⟩) (fun hHeld => ?_)
  clear hK K
  try simp only [Act.put, List.getElem_toArray, List.getElem_cons_zero, List.getElem_cons_succ, List.setIfInBounds_toArray, List.set_cons_zero, List.set_cons_succ]
  refine wpAnyH_take (i := 2) (v := ?v16) rfl (by kernel_rfl) (by kernel_rfl) (by kernel_rfl) (fun _ _ _ h => h) (Or.inl ⟨by rfl, ?hy16⟩) (by assumption) ?_
  case hy16 => (intro w0 hSw; (try dsimp only at hSw); go_simp <;> with_reducible rfl)
  try simp only [Act.put, List.getElem_toArray, List.getElem_cons_zero, List.getElem_cons_succ, List.setIfInBounds_toArray, List.set_cons_zero, List.set_cons_succ]
  refine wpAnyH_take (i := 10) (v := ?v17) rfl (by kernel_rfl) (by kernel_rfl) (by kernel_rfl) (fun _ _ _ h => h) (Or.inl ⟨by rfl, ?hy17⟩) (by assumption) ?_
  case hy17 => (intro w0 hSw; (try dsimp only at hSw); go_simp <;> with_reducible rfl)
  try simp only [Act.put, List.getElem_toArray, List.getElem_cons_zero, List.getElem_cons_succ, List.setIfInBounds_toArray, List.set_cons_zero, List.set_cons_succ]
  refine wpAnyH_take (i := 13) (v := ?v18) rfl (by kernel_rfl) (by kernel_rfl) (by kernel_rfl) (fun _ _ _ h => h) (Or.inl ⟨by rfl, ?hy18⟩) (by assumption) ?_
  case hy18 => (intro w0 hSw; (try dsimp only at hSw); go_simp <;> with_reducible rfl)
  try simp only [Act.put, List.getElem_toArray, List.getElem_cons_zero, List.getElem_cons_succ, List.setIfInBounds_toArray, List.set_cons_zero, List.set_cons_succ]
  refine wpAnyH_take (i := 16) (v := ?v19) rfl (by kernel_rfl) (by kernel_rfl) (by kernel_rfl) (fun _ _ _ h => h) (Or.inl ⟨by rfl, ?hy19⟩) (by assumption) ?_
  case hy19 => (intro w0 hSw; (try dsimp only at hSw); go_simp <;> with_reducible rfl)
  try simp only [Act.put, List.getElem_toArray, List.getElem_cons_zero, List.getElem_cons_succ, List.setIfInBounds_toArray, List.set_cons_zero, List.set_cons_succ]
  refine wpAnyH_take (i := 19) (v := ?v20) rfl (by kernel_rfl) (by kernel_rfl) (by kernel_rfl) (fun _ _ _ h => h) (Or.inl ⟨by rfl, ?hy20⟩) (by assumption) ?_
  case hy20 => (intro w0 hSw; (try dsimp only at hSw); go_simp <;> with_reducible rfl)
  try simp only [Act.put, List.getElem_toArray, List.getElem_cons_zero, List.getElem_cons_succ, List.setIfInBounds_toArray, List.set_cons_zero, List.set_cons_succ]
  refine wpAnyH_take (i := 20) (v := ?v21) rfl (by kernel_rfl) (by kernel_rfl) (by kernel_rfl) (fun _ _ _ h => h) (Or.inl ⟨by rfl, ?hy21⟩) (by assumption) ?_
  case hy21 => (intro w0 hSw; (try dsimp only at hSw); go_simp <;> with_reducible rfl)
  try simp only [Act.put, List.getElem_toArray, List.getElem_cons_zero, List.getElem_cons_succ, List.setIfInBounds_toArray, List.set_cons_zero, List.set_cons_succ]
  refine wpAnyH_take (i := 21) (v := ?v22) rfl (by kernel_rfl) (by kernel_rfl) (by kernel_rfl) (fun _ _ _ h => h) (Or.inl ⟨by rfl, ?hy22⟩) (by assumption) ?_
  case hy22 => (intro w0 hSw; (try dsimp only at hSw); go_simp <;> with_reducible rfl)
  try simp only [Act.put, List.getElem_toArray, List.getElem_cons_zero, List.getElem_cons_succ, List.setIfInBounds_toArray, List.set_cons_zero, List.set_cons_succ]
  refine wpAnyH_done (by kernel_rfl) ?_ _
  clear hHeld hb0
  have KS3 := Lib.hid (box_below KS2.out hb)
  have KW3 := Lib.hid (box_below KW2.out hb)
  have HB3 := Lib.hid (bel_then HB2.out hb HB2.out.size)
  clear KS2 KW2 hb c0 c1 c2 c3 c4 c5 c6 c7 c8 c9 c10 d0 d1 d2 d3
  have c0 : w3.cell? ⟨w.heap.size, 0, none⟩ = some (.int .i64 x0) := box_cell KS3.out 0 _ rfl
  have c1 : w3.cell? ⟨w.heap.size, 1, none⟩ = some (.int .i64 x1) := box_cell KS3.out 1 _ rfl
  have c2 : w3.cell? ⟨w.heap.size, 2, none⟩ = some (.int .i64 x2) := box_cell KS3.out 2 _ rfl
  have c3 : w3.cell? ⟨w.heap.size, 3, none⟩ = some (.int .i64 x3) := box_cell KS3.out 3 _ rfl
  have c4 : w3.cell? ⟨w.heap.size, 4, none⟩ = some (.int .i64 x4) := box_cell KS3.out 4 _ rfl
  have c5 : w3.cell? ⟨w.heap.size, 5, none⟩ = some (.int .i64 x5) := box_cell KS3.out 5 _ rfl
  have c6 : w3.cell? ⟨w.heap.size, 6, none⟩ = some (.int .i64 x6) := box_cell KS3.out 6 _ rfl
  have c7 : w3.cell? ⟨w.heap.size, 7, none⟩ = some (.int .i64 x7) := box_cell KS3.out 7 _ rfl
  have c8 : w3.cell? ⟨w.heap.size, 8, none⟩ = some (.int .i64 x8) := box_cell KS3.out 8 _ rfl
  have c9 : w3.cell? ⟨w.heap.size, 9, none⟩ = some (.int .i64 x9) := box_cell KS3.out 9 _ rfl
  have c10 : w3.cell? ⟨w.heap.size, 10, none⟩ = some (.int .i64 x10) := box_cell KS3.out 10 _ rfl
  have d0 : w3.cell? ⟨w.heap.size + 1, 0, none⟩ = some (.int .i64 y0) := box_cell KW3.out 0 _ rfl
  have d1 : w3.cell? ⟨w.heap.size + 1, 1, none⟩ = some (.int .i64 y1) := box_cell KW3.out 1 _ rfl
  have d2 : w3.cell? ⟨w.heap.size + 1, 2, none⟩ = some (.int .i64 y2) := box_cell KW3.out 2 _ rfl
  have d3 : w3.cell? ⟨w.heap.size + 1, 3, none⟩ = some (.int .i64 y3) := box_cell KW3.out 3 _ rfl
  go_wp2
  go_ret
  exact ⟨by rw [HV.out]; rfl, HB3.out⟩
set_option maxRecDepth 100000 in
set_option maxHeartbeats 12800000 in
theorem worldBound_any (x0 x1 x2 x3 x4 x5 x6 x7 x8 x9 x10 y0 y1 y2 y3 : Int) (w : World) : Calls Try.prog 16 #[.agg #[.int .i64 x0, .int .i64 x1, .int .i64 x2, .int .i64 x3, .int .i64 x4, .int .i64 x5, .int .i64 x6, .int .i64 x7, .int .i64 x8, .int .i64 x9, .int .i64 x10], .agg #[.int .i64 y0, .int .i64 y1, .int .i64 y2, .int .i64 y3]] w (Says (.int .i64 (boundV x0 x1 x2 x3 x4 x5 x6 x7 x8 x9 x10 y0 y1 y2 y3)) w) := by
  obtain ⟨R, hR⟩ : ∃ R, R = boundV x0 x1 x2 x3 x4 x5 x6 x7 x8 x9 x10 y0 y1 y2 y3 := ⟨_, rfl⟩
  rw [← hR]
  have HR := Lib.hid hR
  clear hR
  obtain ⟨V, hV⟩ : ∃ V, V = (w.alloc (.cells #[.int .i64 x0, .int .i64 x1, .int .i64 x2, .int .i64 x3, .int .i64 x4, .int .i64 x5, .int .i64 x6, .int .i64 x7, .int .i64 x8, .int .i64 x9, .int .i64 x10] 38)).alloc (.cells #[.int .i64 y0, .int .i64 y1, .int .i64 y2, .int .i64 y3] 25) := ⟨_, rfl⟩
  have hbV : Below w.heap.size w V := by rw [hV]; exact bel2 _ _ _
  have KS0 : Hid (V.heap[w.heap.size]? = some (.cells #[.int .i64 x0, .int .i64 x1, .int .i64 x2, .int .i64 x3, .int .i64 x4, .int .i64 x5, .int .i64 x6, .int .i64 x7, .int .i64 x8, .int .i64 x9, .int .i64 x10] 38)) := by rw [hV]; exact box_alloc (box_new w _) _
  have KW0 : Hid (V.heap[w.heap.size + 1]? = some (.cells #[.int .i64 y0, .int .i64 y1, .int .i64 y2, .int .i64 y3] 25)) := by rw [hV]; have h := box_new (w.alloc (.cells #[.int .i64 x0, .int .i64 x1, .int .i64 x2, .int .i64 x3, .int .i64 x4, .int .i64 x5, .int .i64 x6, .int .i64 x7, .int .i64 x8, .int .i64 x9, .int .i64 x10] 38)) (.cells #[.int .i64 y0, .int .i64 y1, .int .i64 y2, .int .i64 y3] 25); simp only [World.size_alloc] at h; exact h
  go_enter Try.func16, Try.ntmps16
  go_upto_region 1 with fail
  rw [← hV]
  clear hV
  have c0 : V.cell? ⟨w.heap.size, 0, none⟩ = some (.int .i64 x0) := box_cell KS0.out 0 _ rfl
  have c1 : V.cell? ⟨w.heap.size, 1, none⟩ = some (.int .i64 x1) := box_cell KS0.out 1 _ rfl
  have c2 : V.cell? ⟨w.heap.size, 2, none⟩ = some (.int .i64 x2) := box_cell KS0.out 2 _ rfl
  have c3 : V.cell? ⟨w.heap.size, 3, none⟩ = some (.int .i64 x3) := box_cell KS0.out 3 _ rfl
  have c4 : V.cell? ⟨w.heap.size, 4, none⟩ = some (.int .i64 x4) := box_cell KS0.out 4 _ rfl
  have c5 : V.cell? ⟨w.heap.size, 5, none⟩ = some (.int .i64 x5) := box_cell KS0.out 5 _ rfl
  have c6 : V.cell? ⟨w.heap.size, 6, none⟩ = some (.int .i64 x6) := box_cell KS0.out 6 _ rfl
  have c7 : V.cell? ⟨w.heap.size, 7, none⟩ = some (.int .i64 x7) := box_cell KS0.out 7 _ rfl
  have c8 : V.cell? ⟨w.heap.size, 8, none⟩ = some (.int .i64 x8) := box_cell KS0.out 8 _ rfl
  have c9 : V.cell? ⟨w.heap.size, 9, none⟩ = some (.int .i64 x9) := box_cell KS0.out 9 _ rfl
  have c10 : V.cell? ⟨w.heap.size, 10, none⟩ = some (.int .i64 x10) := box_cell KS0.out 10 _ rfl
  have d0 : V.cell? ⟨w.heap.size + 1, 0, none⟩ = some (.int .i64 y0) := box_cell KW0.out 0 _ rfl
  have d1 : V.cell? ⟨w.heap.size + 1, 1, none⟩ = some (.int .i64 y1) := box_cell KW0.out 1 _ rfl
  have d2 : V.cell? ⟨w.heap.size + 1, 2, none⟩ = some (.int .i64 y2) := box_cell KW0.out 2 _ rfl
  have d3 : V.cell? ⟨w.heap.size + 1, 3, none⟩ = some (.int .i64 y3) := box_cell KW0.out 3 _ rfl
  go_wp2_with fail
  refine (specOk_any x0 x1 x2 x3 x4 x5 x6 x7 x8 x9 x10 _).mono ?_
  rintro e w1 ⟨rfl, hb⟩
  have KS1 := Lib.hid (box_below KS0.out hb)
  have KW1 := Lib.hid (box_below KW0.out hb)
  have HB1 := Lib.hid (bel_then hbV hb hbV.size)
  clear KS0 KW0 hb c0 c1 c2 c3 c4 c5 c6 c7 c8 c9 c10 d0 d1 d2 d3
  clear hbV
  have c0 : w1.cell? ⟨w.heap.size, 0, none⟩ = some (.int .i64 x0) := box_cell KS1.out 0 _ rfl
  have c1 : w1.cell? ⟨w.heap.size, 1, none⟩ = some (.int .i64 x1) := box_cell KS1.out 1 _ rfl
  have c2 : w1.cell? ⟨w.heap.size, 2, none⟩ = some (.int .i64 x2) := box_cell KS1.out 2 _ rfl
  have c3 : w1.cell? ⟨w.heap.size, 3, none⟩ = some (.int .i64 x3) := box_cell KS1.out 3 _ rfl
  have c4 : w1.cell? ⟨w.heap.size, 4, none⟩ = some (.int .i64 x4) := box_cell KS1.out 4 _ rfl
  have c5 : w1.cell? ⟨w.heap.size, 5, none⟩ = some (.int .i64 x5) := box_cell KS1.out 5 _ rfl
  have c6 : w1.cell? ⟨w.heap.size, 6, none⟩ = some (.int .i64 x6) := box_cell KS1.out 6 _ rfl
  have c7 : w1.cell? ⟨w.heap.size, 7, none⟩ = some (.int .i64 x7) := box_cell KS1.out 7 _ rfl
  have c8 : w1.cell? ⟨w.heap.size, 8, none⟩ = some (.int .i64 x8) := box_cell KS1.out 8 _ rfl
  have c9 : w1.cell? ⟨w.heap.size, 9, none⟩ = some (.int .i64 x9) := box_cell KS1.out 9 _ rfl
  have c10 : w1.cell? ⟨w.heap.size, 10, none⟩ = some (.int .i64 x10) := box_cell KS1.out 10 _ rfl
  have d0 : w1.cell? ⟨w.heap.size + 1, 0, none⟩ = some (.int .i64 y0) := box_cell KW1.out 0 _ rfl
  have d1 : w1.cell? ⟨w.heap.size + 1, 1, none⟩ = some (.int .i64 y1) := box_cell KW1.out 1 _ rfl
  have d2 : w1.cell? ⟨w.heap.size + 1, 2, none⟩ = some (.int .i64 y2) := box_cell KW1.out 2 _ rfl
  have d3 : w1.cell? ⟨w.heap.size + 1, 3, none⟩ = some (.int .i64 y3) := box_cell KW1.out 3 _ rfl
  cases hs : specB x0 x1 x2 x3 x4 x5 x6 x7 x8 x9 x10
  · have HV : Hid (R = -1) := by show R = _; rw [HR.out]; simp [boundV, hs]
    go_wp2
    go_ret
    exact ⟨by rw [HV.out]; rfl, HB1.out⟩
  go_wp2_with fail
  refine (worldOk_any y0 y1 y2 y3 _).mono ?_
  rintro e w2 ⟨rfl, hb⟩
  have KS2 := Lib.hid (box_below KS1.out hb)
  have KW2 := Lib.hid (box_below KW1.out hb)
  have HB2 := Lib.hid (bel_then HB1.out hb HB1.out.size)
  clear KS1 KW1 hb c0 c1 c2 c3 c4 c5 c6 c7 c8 c9 c10 d0 d1 d2 d3
  have c0 : w2.cell? ⟨w.heap.size, 0, none⟩ = some (.int .i64 x0) := box_cell KS2.out 0 _ rfl
  have c1 : w2.cell? ⟨w.heap.size, 1, none⟩ = some (.int .i64 x1) := box_cell KS2.out 1 _ rfl
  have c2 : w2.cell? ⟨w.heap.size, 2, none⟩ = some (.int .i64 x2) := box_cell KS2.out 2 _ rfl
  have c3 : w2.cell? ⟨w.heap.size, 3, none⟩ = some (.int .i64 x3) := box_cell KS2.out 3 _ rfl
  have c4 : w2.cell? ⟨w.heap.size, 4, none⟩ = some (.int .i64 x4) := box_cell KS2.out 4 _ rfl
  have c5 : w2.cell? ⟨w.heap.size, 5, none⟩ = some (.int .i64 x5) := box_cell KS2.out 5 _ rfl
  have c6 : w2.cell? ⟨w.heap.size, 6, none⟩ = some (.int .i64 x6) := box_cell KS2.out 6 _ rfl
  have c7 : w2.cell? ⟨w.heap.size, 7, none⟩ = some (.int .i64 x7) := box_cell KS2.out 7 _ rfl
  have c8 : w2.cell? ⟨w.heap.size, 8, none⟩ = some (.int .i64 x8) := box_cell KS2.out 8 _ rfl
  have c9 : w2.cell? ⟨w.heap.size, 9, none⟩ = some (.int .i64 x9) := box_cell KS2.out 9 _ rfl
  have c10 : w2.cell? ⟨w.heap.size, 10, none⟩ = some (.int .i64 x10) := box_cell KS2.out 10 _ rfl
  have d0 : w2.cell? ⟨w.heap.size + 1, 0, none⟩ = some (.int .i64 y0) := box_cell KW2.out 0 _ rfl
  have d1 : w2.cell? ⟨w.heap.size + 1, 1, none⟩ = some (.int .i64 y1) := box_cell KW2.out 1 _ rfl
  have d2 : w2.cell? ⟨w.heap.size + 1, 2, none⟩ = some (.int .i64 y2) := box_cell KW2.out 2 _ rfl
  have d3 : w2.cell? ⟨w.heap.size + 1, 3, none⟩ = some (.int .i64 y3) := box_cell KW2.out 3 _ rfl
  cases hw : worldB y0 y1 y2 y3
  · have HV : Hid (R = -1) := by show R = _; rw [HR.out]; simp [boundV, hw]
    go_wp2
    go_ret
    exact ⟨by rw [HV.out]; rfl, HB2.out⟩
  obtain ⟨N, hN⟩ : ∃ N, N = stepsV x0 x1 x2 x3 x4 x5 x6 x7 x8 x9 x10 := ⟨_, rfl⟩
  have bN : 0 ≤ N ∧ N ≤ 25 := by
    have h1 := (way_all hs).2
    have h2 := specB_t hs
    rw [hN, stepsV, if_pos hs]
    omega
  have HST : Hid (∀ W : World, Calls Try.prog 25 #[.agg #[.int .i64 x0, .int .i64 x1, .int .i64 x2, .int .i64 x3, .int .i64 x4, .int .i64 x5, .int .i64 x6, .int .i64 x7, .int .i64 x8, .int .i64 x9, .int .i64 x10]] W (Says (.int .i64 N) W)) := fun W => by rw [hN]; exact StepI.StepsNeeded_any x0 x1 x2 x3 x4 x5 x6 x7 x8 x9 x10 W
  have bs := specB_t hs
  have bw := worldB_t hw
  have bx3 : 0 ≤ x3 ∧ x3 ≤ 1000 := by omega
  have bx4 : 0 ≤ x4 ∧ x4 ≤ 20 := by omega
  have bx6 : 0 ≤ x6 ∧ x6 ≤ 10000 := by omega
  have bx10 : 0 ≤ x10 ∧ x10 ≤ 1000 := by omega
  have by0 : 1 ≤ y0 ∧ y0 ≤ 10 := by omega
  clear bs bw
  obtain ⟨P, hP⟩ : ∃ P, (N + 2) * (2 * y0 + x3 + 2) = P := ⟨_, rfl⟩
  obtain ⟨Q, hQ⟩ : ∃ Q, (x4 + 1) * (y0 + x6 + 2) = Q := ⟨_, rfl⟩
  have bP : 0 ≤ P ∧ P ≤ 30000 := by
    have h := mul_bd (a := N + 2) (b := 2 * y0 + x3 + 2) (m := 27) (k := 1022) (by omega) (by omega) (by omega) (by omega) (by omega)
    rw [hP] at h
    omega
  have bQ : 0 ≤ Q ∧ Q ≤ 300000 := by
    have h := mul_bd (a := x4 + 1) (b := y0 + x6 + 2) (m := 21) (k := 10012) (by omega) (by omega) (by omega) (by omega) (by omega)
    rw [hQ] at h
    omega
  have HV : Hid (R = 2 * (P + x10 + y0 + x3 + 2) + Q) := by show R = _; rw [HR.out, boundV, hs, hw, ← hN, ← hP, ← hQ]; rfl
  clear hs hw hN
  have a1 : IntKind.i64.wrap (N + 2) = N + 2 := wrap_id (by omega) (by omega)
  have a2 : IntKind.i64.wrap (2 * y0) = 2 * y0 := wrap_id (by omega) (by omega)
  have a3 : IntKind.i64.wrap (2 * y0 + x3) = 2 * y0 + x3 := wrap_id (by omega) (by omega)
  have a4 : IntKind.i64.wrap (2 * y0 + x3 + 2) = 2 * y0 + x3 + 2 := wrap_id (by omega) (by omega)
  have a5 : IntKind.i64.wrap P = P := wrap_id (by omega) (by omega)
  have a6 : IntKind.i64.wrap (P + x10) = P + x10 := wrap_id (by omega) (by omega)
  have a7 : IntKind.i64.wrap (P + x10 + y0) = P + x10 + y0 := wrap_id (by omega) (by omega)
  have a8 : IntKind.i64.wrap (P + x10 + y0 + x3) = P + x10 + y0 + x3 := wrap_id (by omega) (by omega)
  have a9 : IntKind.i64.wrap (P + x10 + y0 + x3 + 2) = P + x10 + y0 + x3 + 2 := wrap_id (by omega) (by omega)
  have a10 : IntKind.i64.wrap (2 * (P + x10 + y0 + x3 + 2)) = 2 * (P + x10 + y0 + x3 + 2) := wrap_id (by omega) (by omega)
  have a11 : IntKind.i64.wrap (x4 + 1) = x4 + 1 := wrap_id (by omega) (by omega)
  have a12 : IntKind.i64.wrap (y0 + x6) = y0 + x6 := wrap_id (by omega) (by omega)
  have a13 : IntKind.i64.wrap (y0 + x6 + 2) = y0 + x6 + 2 := wrap_id (by omega) (by omega)
  have a14 : IntKind.i64.wrap Q = Q := wrap_id (by omega) (by omega)
  have a15 : IntKind.i64.wrap (2 * (P + x10 + y0 + x3 + 2) + Q) = 2 * (P + x10 + y0 + x3 + 2) + Q := wrap_id (by omega) (by omega)
  clear bN bx3 bx4 bx6 bx10 by0 bP bQ
  go_upto_region 3 with fail
  refine wp_region_held_drew (S := fun w' => w'.cell? ⟨w.heap.size, 0, none⟩ = some (.int .i64 x0) ∧ w'.cell? ⟨w.heap.size, 1, none⟩ = some (.int .i64 x1) ∧ w'.cell? ⟨w.heap.size, 2, none⟩ = some (.int .i64 x2) ∧ w'.cell? ⟨w.heap.size, 3, none⟩ = some (.int .i64 x3) ∧ w'.cell? ⟨w.heap.size, 4, none⟩ = some (.int .i64 x4) ∧ w'.cell? ⟨w.heap.size, 5, none⟩ = some (.int .i64 x5) ∧ w'.cell? ⟨w.heap.size, 6, none⟩ = some (.int .i64 x6) ∧ w'.cell? ⟨w.heap.size, 7, none⟩ = some (.int .i64 x7) ∧ w'.cell? ⟨w.heap.size, 8, none⟩ = some (.int .i64 x8) ∧ w'.cell? ⟨w.heap.size, 9, none⟩ = some (.int .i64 x9) ∧ w'.cell? ⟨w.heap.size, 10, none⟩ = some (.int .i64 x10) ∧ w'.cell? ⟨w.heap.size + 1, 0, none⟩ = some (.int .i64 y0)) (by kernel_rfl) ⟨c0, c1, c2, c3, c4, c5, c6, c7, c8, c9, c10, d0⟩ (fun hHeld => ?_)
  refine wpAnyH_take (i := 0) (v := ?v23) rfl (by kernel_rfl) (by kernel_rfl) (by kernel_rfl) (fun _ _ _ h => h) (Or.inl ⟨by rfl, ?hy23⟩) (by assumption) ?_
  case hy23 => (intro w0 hSw; (try dsimp only at hSw); go_simp <;> with_reducible rfl)
  try simp only [Act.put, List.getElem_toArray, List.getElem_cons_zero, List.getElem_cons_succ, List.setIfInBounds_toArray, List.set_cons_zero, List.set_cons_succ]
  refine wpAnyH_take (i := 3) (v := ?v24) rfl (by kernel_rfl) (by kernel_rfl) (by kernel_rfl) (fun _ _ _ h => h) (Or.inl ⟨by rfl, ?hy24⟩) (by assumption) ?_
  case hy24 => (intro w0 hSw; (try dsimp only at hSw); go_simp <;> with_reducible rfl)
  try simp only [Act.put, List.getElem_toArray, List.getElem_cons_zero, List.getElem_cons_succ, List.setIfInBounds_toArray, List.set_cons_zero, List.set_cons_succ]
  refine wpAnyH_take (i := 4) (v := ?v25) rfl (by kernel_rfl) (by kernel_rfl) (by kernel_rfl) (fun _ _ _ h => h) (Or.inl ⟨by rfl, ?hy25⟩) (by assumption) ?_
  case hy25 => (intro w0 hSw; (try dsimp only at hSw); go_simp <;> with_reducible rfl)
  try simp only [Act.put, List.getElem_toArray, List.getElem_cons_zero, List.getElem_cons_succ, List.setIfInBounds_toArray, List.set_cons_zero, List.set_cons_succ]
  refine wpAnyH_take (i := 5) (v := ?v26) rfl (by kernel_rfl) (by kernel_rfl) (by kernel_rfl) (fun _ _ _ h => h) (Or.inl ⟨by rfl, ?hy26⟩) (by assumption) ?_
  case hy26 => (intro w0 hSw; (try dsimp only at hSw); go_simp <;> with_reducible rfl)
  try simp only [Act.put, List.getElem_toArray, List.getElem_cons_zero, List.getElem_cons_succ, List.setIfInBounds_toArray, List.set_cons_zero, List.set_cons_succ]
  refine wpAnyH_take (i := 6) (v := ?v27) rfl (by kernel_rfl) (by kernel_rfl) (by kernel_rfl) (fun _ _ _ h => h) (Or.inl ⟨by rfl, ?hy27⟩) (by assumption) ?_
  case hy27 => (intro w0 hSw; (try dsimp only at hSw); go_simp <;> with_reducible rfl)
  try simp only [Act.put, List.getElem_toArray, List.getElem_cons_zero, List.getElem_cons_succ, List.setIfInBounds_toArray, List.set_cons_zero, List.set_cons_succ]
  refine wpAnyH_take (i := 7) (v := ?v28) rfl (by kernel_rfl) (by kernel_rfl) (by kernel_rfl) (fun _ _ _ h => h) (Or.inl ⟨by rfl, ?hy28⟩) (by assumption) ?_
  case hy28 => (intro w0 hSw; (try dsimp only at hSw); go_simp <;> with_reducible rfl)
  try simp only [Act.put, List.getElem_toArray, List.getElem_cons_zero, List.getElem_cons_succ, List.setIfInBounds_toArray, List.set_cons_zero, List.set_cons_succ]
  refine wpAnyH_take (i := 8) (v := ?v29) rfl (by kernel_rfl) (by kernel_rfl) (by kernel_rfl) (fun _ _ _ h => h) (Or.inl ⟨by rfl, ?hy29⟩) (by assumption) ?_
  case hy29 => (intro w0 hSw; (try dsimp only at hSw); go_simp <;> with_reducible rfl)
  try simp only [Act.put, List.getElem_toArray, List.getElem_cons_zero, List.getElem_cons_succ, List.setIfInBounds_toArray, List.set_cons_zero, List.set_cons_succ]
  refine wpAnyH_take (i := 9) (v := ?v30) rfl (by kernel_rfl) (by kernel_rfl) (by kernel_rfl) (fun _ _ _ h => h) (Or.inl ⟨by rfl, ?hy30⟩) (by assumption) ?_
  case hy30 => (intro w0 hSw; (try dsimp only at hSw); go_simp <;> with_reducible rfl)
  try simp only [Act.put, List.getElem_toArray, List.getElem_cons_zero, List.getElem_cons_succ, List.setIfInBounds_toArray, List.set_cons_zero, List.set_cons_succ]
  refine wpAnyH_take (i := 11) (v := ?v31) rfl (by kernel_rfl) (by kernel_rfl) (by kernel_rfl) (fun _ _ _ h => h) (Or.inl ⟨by rfl, ?hy31⟩) (by assumption) ?_
  case hy31 => (intro w0 hSw; (try dsimp only at hSw); go_simp <;> with_reducible rfl)
  try simp only [Act.put, List.getElem_toArray, List.getElem_cons_zero, List.getElem_cons_succ, List.setIfInBounds_toArray, List.set_cons_zero, List.set_cons_succ]
  refine wpAnyH_take (i := 12) (v := ?v32) rfl (by kernel_rfl) (by kernel_rfl) (by kernel_rfl) (fun _ _ _ h => h) (Or.inl ⟨by rfl, ?hy32⟩) (by assumption) ?_
  case hy32 => (intro w0 hSw; (try dsimp only at hSw); go_simp <;> with_reducible rfl)
  try simp only [Act.put, List.getElem_toArray, List.getElem_cons_zero, List.getElem_cons_succ, List.setIfInBounds_toArray, List.set_cons_zero, List.set_cons_succ]
  refine wpAnyH_take (i := 14) (v := ?v33) rfl (by kernel_rfl) (by kernel_rfl) (by kernel_rfl) (fun _ _ _ h => h) (Or.inl ⟨by rfl, ?hy33⟩) (by assumption) ?_
  case hy33 => (intro w0 hSw; (try dsimp only at hSw); go_simp <;> with_reducible rfl)
  try simp only [Act.put, List.getElem_toArray, List.getElem_cons_zero, List.getElem_cons_succ, List.setIfInBounds_toArray, List.set_cons_zero, List.set_cons_succ]
  refine wpAnyH_take (i := 15) (v := ?v34) rfl (by kernel_rfl) (by kernel_rfl) (by kernel_rfl) (fun _ _ _ h => h) (Or.inl ⟨by rfl, ?hy34⟩) (by assumption) ?_
  case hy34 => (intro w0 hSw; (try dsimp only at hSw); go_simp <;> with_reducible rfl)
  try simp only [Act.put, List.getElem_toArray, List.getElem_cons_zero, List.getElem_cons_succ, List.setIfInBounds_toArray, List.set_cons_zero, List.set_cons_succ]
  refine wpAnyH_take (i := 17) (v := ?v35) rfl (by kernel_rfl) (by kernel_rfl) (by kernel_rfl) (fun _ _ _ h => h) (Or.inl ⟨by rfl, ?hy35⟩) (by assumption) ?_
  case hy35 => (intro w0 hSw; (try dsimp only at hSw); go_simp <;> with_reducible rfl)
  try simp only [Act.put, List.getElem_toArray, List.getElem_cons_zero, List.getElem_cons_succ, List.setIfInBounds_toArray, List.set_cons_zero, List.set_cons_succ]
  refine wpAnyH_take (i := 18) (v := ?v36) rfl (by kernel_rfl) (by kernel_rfl) (by kernel_rfl) (fun _ _ _ h => h) (Or.inl ⟨by rfl, ?hy36⟩) (by assumption) ?_
  case hy36 => (intro w0 hSw; (try dsimp only at hSw); go_simp <;> with_reducible rfl)
  try simp only [Act.put, List.getElem_toArray, List.getElem_cons_zero, List.getElem_cons_succ, List.setIfInBounds_toArray, List.set_cons_zero, List.set_cons_succ]
  refine wpAnyH_ready (rs := [1]) (by kernel_rfl) (by simp) (AllReadyH.cons rfl (fun K hK => ?_) AllReadyH.nil)
  go_simp
  refine (HST.out _).mono ?_
  rintro e w3 ⟨rfl, hb0⟩
  have hb : Below w2.heap.size w2 w3 := undrew hb0
  clear hHeld
  refine hK _ _ (by exact ⟨LK.cell_keep hb c0, LK.cell_keep hb c1, LK.cell_keep hb c2, LK.cell_keep hb c3, LK.cell_keep hb c4, LK.cell_keep hb c5, LK.cell_keep hb c6, LK.cell_keep hb c7, LK.cell_keep hb c8, LK.cell_keep hb c9, LK.cell_keep hb c10, LK.cell_keep hb d0⟩) (fun hHeld => ?_)
  clear hK K
  try simp only [Act.put, List.getElem_toArray, List.getElem_cons_zero, List.getElem_cons_succ, List.setIfInBounds_toArray, List.set_cons_zero, List.set_cons_succ]
  refine wpAnyH_take (i := 2) (v := ?v38) rfl (by kernel_rfl) (by kernel_rfl) (by kernel_rfl) (fun _ _ _ h => h) (Or.inl ⟨by rfl, ?hy38⟩) (by assumption) ?_
  case hy38 => (intro w0 hSw; (try dsimp only at hSw); go_simp <;> with_reducible rfl)
  try simp only [Act.put, List.getElem_toArray, List.getElem_cons_zero, List.getElem_cons_succ, List.setIfInBounds_toArray, List.set_cons_zero, List.set_cons_succ]
  refine wpAnyH_take (i := 10) (v := ?v39) rfl (by kernel_rfl) (by kernel_rfl) (by kernel_rfl) (fun _ _ _ h => h) (Or.inl ⟨by rfl, ?hy39⟩) (by assumption) ?_
  case hy39 => (intro w0 hSw; (try dsimp only at hSw); go_simp <;> with_reducible rfl)
  try simp only [Act.put, List.getElem_toArray, List.getElem_cons_zero, List.getElem_cons_succ, List.setIfInBounds_toArray, List.set_cons_zero, List.set_cons_succ]
  refine wpAnyH_take (i := 13) (v := ?v40) rfl (by kernel_rfl) (by kernel_rfl) (by kernel_rfl) (fun _ _ _ h => h) (Or.inl ⟨by rfl, ?hy40⟩) (by assumption) ?_
  case hy40 => (intro w0 hSw; (try dsimp only at hSw); go_simp <;> with_reducible rfl)
  try simp only [Act.put, List.getElem_toArray, List.getElem_cons_zero, List.getElem_cons_succ, List.setIfInBounds_toArray, List.set_cons_zero, List.set_cons_succ]
  refine wpAnyH_take (i := 16) (v := ?v41) rfl (by kernel_rfl) (by kernel_rfl) (by kernel_rfl) (fun _ _ _ h => h) (Or.inl ⟨by rfl, ?hy41⟩) (by assumption) ?_
  case hy41 => (intro w0 hSw; (try dsimp only at hSw); go_simp <;> with_reducible rfl)
  try simp only [Act.put, List.getElem_toArray, List.getElem_cons_zero, List.getElem_cons_succ, List.setIfInBounds_toArray, List.set_cons_zero, List.set_cons_succ]
  refine wpAnyH_take (i := 19) (v := ?v42) rfl (by kernel_rfl) (by kernel_rfl) (by kernel_rfl) (fun _ _ _ h => h) (Or.inl ⟨by rfl, ?hy42⟩) (by assumption) ?_
  case hy42 => (intro w0 hSw; (try dsimp only at hSw); go_simp <;> with_reducible rfl)
  try simp only [Act.put, List.getElem_toArray, List.getElem_cons_zero, List.getElem_cons_succ, List.setIfInBounds_toArray, List.set_cons_zero, List.set_cons_succ]
  refine wpAnyH_take (i := 20) (v := ?v43) rfl (by kernel_rfl) (by kernel_rfl) (by kernel_rfl) (fun _ _ _ h => h) (Or.inl ⟨by rfl, ?hy43⟩) (by assumption) ?_
  case hy43 => (intro w0 hSw; (try dsimp only at hSw); go_simp <;> with_reducible rfl)
  try simp only [Act.put, List.getElem_toArray, List.getElem_cons_zero, List.getElem_cons_succ, List.setIfInBounds_toArray, List.set_cons_zero, List.set_cons_succ]
  refine wpAnyH_take (i := 21) (v := ?v44) rfl (by kernel_rfl) (by kernel_rfl) (by kernel_rfl) (fun _ _ _ h => h) (Or.inl ⟨by rfl, ?hy44⟩) (by assumption) ?_
  case hy44 => (intro w0 hSw; (try dsimp only at hSw); go_simp <;> with_reducible rfl)
  try simp only [Act.put, List.getElem_toArray, List.getElem_cons_zero, List.getElem_cons_succ, List.setIfInBounds_toArray, List.set_cons_zero, List.set_cons_succ]
  refine wpAnyH_done (by kernel_rfl) ?_ _
  clear hHeld hb0
  have KS3 := Lib.hid (box_below KS2.out hb)
  have KW3 := Lib.hid (box_below KW2.out hb)
  have HB3 := Lib.hid (bel_then HB2.out hb HB2.out.size)
  clear KS2 KW2 hb c0 c1 c2 c3 c4 c5 c6 c7 c8 c9 c10 d0 d1 d2 d3
  have c0 : w3.cell? ⟨w.heap.size, 0, none⟩ = some (.int .i64 x0) := box_cell KS3.out 0 _ rfl
  have c1 : w3.cell? ⟨w.heap.size, 1, none⟩ = some (.int .i64 x1) := box_cell KS3.out 1 _ rfl
  have c2 : w3.cell? ⟨w.heap.size, 2, none⟩ = some (.int .i64 x2) := box_cell KS3.out 2 _ rfl
  have c3 : w3.cell? ⟨w.heap.size, 3, none⟩ = some (.int .i64 x3) := box_cell KS3.out 3 _ rfl
  have c4 : w3.cell? ⟨w.heap.size, 4, none⟩ = some (.int .i64 x4) := box_cell KS3.out 4 _ rfl
  have c5 : w3.cell? ⟨w.heap.size, 5, none⟩ = some (.int .i64 x5) := box_cell KS3.out 5 _ rfl
  have c6 : w3.cell? ⟨w.heap.size, 6, none⟩ = some (.int .i64 x6) := box_cell KS3.out 6 _ rfl
  have c7 : w3.cell? ⟨w.heap.size, 7, none⟩ = some (.int .i64 x7) := box_cell KS3.out 7 _ rfl
  have c8 : w3.cell? ⟨w.heap.size, 8, none⟩ = some (.int .i64 x8) := box_cell KS3.out 8 _ rfl
  have c9 : w3.cell? ⟨w.heap.size, 9, none⟩ = some (.int .i64 x9) := box_cell KS3.out 9 _ rfl
  have c10 : w3.cell? ⟨w.heap.size, 10, none⟩ = some (.int .i64 x10) := box_cell KS3.out 10 _ rfl
  have d0 : w3.cell? ⟨w.heap.size + 1, 0, none⟩ = some (.int .i64 y0) := box_cell KW3.out 0 _ rfl
  have d1 : w3.cell? ⟨w.heap.size + 1, 1, none⟩ = some (.int .i64 y1) := box_cell KW3.out 1 _ rfl
  have d2 : w3.cell? ⟨w.heap.size + 1, 2, none⟩ = some (.int .i64 y2) := box_cell KW3.out 2 _ rfl
  have d3 : w3.cell? ⟨w.heap.size + 1, 3, none⟩ = some (.int .i64 y3) := box_cell KW3.out 3 _ rfl
  go_wp2
  go_ret
  exact ⟨by rw [HV.out]; rfl, HB3.out⟩
end Go.Proofs.Ytlghdmakaocokaa.WBound
