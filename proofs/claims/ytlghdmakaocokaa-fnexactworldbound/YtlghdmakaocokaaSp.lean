/-
  A SPEC over this seat's translation: eleven ints; what SpecOk and DefaultSpec answer, the program's and the model's; laws.toSpec and eqSpec; how a spec comes in.
-/
import Derived.Test.YtlghdmakaocokaaLawKit
import Derived.Test.YtlghdmakaocokaaTick
import Derived.Test.YtlghdmakaocokaaFlatOpen
import Derived.Test.YtlghdmakaocokaaFast
namespace Go.Proofs.Ytlghdmakaocokaa.Sp
open Go.ChangeShapes Go.WideShapes Go.ChangeAt Go.RowKit Go.Joins Go.Deep
open Go.Proofs.Ytlghdmakaocokaa.LK
open Go.Proofs.Ytlghdmakaocokaa.Tick (inB in_t in_f l01In_any)
set_option linter.unusedVariables false
set_option linter.unusedSimpArgs false

def specB (x0 x1 x2 x3 x4 x5 x6 x7 x8 x9 x10 : Int) : Bool := inB x0 1 12 && inB x1 0 x0 && inB x2 0 x0 && decide (0 < x1 + x2) && inB x3 0 1000 && inB x4 0 20 && inB x5 1 x6 && decide (x6 ≤ 10000) && inB x7 1 100000 && inB x8 1 100000 && inB x9 0 x0 && inB x10 0 1000
theorem specB_t {x0 x1 x2 x3 x4 x5 x6 x7 x8 x9 x10 : Int} (h : specB x0 x1 x2 x3 x4 x5 x6 x7 x8 x9 x10 = true) : (1 ≤ x0 ∧ x0 ≤ 12) ∧ (0 ≤ x1 ∧ x1 ≤ x0) ∧ (0 ≤ x2 ∧ x2 ≤ x0) ∧ 0 < x1 + x2 ∧ (0 ≤ x3 ∧ x3 ≤ 1000) ∧ (0 ≤ x4 ∧ x4 ≤ 20) ∧ (1 ≤ x5 ∧ x5 ≤ x6) ∧ x6 ≤ 10000 ∧ (1 ≤ x7 ∧ x7 ≤ 100000) ∧ (1 ≤ x8 ∧ x8 ≤ 100000) ∧ (0 ≤ x9 ∧ x9 ≤ x0) ∧ (0 ≤ x10 ∧ x10 ≤ 1000) := by
  simp only [specB, inB, Bool.and_eq_true, decide_eq_true_eq] at h
  omega
theorem flat_fields {i : Nat} {f : Field} {fs : Array Field} (h : fs.toList.zipIdx.all (fun q => q.1.offset == q.2 && q.1.type == 3) = true) (hf : fs[i]? = some f) : f.offset = i ∧ f.type = 3 := by
  have h1 : (f, i) ∈ fs.toList.zipIdx := List.mem_zipIdx_iff_getElem?.2 (by simpa using hf)
  have h2 := List.all_eq_true.1 h _ h1
  simpa using h2
section
variable {H : Type} {enc : TypeId × Value → H} {w : World} {base : Nat} {spare : Nat → Bool} {held : Bool}
set_option maxRecDepth 100000 in
theorem open_spec {r : Reach} {b0 : Nat} {v : Value} {d : DataW H} {p : List MemPlace} (hv : Value.okWide Try.prog w r b0 36 v) (h : DataW.Trod enc Try.prog w base spare held 36 v d p) :
    ∃ x0 x1 x2 x3 x4 x5 x6 x7 x8 x9 x10 : Int, v = .agg #[.int .i64 x0, .int .i64 x1, .int .i64 x2, .int .i64 x3, .int .i64 x4, .int .i64 x5, .int .i64 x6, .int .i64 x7, .int .i64 x8, .int .i64 x9, .int .i64 x10] ∧ (Lit.int .i64 x0).wf = true ∧ (Lit.int .i64 x1).wf = true ∧ (Lit.int .i64 x2).wf = true ∧ (Lit.int .i64 x3).wf = true ∧ (Lit.int .i64 x4).wf = true ∧ (Lit.int .i64 x5).wf = true ∧ (Lit.int .i64 x6).wf = true ∧ (Lit.int .i64 x7).wf = true ∧ (Lit.int .i64 x8).wf = true ∧ (Lit.int .i64 x9).wf = true ∧ (Lit.int .i64 x10).wf = true := by
  obtain ⟨l, hl, rfl, hw⟩ := FlatOpen.open_flat Try.underlying36 (by kernel_rfl) (fun i f hf => flat_fields (by kernel_rfl) hf) hv h
  match l, hl with
  | [x0, x1, x2, x3, x4, x5, x6, x7, x8, x9, x10], _ => exact ⟨x0, x1, x2, x3, x4, x5, x6, x7, x8, x9, x10, rfl, hw x0 (by simp), hw x1 (by simp), hw x2 (by simp), hw x3 (by simp), hw x4 (by simp), hw x5 (by simp), hw x6 (by simp), hw x7 (by simp), hw x8 (by simp), hw x9 (by simp), hw x10 (by simp)⟩
end
set_option maxHeartbeats 1600000 in
theorem toSpec_any (x0 x1 x2 x3 x4 x5 x6 x7 x8 x9 x10 : Int) (w : World) :
    Calls Try.prog 15 #[.agg #[.int .i64 x0, .int .i64 x1, .int .i64 x2, .int .i64 x3, .int .i64 x4, .int .i64 x5, .int .i64 x6, .int .i64 x7, .int .i64 x8, .int .i64 x9, .int .i64 x10]] w (Says (.agg #[.int .i64 x0, .int .i64 x1, .int .i64 x2, .int .i64 x3, .int .i64 x4, .int .i64 x5, .int .i64 x6, .int .i64 x7, .int .i64 x8, .int .i64 x9, .int .i64 x10]) w) := by
  go_enter Try.func15, Try.ntmps15
  go_wp2
  exact bodyPost_ret (v := .agg #[.int .i64 x0, .int .i64 x1, .int .i64 x2, .int .i64 x3, .int .i64 x4, .int .i64 x5, .int .i64 x6, .int .i64 x7, .int .i64 x8, .int .i64 x9, .int .i64 x10]) (by simp [results, Try.results15, go_sem]) rfl ⟨rfl, bel3 _ _ _ _⟩
theorem within_any (x lo hi : Int) (w : World) :
    Calls Try.prog 18 #[.int .i64 x, .int .i64 lo, .int .i64 hi] w fun e w' => e = .returned (.bool (inB x lo hi)) ∧ w = w' := by
  by_cases h0 : lo ≤ x <;> by_cases h1 : x ≤ hi
  all_goals
    go_enter Try.func18, Try.ntmps18
    go_wp2
    go_ret
    simp [inB, h0, h1]
set_option maxRecDepth 100000 in
set_option maxHeartbeats 6400000 in
theorem specOk_any (x0 x1 x2 x3 x4 x5 x6 x7 x8 x9 x10 : Int) (w : World) :
    Calls Try.prog 24 #[.agg #[.int .i64 x0, .int .i64 x1, .int .i64 x2, .int .i64 x3, .int .i64 x4, .int .i64 x5, .int .i64 x6, .int .i64 x7, .int .i64 x8, .int .i64 x9, .int .i64 x10]] w (Says (.bool (specB x0 x1 x2 x3 x4 x5 x6 x7 x8 x9 x10)) w) := by
  obtain ⟨R, hR⟩ : ∃ R, R = specB x0 x1 x2 x3 x4 x5 x6 x7 x8 x9 x10 := ⟨_, rfl⟩
  rw [← hR]
  have HR := Lib.hid hR
  clear hR
  obtain ⟨V, hV⟩ : ∃ V, V = w.alloc (.cells #[.int .i64 x0, .int .i64 x1, .int .i64 x2, .int .i64 x3, .int .i64 x4, .int .i64 x5, .int .i64 x6, .int .i64 x7, .int .i64 x8, .int .i64 x9, .int .i64 x10] 38) := ⟨_, rfl⟩
  have hB : Hid (Below w.heap.size w V) := by rw [hV]; exact bel1 _ _
  have B : Hid (V.heap[w.heap.size]? = some (.cells #[.int .i64 x0, .int .i64 x1, .int .i64 x2, .int .i64 x3, .int .i64 x4, .int .i64 x5, .int .i64 x6, .int .i64 x7, .int .i64 x8, .int .i64 x9, .int .i64 x10] 38)) := by rw [hV]; exact box_new w _
  go_enter Try.func24, Try.ntmps24
  go_wp2_with fail
  rw [← hV]
  clear hV
  have c0 : V.cell? ⟨w.heap.size, 0, none⟩ = some (.int .i64 x0) := box_cell B.out 0 _ rfl
  have c1 : V.cell? ⟨w.heap.size, 1, none⟩ = some (.int .i64 x1) := box_cell B.out 1 _ rfl
  have c2 : V.cell? ⟨w.heap.size, 2, none⟩ = some (.int .i64 x2) := box_cell B.out 2 _ rfl
  have c3 : V.cell? ⟨w.heap.size, 3, none⟩ = some (.int .i64 x3) := box_cell B.out 3 _ rfl
  have c4 : V.cell? ⟨w.heap.size, 4, none⟩ = some (.int .i64 x4) := box_cell B.out 4 _ rfl
  have c5 : V.cell? ⟨w.heap.size, 5, none⟩ = some (.int .i64 x5) := box_cell B.out 5 _ rfl
  have c6 : V.cell? ⟨w.heap.size, 6, none⟩ = some (.int .i64 x6) := box_cell B.out 6 _ rfl
  have c7 : V.cell? ⟨w.heap.size, 7, none⟩ = some (.int .i64 x7) := box_cell B.out 7 _ rfl
  have c8 : V.cell? ⟨w.heap.size, 8, none⟩ = some (.int .i64 x8) := box_cell B.out 8 _ rfl
  have c9 : V.cell? ⟨w.heap.size, 9, none⟩ = some (.int .i64 x9) := box_cell B.out 9 _ rfl
  have c10 : V.cell? ⟨w.heap.size, 10, none⟩ = some (.int .i64 x10) := box_cell B.out 10 _ rfl
  refine (within_any _ _ _ _).mono ?_
  rintro e w' ⟨rfl, rfl⟩
  cases h0 : inB x0 1 12
  · have HF : Hid (R = false) := by rw [HR.out]; cases hq : specB x0 x1 x2 x3 x4 x5 x6 x7 x8 x9 x10 with | false => exact rfl | true => exact absurd (specB_t hq) (by have hz := in_f h0; omega)
    clear c0 c1 c2 c3 c4 c5 c6 c7 c8 c9 c10 h0 HR
    dsimp only
    go_step
    refine Fast.wpList_fast 2 (.bool false) (by kernel_rfl) ?_
    intro a1 h1 h2
    go_wp2
    exact bodyPost_ret (v := .bool false) (by simp [results, Try.results24, go_sem, h1]) h2 ⟨by rw [HF.out], hB.out⟩
  have K0 := Lib.hid (in_t h0)
  clear h0
  go_wp2_with fail
  refine (within_any _ _ _ _).mono ?_
  rintro e w' ⟨rfl, rfl⟩
  cases h1 : inB x1 0 x0
  · have HF : Hid (R = false) := by rw [HR.out]; cases hq : specB x0 x1 x2 x3 x4 x5 x6 x7 x8 x9 x10 with | false => exact rfl | true => exact absurd (specB_t hq) (by have hz := in_f h1; omega)
    clear c0 c1 c2 c3 c4 c5 c6 c7 c8 c9 c10 h1 HR K0
    dsimp only
    go_step
    refine Fast.wpList_fast 2 (.bool false) (by kernel_rfl) ?_
    intro a1 h1 h2
    go_wp2
    exact bodyPost_ret (v := .bool false) (by simp [results, Try.results24, go_sem, h1]) h2 ⟨by rw [HF.out], hB.out⟩
  have K1 := Lib.hid (in_t h1)
  clear h1
  go_wp2_with fail
  refine (within_any _ _ _ _).mono ?_
  rintro e w' ⟨rfl, rfl⟩
  cases h2 : inB x2 0 x0
  · have HF : Hid (R = false) := by rw [HR.out]; cases hq : specB x0 x1 x2 x3 x4 x5 x6 x7 x8 x9 x10 with | false => exact rfl | true => exact absurd (specB_t hq) (by have hz := in_f h2; omega)
    clear c0 c1 c2 c3 c4 c5 c6 c7 c8 c9 c10 h2 HR K0 K1
    dsimp only
    go_step
    refine Fast.wpList_fast 2 (.bool false) (by kernel_rfl) ?_
    intro a1 h1 h2
    go_wp2
    exact bodyPost_ret (v := .bool false) (by simp [results, Try.results24, go_sem, h1]) h2 ⟨by rw [HF.out], hB.out⟩
  have K2 := Lib.hid (in_t h2)
  clear h2
  have b1 := K1.out
  have b2 := K2.out
  have b0 := K0.out
  by_cases h3 : 0 < x1 + x2
  case neg =>
    have HF : Hid (R = false) := by rw [HR.out]; cases hq : specB x0 x1 x2 x3 x4 x5 x6 x7 x8 x9 x10 with | false => exact rfl | true => exact absurd (specB_t hq) (by omega)
    clear HR K0 K1 K2
    go_wp2
    go_ret
    exact ⟨by rw [HF.out]; rfl, hB.out⟩
  have K3 := Lib.hid h3
  go_wp2_with fail
  refine (within_any _ _ _ _).mono ?_
  rintro e w' ⟨rfl, rfl⟩
  cases h4 : inB x3 0 1000
  · have HF : Hid (R = false) := by rw [HR.out]; cases hq : specB x0 x1 x2 x3 x4 x5 x6 x7 x8 x9 x10 with | false => exact rfl | true => exact absurd (specB_t hq) (by have hz := in_f h4; omega)
    clear c0 c1 c2 c3 c4 c5 c6 c7 c8 c9 c10 h4 HR K0 K1 K2 K3
    dsimp only
    go_step
    refine Fast.wpList_fast 2 (.bool false) (by kernel_rfl) ?_
    intro a1 h1 h2
    go_wp2
    exact bodyPost_ret (v := .bool false) (by simp [results, Try.results24, go_sem, h1]) h2 ⟨by rw [HF.out], hB.out⟩
  have K4 := Lib.hid (in_t h4)
  clear h4
  go_wp2_with fail
  refine (within_any _ _ _ _).mono ?_
  rintro e w' ⟨rfl, rfl⟩
  cases h5 : inB x4 0 20
  · have HF : Hid (R = false) := by rw [HR.out]; cases hq : specB x0 x1 x2 x3 x4 x5 x6 x7 x8 x9 x10 with | false => exact rfl | true => exact absurd (specB_t hq) (by have hz := in_f h5; omega)
    clear c0 c1 c2 c3 c4 c5 c6 c7 c8 c9 c10 h5 HR K0 K1 K2 K3 K4
    dsimp only
    go_step
    refine Fast.wpList_fast 2 (.bool false) (by kernel_rfl) ?_
    intro a1 h1 h2
    go_wp2
    exact bodyPost_ret (v := .bool false) (by simp [results, Try.results24, go_sem, h1]) h2 ⟨by rw [HF.out], hB.out⟩
  have K5 := Lib.hid (in_t h5)
  clear h5
  go_wp2_with fail
  refine (within_any _ _ _ _).mono ?_
  rintro e w' ⟨rfl, rfl⟩
  cases h6 : inB x5 1 x6
  · have HF : Hid (R = false) := by rw [HR.out]; cases hq : specB x0 x1 x2 x3 x4 x5 x6 x7 x8 x9 x10 with | false => exact rfl | true => exact absurd (specB_t hq) (by have hz := in_f h6; omega)
    clear c0 c1 c2 c3 c4 c5 c6 c7 c8 c9 c10 h6 HR K0 K1 K2 K3 K4 K5
    dsimp only
    go_step
    refine Fast.wpList_fast 2 (.bool false) (by kernel_rfl) ?_
    intro a1 h1 h2
    go_wp2
    exact bodyPost_ret (v := .bool false) (by simp [results, Try.results24, go_sem, h1]) h2 ⟨by rw [HF.out], hB.out⟩
  have K6 := Lib.hid (in_t h6)
  clear h6
  by_cases h7 : x6 ≤ 10000
  case neg =>
    have HF : Hid (R = false) := by rw [HR.out]; cases hq : specB x0 x1 x2 x3 x4 x5 x6 x7 x8 x9 x10 with | false => exact rfl | true => exact absurd (specB_t hq) (by omega)
    clear HR K0 K1 K2 K3 K4 K5 K6
    go_wp2
    go_ret
    exact ⟨by rw [HF.out]; rfl, hB.out⟩
  have K7 := Lib.hid h7
  go_wp2_with fail
  refine (within_any _ _ _ _).mono ?_
  rintro e w' ⟨rfl, rfl⟩
  cases h8 : inB x7 1 100000
  · have HF : Hid (R = false) := by rw [HR.out]; cases hq : specB x0 x1 x2 x3 x4 x5 x6 x7 x8 x9 x10 with | false => exact rfl | true => exact absurd (specB_t hq) (by have hz := in_f h8; omega)
    clear c0 c1 c2 c3 c4 c5 c6 c7 c8 c9 c10 h8 HR K0 K1 K2 K3 K4 K5 K6 K7
    dsimp only
    go_step
    refine Fast.wpList_fast 2 (.bool false) (by kernel_rfl) ?_
    intro a1 h1 h2
    go_wp2
    exact bodyPost_ret (v := .bool false) (by simp [results, Try.results24, go_sem, h1]) h2 ⟨by rw [HF.out], hB.out⟩
  have K8 := Lib.hid (in_t h8)
  clear h8
  go_wp2_with fail
  refine (within_any _ _ _ _).mono ?_
  rintro e w' ⟨rfl, rfl⟩
  cases h9 : inB x8 1 100000
  · have HF : Hid (R = false) := by rw [HR.out]; cases hq : specB x0 x1 x2 x3 x4 x5 x6 x7 x8 x9 x10 with | false => exact rfl | true => exact absurd (specB_t hq) (by have hz := in_f h9; omega)
    clear c0 c1 c2 c3 c4 c5 c6 c7 c8 c9 c10 h9 HR K0 K1 K2 K3 K4 K5 K6 K7 K8
    dsimp only
    go_step
    refine Fast.wpList_fast 2 (.bool false) (by kernel_rfl) ?_
    intro a1 h1 h2
    go_wp2
    exact bodyPost_ret (v := .bool false) (by simp [results, Try.results24, go_sem, h1]) h2 ⟨by rw [HF.out], hB.out⟩
  have K9 := Lib.hid (in_t h9)
  clear h9
  go_wp2_with fail
  refine (within_any _ _ _ _).mono ?_
  rintro e w' ⟨rfl, rfl⟩
  cases h10 : inB x9 0 x0
  · have HF : Hid (R = false) := by rw [HR.out]; cases hq : specB x0 x1 x2 x3 x4 x5 x6 x7 x8 x9 x10 with | false => exact rfl | true => exact absurd (specB_t hq) (by have hz := in_f h10; omega)
    clear c0 c1 c2 c3 c4 c5 c6 c7 c8 c9 c10 h10 HR K0 K1 K2 K3 K4 K5 K6 K7 K8 K9
    dsimp only
    go_step
    refine Fast.wpList_fast 2 (.bool false) (by kernel_rfl) ?_
    intro a1 h1 h2
    go_wp2
    exact bodyPost_ret (v := .bool false) (by simp [results, Try.results24, go_sem, h1]) h2 ⟨by rw [HF.out], hB.out⟩
  have K10 := Lib.hid (in_t h10)
  clear h10
  go_wp2_with fail
  refine (within_any _ _ _ _).mono ?_
  rintro e w' ⟨rfl, rfl⟩
  cases h11 : inB x10 0 1000
  · have HF : Hid (R = false) := by rw [HR.out]; cases hq : specB x0 x1 x2 x3 x4 x5 x6 x7 x8 x9 x10 with | false => exact rfl | true => exact absurd (specB_t hq) (by have hz := in_f h11; omega)
    clear c0 c1 c2 c3 c4 c5 c6 c7 c8 c9 c10 h11 HR K0 K1 K2 K3 K4 K5 K6 K7 K8 K9 K10
    dsimp only
    go_step
    refine Fast.wpList_fast 2 (.bool false) (by kernel_rfl) ?_
    intro a1 h1 h2
    go_wp2
    exact bodyPost_ret (v := .bool false) (by simp [results, Try.results24, go_sem, h1]) h2 ⟨by rw [HF.out], hB.out⟩
  have K11 := Lib.hid (in_t h11)
  clear h11
  have HT : Hid (R = true) := by
    show R = true
    rw [HR.out]
    simp only [specB, inB, Bool.and_eq_true, decide_eq_true_eq]
    have hK0 := K0.out
    have hK1 := K1.out
    have hK2 := K2.out
    have hK3 := K3.out
    have hK4 := K4.out
    have hK5 := K5.out
    have hK6 := K6.out
    have hK7 := K7.out
    have hK8 := K8.out
    have hK9 := K9.out
    have hK10 := K10.out
    have hK11 := K11.out
    omega
  go_wp2
  go_ret
  exact ⟨by rw [HT.out]; rfl, hB.out⟩
set_option maxRecDepth 100000 in
set_option maxHeartbeats 6400000 in
theorem specSpecOk_any (x0 x1 x2 x3 x4 x5 x6 x7 x8 x9 x10 : Int) (w : World) :
    Calls Try.prog 22 #[.agg #[.int .i64 x0, .int .i64 x1, .int .i64 x2, .int .i64 x3, .int .i64 x4, .int .i64 x5, .int .i64 x6, .int .i64 x7, .int .i64 x8, .int .i64 x9, .int .i64 x10]] w (Says (.bool (specB x0 x1 x2 x3 x4 x5 x6 x7 x8 x9 x10)) w) := by
  obtain ⟨R, hR⟩ : ∃ R, R = specB x0 x1 x2 x3 x4 x5 x6 x7 x8 x9 x10 := ⟨_, rfl⟩
  rw [← hR]
  have HR := Lib.hid hR
  clear hR
  obtain ⟨V, hV⟩ : ∃ V, V = w.alloc (.cells #[.int .i64 x0, .int .i64 x1, .int .i64 x2, .int .i64 x3, .int .i64 x4, .int .i64 x5, .int .i64 x6, .int .i64 x7, .int .i64 x8, .int .i64 x9, .int .i64 x10] 38) := ⟨_, rfl⟩
  have hB : Hid (Below w.heap.size w V) := by rw [hV]; exact bel1 _ _
  have B : Hid (V.heap[w.heap.size]? = some (.cells #[.int .i64 x0, .int .i64 x1, .int .i64 x2, .int .i64 x3, .int .i64 x4, .int .i64 x5, .int .i64 x6, .int .i64 x7, .int .i64 x8, .int .i64 x9, .int .i64 x10] 38)) := by rw [hV]; exact box_new w _
  go_enter Try.func22, Try.ntmps22
  go_wp2_with fail
  rw [← hV]
  clear hV
  have c0 : V.cell? ⟨w.heap.size, 0, none⟩ = some (.int .i64 x0) := box_cell B.out 0 _ rfl
  have c1 : V.cell? ⟨w.heap.size, 1, none⟩ = some (.int .i64 x1) := box_cell B.out 1 _ rfl
  have c2 : V.cell? ⟨w.heap.size, 2, none⟩ = some (.int .i64 x2) := box_cell B.out 2 _ rfl
  have c3 : V.cell? ⟨w.heap.size, 3, none⟩ = some (.int .i64 x3) := box_cell B.out 3 _ rfl
  have c4 : V.cell? ⟨w.heap.size, 4, none⟩ = some (.int .i64 x4) := box_cell B.out 4 _ rfl
  have c5 : V.cell? ⟨w.heap.size, 5, none⟩ = some (.int .i64 x5) := box_cell B.out 5 _ rfl
  have c6 : V.cell? ⟨w.heap.size, 6, none⟩ = some (.int .i64 x6) := box_cell B.out 6 _ rfl
  have c7 : V.cell? ⟨w.heap.size, 7, none⟩ = some (.int .i64 x7) := box_cell B.out 7 _ rfl
  have c8 : V.cell? ⟨w.heap.size, 8, none⟩ = some (.int .i64 x8) := box_cell B.out 8 _ rfl
  have c9 : V.cell? ⟨w.heap.size, 9, none⟩ = some (.int .i64 x9) := box_cell B.out 9 _ rfl
  have c10 : V.cell? ⟨w.heap.size, 10, none⟩ = some (.int .i64 x10) := box_cell B.out 10 _ rfl
  refine (l01In_any _ _ _ _).mono ?_
  rintro e w' ⟨rfl, rfl⟩
  cases h0 : inB x0 1 12
  · have HF : Hid (R = false) := by rw [HR.out]; cases hq : specB x0 x1 x2 x3 x4 x5 x6 x7 x8 x9 x10 with | false => exact rfl | true => exact absurd (specB_t hq) (by have hz := in_f h0; omega)
    clear c0 c1 c2 c3 c4 c5 c6 c7 c8 c9 c10 h0 HR
    go_wp2
    go_ret
    exact ⟨by rw [HF.out]; rfl, hB.out⟩
  have K0 := Lib.hid (in_t h0)
  clear h0
  go_wp2_with fail
  refine (l01In_any _ _ _ _).mono ?_
  rintro e w' ⟨rfl, rfl⟩
  cases h1 : inB x1 0 x0
  · have HF : Hid (R = false) := by rw [HR.out]; cases hq : specB x0 x1 x2 x3 x4 x5 x6 x7 x8 x9 x10 with | false => exact rfl | true => exact absurd (specB_t hq) (by have hz := in_f h1; omega)
    clear c0 c1 c2 c3 c4 c5 c6 c7 c8 c9 c10 h1 HR K0
    go_wp2
    go_ret
    exact ⟨by rw [HF.out]; rfl, hB.out⟩
  have K1 := Lib.hid (in_t h1)
  clear h1
  go_wp2_with fail
  refine (l01In_any _ _ _ _).mono ?_
  rintro e w' ⟨rfl, rfl⟩
  cases h2 : inB x2 0 x0
  · have HF : Hid (R = false) := by rw [HR.out]; cases hq : specB x0 x1 x2 x3 x4 x5 x6 x7 x8 x9 x10 with | false => exact rfl | true => exact absurd (specB_t hq) (by have hz := in_f h2; omega)
    clear c0 c1 c2 c3 c4 c5 c6 c7 c8 c9 c10 h2 HR K0 K1
    go_wp2
    go_ret
    exact ⟨by rw [HF.out]; rfl, hB.out⟩
  have K2 := Lib.hid (in_t h2)
  clear h2
  have b1 := K1.out
  have b2 := K2.out
  have b0 := K0.out
  by_cases h3 : 0 < x1 + x2
  case neg =>
    have HF : Hid (R = false) := by rw [HR.out]; cases hq : specB x0 x1 x2 x3 x4 x5 x6 x7 x8 x9 x10 with | false => exact rfl | true => exact absurd (specB_t hq) (by omega)
    clear HR K0 K1 K2
    go_wp2
    go_ret
    exact ⟨by rw [HF.out]; rfl, hB.out⟩
  have K3 := Lib.hid h3
  go_wp2_with fail
  refine (l01In_any _ _ _ _).mono ?_
  rintro e w' ⟨rfl, rfl⟩
  cases h4 : inB x3 0 1000
  · have HF : Hid (R = false) := by rw [HR.out]; cases hq : specB x0 x1 x2 x3 x4 x5 x6 x7 x8 x9 x10 with | false => exact rfl | true => exact absurd (specB_t hq) (by have hz := in_f h4; omega)
    clear c0 c1 c2 c3 c4 c5 c6 c7 c8 c9 c10 h4 HR K0 K1 K2 K3
    dsimp only
    go_step
    refine Fast.wpList_fast 2 (.bool false) (by kernel_rfl) ?_
    intro a1 h1 h2
    go_wp2
    exact bodyPost_ret (v := .bool false) (by simp [results, Try.results22, go_sem, h1]) h2 ⟨by rw [HF.out], hB.out⟩
  have K4 := Lib.hid (in_t h4)
  clear h4
  go_wp2_with fail
  refine (l01In_any _ _ _ _).mono ?_
  rintro e w' ⟨rfl, rfl⟩
  cases h5 : inB x4 0 20
  · have HF : Hid (R = false) := by rw [HR.out]; cases hq : specB x0 x1 x2 x3 x4 x5 x6 x7 x8 x9 x10 with | false => exact rfl | true => exact absurd (specB_t hq) (by have hz := in_f h5; omega)
    clear c0 c1 c2 c3 c4 c5 c6 c7 c8 c9 c10 h5 HR K0 K1 K2 K3 K4
    dsimp only
    go_step
    refine Fast.wpList_fast 2 (.bool false) (by kernel_rfl) ?_
    intro a1 h1 h2
    go_wp2
    exact bodyPost_ret (v := .bool false) (by simp [results, Try.results22, go_sem, h1]) h2 ⟨by rw [HF.out], hB.out⟩
  have K5 := Lib.hid (in_t h5)
  clear h5
  go_wp2_with fail
  refine (l01In_any _ _ _ _).mono ?_
  rintro e w' ⟨rfl, rfl⟩
  cases h7 : inB x6 1 10000
  · have HF : Hid (R = false) := by rw [HR.out]; cases hq : specB x0 x1 x2 x3 x4 x5 x6 x7 x8 x9 x10 with | false => exact rfl | true => exact absurd (specB_t hq) (by have hz := in_f h7; omega)
    clear c0 c1 c2 c3 c4 c5 c6 c7 c8 c9 c10 h7 HR K0 K1 K2 K3 K4 K5
    dsimp only
    go_step
    refine Fast.wpList_fast 2 (.bool false) (by kernel_rfl) ?_
    intro a1 h1 h2
    go_wp2
    exact bodyPost_ret (v := .bool false) (by simp [results, Try.results22, go_sem, h1]) h2 ⟨by rw [HF.out], hB.out⟩
  have K7 := Lib.hid (in_t h7)
  clear h7
  go_wp2_with fail
  refine (l01In_any _ _ _ _).mono ?_
  rintro e w' ⟨rfl, rfl⟩
  cases h6 : inB x5 1 x6
  · have HF : Hid (R = false) := by rw [HR.out]; cases hq : specB x0 x1 x2 x3 x4 x5 x6 x7 x8 x9 x10 with | false => exact rfl | true => exact absurd (specB_t hq) (by have hz := in_f h6; omega)
    clear c0 c1 c2 c3 c4 c5 c6 c7 c8 c9 c10 h6 HR K0 K1 K2 K3 K4 K5 K7
    dsimp only
    go_step
    refine Fast.wpList_fast 2 (.bool false) (by kernel_rfl) ?_
    intro a1 h1 h2
    go_wp2
    exact bodyPost_ret (v := .bool false) (by simp [results, Try.results22, go_sem, h1]) h2 ⟨by rw [HF.out], hB.out⟩
  have K6 := Lib.hid (in_t h6)
  clear h6
  go_wp2_with fail
  refine (l01In_any _ _ _ _).mono ?_
  rintro e w' ⟨rfl, rfl⟩
  cases h8 : inB x7 1 100000
  · have HF : Hid (R = false) := by rw [HR.out]; cases hq : specB x0 x1 x2 x3 x4 x5 x6 x7 x8 x9 x10 with | false => exact rfl | true => exact absurd (specB_t hq) (by have hz := in_f h8; omega)
    clear c0 c1 c2 c3 c4 c5 c6 c7 c8 c9 c10 h8 HR K0 K1 K2 K3 K4 K5 K7 K6
    dsimp only
    go_step
    refine Fast.wpList_fast 2 (.bool false) (by kernel_rfl) ?_
    intro a1 h1 h2
    go_wp2
    exact bodyPost_ret (v := .bool false) (by simp [results, Try.results22, go_sem, h1]) h2 ⟨by rw [HF.out], hB.out⟩
  have K8 := Lib.hid (in_t h8)
  clear h8
  go_wp2_with fail
  refine (l01In_any _ _ _ _).mono ?_
  rintro e w' ⟨rfl, rfl⟩
  cases h9 : inB x8 1 100000
  · have HF : Hid (R = false) := by rw [HR.out]; cases hq : specB x0 x1 x2 x3 x4 x5 x6 x7 x8 x9 x10 with | false => exact rfl | true => exact absurd (specB_t hq) (by have hz := in_f h9; omega)
    clear c0 c1 c2 c3 c4 c5 c6 c7 c8 c9 c10 h9 HR K0 K1 K2 K3 K4 K5 K7 K6 K8
    dsimp only
    go_step
    refine Fast.wpList_fast 2 (.bool false) (by kernel_rfl) ?_
    intro a1 h1 h2
    go_wp2
    exact bodyPost_ret (v := .bool false) (by simp [results, Try.results22, go_sem, h1]) h2 ⟨by rw [HF.out], hB.out⟩
  have K9 := Lib.hid (in_t h9)
  clear h9
  go_wp2_with fail
  refine (l01In_any _ _ _ _).mono ?_
  rintro e w' ⟨rfl, rfl⟩
  cases h10 : inB x9 0 x0
  · have HF : Hid (R = false) := by rw [HR.out]; cases hq : specB x0 x1 x2 x3 x4 x5 x6 x7 x8 x9 x10 with | false => exact rfl | true => exact absurd (specB_t hq) (by have hz := in_f h10; omega)
    clear c0 c1 c2 c3 c4 c5 c6 c7 c8 c9 c10 h10 HR K0 K1 K2 K3 K4 K5 K7 K6 K8 K9
    dsimp only
    go_step
    refine Fast.wpList_fast 2 (.bool false) (by kernel_rfl) ?_
    intro a1 h1 h2
    go_wp2
    exact bodyPost_ret (v := .bool false) (by simp [results, Try.results22, go_sem, h1]) h2 ⟨by rw [HF.out], hB.out⟩
  have K10 := Lib.hid (in_t h10)
  clear h10
  go_wp2_with fail
  refine (l01In_any _ _ _ _).mono ?_
  rintro e w' ⟨rfl, rfl⟩
  cases h11 : inB x10 0 1000
  · have HF : Hid (R = false) := by rw [HR.out]; cases hq : specB x0 x1 x2 x3 x4 x5 x6 x7 x8 x9 x10 with | false => exact rfl | true => exact absurd (specB_t hq) (by have hz := in_f h11; omega)
    clear c0 c1 c2 c3 c4 c5 c6 c7 c8 c9 c10 h11 HR K0 K1 K2 K3 K4 K5 K7 K6 K8 K9 K10
    dsimp only
    go_step
    refine Fast.wpList_fast 2 (.bool false) (by kernel_rfl) ?_
    intro a1 h1 h2
    go_wp2
    exact bodyPost_ret (v := .bool false) (by simp [results, Try.results22, go_sem, h1]) h2 ⟨by rw [HF.out], hB.out⟩
  have K11 := Lib.hid (in_t h11)
  clear h11
  have HT : Hid (R = true) := by
    show R = true
    rw [HR.out]
    simp only [specB, inB, Bool.and_eq_true, decide_eq_true_eq]
    have hK0 := K0.out
    have hK1 := K1.out
    have hK2 := K2.out
    have hK3 := K3.out
    have hK4 := K4.out
    have hK5 := K5.out
    have hK7 := K7.out
    have hK6 := K6.out
    have hK8 := K8.out
    have hK9 := K9.out
    have hK10 := K10.out
    have hK11 := K11.out
    omega
  go_wp2
  go_ret
  exact ⟨by rw [HT.out]; rfl, hB.out⟩
end Go.Proofs.Ytlghdmakaocokaa.Sp
