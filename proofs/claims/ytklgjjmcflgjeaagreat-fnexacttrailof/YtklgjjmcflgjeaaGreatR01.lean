import Derived.Test.YtklgjjmcflgjeaaGreatR00
set_option linter.unusedVariables false
set_option linter.unusedSimpArgs false
namespace Go.Proofs.YtklgjjmcflgjeaaGreat.Fast
open Go.ChangeShapes Go.WideShapes Go.ChangeAt Go.RowKit
def fast (P : Program) (ops : Array Oper) : List Oper → Act → World → Option (Act × World)
  | [], a, w => some (a, w)
  | o :: rest, a, w =>
    if Region.wanted o (yielded ops a.tmps) then
      match (execOp a.eval o).run P w with
      | .ok (.value v) w' => fast P ops rest (a.put o.dst v) w'
      | _ => none
    else fast P ops rest (a.put o.dst undef) w
theorem wpList_of_fast {P : Program} {ops : Array Oper} {Q : Exit → Act → World → Prop} : ∀ (rest : List Oper) (a : Act) (w : World) (r : Act × World), fast P ops rest a w = some r → Q .normal r.1 r.2 → wpList P ops Q rest a w := by
  intro rest
  induction rest with
  | nil => intro a w r h hQ; simp only [fast, Option.some.injEq] at h; subst h; exact hQ
  | cons o rest ih =>
    intro a w r h hQ
    unfold fast at h
    unfold wpList
    by_cases hw : Region.wanted o (yielded ops a.tmps) = true
    · rw [if_pos hw] at h ⊢
      refine .inl ?_
      unfold Oper.wp
      revert h
      cases hr : (execOp a.eval o).run P w with
      | ok x w' =>
        cases x with
        | value v => intro h; rw [Oper.upon_value]; exact ih _ _ _ h hQ
        | _ => intro h; exact absurd h (by simp)
      | _ => intro h; exact absurd h (by simp)
    · rw [if_neg hw] at h ⊢
      exact ih _ _ _ h hQ
theorem wpList_fast {P : Program} {ops : Array Oper} {Q : Exit → Act → World → Prop} {rest : List Oper} {a : Act} {w : World} (k : Nat) (v : Value)
    (h : (fast P ops rest a w).map (fun r => (r.1.tmps[k]?, r.1.defers, r.2)) = some (some v, [], w)) (hQ : ∀ a' : Act, a'.tmps[k]? = some v → a'.defers = [] → Q .normal a' w) : wpList P ops Q rest a w := by
  cases hf : fast P ops rest a w with
  | none => rw [hf] at h; cases h
  | some r =>
    rw [hf] at h
    simp only [Option.map_some, Option.some.injEq, Prod.mk.injEq] at h
    obtain ⟨h1, h2, h3⟩ := h
    refine wpList_of_fast rest a w r hf ?_
    rw [h3]
    exact hQ r.1 h1 h2
end Go.Proofs.YtklgjjmcflgjeaaGreat.Fast
namespace Go.Proofs.YtklgjjmcflgjeaaGreat.Sp
open Go.ChangeShapes Go.WideShapes Go.ChangeAt Go.RowKit Go.Joins Go.Deep
open LK
open Tick (inB in_t in_f l01In_any)
def specB (x0 x1 x2 x3 x4 x5 x6 x7 x8 x9 x10 : Int) : Bool := inB x0 1 12 && inB x1 0 x0 && inB x2 0 x0 && decide (0 < x1 + x2) && inB x3 0 1000 && inB x4 0 20 && inB x5 1 x6 && decide (x6 ≤ 10000) && inB x7 1 100000 && inB x8 1 100000 && inB x9 0 x0 && inB x10 0 1000
theorem specB_t {x0 x1 x2 x3 x4 x5 x6 x7 x8 x9 x10 : Int} (h : specB x0 x1 x2 x3 x4 x5 x6 x7 x8 x9 x10 = true) : (1 ≤ x0 ∧ x0 ≤ 12) ∧ (0 ≤ x1 ∧ x1 ≤ x0) ∧ (0 ≤ x2 ∧ x2 ≤ x0) ∧ 0 < x1 + x2 ∧ (0 ≤ x3 ∧ x3 ≤ 1000) ∧ (0 ≤ x4 ∧ x4 ≤ 20) ∧ (1 ≤ x5 ∧ x5 ≤ x6) ∧ x6 ≤ 10000 ∧ (1 ≤ x7 ∧ x7 ≤ 100000) ∧ (1 ≤ x8 ∧ x8 ≤ 100000) ∧ (0 ≤ x9 ∧ x9 ≤ x0) ∧ (0 ≤ x10 ∧ x10 ≤ 1000) := by
  simp only [specB, inB, Bool.and_eq_true, decide_eq_true_eq] at h
  omega
theorem flat_fields {i : Nat} {f : Field} {fs : Array Field} (h : fs.toList.zipIdx.all (fun q => q.1.offset == q.2 && q.1.type == 3) = true) (hf : fs[i]? = some f) : f.offset = i ∧ f.type = 3 := by
  have h1 : (f, i) ∈ fs.toList.zipIdx := List.mem_zipIdx_iff_getElem?.2 (by simpa using hf)
  have h2 := List.all_eq_true.1 h _ h1
  simpa using h2
section
variable {H : Type} {enc : TypeId × Value → H} {w : World} {base : Nat} {spare : Nat → Bool} {held : Bool}
set_option maxRecDepth 100000 in
theorem open_spec {r : Reach} {b0 : Nat} {v : Value} {d : DataW H} {p : List MemPlace} (hv : Value.okWide Tryz.prog w r b0 42 v) (h : DataW.Trod enc Tryz.prog w base spare held 42 v d p) :
    ∃ x0 x1 x2 x3 x4 x5 x6 x7 x8 x9 x10 : Int, v = .agg #[.int .i64 x0, .int .i64 x1, .int .i64 x2, .int .i64 x3, .int .i64 x4, .int .i64 x5, .int .i64 x6, .int .i64 x7, .int .i64 x8, .int .i64 x9, .int .i64 x10] ∧ (Lit.int .i64 x0).wf = true ∧ (Lit.int .i64 x1).wf = true ∧ (Lit.int .i64 x2).wf = true ∧ (Lit.int .i64 x3).wf = true ∧ (Lit.int .i64 x4).wf = true ∧ (Lit.int .i64 x5).wf = true ∧ (Lit.int .i64 x6).wf = true ∧ (Lit.int .i64 x7).wf = true ∧ (Lit.int .i64 x8).wf = true ∧ (Lit.int .i64 x9).wf = true ∧ (Lit.int .i64 x10).wf = true := by
  obtain ⟨l, hl, rfl, hw⟩ := FlatOpen.open_flat Tryz.underlying42 (by kernel_rfl) (fun i f hf => flat_fields (by kernel_rfl) hf) hv h
  match l, hl with
  | [x0, x1, x2, x3, x4, x5, x6, x7, x8, x9, x10], _ => exact ⟨x0, x1, x2, x3, x4, x5, x6, x7, x8, x9, x10, rfl, hw x0 (by simp), hw x1 (by simp), hw x2 (by simp), hw x3 (by simp), hw x4 (by simp), hw x5 (by simp), hw x6 (by simp), hw x7 (by simp), hw x8 (by simp), hw x9 (by simp), hw x10 (by simp)⟩
end
set_option maxHeartbeats 1600000 in
theorem toSpec_any (x0 x1 x2 x3 x4 x5 x6 x7 x8 x9 x10 : Int) (w : World) :
    Calls Tryz.prog 15 #[.agg #[.int .i64 x0, .int .i64 x1, .int .i64 x2, .int .i64 x3, .int .i64 x4, .int .i64 x5, .int .i64 x6, .int .i64 x7, .int .i64 x8, .int .i64 x9, .int .i64 x10]] w (Says (.agg #[.int .i64 x0, .int .i64 x1, .int .i64 x2, .int .i64 x3, .int .i64 x4, .int .i64 x5, .int .i64 x6, .int .i64 x7, .int .i64 x8, .int .i64 x9, .int .i64 x10]) w) := by
  go_enter Tryz.func15, Tryz.ntmps15
  go_wp2
  exact bodyPost_ret (v := .agg #[.int .i64 x0, .int .i64 x1, .int .i64 x2, .int .i64 x3, .int .i64 x4, .int .i64 x5, .int .i64 x6, .int .i64 x7, .int .i64 x8, .int .i64 x9, .int .i64 x10]) (by simp [results, Tryz.results15, go_sem]) rfl ⟨rfl, bel3 _ _ _ _⟩
theorem within_any (x lo hi : Int) (w : World) :
    Calls Tryz.prog 94 #[.int .i64 x, .int .i64 lo, .int .i64 hi] w fun e w' => e = .returned (.bool (inB x lo hi)) ∧ w = w' := by
  by_cases h0 : lo ≤ x <;> by_cases h1 : x ≤ hi
  all_goals
    go_enter Tryz.func94, Tryz.ntmps94
    go_wp2
    go_ret
    simp [inB, h0, h1]
set_option maxRecDepth 100000 in
set_option maxHeartbeats 6400000 in
theorem specOk_any (x0 x1 x2 x3 x4 x5 x6 x7 x8 x9 x10 : Int) (w : World) :
    Calls Tryz.prog 89 #[.agg #[.int .i64 x0, .int .i64 x1, .int .i64 x2, .int .i64 x3, .int .i64 x4, .int .i64 x5, .int .i64 x6, .int .i64 x7, .int .i64 x8, .int .i64 x9, .int .i64 x10]] w (Says (.bool (specB x0 x1 x2 x3 x4 x5 x6 x7 x8 x9 x10)) w) := by
  obtain ⟨R, hR⟩ : ∃ R, R = specB x0 x1 x2 x3 x4 x5 x6 x7 x8 x9 x10 := ⟨_, rfl⟩
  rw [← hR]
  have HR := Lib.hid hR
  clear hR
  obtain ⟨V, hV⟩ : ∃ V, V = w.alloc (.cells #[.int .i64 x0, .int .i64 x1, .int .i64 x2, .int .i64 x3, .int .i64 x4, .int .i64 x5, .int .i64 x6, .int .i64 x7, .int .i64 x8, .int .i64 x9, .int .i64 x10] 25) := ⟨_, rfl⟩
  have hB : Hid (Below w.heap.size w V) := by rw [hV]; exact bel1 _ _
  have B : Hid (V.heap[w.heap.size]? = some (.cells #[.int .i64 x0, .int .i64 x1, .int .i64 x2, .int .i64 x3, .int .i64 x4, .int .i64 x5, .int .i64 x6, .int .i64 x7, .int .i64 x8, .int .i64 x9, .int .i64 x10] 25)) := by rw [hV]; exact box_new w _
  go_enter Tryz.func89, Tryz.ntmps89
  go_wp2_with fail
  rw [← hV]
  clear hV
  have c0 : V.cell? ⟨w.heap.size, 0, none⟩ = some (.int .i64 x0) := box_cell B.out 0 _ rfl
  have c1 : V.cell? ⟨w.heap.size, 1, none⟩ = some (.int .i64 x1) := box_cell B.out 1 _ rfl
  have c2 : V.cell? ⟨w.heap.size, 2, none⟩ = some (.int .i64 x2) := box_cell B.out 2 _ rfl
  have c3 : V.cell? ⟨w.heap.size, 3, none⟩ = some (.int .i64 x3) := box_cell B.out 3 _ rfl
  have c4 : V.cell? ⟨w.heap.size, 4, none⟩ = some (.int .i64 x4) := box_cell B.out 4 _ rfl
  have c5 : V.cell? ⟨w.heap.size, 5, none⟩ = some (.int .i64 x5) := box_cell B.out 5 _ rfl
  have c6 : V.cell? ⟨w.heap.size, 6, none⟩ = some (.int .i64 x6) := box_cell B.out 6 _ rfl
  have c7 : V.cell? ⟨w.heap.size, 7, none⟩ = some (.int .i64 x7) := box_cell B.out 7 _ rfl
  have c8 : V.cell? ⟨w.heap.size, 8, none⟩ = some (.int .i64 x8) := box_cell B.out 8 _ rfl
  have c9 : V.cell? ⟨w.heap.size, 9, none⟩ = some (.int .i64 x9) := box_cell B.out 9 _ rfl
  have c10 : V.cell? ⟨w.heap.size, 10, none⟩ = some (.int .i64 x10) := box_cell B.out 10 _ rfl
  refine (within_any _ _ _ _).mono ?_
  rintro e w' ⟨rfl, rfl⟩
  cases h0 : inB x0 1 12
  · have HF : Hid (R = false) := by rw [HR.out]; cases hq : specB x0 x1 x2 x3 x4 x5 x6 x7 x8 x9 x10 with | false => exact rfl | true => exact absurd (specB_t hq) (by have hz := in_f h0; omega)
    clear c0 c1 c2 c3 c4 c5 c6 c7 c8 c9 c10 h0 HR
    dsimp only
    go_step
    refine Fast.wpList_fast 2 (.bool false) (by kernel_rfl) ?_
    intro a1 h1 h2
    go_wp2
    exact bodyPost_ret (v := .bool false) (by simp [results, Tryz.results89, go_sem, h1]) h2 ⟨by rw [HF.out], hB.out⟩
  have K0 := Lib.hid (in_t h0)
  clear h0
  go_wp2_with fail
  refine (within_any _ _ _ _).mono ?_
  rintro e w' ⟨rfl, rfl⟩
  cases h1 : inB x1 0 x0
  · have HF : Hid (R = false) := by rw [HR.out]; cases hq : specB x0 x1 x2 x3 x4 x5 x6 x7 x8 x9 x10 with | false => exact rfl | true => exact absurd (specB_t hq) (by have hz := in_f h1; omega)
    clear c0 c1 c2 c3 c4 c5 c6 c7 c8 c9 c10 h1 HR K0
    dsimp only
    go_step
    refine Fast.wpList_fast 2 (.bool false) (by kernel_rfl) ?_
    intro a1 h1 h2
    go_wp2
    exact bodyPost_ret (v := .bool false) (by simp [results, Tryz.results89, go_sem, h1]) h2 ⟨by rw [HF.out], hB.out⟩
  have K1 := Lib.hid (in_t h1)
  clear h1
  go_wp2_with fail
  refine (within_any _ _ _ _).mono ?_
  rintro e w' ⟨rfl, rfl⟩
  cases h2 : inB x2 0 x0
  · have HF : Hid (R = false) := by rw [HR.out]; cases hq : specB x0 x1 x2 x3 x4 x5 x6 x7 x8 x9 x10 with | false => exact rfl | true => exact absurd (specB_t hq) (by have hz := in_f h2; omega)
    clear c0 c1 c2 c3 c4 c5 c6 c7 c8 c9 c10 h2 HR K0 K1
    dsimp only
    go_step
    refine Fast.wpList_fast 2 (.bool false) (by kernel_rfl) ?_
    intro a1 h1 h2
    go_wp2
    exact bodyPost_ret (v := .bool false) (by simp [results, Tryz.results89, go_sem, h1]) h2 ⟨by rw [HF.out], hB.out⟩
  have K2 := Lib.hid (in_t h2)
  clear h2
  have b1 := K1.out
  have b2 := K2.out
  have b0 := K0.out
  by_cases h3 : 0 < x1 + x2
  case neg =>
    have HF : Hid (R = false) := by rw [HR.out]; cases hq : specB x0 x1 x2 x3 x4 x5 x6 x7 x8 x9 x10 with | false => exact rfl | true => exact absurd (specB_t hq) (by omega)
    clear HR K0 K1 K2
    go_wp2
    go_ret
    exact ⟨by rw [HF.out]; rfl, hB.out⟩
  have K3 := Lib.hid h3
  go_wp2_with fail
  refine (within_any _ _ _ _).mono ?_
  rintro e w' ⟨rfl, rfl⟩
  cases h4 : inB x3 0 1000
  · have HF : Hid (R = false) := by rw [HR.out]; cases hq : specB x0 x1 x2 x3 x4 x5 x6 x7 x8 x9 x10 with | false => exact rfl | true => exact absurd (specB_t hq) (by have hz := in_f h4; omega)
    clear c0 c1 c2 c3 c4 c5 c6 c7 c8 c9 c10 h4 HR K0 K1 K2 K3
    dsimp only
    go_step
    refine Fast.wpList_fast 2 (.bool false) (by kernel_rfl) ?_
    intro a1 h1 h2
    go_wp2
    exact bodyPost_ret (v := .bool false) (by simp [results, Tryz.results89, go_sem, h1]) h2 ⟨by rw [HF.out], hB.out⟩
  have K4 := Lib.hid (in_t h4)
  clear h4
  go_wp2_with fail
  refine (within_any _ _ _ _).mono ?_
  rintro e w' ⟨rfl, rfl⟩
  cases h5 : inB x4 0 20
  · have HF : Hid (R = false) := by rw [HR.out]; cases hq : specB x0 x1 x2 x3 x4 x5 x6 x7 x8 x9 x10 with | false => exact rfl | true => exact absurd (specB_t hq) (by have hz := in_f h5; omega)
    clear c0 c1 c2 c3 c4 c5 c6 c7 c8 c9 c10 h5 HR K0 K1 K2 K3 K4
    dsimp only
    go_step
    refine Fast.wpList_fast 2 (.bool false) (by kernel_rfl) ?_
    intro a1 h1 h2
    go_wp2
    exact bodyPost_ret (v := .bool false) (by simp [results, Tryz.results89, go_sem, h1]) h2 ⟨by rw [HF.out], hB.out⟩
  have K5 := Lib.hid (in_t h5)
  clear h5
  go_wp2_with fail
  refine (within_any _ _ _ _).mono ?_
  rintro e w' ⟨rfl, rfl⟩
  cases h6 : inB x5 1 x6
  · have HF : Hid (R = false) := by rw [HR.out]; cases hq : specB x0 x1 x2 x3 x4 x5 x6 x7 x8 x9 x10 with | false => exact rfl | true => exact absurd (specB_t hq) (by have hz := in_f h6; omega)
    clear c0 c1 c2 c3 c4 c5 c6 c7 c8 c9 c10 h6 HR K0 K1 K2 K3 K4 K5
    dsimp only
    go_step
    refine Fast.wpList_fast 2 (.bool false) (by kernel_rfl) ?_
    intro a1 h1 h2
    go_wp2
    exact bodyPost_ret (v := .bool false) (by simp [results, Tryz.results89, go_sem, h1]) h2 ⟨by rw [HF.out], hB.out⟩
  have K6 := Lib.hid (in_t h6)
  clear h6
  by_cases h7 : x6 ≤ 10000
  case neg =>
    have HF : Hid (R = false) := by rw [HR.out]; cases hq : specB x0 x1 x2 x3 x4 x5 x6 x7 x8 x9 x10 with | false => exact rfl | true => exact absurd (specB_t hq) (by omega)
    clear HR K0 K1 K2 K3 K4 K5 K6
    go_wp2
    go_ret
    exact ⟨by rw [HF.out]; rfl, hB.out⟩
  have K7 := Lib.hid h7
  go_wp2_with fail
  refine (within_any _ _ _ _).mono ?_
  rintro e w' ⟨rfl, rfl⟩
  cases h8 : inB x7 1 100000
  · have HF : Hid (R = false) := by rw [HR.out]; cases hq : specB x0 x1 x2 x3 x4 x5 x6 x7 x8 x9 x10 with | false => exact rfl | true => exact absurd (specB_t hq) (by have hz := in_f h8; omega)
    clear c0 c1 c2 c3 c4 c5 c6 c7 c8 c9 c10 h8 HR K0 K1 K2 K3 K4 K5 K6 K7
    dsimp only
    go_step
    refine Fast.wpList_fast 2 (.bool false) (by kernel_rfl) ?_
    intro a1 h1 h2
    go_wp2
    exact bodyPost_ret (v := .bool false) (by simp [results, Tryz.results89, go_sem, h1]) h2 ⟨by rw [HF.out], hB.out⟩
  have K8 := Lib.hid (in_t h8)
  clear h8
  go_wp2_with fail
  refine (within_any _ _ _ _).mono ?_
  rintro e w' ⟨rfl, rfl⟩
  cases h9 : inB x8 1 100000
  · have HF : Hid (R = false) := by rw [HR.out]; cases hq : specB x0 x1 x2 x3 x4 x5 x6 x7 x8 x9 x10 with | false => exact rfl | true => exact absurd (specB_t hq) (by have hz := in_f h9; omega)
    clear c0 c1 c2 c3 c4 c5 c6 c7 c8 c9 c10 h9 HR K0 K1 K2 K3 K4 K5 K6 K7 K8
    dsimp only
    go_step
    refine Fast.wpList_fast 2 (.bool false) (by kernel_rfl) ?_
    intro a1 h1 h2
    go_wp2
    exact bodyPost_ret (v := .bool false) (by simp [results, Tryz.results89, go_sem, h1]) h2 ⟨by rw [HF.out], hB.out⟩
  have K9 := Lib.hid (in_t h9)
  clear h9
  go_wp2_with fail
  refine (within_any _ _ _ _).mono ?_
  rintro e w' ⟨rfl, rfl⟩
  cases h10 : inB x9 0 x0
  · have HF : Hid (R = false) := by rw [HR.out]; cases hq : specB x0 x1 x2 x3 x4 x5 x6 x7 x8 x9 x10 with | false => exact rfl | true => exact absurd (specB_t hq) (by have hz := in_f h10; omega)
    clear c0 c1 c2 c3 c4 c5 c6 c7 c8 c9 c10 h10 HR K0 K1 K2 K3 K4 K5 K6 K7 K8 K9
    dsimp only
    go_step
    refine Fast.wpList_fast 2 (.bool false) (by kernel_rfl) ?_
    intro a1 h1 h2
    go_wp2
    exact bodyPost_ret (v := .bool false) (by simp [results, Tryz.results89, go_sem, h1]) h2 ⟨by rw [HF.out], hB.out⟩
  have K10 := Lib.hid (in_t h10)
  clear h10
  go_wp2_with fail
  refine (within_any _ _ _ _).mono ?_
  rintro e w' ⟨rfl, rfl⟩
  cases h11 : inB x10 0 1000
  · have HF : Hid (R = false) := by rw [HR.out]; cases hq : specB x0 x1 x2 x3 x4 x5 x6 x7 x8 x9 x10 with | false => exact rfl | true => exact absurd (specB_t hq) (by have hz := in_f h11; omega)
    clear c0 c1 c2 c3 c4 c5 c6 c7 c8 c9 c10 h11 HR K0 K1 K2 K3 K4 K5 K6 K7 K8 K9 K10
    dsimp only
    go_step
    refine Fast.wpList_fast 2 (.bool false) (by kernel_rfl) ?_
    intro a1 h1 h2
    go_wp2
    exact bodyPost_ret (v := .bool false) (by simp [results, Tryz.results89, go_sem, h1]) h2 ⟨by rw [HF.out], hB.out⟩
  have K11 := Lib.hid (in_t h11)
  clear h11
  have HT : Hid (R = true) := by
    show R = true
    rw [HR.out]
    simp only [specB, inB, Bool.and_eq_true, decide_eq_true_eq]
    have hK0 := K0.out
    have hK1 := K1.out
    have hK2 := K2.out
    have hK3 := K3.out
    have hK4 := K4.out
    have hK5 := K5.out
    have hK6 := K6.out
    have hK7 := K7.out
    have hK8 := K8.out
    have hK9 := K9.out
    have hK10 := K10.out
    have hK11 := K11.out
    omega
  go_wp2
  go_ret
  exact ⟨by rw [HT.out]; rfl, hB.out⟩
set_option maxRecDepth 100000 in
set_option maxHeartbeats 6400000 in
theorem specSpecOk_any (x0 x1 x2 x3 x4 x5 x6 x7 x8 x9 x10 : Int) (w : World) :
    Calls Tryz.prog 9 #[.agg #[.int .i64 x0, .int .i64 x1, .int .i64 x2, .int .i64 x3, .int .i64 x4, .int .i64 x5, .int .i64 x6, .int .i64 x7, .int .i64 x8, .int .i64 x9, .int .i64 x10]] w (Says (.bool (specB x0 x1 x2 x3 x4 x5 x6 x7 x8 x9 x10)) w) := by
  obtain ⟨R, hR⟩ : ∃ R, R = specB x0 x1 x2 x3 x4 x5 x6 x7 x8 x9 x10 := ⟨_, rfl⟩
  rw [← hR]
  have HR := Lib.hid hR
  clear hR
  obtain ⟨V, hV⟩ : ∃ V, V = w.alloc (.cells #[.int .i64 x0, .int .i64 x1, .int .i64 x2, .int .i64 x3, .int .i64 x4, .int .i64 x5, .int .i64 x6, .int .i64 x7, .int .i64 x8, .int .i64 x9, .int .i64 x10] 25) := ⟨_, rfl⟩
  have hB : Hid (Below w.heap.size w V) := by rw [hV]; exact bel1 _ _
  have B : Hid (V.heap[w.heap.size]? = some (.cells #[.int .i64 x0, .int .i64 x1, .int .i64 x2, .int .i64 x3, .int .i64 x4, .int .i64 x5, .int .i64 x6, .int .i64 x7, .int .i64 x8, .int .i64 x9, .int .i64 x10] 25)) := by rw [hV]; exact box_new w _
  go_enter Tryz.func9, Tryz.ntmps9
  go_wp2_with fail
  rw [← hV]
  clear hV
  have c0 : V.cell? ⟨w.heap.size, 0, none⟩ = some (.int .i64 x0) := box_cell B.out 0 _ rfl
  have c1 : V.cell? ⟨w.heap.size, 1, none⟩ = some (.int .i64 x1) := box_cell B.out 1 _ rfl
  have c2 : V.cell? ⟨w.heap.size, 2, none⟩ = some (.int .i64 x2) := box_cell B.out 2 _ rfl
  have c3 : V.cell? ⟨w.heap.size, 3, none⟩ = some (.int .i64 x3) := box_cell B.out 3 _ rfl
  have c4 : V.cell? ⟨w.heap.size, 4, none⟩ = some (.int .i64 x4) := box_cell B.out 4 _ rfl
  have c5 : V.cell? ⟨w.heap.size, 5, none⟩ = some (.int .i64 x5) := box_cell B.out 5 _ rfl
  have c6 : V.cell? ⟨w.heap.size, 6, none⟩ = some (.int .i64 x6) := box_cell B.out 6 _ rfl
  have c7 : V.cell? ⟨w.heap.size, 7, none⟩ = some (.int .i64 x7) := box_cell B.out 7 _ rfl
  have c8 : V.cell? ⟨w.heap.size, 8, none⟩ = some (.int .i64 x8) := box_cell B.out 8 _ rfl
  have c9 : V.cell? ⟨w.heap.size, 9, none⟩ = some (.int .i64 x9) := box_cell B.out 9 _ rfl
  have c10 : V.cell? ⟨w.heap.size, 10, none⟩ = some (.int .i64 x10) := box_cell B.out 10 _ rfl
  refine (l01In_any _ _ _ _).mono ?_
  rintro e w' ⟨rfl, rfl⟩
  cases h0 : inB x0 1 12
  · have HF : Hid (R = false) := by rw [HR.out]; cases hq : specB x0 x1 x2 x3 x4 x5 x6 x7 x8 x9 x10 with | false => exact rfl | true => exact absurd (specB_t hq) (by have hz := in_f h0; omega)
    clear c0 c1 c2 c3 c4 c5 c6 c7 c8 c9 c10 h0 HR
    go_wp2
    go_ret
    exact ⟨by rw [HF.out]; rfl, hB.out⟩
  have K0 := Lib.hid (in_t h0)
  clear h0
  go_wp2_with fail
  refine (l01In_any _ _ _ _).mono ?_
  rintro e w' ⟨rfl, rfl⟩
  cases h1 : inB x1 0 x0
  · have HF : Hid (R = false) := by rw [HR.out]; cases hq : specB x0 x1 x2 x3 x4 x5 x6 x7 x8 x9 x10 with | false => exact rfl | true => exact absurd (specB_t hq) (by have hz := in_f h1; omega)
    clear c0 c1 c2 c3 c4 c5 c6 c7 c8 c9 c10 h1 HR K0
    go_wp2
    go_ret
    exact ⟨by rw [HF.out]; rfl, hB.out⟩
  have K1 := Lib.hid (in_t h1)
  clear h1
  go_wp2_with fail
  refine (l01In_any _ _ _ _).mono ?_
  rintro e w' ⟨rfl, rfl⟩
  cases h2 : inB x2 0 x0
  · have HF : Hid (R = false) := by rw [HR.out]; cases hq : specB x0 x1 x2 x3 x4 x5 x6 x7 x8 x9 x10 with | false => exact rfl | true => exact absurd (specB_t hq) (by have hz := in_f h2; omega)
    clear c0 c1 c2 c3 c4 c5 c6 c7 c8 c9 c10 h2 HR K0 K1
    go_wp2
    go_ret
    exact ⟨by rw [HF.out]; rfl, hB.out⟩
  have K2 := Lib.hid (in_t h2)
  clear h2
  have b1 := K1.out
  have b2 := K2.out
  have b0 := K0.out
  by_cases h3 : 0 < x1 + x2
  case neg =>
    have HF : Hid (R = false) := by rw [HR.out]; cases hq : specB x0 x1 x2 x3 x4 x5 x6 x7 x8 x9 x10 with | false => exact rfl | true => exact absurd (specB_t hq) (by omega)
    clear HR K0 K1 K2
    go_wp2
    go_ret
    exact ⟨by rw [HF.out]; rfl, hB.out⟩
  have K3 := Lib.hid h3
  go_wp2_with fail
  refine (l01In_any _ _ _ _).mono ?_
  rintro e w' ⟨rfl, rfl⟩
  cases h4 : inB x3 0 1000
  · have HF : Hid (R = false) := by rw [HR.out]; cases hq : specB x0 x1 x2 x3 x4 x5 x6 x7 x8 x9 x10 with | false => exact rfl | true => exact absurd (specB_t hq) (by have hz := in_f h4; omega)
    clear c0 c1 c2 c3 c4 c5 c6 c7 c8 c9 c10 h4 HR K0 K1 K2 K3
    dsimp only
    go_step
    refine Fast.wpList_fast 2 (.bool false) (by kernel_rfl) ?_
    intro a1 h1 h2
    go_wp2
    exact bodyPost_ret (v := .bool false) (by simp [results, Tryz.results9, go_sem, h1]) h2 ⟨by rw [HF.out], hB.out⟩
  have K4 := Lib.hid (in_t h4)
  clear h4
  go_wp2_with fail
  refine (l01In_any _ _ _ _).mono ?_
  rintro e w' ⟨rfl, rfl⟩
  cases h5 : inB x4 0 20
  · have HF : Hid (R = false) := by rw [HR.out]; cases hq : specB x0 x1 x2 x3 x4 x5 x6 x7 x8 x9 x10 with | false => exact rfl | true => exact absurd (specB_t hq) (by have hz := in_f h5; omega)
    clear c0 c1 c2 c3 c4 c5 c6 c7 c8 c9 c10 h5 HR K0 K1 K2 K3 K4
    dsimp only
    go_step
    refine Fast.wpList_fast 2 (.bool false) (by kernel_rfl) ?_
    intro a1 h1 h2
    go_wp2
    exact bodyPost_ret (v := .bool false) (by simp [results, Tryz.results9, go_sem, h1]) h2 ⟨by rw [HF.out], hB.out⟩
  have K5 := Lib.hid (in_t h5)
  clear h5
  go_wp2_with fail
  refine (l01In_any _ _ _ _).mono ?_
  rintro e w' ⟨rfl, rfl⟩
  cases h7 : inB x6 1 10000
  · have HF : Hid (R = false) := by rw [HR.out]; cases hq : specB x0 x1 x2 x3 x4 x5 x6 x7 x8 x9 x10 with | false => exact rfl | true => exact absurd (specB_t hq) (by have hz := in_f h7; omega)
    clear c0 c1 c2 c3 c4 c5 c6 c7 c8 c9 c10 h7 HR K0 K1 K2 K3 K4 K5
    dsimp only
    go_step
    refine Fast.wpList_fast 2 (.bool false) (by kernel_rfl) ?_
    intro a1 h1 h2
    go_wp2
    exact bodyPost_ret (v := .bool false) (by simp [results, Tryz.results9, go_sem, h1]) h2 ⟨by rw [HF.out], hB.out⟩
  have K7 := Lib.hid (in_t h7)
  clear h7
  go_wp2_with fail
  refine (l01In_any _ _ _ _).mono ?_
  rintro e w' ⟨rfl, rfl⟩
  cases h6 : inB x5 1 x6
  · have HF : Hid (R = false) := by rw [HR.out]; cases hq : specB x0 x1 x2 x3 x4 x5 x6 x7 x8 x9 x10 with | false => exact rfl | true => exact absurd (specB_t hq) (by have hz := in_f h6; omega)
    clear c0 c1 c2 c3 c4 c5 c6 c7 c8 c9 c10 h6 HR K0 K1 K2 K3 K4 K5 K7
    dsimp only
    go_step
    refine Fast.wpList_fast 2 (.bool false) (by kernel_rfl) ?_
    intro a1 h1 h2
    go_wp2
    exact bodyPost_ret (v := .bool false) (by simp [results, Tryz.results9, go_sem, h1]) h2 ⟨by rw [HF.out], hB.out⟩
  have K6 := Lib.hid (in_t h6)
  clear h6
  go_wp2_with fail
  refine (l01In_any _ _ _ _).mono ?_
  rintro e w' ⟨rfl, rfl⟩
  cases h8 : inB x7 1 100000
  · have HF : Hid (R = false) := by rw [HR.out]; cases hq : specB x0 x1 x2 x3 x4 x5 x6 x7 x8 x9 x10 with | false => exact rfl | true => exact absurd (specB_t hq) (by have hz := in_f h8; omega)
    clear c0 c1 c2 c3 c4 c5 c6 c7 c8 c9 c10 h8 HR K0 K1 K2 K3 K4 K5 K7 K6
    dsimp only
    go_step
    refine Fast.wpList_fast 2 (.bool false) (by kernel_rfl) ?_
    intro a1 h1 h2
    go_wp2
    exact bodyPost_ret (v := .bool false) (by simp [results, Tryz.results9, go_sem, h1]) h2 ⟨by rw [HF.out], hB.out⟩
  have K8 := Lib.hid (in_t h8)
  clear h8
  go_wp2_with fail
  refine (l01In_any _ _ _ _).mono ?_
  rintro e w' ⟨rfl, rfl⟩
  cases h9 : inB x8 1 100000
  · have HF : Hid (R = false) := by rw [HR.out]; cases hq : specB x0 x1 x2 x3 x4 x5 x6 x7 x8 x9 x10 with | false => exact rfl | true => exact absurd (specB_t hq) (by have hz := in_f h9; omega)
    clear c0 c1 c2 c3 c4 c5 c6 c7 c8 c9 c10 h9 HR K0 K1 K2 K3 K4 K5 K7 K6 K8
    dsimp only
    go_step
    refine Fast.wpList_fast 2 (.bool false) (by kernel_rfl) ?_
    intro a1 h1 h2
    go_wp2
    exact bodyPost_ret (v := .bool false) (by simp [results, Tryz.results9, go_sem, h1]) h2 ⟨by rw [HF.out], hB.out⟩
  have K9 := Lib.hid (in_t h9)
  clear h9
  go_wp2_with fail
  refine (l01In_any _ _ _ _).mono ?_
  rintro e w' ⟨rfl, rfl⟩
  cases h10 : inB x9 0 x0
  · have HF : Hid (R = false) := by rw [HR.out]; cases hq : specB x0 x1 x2 x3 x4 x5 x6 x7 x8 x9 x10 with | false => exact rfl | true => exact absurd (specB_t hq) (by have hz := in_f h10; omega)
    clear c0 c1 c2 c3 c4 c5 c6 c7 c8 c9 c10 h10 HR K0 K1 K2 K3 K4 K5 K7 K6 K8 K9
    dsimp only
    go_step
    refine Fast.wpList_fast 2 (.bool false) (by kernel_rfl) ?_
    intro a1 h1 h2
    go_wp2
    exact bodyPost_ret (v := .bool false) (by simp [results, Tryz.results9, go_sem, h1]) h2 ⟨by rw [HF.out], hB.out⟩
  have K10 := Lib.hid (in_t h10)
  clear h10
  go_wp2_with fail
  refine (l01In_any _ _ _ _).mono ?_
  rintro e w' ⟨rfl, rfl⟩
  cases h11 : inB x10 0 1000
  · have HF : Hid (R = false) := by rw [HR.out]; cases hq : specB x0 x1 x2 x3 x4 x5 x6 x7 x8 x9 x10 with | false => exact rfl | true => exact absurd (specB_t hq) (by have hz := in_f h11; omega)
    clear c0 c1 c2 c3 c4 c5 c6 c7 c8 c9 c10 h11 HR K0 K1 K2 K3 K4 K5 K7 K6 K8 K9 K10
    dsimp only
    go_step
    refine Fast.wpList_fast 2 (.bool false) (by kernel_rfl) ?_
    intro a1 h1 h2
    go_wp2
    exact bodyPost_ret (v := .bool false) (by simp [results, Tryz.results9, go_sem, h1]) h2 ⟨by rw [HF.out], hB.out⟩
  have K11 := Lib.hid (in_t h11)
  clear h11
  have HT : Hid (R = true) := by
    show R = true
    rw [HR.out]
    simp only [specB, inB, Bool.and_eq_true, decide_eq_true_eq]
    have hK0 := K0.out
    have hK1 := K1.out
    have hK2 := K2.out
    have hK3 := K3.out
    have hK4 := K4.out
    have hK5 := K5.out
    have hK7 := K7.out
    have hK6 := K6.out
    have hK8 := K8.out
    have hK9 := K9.out
    have hK10 := K10.out
    have hK11 := K11.out
    omega
  go_wp2
  go_ret
  exact ⟨by rw [HT.out]; rfl, hB.out⟩
end Go.Proofs.YtklgjjmcflgjeaaGreat.Sp
namespace Go.Proofs.YtklgjjmcflgjeaaGreat.Tick
open Go.ChangeShapes Go.WideShapes Go.ChangeAt Go.RowKit
set_option maxHeartbeats 800000 in
theorem specSince_any (a b : Int) (w : World) :
    Calls Tryz.prog 185 #[.int .i64 a, .int .i64 b] w fun e w' => e = .returned (.int .i64 (sinceV a b)) ∧ w = w' := by
  cases h0 : tokB a <;> cases h1 : tokB b
  · have HV : Hid (sinceV a b = -1) := (by simp [sinceV, h0] : sinceV a b = -1)
    go_enter Tryz.func185, Tryz.ntmps185
    go_wp2_with (go_at_call 52; refine (specTickOk_any _ _).mono ?_; rintro e w' ⟨rfl, rfl⟩)
    go_ret
    exact ⟨ret_int HV.out.symm, rfl⟩
  · have HV : Hid (sinceV a b = -1) := (by simp [sinceV, h0] : sinceV a b = -1)
    go_enter Tryz.func185, Tryz.ntmps185
    go_wp2_with (go_at_call 52; refine (specTickOk_any _ _).mono ?_; rintro e w' ⟨rfl, rfl⟩)
    go_ret
    exact ⟨ret_int HV.out.symm, rfl⟩
  · have HV : Hid (sinceV a b = -1) := (by simp [sinceV, h1] : sinceV a b = -1)
    go_enter Tryz.func185, Tryz.ntmps185
    go_wp2_with (go_at_call 52; refine (specTickOk_any _ _).mono ?_; rintro e w' ⟨rfl, rfl⟩)
    go_ret
    exact ⟨ret_int HV.out.symm, rfl⟩
  · have HV : Hid (sinceV a b = max 0 (b - a)) := (by simp [sinceV, h0, h1] : sinceV a b = max 0 (b - a))
    have b0 := tok_t h0
    have b1 := tok_t h1
    by_cases c : b < a
    all_goals
      go_enter Tryz.func185, Tryz.ntmps185
      go_wp2_with (go_at_call 52; refine (specTickOk_any _ _).mono ?_; rintro e w' ⟨rfl, rfl⟩)
      go_ret
      exact ⟨ret_int (by rw [HV.out]; omega), rfl⟩
end Go.Proofs.YtklgjjmcflgjeaaGreat.Tick
namespace Go.Proofs.YtklgjjmcflgjeaaGreat.Hl
open Go.ChangeShapes Go.WideShapes Go.ChangeAt Go.RowKit
open LK Sp
open Tick (inB in_t in_f tokB tok_t sinceV)
open Tick (specTickOk_any)
open Tick (tickOk_any)
open Tick (sinceI_any)
def availB (x0 x1 x2 x3 x4 x5 x6 x7 x8 x9 x10 p2 p4 now : Int) : Bool := specB x0 x1 x2 x3 x4 x5 x6 x7 x8 x9 x10 && tokB now && decide (p2 = 2) && decide (x3 ≤ sinceV p4 now)
def lostB (x0 x1 x2 x3 x4 x5 x6 x7 x8 x9 x10 p2 p4 now : Int) : Bool := specB x0 x1 x2 x3 x4 x5 x6 x7 x8 x9 x10 && tokB now && (decide (p2 = 3) || ((decide (p2 = 0) || decide (p2 = 1)) && decide (x7 ≤ sinceV p4 now)))
def cutV (a : Int) : Int := if 1000000000 < a then -1 else a
def nextV (x0 x1 x2 x3 x4 x5 x6 x7 x8 x9 x10 p2 p4 : Int) : Int := if specB x0 x1 x2 x3 x4 x5 x6 x7 x8 x9 x10 && tokB p4 then (if p2 = 3 then p4 else if p2 = 2 then cutV (p4 + x3) else if p2 = 0 ∨ p2 = 1 then cutV (p4 + x7) else -1) else -1
set_option maxRecDepth 100000 in
set_option maxHeartbeats 1600000 in
theorem long_any (p0 p1 p2 p3 p4 now d : Int) (w : World) :
    Calls Tryz.prog 146 #[.agg #[.int .i64 p0, .int .i64 p1, .int .i64 p2, .int .i64 p3, .int .i64 p4], .int .i64 now, .int .i64 d] w (Says (.bool (decide (0 ≤ sinceV p4 now) && decide (d ≤ sinceV p4 now))) w) := by
  obtain ⟨z, hz⟩ : ∃ z, z = sinceV p4 now := ⟨_, rfl⟩
  obtain ⟨V, hV⟩ : ∃ V, V = (w.alloc (.cells #[.int .i64 p0, .int .i64 p1, .int .i64 p2, .int .i64 p3, .int .i64 p4] 85)) := ⟨_, rfl⟩
  have hbV : Below w.heap.size w V := by rw [hV]; exact bel1 _ _
  have BP : Hid (V.heap[w.heap.size]? = some (.cells #[.int .i64 p0, .int .i64 p1, .int .i64 p2, .int .i64 p3, .int .i64 p4] 85)) := by have h := box_new w (.cells #[.int .i64 p0, .int .i64 p1, .int .i64 p2, .int .i64 p3, .int .i64 p4] 85); (try simp only [World.size_alloc] at h); rw [hV]; exact h
  go_enter Tryz.func146, Tryz.ntmps146
  go_wp2_with fail
  rw [← hV]
  clear hV
  refine (Tick.specSince_any p4 now _).mono ?_
  rintro e w' ⟨rfl, rfl⟩
  rw [← hz]
  have HZ := Lib.hid hz
  clear hz
  by_cases h0 : 0 ≤ z <;> by_cases h1 : d ≤ z
  all_goals
    go_wp2
    go_ret
    exact ⟨by rw [← HZ.out]; simp [h0, h1], hbV⟩
set_option maxRecDepth 100000 in
set_option maxHeartbeats 1600000 in
theorem specIsAvailable_any (x0 x1 x2 x3 x4 x5 x6 x7 x8 x9 x10 p0 p1 p2 p3 p4 now : Int) (w : World) :
    Calls Tryz.prog 106 #[.agg #[.int .i64 x0, .int .i64 x1, .int .i64 x2, .int .i64 x3, .int .i64 x4, .int .i64 x5, .int .i64 x6, .int .i64 x7, .int .i64 x8, .int .i64 x9, .int .i64 x10], .agg #[.int .i64 p0, .int .i64 p1, .int .i64 p2, .int .i64 p3, .int .i64 p4], .int .i64 now] w (Says (.bool (availB x0 x1 x2 x3 x4 x5 x6 x7 x8 x9 x10 p2 p4 now)) w) := by
  obtain ⟨R, hR⟩ : ∃ R, R = availB x0 x1 x2 x3 x4 x5 x6 x7 x8 x9 x10 p2 p4 now := ⟨_, rfl⟩
  rw [← hR]
  have HR := Lib.hid hR
  clear hR
  obtain ⟨V, hV⟩ : ∃ V, V = ((w.alloc (.cells #[.int .i64 x0, .int .i64 x1, .int .i64 x2, .int .i64 x3, .int .i64 x4, .int .i64 x5, .int .i64 x6, .int .i64 x7, .int .i64 x8, .int .i64 x9, .int .i64 x10] 25)).alloc (.cells #[.int .i64 p0, .int .i64 p1, .int .i64 p2, .int .i64 p3, .int .i64 p4] 85)) := ⟨_, rfl⟩
  have hbV : Below w.heap.size w V := by rw [hV]; exact bel2 _ _ _
  have BS : Hid (V.heap[w.heap.size]? = some (.cells #[.int .i64 x0, .int .i64 x1, .int .i64 x2, .int .i64 x3, .int .i64 x4, .int .i64 x5, .int .i64 x6, .int .i64 x7, .int .i64 x8, .int .i64 x9, .int .i64 x10] 25)) := by have h := box_alloc (box_new w (.cells #[.int .i64 x0, .int .i64 x1, .int .i64 x2, .int .i64 x3, .int .i64 x4, .int .i64 x5, .int .i64 x6, .int .i64 x7, .int .i64 x8, .int .i64 x9, .int .i64 x10] 25)) (.cells #[.int .i64 p0, .int .i64 p1, .int .i64 p2, .int .i64 p3, .int .i64 p4] 85); (try simp only [World.size_alloc] at h); rw [hV]; exact h
  have BP : Hid (V.heap[w.heap.size + 1]? = some (.cells #[.int .i64 p0, .int .i64 p1, .int .i64 p2, .int .i64 p3, .int .i64 p4] 85)) := by have h := box_new (w.alloc (.cells #[.int .i64 x0, .int .i64 x1, .int .i64 x2, .int .i64 x3, .int .i64 x4, .int .i64 x5, .int .i64 x6, .int .i64 x7, .int .i64 x8, .int .i64 x9, .int .i64 x10] 25)) (.cells #[.int .i64 p0, .int .i64 p1, .int .i64 p2, .int .i64 p3, .int .i64 p4] 85); (try simp only [World.size_alloc] at h); rw [hV]; exact h
  go_enter Tryz.func106, Tryz.ntmps106
  go_wp2_with fail
  rw [← hV]
  clear hV
  refine (specSpecOk_any x0 x1 x2 x3 x4 x5 x6 x7 x8 x9 x10 _).mono ?_
  rintro e w1 ⟨rfl, hbs⟩
  have BS' := Lib.hid (box_below BS.out hbs)
  have BP' := Lib.hid (box_below BP.out hbs)
  have hbn1 : Below w.heap.size w w1 := bel_then hbV hbs hbV.size
  clear BS
  have BS := BS'
  clear BS'
  clear BP
  have BP := BP'
  clear BP'
  clear hbs
  cases hs : specB x0 x1 x2 x3 x4 x5 x6 x7 x8 x9 x10
  · have HV : Hid (R = false) := by show R = false; rw [HR.out]; simp [availB, hs]
    go_wp2
    go_ret
    exact ⟨by rw [HV.out]; rfl, hbn1⟩
  go_wp2_with fail
  refine (specTickOk_any now _).mono ?_
  rintro e w' ⟨rfl, rfl⟩
  cases ht : tokB now
  · have HV : Hid (R = false) := by show R = false; rw [HR.out]; simp [availB, ht]
    go_wp2
    go_ret
    exact ⟨by rw [HV.out]; rfl, hbn1⟩
  have cBS_0 : w1.cell? ⟨w.heap.size, 0, none⟩ = some (.int .i64 x0) := box_cell BS.out 0 _ rfl
  have cBS_1 : w1.cell? ⟨w.heap.size, 1, none⟩ = some (.int .i64 x1) := box_cell BS.out 1 _ rfl
  have cBS_2 : w1.cell? ⟨w.heap.size, 2, none⟩ = some (.int .i64 x2) := box_cell BS.out 2 _ rfl
  have cBS_3 : w1.cell? ⟨w.heap.size, 3, none⟩ = some (.int .i64 x3) := box_cell BS.out 3 _ rfl
  have cBS_4 : w1.cell? ⟨w.heap.size, 4, none⟩ = some (.int .i64 x4) := box_cell BS.out 4 _ rfl
  have cBS_5 : w1.cell? ⟨w.heap.size, 5, none⟩ = some (.int .i64 x5) := box_cell BS.out 5 _ rfl
  have cBS_6 : w1.cell? ⟨w.heap.size, 6, none⟩ = some (.int .i64 x6) := box_cell BS.out 6 _ rfl
  have cBS_7 : w1.cell? ⟨w.heap.size, 7, none⟩ = some (.int .i64 x7) := box_cell BS.out 7 _ rfl
  have cBS_8 : w1.cell? ⟨w.heap.size, 8, none⟩ = some (.int .i64 x8) := box_cell BS.out 8 _ rfl
  have cBS_9 : w1.cell? ⟨w.heap.size, 9, none⟩ = some (.int .i64 x9) := box_cell BS.out 9 _ rfl
  have cBS_10 : w1.cell? ⟨w.heap.size, 10, none⟩ = some (.int .i64 x10) := box_cell BS.out 10 _ rfl
  have cBP_0 : w1.cell? ⟨w.heap.size + 1, 0, none⟩ = some (.int .i64 p0) := box_cell BP.out 0 _ rfl
  have cBP_1 : w1.cell? ⟨w.heap.size + 1, 1, none⟩ = some (.int .i64 p1) := box_cell BP.out 1 _ rfl
  have cBP_2 : w1.cell? ⟨w.heap.size + 1, 2, none⟩ = some (.int .i64 p2) := box_cell BP.out 2 _ rfl
  have cBP_3 : w1.cell? ⟨w.heap.size + 1, 3, none⟩ = some (.int .i64 p3) := box_cell BP.out 3 _ rfl
  have cBP_4 : w1.cell? ⟨w.heap.size + 1, 4, none⟩ = some (.int .i64 p4) := box_cell BP.out 4 _ rfl
  by_cases h2 : p2 = 2
  case neg =>
    have HV : Hid (R = false) := by show R = false; rw [HR.out]; simp [availB, h2]
    go_wp2
    go_ret
    exact ⟨by rw [HV.out]; rfl, hbn1⟩
  have hx3 : 0 ≤ x3 := by have := specB_t hs; omega
  have HV : Hid (R = (decide (0 ≤ sinceV p4 now) && decide (x3 ≤ sinceV p4 now))) := by
    show R = _; rw [HR.out]; simp only [availB, hs, ht, h2]; simp; intro h; omega
  skip
  have HLg : Hid (∀ W : World, Calls Tryz.prog 146 #[.agg #[.int .i64 p0, .int .i64 p1, .int .i64 p2, .int .i64 p3, .int .i64 p4], .int .i64 now, .int .i64 x3] W (Says (.bool R) W)) := fun W => by rw [HV.out]; exact long_any p0 p1 p2 p3 p4 now x3 W
  clear HV HR
  subst h2
  go_wp2_with fail
  refine (HLg.out _).mono ?_
  rintro e w2 ⟨rfl, hbs⟩
  clear cBS_0 cBS_1 cBS_2 cBS_3 cBS_4 cBS_5 cBS_6 cBS_7 cBS_8 cBS_9 cBS_10 cBP_0 cBP_1 cBP_2 cBP_3 cBP_4
  have BS' := Lib.hid (box_below BS.out hbs)
  have BP' := Lib.hid (box_below BP.out hbs)
  have hbn2 : Below w.heap.size w w2 := bel_then hbn1 hbs hbn1.size
  clear BS
  have BS := BS'
  clear BS'
  clear BP
  have BP := BP'
  clear BP'
  clear hbs
  go_wp2
  go_ret
  exact ⟨rfl, hbn2⟩
set_option maxRecDepth 100000 in
set_option maxHeartbeats 1600000 in
theorem specIsLost_any (x0 x1 x2 x3 x4 x5 x6 x7 x8 x9 x10 p0 p1 p2 p3 p4 now : Int) (w : World) :
    Calls Tryz.prog 217 #[.agg #[.int .i64 x0, .int .i64 x1, .int .i64 x2, .int .i64 x3, .int .i64 x4, .int .i64 x5, .int .i64 x6, .int .i64 x7, .int .i64 x8, .int .i64 x9, .int .i64 x10], .agg #[.int .i64 p0, .int .i64 p1, .int .i64 p2, .int .i64 p3, .int .i64 p4], .int .i64 now] w (Says (.bool (lostB x0 x1 x2 x3 x4 x5 x6 x7 x8 x9 x10 p2 p4 now)) w) := by
  obtain ⟨R, hR⟩ : ∃ R, R = lostB x0 x1 x2 x3 x4 x5 x6 x7 x8 x9 x10 p2 p4 now := ⟨_, rfl⟩
  rw [← hR]
  have HR := Lib.hid hR
  clear hR
  obtain ⟨V, hV⟩ : ∃ V, V = ((w.alloc (.cells #[.int .i64 x0, .int .i64 x1, .int .i64 x2, .int .i64 x3, .int .i64 x4, .int .i64 x5, .int .i64 x6, .int .i64 x7, .int .i64 x8, .int .i64 x9, .int .i64 x10] 25)).alloc (.cells #[.int .i64 p0, .int .i64 p1, .int .i64 p2, .int .i64 p3, .int .i64 p4] 85)) := ⟨_, rfl⟩
  have hbV : Below w.heap.size w V := by rw [hV]; exact bel2 _ _ _
  have BS : Hid (V.heap[w.heap.size]? = some (.cells #[.int .i64 x0, .int .i64 x1, .int .i64 x2, .int .i64 x3, .int .i64 x4, .int .i64 x5, .int .i64 x6, .int .i64 x7, .int .i64 x8, .int .i64 x9, .int .i64 x10] 25)) := by have h := box_alloc (box_new w (.cells #[.int .i64 x0, .int .i64 x1, .int .i64 x2, .int .i64 x3, .int .i64 x4, .int .i64 x5, .int .i64 x6, .int .i64 x7, .int .i64 x8, .int .i64 x9, .int .i64 x10] 25)) (.cells #[.int .i64 p0, .int .i64 p1, .int .i64 p2, .int .i64 p3, .int .i64 p4] 85); (try simp only [World.size_alloc] at h); rw [hV]; exact h
  have BP : Hid (V.heap[w.heap.size + 1]? = some (.cells #[.int .i64 p0, .int .i64 p1, .int .i64 p2, .int .i64 p3, .int .i64 p4] 85)) := by have h := box_new (w.alloc (.cells #[.int .i64 x0, .int .i64 x1, .int .i64 x2, .int .i64 x3, .int .i64 x4, .int .i64 x5, .int .i64 x6, .int .i64 x7, .int .i64 x8, .int .i64 x9, .int .i64 x10] 25)) (.cells #[.int .i64 p0, .int .i64 p1, .int .i64 p2, .int .i64 p3, .int .i64 p4] 85); (try simp only [World.size_alloc] at h); rw [hV]; exact h
  go_enter Tryz.func217, Tryz.ntmps217
  go_wp2_with fail
  rw [← hV]
  clear hV
  refine (specSpecOk_any x0 x1 x2 x3 x4 x5 x6 x7 x8 x9 x10 _).mono ?_
  rintro e w1 ⟨rfl, hbs⟩
  have BS' := Lib.hid (box_below BS.out hbs)
  have BP' := Lib.hid (box_below BP.out hbs)
  have hbn1 : Below w.heap.size w w1 := bel_then hbV hbs hbV.size
  clear BS
  have BS := BS'
  clear BS'
  clear BP
  have BP := BP'
  clear BP'
  clear hbs
  cases hs : specB x0 x1 x2 x3 x4 x5 x6 x7 x8 x9 x10
  · have HV : Hid (R = false) := by show R = false; rw [HR.out]; simp [lostB, hs]
    go_wp2
    go_ret
    exact ⟨by rw [HV.out]; rfl, hbn1⟩
  go_wp2_with fail
  refine (specTickOk_any now _).mono ?_
  rintro e w' ⟨rfl, rfl⟩
  cases ht : tokB now
  · have HV : Hid (R = false) := by show R = false; rw [HR.out]; simp [lostB, ht]
    go_wp2
    go_ret
    exact ⟨by rw [HV.out]; rfl, hbn1⟩
  have cBS_0 : w1.cell? ⟨w.heap.size, 0, none⟩ = some (.int .i64 x0) := box_cell BS.out 0 _ rfl
  have cBS_1 : w1.cell? ⟨w.heap.size, 1, none⟩ = some (.int .i64 x1) := box_cell BS.out 1 _ rfl
  have cBS_2 : w1.cell? ⟨w.heap.size, 2, none⟩ = some (.int .i64 x2) := box_cell BS.out 2 _ rfl
  have cBS_3 : w1.cell? ⟨w.heap.size, 3, none⟩ = some (.int .i64 x3) := box_cell BS.out 3 _ rfl
  have cBS_4 : w1.cell? ⟨w.heap.size, 4, none⟩ = some (.int .i64 x4) := box_cell BS.out 4 _ rfl
  have cBS_5 : w1.cell? ⟨w.heap.size, 5, none⟩ = some (.int .i64 x5) := box_cell BS.out 5 _ rfl
  have cBS_6 : w1.cell? ⟨w.heap.size, 6, none⟩ = some (.int .i64 x6) := box_cell BS.out 6 _ rfl
  have cBS_7 : w1.cell? ⟨w.heap.size, 7, none⟩ = some (.int .i64 x7) := box_cell BS.out 7 _ rfl
  have cBS_8 : w1.cell? ⟨w.heap.size, 8, none⟩ = some (.int .i64 x8) := box_cell BS.out 8 _ rfl
  have cBS_9 : w1.cell? ⟨w.heap.size, 9, none⟩ = some (.int .i64 x9) := box_cell BS.out 9 _ rfl
  have cBS_10 : w1.cell? ⟨w.heap.size, 10, none⟩ = some (.int .i64 x10) := box_cell BS.out 10 _ rfl
  have cBP_0 : w1.cell? ⟨w.heap.size + 1, 0, none⟩ = some (.int .i64 p0) := box_cell BP.out 0 _ rfl
  have cBP_1 : w1.cell? ⟨w.heap.size + 1, 1, none⟩ = some (.int .i64 p1) := box_cell BP.out 1 _ rfl
  have cBP_2 : w1.cell? ⟨w.heap.size + 1, 2, none⟩ = some (.int .i64 p2) := box_cell BP.out 2 _ rfl
  have cBP_3 : w1.cell? ⟨w.heap.size + 1, 3, none⟩ = some (.int .i64 p3) := box_cell BP.out 3 _ rfl
  have cBP_4 : w1.cell? ⟨w.heap.size + 1, 4, none⟩ = some (.int .i64 p4) := box_cell BP.out 4 _ rfl
  by_cases h3 : p2 = 3
  case pos =>
    have HV : Hid (R = true) := by show R = true; rw [HR.out]; simp [lostB, hs, ht, h3]
    go_wp2
    go_ret
    exact ⟨by rw [HV.out]; rfl, hbn1⟩
  by_cases h01 : p2 = 0 ∨ p2 = 1
  case neg =>
    have h0 : ¬ p2 = 0 := fun h => h01 (.inl h)
    have h1 : ¬ p2 = 1 := fun h => h01 (.inr h)
    have HV : Hid (R = false) := by show R = false; rw [HR.out]; simp [lostB, h3, h0, h1]
    go_wp2
    go_ret
    exact ⟨by rw [HV.out]; rfl, hbn1⟩
  have hx7 : 0 ≤ x7 := by have := specB_t hs; omega
  have HV : Hid (R = (decide (0 ≤ sinceV p4 now) && decide (x7 ≤ sinceV p4 now))) := by
    show R = _; rw [HR.out]
    have h4 : (decide (p2 = 0) || decide (p2 = 1)) = true := by simpa using h01
    simp only [lostB, hs, ht, h3, h4]; simp; intro h; omega
  have HLg : Hid (∀ W : World, Calls Tryz.prog 146 #[.agg #[.int .i64 p0, .int .i64 p1, .int .i64 p2, .int .i64 p3, .int .i64 p4], .int .i64 now, .int .i64 x7] W (Says (.bool R) W)) := fun W => by rw [HV.out]; exact long_any p0 p1 p2 p3 p4 now x7 W
  clear HV HR h3
  rcases h01 with h0 | h0
  all_goals
    subst h0
    go_wp2_with fail
    refine (HLg.out _).mono ?_
    rintro e w2 ⟨rfl, hbs⟩
    clear cBS_0 cBS_1 cBS_2 cBS_3 cBS_4 cBS_5 cBS_6 cBS_7 cBS_8 cBS_9 cBS_10 cBP_0 cBP_1 cBP_2 cBP_3 cBP_4
    have BS' := Lib.hid (box_below BS.out hbs)
    have BP' := Lib.hid (box_below BP.out hbs)
    have hbn2 : Below w.heap.size w w2 := bel_then hbn1 hbs hbn1.size
    clear BS
    have BS := BS'
    clear BS'
    clear BP
    have BP := BP'
    clear BP'
    clear hbs
    go_wp2
    go_ret
    exact ⟨rfl, hbn2⟩
end Go.Proofs.YtklgjjmcflgjeaaGreat.Hl
namespace Go.Proofs.YtklgjjmcflgjeaaGreat.EngV
open Tick (inB tokB sinceV)
open Pods FleetV
open Sp (specB)
open Hl (availB lostB nextV)
structure Spc where
  x0 : Int
  x1 : Int
  x2 : Int
  x3 : Int
  x4 : Int
  x5 : Int
  x6 : Int
  x7 : Int
  x8 : Int
  x9 : Int
  x10 : Int
def Spc.zero : Spc := ⟨0, 0, 0, 0, 0, 0, 0, 0, 0, 0, 0⟩
def Spc.ok (s : Spc) : Bool := specB s.x0 s.x1 s.x2 s.x3 s.x4 s.x5 s.x6 s.x7 s.x8 s.x9 s.x10
structure Eng where
  sp : Spc
  now : Int
  ph : Int
  tg : Int
  gd : Int
  ps : PList
  nx : Int
  st : Int
  tr : Int
  wt : Int
def newE (s : Spc) (rev : Int) : Eng := ⟨s, 0, 0, rev, rev, [], 1, 0, 0, 0⟩
def newB (s : Spc) (rev : Int) : Bool := s.ok && inB rev 1 1000
def zeroE : Eng := ⟨Spc.zero, 0, 0, 0, 0, [], 0, 0, 0, 0⟩
def avP (s : Spc) (now : Int) (p : Pd) : Bool := availB s.x0 s.x1 s.x2 s.x3 s.x4 s.x5 s.x6 s.x7 s.x8 s.x9 s.x10 p.2.2.1 p.2.2.2.2 now
def loP (s : Spc) (now : Int) (p : Pd) : Bool := lostB s.x0 s.x1 s.x2 s.x3 s.x4 s.x5 s.x6 s.x7 s.x8 s.x9 s.x10 p.2.2.1 p.2.2.2.2 now
def nxP (s : Spc) (p : Pd) : Int := nextV s.x0 s.x1 s.x2 s.x3 s.x4 s.x5 s.x6 s.x7 s.x8 s.x9 s.x10 p.2.2.1 p.2.2.2.2
def mvB (ph : Int) : Bool := decide (ph = 1) || decide (ph = 2)
def Eng.okB (e : Eng) : Bool := e.sp.ok && decide (FGood e.ps e.nx) && tokB e.now && tokB e.st && tokB e.wt && inB e.ph 0 3 && inB e.tg 1 1000 && inB e.gd 1 1000 && inB e.tr 0 200
def spL (s : Spc) : List Value := [.int .i64 s.x0, .int .i64 s.x1, .int .i64 s.x2, .int .i64 s.x3, .int .i64 s.x4, .int .i64 s.x5, .int .i64 s.x6, .int .i64 s.x7, .int .i64 s.x8, .int .i64 s.x9, .int .i64 s.x10]
def flL (A : Option Addr) (n c : Nat) (nx : Int) : List Value := [.slice A n c, .int .i64 nx]
def enL (e : Eng) (A : Option Addr) (n c : Nat) : List Value := [.int .i64 e.sp.x0, .int .i64 e.sp.x1, .int .i64 e.sp.x2, .int .i64 e.sp.x3, .int .i64 e.sp.x4, .int .i64 e.sp.x5, .int .i64 e.sp.x6, .int .i64 e.sp.x7, .int .i64 e.sp.x8, .int .i64 e.sp.x9, .int .i64 e.sp.x10,
  .int .i64 e.now, .int .i64 e.ph, .int .i64 e.tg, .int .i64 e.gd, .slice A n c, .int .i64 e.nx, .int .i64 e.st, .int .i64 e.tr, .int .i64 e.wt]
def spV (s : Spc) : Value := .agg (spL s).toArray
def enV (e : Eng) (A : Option Addr) (n c : Nat) : Value := .agg (enL e A n c).toArray
theorem enL_sp (e : Eng) (A : Option Addr) (n c : Nat) : ((enL e A n c).drop 0).take (spL e.sp).length = spL e.sp := rfl
theorem enL_fl (e : Eng) (A : Option Addr) (n c : Nat) : ((enL e A n c).drop 15).take (flL A n c e.nx).length = flL A n c e.nx := rfl
theorem enL_all (e : Eng) (A : Option Addr) (n c : Nat) : ((enL e A n c).drop 0).take (enL e A n c).length = enL e A n c := rfl
theorem spL_all (s : Spc) : ((spL s).drop 0).take (spL s).length = spL s := rfl
theorem spL_one (s : Spc) : ∀ v ∈ spL s, v.oneCell' = true := by simp [spL, Value.oneCell']
theorem flL_one (A : Option Addr) (n c : Nat) (nx : Int) : ∀ v ∈ flL A n c nx, v.oneCell' = true := by simp [flL, Value.oneCell']
theorem enL_one (e : Eng) (A : Option Addr) (n c : Nat) : ∀ v ∈ enL e A n c, v.oneCell' = true := by simp [enL, Value.oneCell']
end Go.Proofs.YtklgjjmcflgjeaaGreat.EngV
