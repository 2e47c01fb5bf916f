/-
  WORLDS as arguments of laws over this seat's translation; what WorldOk answers, the model's and the program's.
-/
import Derived.Test.YtlghdmakaocokaaSp
import Derived.Test.YtlghdmakaocokaaFlatOpen
import Derived.Test.YtlghdmakaocokaaLawKit
namespace Go.Proofs.Ytlghdmakaocokaa.Wld
open Go.ChangeShapes Go.WideShapes Go.ChangeAt Go.RowKit Go.Joins Go.Deep
open Go.Proofs.Ytlghdmakaocokaa.LK
open Go.Proofs.Ytlghdmakaocokaa.Tick (inB l01In_any)
set_option linter.unusedVariables false
set_option linter.unusedSimpArgs false
theorem flat_fields {i : Nat} {f : Field} {fs : Array Field} (h : fs.toList.zipIdx.all (fun q => q.1.offset == q.2 && q.1.type == 3) = true) (hf : fs[i]? = some f) : f.offset = i ∧ f.type = 3 := by
  have h1 : (f, i) ∈ fs.toList.zipIdx := List.mem_zipIdx_iff_getElem?.2 (by simpa using hf)
  have h2 := List.all_eq_true.1 h _ h1
  simpa using h2
theorem toWorld_any (x0 x1 x2 x3 : Int) (w : World) :
    Calls Try.prog 7 #[.agg #[.int .i64 x0, .int .i64 x1, .int .i64 x2, .int .i64 x3]] w (Says (.agg #[.int .i64 x0, .int .i64 x1, .int .i64 x2, .int .i64 x3]) w) := by
  go_enter Try.func7, Try.ntmps7
  go_wp2
  exact bodyPost_ret (v := .agg #[.int .i64 x0, .int .i64 x1, .int .i64 x2, .int .i64 x3]) (by simp [results, Try.results7, go_sem]) rfl ⟨rfl, bel3 _ _ _ _⟩
section
variable {H : Type} {enc : TypeId × Value → H} {w : World} {base : Nat} {spare : Nat → Bool} {held : Bool}
set_option maxRecDepth 100000 in
theorem open_world {r : Reach} {b0 : Nat} {v : Value} {d : DataW H} {p : List MemPlace} (hv : Value.okWide Try.prog w r b0 23 v) (h : DataW.Trod enc Try.prog w base spare held 23 v d p) :
    ∃ x0 x1 x2 x3 : Int, v = .agg #[.int .i64 x0, .int .i64 x1, .int .i64 x2, .int .i64 x3] ∧ (Lit.int .i64 x0).wf = true ∧ (Lit.int .i64 x1).wf = true ∧ (Lit.int .i64 x2).wf = true ∧ (Lit.int .i64 x3).wf = true := by
  obtain ⟨l, hl, rfl, hw⟩ := FlatOpen.open_flat Try.underlying23 (by kernel_rfl) (fun i f hf => flat_fields (by kernel_rfl) hf) hv h
  match l, hl with
  | [x0, x1, x2, x3], _ => exact ⟨x0, x1, x2, x3, rfl, hw x0 (by simp), hw x1 (by simp), hw x2 (by simp), hw x3 (by simp)⟩
end
def worldB (x0 x1 x2 x3 : Int) : Bool := inB x0 1 10 && inB x1 0 1000 && inB x2 0 20 && inB x3 0 300
theorem worldB_t {x0 x1 x2 x3 : Int} (h : worldB x0 x1 x2 x3 = true) : (1 ≤ x0 ∧ x0 ≤ 10) ∧ (0 ≤ x1 ∧ x1 ≤ 1000) ∧ (0 ≤ x2 ∧ x2 ≤ 20) ∧ (0 ≤ x3 ∧ x3 ≤ 300) := by
  simp only [worldB, inB, Bool.and_eq_true, decide_eq_true_eq] at h
  omega
set_option maxRecDepth 100000 in
set_option maxHeartbeats 3200000 in
theorem specWorldOk_any (x0 x1 x2 x3 : Int) (w : World) : Calls Try.prog 6 #[.agg #[.int .i64 x0, .int .i64 x1, .int .i64 x2, .int .i64 x3]] w (Says (.bool (worldB x0 x1 x2 x3)) w) := by
  obtain ⟨V, hV⟩ : ∃ V, V = w.alloc (.cells #[.int .i64 x0, .int .i64 x1, .int .i64 x2, .int .i64 x3] 25) := ⟨_, rfl⟩
  have hbV : Below w.heap.size w V := by rw [hV]; exact bel1 _ _
  have KC : Hid (V.heap[w.heap.size]? = some (.cells #[.int .i64 x0, .int .i64 x1, .int .i64 x2, .int .i64 x3] 25)) := by rw [hV]; exact box_new w _
  have c0 := box_cell KC.out 0 _ rfl
  have c1 := box_cell KC.out 1 _ rfl
  have c2 := box_cell KC.out 2 _ rfl
  have c3 := box_cell KC.out 3 _ rfl
  go_enter Try.func6, Try.ntmps6
  go_wp2_with fail
  rw [← hV]
  clear hV
  refine (l01In_any _ _ _ _).mono ?_
  rintro e w' ⟨rfl, rfl⟩
  cases h0 : inB x0 1 10
  · go_wp2
    go_ret
    exact ⟨by simp [worldB, h0], hbV⟩
  · go_wp2_with fail
    refine (l01In_any _ _ _ _).mono ?_
    rintro e w' ⟨rfl, rfl⟩
    cases h1 : inB x1 0 1000
    · go_wp2
      go_ret
      exact ⟨by simp [worldB, h0, h1], hbV⟩
    · go_wp2_with fail
      refine (l01In_any _ _ _ _).mono ?_
      rintro e w' ⟨rfl, rfl⟩
      cases h2 : inB x2 0 20
      · go_wp2
        go_ret
        exact ⟨by simp [worldB, h0, h1, h2], hbV⟩
      · go_wp2_with fail
        refine (l01In_any _ _ _ _).mono ?_
        rintro e w' ⟨rfl, rfl⟩
        go_wp2
        go_ret
        exact ⟨by simp [worldB, h0, h1, h2], hbV⟩
set_option maxRecDepth 100000 in
set_option maxHeartbeats 3200000 in
theorem worldOk_any (x0 x1 x2 x3 : Int) (w : World) : Calls Try.prog 8 #[.agg #[.int .i64 x0, .int .i64 x1, .int .i64 x2, .int .i64 x3]] w (Says (.bool (worldB x0 x1 x2 x3)) w) := by
  obtain ⟨V, hV⟩ : ∃ V, V = w.alloc (.cells #[.int .i64 x0, .int .i64 x1, .int .i64 x2, .int .i64 x3] 25) := ⟨_, rfl⟩
  have hbV : Below w.heap.size w V := by rw [hV]; exact bel1 _ _
  have KC : Hid (V.heap[w.heap.size]? = some (.cells #[.int .i64 x0, .int .i64 x1, .int .i64 x2, .int .i64 x3] 25)) := by rw [hV]; exact box_new w _
  have c0 := box_cell KC.out 0 _ rfl
  have c1 := box_cell KC.out 1 _ rfl
  have c2 := box_cell KC.out 2 _ rfl
  have c3 := box_cell KC.out 3 _ rfl
  go_enter Try.func8, Try.ntmps8
  go_wp2_with fail
  rw [← hV]
  clear hV
  refine (Sp.within_any _ _ _ _).mono ?_
  rintro e w' ⟨rfl, rfl⟩
  cases h0 : inB x0 1 10
  · go_wp2
    go_ret
    exact ⟨by simp [worldB, h0], hbV⟩
  · go_wp2_with fail
    refine (Sp.within_any _ _ _ _).mono ?_
    rintro e w' ⟨rfl, rfl⟩
    cases h1 : inB x1 0 1000
    · go_wp2
      go_ret
      exact ⟨by simp [worldB, h0, h1], hbV⟩
    · go_wp2_with fail
      refine (Sp.within_any _ _ _ _).mono ?_
      rintro e w' ⟨rfl, rfl⟩
      cases h2 : inB x2 0 20
      · go_wp2
        go_ret
        exact ⟨by simp [worldB, h0, h1, h2], hbV⟩
      · go_wp2_with fail
        refine (Sp.within_any _ _ _ _).mono ?_
        rintro e w' ⟨rfl, rfl⟩
        go_wp2
        go_ret
        exact ⟨by simp [worldB, h0, h1, h2], hbV⟩
end Go.Proofs.Ytlghdmakaocokaa.Wld
