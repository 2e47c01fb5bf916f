/-
  OPS as arguments and results of laws over this seat's translation.
-/
import Derived.Test.YtklgjjmcflgjeaaLawKit
import Derived.Test.YtklgjjmcflgjeaaFlatOpen
namespace Go.Proofs.Ytklgjjmcflgjeaa.OpTop
open Go.ChangeShapes Go.WideShapes Go.ChangeAt Go.RowKit Go.Joins Go.Deep
open Go.Proofs.Ytklgjjmcflgjeaa.LK
set_option linter.unusedVariables false
theorem flat_fields {i : Nat} {f : Field} {fs : Array Field} (h : fs.toList.zipIdx.all (fun q => q.1.offset == q.2 && q.1.type == 3) = true) (hf : fs[i]? = some f) : f.offset = i ∧ f.type = 3 := by
  have h1 : (f, i) ∈ fs.toList.zipIdx := List.mem_zipIdx_iff_getElem?.2 (by simpa using hf)
  have h2 := List.all_eq_true.1 h _ h1
  simpa using h2
theorem toOp_any (x0 x1 x2 x3 : Int) (w : World) :
    Calls Try.prog 13 #[.agg #[.int .i64 x0, .int .i64 x1, .int .i64 x2, .int .i64 x3]] w (Says (.agg #[.int .i64 x0, .int .i64 x1, .int .i64 x2, .int .i64 x3]) w) := by
  go_enter Try.func13, Try.ntmps13
  go_wp2
  exact bodyPost_ret (v := .agg #[.int .i64 x0, .int .i64 x1, .int .i64 x2, .int .i64 x3]) (by simp [results, Try.results13, go_sem]) rfl ⟨rfl, bel3 _ _ _ _⟩
section
variable {H : Type} {enc : TypeId × Value → H} {w : World} {base : Nat} {spare : Nat → Bool} {held : Bool}
set_option maxRecDepth 100000 in
theorem open_op {r : Reach} {b0 : Nat} {v : Value} {d : DataW H} {p : List MemPlace} (hv : Value.okWide Try.prog w r b0 42 v) (h : DataW.Trod enc Try.prog w base spare held 42 v d p) :
    ∃ x0 x1 x2 x3 : Int, v = .agg #[.int .i64 x0, .int .i64 x1, .int .i64 x2, .int .i64 x3] ∧ (Lit.int .i64 x0).wf = true ∧ (Lit.int .i64 x1).wf = true ∧ (Lit.int .i64 x2).wf = true ∧ (Lit.int .i64 x3).wf = true := by
  obtain ⟨l, hl, rfl, hw⟩ := FlatOpen.open_flat Try.underlying42 (by kernel_rfl) (fun i f hf => flat_fields (by kernel_rfl) hf) hv h
  match l, hl with
  | [x0, x1, x2, x3], _ => exact ⟨x0, x1, x2, x3, rfl, hw x0 (by simp), hw x1 (by simp), hw x2 (by simp), hw x3 (by simp)⟩
end
set_option maxHeartbeats 1600000 in
theorem eqOp_same (x0 x1 x2 x3 : Int) (w : World) :
    Calls Try.prog 22 #[.agg #[.int .i64 x0, .int .i64 x1, .int .i64 x2, .int .i64 x3], .agg #[.int .i64 x0, .int .i64 x1, .int .i64 x2, .int .i64 x3]] w (Says (.bool true) w) := by
  go_enter Try.func22, Try.ntmps22
  go_wp2
  go_ret
  exact ⟨rfl, bel2 _ _ _⟩
end Go.Proofs.Ytklgjjmcflgjeaa.OpTop
