/-
  REPORTS AND PODS as they come in as arguments of a law, and the laws' toReport and toPod, over this seat's translation.
-/
import Derived.Test.YtpnlnekgekfhgaaFleetTy
namespace Go.Proofs.Ytpnlnekgekfhgaa.PodTop
open Go.ChangeShapes Go.WideShapes Go.ChangeAt Go.RowKit Go.Joins Go.Deep
open Go.Proofs.Ytpnlnekgekfhgaa.LK Go.Proofs.Ytpnlnekgekfhgaa.Pods
set_option linter.unusedVariables false
set_option maxHeartbeats 800000 in
theorem toReport_any (x0 x1 x2 : Int) (w : World) :
    Calls Try.prog 44 #[.agg #[.int .i64 x0, .int .i64 x1, .int .i64 x2]] w (Says (.agg #[.int .i64 x0, .int .i64 x1, .int .i64 x2]) w) := by
  go_enter Try.func44, Try.ntmps44
  go_wp2
  exact bodyPost_ret (v := .agg #[.int .i64 x0, .int .i64 x1, .int .i64 x2]) (by simp [results, Try.results44, go_sem]) rfl ⟨rfl, bel3 _ _ _ _⟩
section
variable {H : Type} {enc : TypeId × Value → H} {w : World} {base : Nat} {spare : Nat → Bool} {held : Bool}
set_option maxRecDepth 100000 in
theorem open_report {r : Reach} {b0 : Nat} {v : Value} {d : DataW H} {p : List MemPlace} (hv : Value.okWide Try.prog w r b0 72 v) (h : DataW.Trod enc Try.prog w base spare held 72 v d p) :
    ∃ x0 x1 x2 : Int, v = .agg #[.int .i64 x0, .int .i64 x1, .int .i64 x2] ∧ (Lit.int .i64 x0).wf = true ∧ (Lit.int .i64 x1).wf = true ∧ (Lit.int .i64 x2).wf = true := by
  obtain ⟨l, hl, rfl, hw⟩ := FlatOpen.open_flat Try.underlying72 (by kernel_rfl) (fun i f hf => FleetTy.flat_fields (by kernel_rfl) hf) hv h
  match l, hl with
  | [x0, x1, x2], _ => exact ⟨x0, x1, x2, rfl, hw x0 (by simp), hw x1 (by simp), hw x2 (by simp)⟩
end
end Go.Proofs.Ytpnlnekgekfhgaa.PodTop
