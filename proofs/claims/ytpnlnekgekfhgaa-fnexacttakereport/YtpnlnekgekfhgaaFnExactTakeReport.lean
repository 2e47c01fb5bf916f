/-
  PROVED: at every fleet, report and now, laws.FnExactTakeReport answers true: impl.TakeReport answers as the model's, leaves its argument as it was, and its answer owns its memory. No conditions.
-/
import Derived.Test.YtpnlnekgekfhgaaRows
import Derived.WalkKit
import Derived.ProofKit
import Derived.OpenShut
import Derived.ShutString
import Derived.ChangeOld
import Derived.Below
import Derived.Test.YtpnlnekgekfhgaaLawTakeReport
import Derived.Test.YtpnlnekgekfhgaaSpecTake
namespace Go.Proofs.Ytpnlnekgekfhgaa.fnExactTakeReport
open Go.ChangeShapes Go.WideShapes Go.ChangeAt Go.RowKit
open Go.ChangeMaps (open_string shut_string)
set_option linter.unusedVariables false

theorem own : ownKnob Try.prog.godebug = none := by kernel_rfl
theorem laidOut : laidOutB Try.prog = true := by kernel_rfl
theorem specC (rp gen st now : Int) (W : World) (B : Nat) (v : Value) (d : FleetTy.FD) (h : FleetTy.fty.Rd W B v d) (hB : B ≤ W.heap.size) (hf : FleetTy.fty.Few d) : Calls Try.prog 15 #[v, .agg #[.int .i64 rp, .int .i64 gen, .int .i64 st], .int .i64 now] W (LK.Made1 FleetTy.fty (Crew.takeD d rp gen st now) (.int .i64 (Crew.takeV d rp gen st now)) W) := by
  obtain ⟨ps, x⟩ := d
  obtain ⟨A, c, rfl, hp⟩ := h
  exact Crew.specTakeReport_any A _ c x rp gen st now ps B W hp hB hf
theorem implC (rp gen st now : Int) (hid : (Lit.int .i64 rp).wf = true) (W : World) (B : Nat) (v : Value) (d : FleetTy.FD) (h : FleetTy.fty.Rd W B v d) (hB : B ≤ W.heap.size) (hf : FleetTy.fty.Few d) : Calls Try.prog 16 #[v, .agg #[.int .i64 rp, .int .i64 gen, .int .i64 st], .int .i64 now] W (LK.Made1 FleetTy.fty (Crew.takeD d rp gen st now) (.int .i64 (Crew.takeV d rp gen st now)) W) := by
  obtain ⟨ps, x⟩ := d
  obtain ⟨A, c, rfl, hp⟩ := h
  exact Crew.takeReport_any A _ c x rp gen st now ps B W hp hB hf hid

theorem walk (x0A : Option Addr) (x0n x0c : Nat) (x0s : Int) (x0d : FleetTy.FD) (x1_0 x1_1 x1_2 : Int) (a2 : Int) (w : World) (w0 : FleetTy.fty.Rd w w.heap.size (.agg #[.slice x0A x0n x0c, .int .i64 x0s]) x0d) (z0 : LK.SzC 32 FleetTy.fty (.agg #[.slice x0A x0n x0c, .int .i64 x0s]) x0d w) (y1_0 : (Lit.int .i64 x1_0).wf = true) (y1_1 : (Lit.int .i64 x1_1).wf = true) (y1_2 : (Lit.int .i64 x1_2).wf = true) (w2 : (Lit.int .i64 a2).wf = true) :
    Calls Try.prog 9 #[.agg #[.slice x0A x0n x0c, .int .i64 x0s], .agg #[.int .i64 x1_0, .int .i64 x1_1, .int .i64 x1_2], .int .i64 a2] w fun e w' => e = .returned (.bool true) ∧ Below w.heap.size w w' := by
  exact LawTakeReport.walk x0A x0n x0c x0s x0d x1_0 x1_1 x1_2 a2 (Crew.takeD x0d x1_0 x1_1 x1_2 a2) (Crew.takeV x0d x1_0 x1_1 x1_2 a2) w w0 z0 (fun hf => Crew.few_take x1_0 x1_1 x1_2 a2 hf) (fun hf W B v h hB => specC x1_0 x1_1 x1_2 a2 W B v x0d h hB hf) (fun hf W B v h hB => implC x1_0 x1_1 x1_2 a2 y1_0 W B v x0d h hB hf)

set_option maxRecDepth 100000 in
theorem contract (H : Type) (enc : TypeId × Value → H) (W : World) (base : Nat) (args : Array Value) (ds gs : List (DataW H)) (before : List MemPlace)
    (hval : ∀ (j : Nat) t v, Try.f9.params[j]? = some t → args[j]? = some v → Value.okWide Try.prog W .any base t v)
    (hW : DataW.Whole enc Try.prog Try.f9.params.toList Rows.fnExactTakeReportSpec.vars false W args.toList ds gs before) :
    Calls Try.prog 9 args W fun e W' => ∃ v, e = .returned v ∧ Rows.fnExactTakeReportSpec.post enc Try.prog Try.f9 false true false false W args v W' := by
  have hW' := hW
  obtain ⟨p, q, hA0, hV, rfl, hfz, hnd⟩ := hW
  have hA : DataW.TrodAll enc Try.prog W 0 (fun _ => true) true Try.f9.params.toList args.toList ds p := hA0
  rw [Try.params9] at hA hval
  obtain ⟨v0, vs0, d0, ds0, p0, q0, hargs, rfl, rfl, h0, r0⟩ := trodAll_cons hA
  obtain ⟨v1, vs1, d1, ds1, p1, q1, rfl, rfl, rfl, h1, r1⟩ := trodAll_cons r0
  obtain ⟨v2, vs2, d2, ds2, p2, q2, rfl, rfl, rfl, h2, r2⟩ := trodAll_cons r1
  obtain ⟨rfl, rfl, rfl⟩ := trodAll_nil r2
  obtain rfl : args = #[v0, v1, v2] := by cases args; simp_all
  obtain ⟨rfl, rfl⟩ := trodVars_none hV
  have k0 := h0
  have lt0 : ∀ x ∈ p0, x.block < W.heap.size := by obtain ⟨m, hm⟩ := k0; exact DataW.trod_lt m _ _ _ hm
  obtain ⟨x0A, x0n, x0c, x0s, x0d, rfl, w0, z0, y0⟩ := FleetTy.open_fleet (hval 0 60 v0 rfl rfl) h0
  have k1 := h1
  have lt1 : ∀ x ∈ p1, x.block < W.heap.size := by obtain ⟨m, hm⟩ := k1; exact DataW.trod_lt m _ _ _ hm
  obtain ⟨x1_0, x1_1, x1_2, rfl, y1_0, y1_1, y1_2⟩ := PodTop.open_report (hval 1 72 v1 rfl rfl) h1
  obtain ⟨a2, rfl, rfl, rfl, w2⟩ := open_int Try.underlying3 (hval 2 3 v2 rfl rfl) h2
  clear hA0
  simp only [List.append_nil] at hW'
  refine (walk x0A x0n x0c x0s x0d x1_0 x1_1 x1_2 a2 W w0 z0 y1_0 y1_1 y1_2 w2).mono fun e W' ⟨he, bel⟩ => ?_
  subst he
  exact ⟨_, rfl, _, _, _, [], _, [], hW', trodAll_mk1 (shut_bool Try.underlying4 _), (trodAll_cons_mk (Below.trod laidOut (by kernel_rfl) (of_decide_eq_true (by kernel_rfl)) k0 bel lt0) (trodAll_cons_mk (Below.trod laidOut (by kernel_rfl) (of_decide_eq_true (by kernel_rfl)) k1 bel lt1) (trodAll_cons_mk (shut_int Try.underlying3 w2) trodAll_mk0))), rfl, bel.frame _, fun h => by cases h⟩

set_option maxRecDepth 100000 in
theorem lifted (os : Os) (started : os.Started) (H : Type) (enc : TypeId × Value → H) :
    ReturnsInHanded {} Try.checked os 9 .any (Rows.fnExactTakeReportSpec.pre6 enc Try.prog Try.f9 Rows.fnExactTakeReportRow.domain false) (Rows.fnExactTakeReportSpec.post enc Try.prog Try.f9 false true false false) := by
  refine returnsInHanded_of_change (C := Try.checked) own started (by kernel_rfl) Try.func9
    (ChangeSpec.witness6 (enc := enc) (C := Try.checked) false ⟨#[], #[.agg #[.slice none 0 0, .int .i64 0], .agg #[.int .i64 0, .int .i64 0, .int .i64 0], .int .i64 0], []⟩ 8 (by kernel_rfl) (by kernel_rfl) (by kernel_rfl) (by kernel_rfl)) ?_
  intro W base args ds gs before hval0 hW hcnd _
  exact contract H enc W base args ds gs before hval0 hW

theorem proved : Rows.FnExactTakeReportSaid :=
  OpenClaim.holds_of_wide 9 Try.f9 rfl rfl rfl rfl rfl rfl rfl ⟨rfl, rfl, rfl, rfl, rfl⟩ rfl rfl rfl rfl rfl (by kernel_rfl) Try.func9 (by kernel_rfl)
    (of_decide_eq_true (by kernel_rfl)) (by unfold Func.isWrapper; first | (rw [if_pos (by decide +kernel)]; kernel_rfl) | (rw [if_neg (by decide +kernel)]; exact ⟨rfl, rfl⟩))
    (fun os started H enc _ => lifted os started H enc)
#print axioms proved
end Go.Proofs.Ytpnlnekgekfhgaa.fnExactTakeReport
