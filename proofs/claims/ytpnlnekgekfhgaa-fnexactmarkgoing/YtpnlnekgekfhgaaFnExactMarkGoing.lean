/-
  PROVED: at every fleet, id and now, laws.FnExactMarkGoing answers true: impl.MarkGoing answers as the model's, leaves its argument as it was, and its answer owns its memory. No conditions.
-/
import Derived.Test.YtpnlnekgekfhgaaRows
import Derived.WalkKit
import Derived.ProofKit
import Derived.OpenShut
import Derived.ShutString
import Derived.ChangeOld
import Derived.Below
import Derived.Test.YtpnlnekgekfhgaaLawMarkGoing
import Derived.Test.YtpnlnekgekfhgaaSpecGo
namespace Go.Proofs.Ytpnlnekgekfhgaa.fnExactMarkGoing
open Go.ChangeShapes Go.WideShapes Go.ChangeAt Go.RowKit
open Go.ChangeMaps (open_string shut_string)
set_option linter.unusedVariables false

theorem own : ownKnob Try.prog.godebug = none := by kernel_rfl
theorem laidOut : laidOutB Try.prog = true := by kernel_rfl
theorem specC (id now : Int) (W : World) (B : Nat) (v : Value) (d : FleetTy.FD) (h : FleetTy.fty.Rd W B v d) (hB : B ≤ W.heap.size) (hf : FleetTy.fty.Few d) : Calls Try.prog 42 #[v, .int .i64 id, .int .i64 now] W (LK.Made1 FleetTy.fty (Crew.goD d id now) (.bool (Crew.goB d id now)) W) := by
  obtain ⟨ps, x⟩ := d
  obtain ⟨A, c, rfl, hp⟩ := h
  exact Crew.specMarkGoing_any A _ c x id now ps B W hp hB hf
theorem implC (id now : Int) (hid : (Lit.int .i64 id).wf = true) (W : World) (B : Nat) (v : Value) (d : FleetTy.FD) (h : FleetTy.fty.Rd W B v d) (hB : B ≤ W.heap.size) (hf : FleetTy.fty.Few d) : Calls Try.prog 43 #[v, .int .i64 id, .int .i64 now] W (LK.Made1 FleetTy.fty (Crew.goD d id now) (.bool (Crew.goB d id now)) W) := by
  obtain ⟨ps, x⟩ := d
  obtain ⟨A, c, rfl, hp⟩ := h
  exact Crew.markGoing_any A _ c x id now ps B W hp hB hf hid

theorem walk (x0A : Option Addr) (x0n x0c : Nat) (x0s : Int) (x0d : FleetTy.FD) (a1 : Int) (a2 : Int) (w : World) (w0 : FleetTy.fty.Rd w w.heap.size (.agg #[.slice x0A x0n x0c, .int .i64 x0s]) x0d) (z0 : LK.SzC 32 FleetTy.fty (.agg #[.slice x0A x0n x0c, .int .i64 x0s]) x0d w) (w1 : (Lit.int .i64 a1).wf = true) (w2 : (Lit.int .i64 a2).wf = true) :
    Calls Try.prog 8 #[.agg #[.slice x0A x0n x0c, .int .i64 x0s], .int .i64 a1, .int .i64 a2] w fun e w' => e = .returned (.bool true) ∧ Below w.heap.size w w' := by
  exact LawMarkGoing.walk x0A x0n x0c x0s x0d a1 a2 (Crew.goD x0d a1 a2) (Crew.goB x0d a1 a2) w w0 z0 (fun hf => Crew.few_go a1 a2 hf) (fun hf W B v h hB => specC a1 a2 W B v x0d h hB hf) (fun hf W B v h hB => implC a1 a2 w1 W B v x0d h hB hf)

set_option maxRecDepth 100000 in
theorem contract (H : Type) (enc : TypeId × Value → H) (W : World) (base : Nat) (args : Array Value) (ds gs : List (DataW H)) (before : List MemPlace)
    (hval : ∀ (j : Nat) t v, Try.f8.params[j]? = some t → args[j]? = some v → Value.okWide Try.prog W .any base t v)
    (hW : DataW.Whole enc Try.prog Try.f8.params.toList Rows.fnExactMarkGoingSpec.vars false W args.toList ds gs before) :
    Calls Try.prog 8 args W fun e W' => ∃ v, e = .returned v ∧ Rows.fnExactMarkGoingSpec.post enc Try.prog Try.f8 false true false false W args v W' := by
  have hW' := hW
  obtain ⟨p, q, hA0, hV, rfl, hfz, hnd⟩ := hW
  have hA : DataW.TrodAll enc Try.prog W 0 (fun _ => true) true Try.f8.params.toList args.toList ds p := hA0
  rw [Try.params8] at hA hval
  obtain ⟨v0, vs0, d0, ds0, p0, q0, hargs, rfl, rfl, h0, r0⟩ := trodAll_cons hA
  obtain ⟨v1, vs1, d1, ds1, p1, q1, rfl, rfl, rfl, h1, r1⟩ := trodAll_cons r0
  obtain ⟨v2, vs2, d2, ds2, p2, q2, rfl, rfl, rfl, h2, r2⟩ := trodAll_cons r1
  obtain ⟨rfl, rfl, rfl⟩ := trodAll_nil r2
  obtain rfl : args = #[v0, v1, v2] := by cases args; simp_all
  obtain ⟨rfl, rfl⟩ := trodVars_none hV
  have k0 := h0
  have lt0 : ∀ x ∈ p0, x.block < W.heap.size := by obtain ⟨m, hm⟩ := k0; exact DataW.trod_lt m _ _ _ hm
  obtain ⟨x0A, x0n, x0c, x0s, x0d, rfl, w0, z0, y0⟩ := FleetTy.open_fleet (hval 0 60 v0 rfl rfl) h0
  obtain ⟨a1, rfl, rfl, rfl, w1⟩ := open_int Try.underlying3 (hval 1 3 v1 rfl rfl) h1
  obtain ⟨a2, rfl, rfl, rfl, w2⟩ := open_int Try.underlying3 (hval 2 3 v2 rfl rfl) h2
  clear hA0
  simp only [List.append_nil] at hW'
  refine (walk x0A x0n x0c x0s x0d a1 a2 W w0 z0 w1 w2).mono fun e W' ⟨he, bel⟩ => ?_
  subst he
  exact ⟨_, rfl, _, _, _, [], _, [], hW', trodAll_mk1 (shut_bool Try.underlying4 _), (trodAll_cons_mk (Below.trod laidOut (by kernel_rfl) (of_decide_eq_true (by kernel_rfl)) k0 bel lt0) (trodAll_cons_mk (shut_int Try.underlying3 w1) (trodAll_cons_mk (shut_int Try.underlying3 w2) trodAll_mk0))), rfl, bel.frame _, fun h => by cases h⟩

set_option maxRecDepth 100000 in
theorem lifted (os : Os) (started : os.Started) (H : Type) (enc : TypeId × Value → H) :
    ReturnsInHanded {} Try.checked os 8 .any (Rows.fnExactMarkGoingSpec.pre6 enc Try.prog Try.f8 Rows.fnExactMarkGoingRow.domain false) (Rows.fnExactMarkGoingSpec.post enc Try.prog Try.f8 false true false false) := by
  refine returnsInHanded_of_change (C := Try.checked) own started (by kernel_rfl) Try.func8
    (ChangeSpec.witness6 (enc := enc) (C := Try.checked) false ⟨#[], #[.agg #[.slice none 0 0, .int .i64 0], .int .i64 0, .int .i64 0], []⟩ 8 (by kernel_rfl) (by kernel_rfl) (by kernel_rfl) (by kernel_rfl)) ?_
  intro W base args ds gs before hval0 hW hcnd _
  exact contract H enc W base args ds gs before hval0 hW

theorem proved : Rows.FnExactMarkGoingSaid :=
  OpenClaim.holds_of_wide 8 Try.f8 rfl rfl rfl rfl rfl rfl rfl ⟨rfl, rfl, rfl, rfl, rfl⟩ rfl rfl rfl rfl rfl (by kernel_rfl) Try.func8 (by kernel_rfl)
    (of_decide_eq_true (by kernel_rfl)) (by unfold Func.isWrapper; first | (rw [if_pos (by decide +kernel)]; kernel_rfl) | (rw [if_neg (by decide +kernel)]; exact ⟨rfl, rfl⟩))
    (fun os started H enc _ => lifted os started H enc)
#print axioms proved
end Go.Proofs.Ytpnlnekgekfhgaa.fnExactMarkGoing
