/-
  PROVED: at every list of events and every two ints, laws.FnExactBacksBetween answers true: impl.BacksBetween answers as the model's and leaves its argument as it was. No conditions.
-/
import Derived.Test.YtdefckbgcggnoaaRows
import Derived.WalkKit
import Derived.ProofKit
import Derived.OpenShut
import Derived.ShutString
import Derived.ChangeOld
import Derived.Below
import Derived.Test.YtdefckbgcggnoaaLawBacksBetween
import Derived.Test.YtdefckbgcggnoaaBackP
namespace Go.Proofs.Ytdefckbgcggnoaa.fnExactBacksBetween
open Go.ChangeShapes Go.WideShapes Go.ChangeAt Go.RowKit
open Go.ChangeMaps (open_string shut_string)
set_option linter.unusedVariables false

theorem own : ownKnob Try.prog.godebug = none := by kernel_rfl
theorem laidOut : laidOutB Try.prog = true := by kernel_rfl
theorem specC (a b : Int) (W : World) (B : Nat) (v : Value) (d : Evs.L) (h : Evs.lty.Rd W B v d) (hB : B ≤ W.heap.size) (hf : Evs.lty.Few d) : Calls Try.prog 21 #[v, .int .i64 a, .int .i64 b] W (LK.Says (.int .i64 (BackP.backV a b d)) W) := by
  obtain ⟨A, c, rfl, hp⟩ := h
  exact BackP.specBacks_any A _ c a b d B W hp hB hf
theorem implC (a b : Int) (W : World) (B : Nat) (v : Value) (d : Evs.L) (h : Evs.lty.Rd W B v d) (hB : B ≤ W.heap.size) (hf : Evs.lty.Few d) : Calls Try.prog 23 #[v, .int .i64 a, .int .i64 b] W (LK.Says (.int .i64 (BackP.backV a b d)) W) := by
  obtain ⟨A, c, rfl, hp⟩ := h
  exact BackP.implBacks_any A _ c a b d B W hp hB hf

theorem walk (x0A : Option Addr) (x0n x0c : Nat) (x0d : Evs.L) (a1 : Int) (a2 : Int) (w : World) (w0 : Evs.lty.Rd w w.heap.size (.slice x0A x0n x0c) x0d) (z0 : LK.SzC 20 Evs.lty (.slice x0A x0n x0c) x0d w) (w1 : (Lit.int .i64 a1).wf = true) (w2 : (Lit.int .i64 a2).wf = true) :
    Calls Try.prog 5 #[.slice x0A x0n x0c, .int .i64 a1, .int .i64 a2] w fun e w' => e = .returned (.bool true) ∧ Below w.heap.size w w' := by
  exact LawBacksBetween.walk _ x0d a1 a2 (BackP.backV a1 a2 x0d) w w0 z0 (fun hf W B v h hB => specC a1 a2 W B v x0d h hB hf) (fun hf W B v h hB => implC a1 a2 W B v x0d h hB hf)

set_option maxRecDepth 100000 in
theorem contract (H : Type) (enc : TypeId × Value → H) (W : World) (base : Nat) (args : Array Value) (ds gs : List (DataW H)) (before : List MemPlace)
    (hval : ∀ (j : Nat) t v, Try.f5.params[j]? = some t → args[j]? = some v → Value.okWide Try.prog W .any base t v)
    (hW : DataW.Whole enc Try.prog Try.f5.params.toList Rows.fnExactBacksBetweenSpec.vars false W args.toList ds gs before) :
    Calls Try.prog 5 args W fun e W' => ∃ v, e = .returned v ∧ Rows.fnExactBacksBetweenSpec.post enc Try.prog Try.f5 false true false false W args v W' := by
  have hW' := hW
  obtain ⟨p, q, hA0, hV, rfl, hfz, hnd⟩ := hW
  have hA : DataW.TrodAll enc Try.prog W 0 (fun _ => true) true Try.f5.params.toList args.toList ds p := hA0
  rw [Try.params5] at hA hval
  obtain ⟨v0, vs0, d0, ds0, p0, q0, hargs, rfl, rfl, h0, r0⟩ := trodAll_cons hA
  obtain ⟨v1, vs1, d1, ds1, p1, q1, rfl, rfl, rfl, h1, r1⟩ := trodAll_cons r0
  obtain ⟨v2, vs2, d2, ds2, p2, q2, rfl, rfl, rfl, h2, r2⟩ := trodAll_cons r1
  obtain ⟨rfl, rfl, rfl⟩ := trodAll_nil r2
  obtain rfl : args = #[v0, v1, v2] := by cases args; simp_all
  obtain ⟨rfl, rfl⟩ := trodVars_none hV
  have k0 := h0
  have lt0 : ∀ x ∈ p0, x.block < W.heap.size := by obtain ⟨m, hm⟩ := k0; exact DataW.trod_lt m _ _ _ hm
  obtain ⟨x0A, x0n, x0c, x0d, rfl, w0, z0⟩ := Evs.open_list (hval 0 35 v0 rfl rfl) h0
  obtain ⟨a1, rfl, rfl, rfl, w1⟩ := open_int Try.underlying3 (hval 1 3 v1 rfl rfl) h1
  obtain ⟨a2, rfl, rfl, rfl, w2⟩ := open_int Try.underlying3 (hval 2 3 v2 rfl rfl) h2
  clear hA0
  simp only [List.append_nil] at hW'
  refine (walk x0A x0n x0c x0d a1 a2 W w0 z0 w1 w2).mono fun e W' ⟨he, bel⟩ => ?_
  subst he
  exact ⟨_, rfl, _, _, _, [], _, [], hW', trodAll_mk1 (shut_bool Try.underlying4 _), (trodAll_cons_mk (Below.trod laidOut (by kernel_rfl) (of_decide_eq_true (by kernel_rfl)) k0 bel lt0) (trodAll_cons_mk (shut_int Try.underlying3 w1) (trodAll_cons_mk (shut_int Try.underlying3 w2) trodAll_mk0))), rfl, bel.frame _, fun h => by cases h⟩

set_option maxRecDepth 100000 in
theorem lifted (os : Os) (started : os.Started) (H : Type) (enc : TypeId × Value → H) :
    ReturnsInHanded {} Try.checked os 5 .any (Rows.fnExactBacksBetweenSpec.pre6 enc Try.prog Try.f5 Rows.fnExactBacksBetweenRow.domain false) (Rows.fnExactBacksBetweenSpec.post enc Try.prog Try.f5 false true false false) := by
  refine returnsInHanded_of_change (C := Try.checked) own started (by kernel_rfl) Try.func5
    (ChangeSpec.witness6 (enc := enc) (C := Try.checked) false ⟨#[], #[.slice none 0 0, .int .i64 0, .int .i64 0], []⟩ 8 (by kernel_rfl) (by kernel_rfl) (by kernel_rfl) (by kernel_rfl)) ?_
  intro W base args ds gs before hval0 hW hcnd _
  exact contract H enc W base args ds gs before hval0 hW

theorem proved : Rows.FnExactBacksBetweenSaid :=
  OpenClaim.holds_of_wide 5 Try.f5 rfl rfl rfl rfl rfl rfl rfl ⟨rfl, rfl, rfl, rfl, rfl⟩ rfl rfl rfl rfl rfl (by kernel_rfl) Try.func5 (by kernel_rfl)
    (of_decide_eq_true (by kernel_rfl)) (by unfold Func.isWrapper; first | (rw [if_pos (by decide +kernel)]; kernel_rfl) | (rw [if_neg (by decide +kernel)]; exact ⟨rfl, rfl⟩))
    (fun os started H enc _ => lifted os started H enc)
#print axioms proved
end Go.Proofs.Ytdefckbgcggnoaa.fnExactBacksBetween
