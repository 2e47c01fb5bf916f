/-
  PROVED: at every spec, fleet, rev and now, laws.FnExactBaked answers true: impl.Baked answers as the model's and leaves its argument as it was. No conditions.
-/
import Derived.Test.YtmmdpljimjfkdaaRows
import Derived.WalkKit
import Derived.ProofKit
import Derived.OpenShut
import Derived.ShutString
import Derived.ChangeOld
import Derived.Below
import Derived.Test.YtmmdpljimjfkdaaLawBaked
import Derived.Test.YtmmdpljimjfkdaaBakS
import Derived.Test.YtmmdpljimjfkdaaBakI
namespace Go.Proofs.Ytmmdpljimjfkdaa.fnExactBaked
open Go.ChangeShapes Go.WideShapes Go.ChangeAt Go.RowKit
open Go.ChangeMaps (open_string shut_string)
set_option linter.unusedVariables false

theorem own : ownKnob Try.prog.godebug = none := by kernel_rfl
theorem laidOut : laidOutB Try.prog = true := by kernel_rfl
theorem specC (x0 x1 x2 x3 x4 x5 x6 x7 x8 x9 x10 rev now : Int) (W : World) (B : Nat) (v : Value) (d : FleetTy.FD) (h : FleetTy.fty.Rd W B v d) (hB : B ≤ W.heap.size) (hf : FleetTy.fty.Few d) : Calls Try.prog 39 #[.agg #[.int .i64 x0, .int .i64 x1, .int .i64 x2, .int .i64 x3, .int .i64 x4, .int .i64 x5, .int .i64 x6, .int .i64 x7, .int .i64 x8, .int .i64 x9, .int .i64 x10], v, .int .i64 rev, .int .i64 now] W (LK.Says (.bool (BakI.bakedV x0 x1 x2 x3 x4 x5 x6 x7 x8 x9 x10 rev now d)) W) := by
  obtain ⟨ps, x⟩ := d
  obtain ⟨A, c, rfl, hp⟩ := h
  exact BakS.specBaked_any x0 x1 x2 x3 x4 x5 x6 x7 x8 x9 x10 rev now A _ c x ps B W hp hB hf
theorem implC (x0 x1 x2 x3 x4 x5 x6 x7 x8 x9 x10 rev now : Int) (W : World) (B : Nat) (v : Value) (d : FleetTy.FD) (h : FleetTy.fty.Rd W B v d) (hB : B ≤ W.heap.size) (hf : FleetTy.fty.Few d) : Calls Try.prog 40 #[.agg #[.int .i64 x0, .int .i64 x1, .int .i64 x2, .int .i64 x3, .int .i64 x4, .int .i64 x5, .int .i64 x6, .int .i64 x7, .int .i64 x8, .int .i64 x9, .int .i64 x10], v, .int .i64 rev, .int .i64 now] W (LK.Says (.bool (BakI.bakedV x0 x1 x2 x3 x4 x5 x6 x7 x8 x9 x10 rev now d)) W) := by
  obtain ⟨ps, x⟩ := d
  obtain ⟨A, c, rfl, hp⟩ := h
  exact BakI.baked_any x0 x1 x2 x3 x4 x5 x6 x7 x8 x9 x10 rev now A _ c x ps B W hp hB hf

theorem walk (x0_0 x0_1 x0_2 x0_3 x0_4 x0_5 x0_6 x0_7 x0_8 x0_9 x0_10 : Int) (x1A : Option Addr) (x1n x1c : Nat) (x1s : Int) (x1d : FleetTy.FD) (a2 : Int) (a3 : Int) (w : World) (y0_0 : (Lit.int .i64 x0_0).wf = true) (y0_1 : (Lit.int .i64 x0_1).wf = true) (y0_2 : (Lit.int .i64 x0_2).wf = true) (y0_3 : (Lit.int .i64 x0_3).wf = true) (y0_4 : (Lit.int .i64 x0_4).wf = true) (y0_5 : (Lit.int .i64 x0_5).wf = true) (y0_6 : (Lit.int .i64 x0_6).wf = true) (y0_7 : (Lit.int .i64 x0_7).wf = true) (y0_8 : (Lit.int .i64 x0_8).wf = true) (y0_9 : (Lit.int .i64 x0_9).wf = true) (y0_10 : (Lit.int .i64 x0_10).wf = true) (w1 : FleetTy.fty.Rd w w.heap.size (.agg #[.slice x1A x1n x1c, .int .i64 x1s]) x1d) (z1 : LK.SzC 27 FleetTy.fty (.agg #[.slice x1A x1n x1c, .int .i64 x1s]) x1d w) (w2 : (Lit.int .i64 a2).wf = true) (w3 : (Lit.int .i64 a3).wf = true) :
    Calls Try.prog 10 #[.agg #[.int .i64 x0_0, .int .i64 x0_1, .int .i64 x0_2, .int .i64 x0_3, .int .i64 x0_4, .int .i64 x0_5, .int .i64 x0_6, .int .i64 x0_7, .int .i64 x0_8, .int .i64 x0_9, .int .i64 x0_10], .agg #[.slice x1A x1n x1c, .int .i64 x1s], .int .i64 a2, .int .i64 a3] w fun e w' => e = .returned (.bool true) ∧ Below w.heap.size w w' := by
  exact LawBaked.walk x0_0 x0_1 x0_2 x0_3 x0_4 x0_5 x0_6 x0_7 x0_8 x0_9 x0_10 x1A x1n x1c x1s x1d a2 a3 (BakI.bakedV x0_0 x0_1 x0_2 x0_3 x0_4 x0_5 x0_6 x0_7 x0_8 x0_9 x0_10 a2 a3 x1d) w w1 z1 (fun hf W B v h hB => specC x0_0 x0_1 x0_2 x0_3 x0_4 x0_5 x0_6 x0_7 x0_8 x0_9 x0_10 a2 a3 W B v x1d h hB hf) (fun hf W B v h hB => implC x0_0 x0_1 x0_2 x0_3 x0_4 x0_5 x0_6 x0_7 x0_8 x0_9 x0_10 a2 a3 W B v x1d h hB hf)

set_option maxRecDepth 100000 in
theorem contract (H : Type) (enc : TypeId × Value → H) (W : World) (base : Nat) (args : Array Value) (ds gs : List (DataW H)) (before : List MemPlace)
    (hval : ∀ (j : Nat) t v, Try.f10.params[j]? = some t → args[j]? = some v → Value.okWide Try.prog W .any base t v)
    (hW : DataW.Whole enc Try.prog Try.f10.params.toList Rows.fnExactBakedSpec.vars false W args.toList ds gs before) :
    Calls Try.prog 10 args W fun e W' => ∃ v, e = .returned v ∧ Rows.fnExactBakedSpec.post enc Try.prog Try.f10 false true false false W args v W' := by
  have hW' := hW
  obtain ⟨p, q, hA0, hV, rfl, hfz, hnd⟩ := hW
  have hA : DataW.TrodAll enc Try.prog W 0 (fun _ => true) true Try.f10.params.toList args.toList ds p := hA0
  rw [Try.params10] at hA hval
  obtain ⟨v0, vs0, d0, ds0, p0, q0, hargs, rfl, rfl, h0, r0⟩ := trodAll_cons hA
  obtain ⟨v1, vs1, d1, ds1, p1, q1, rfl, rfl, rfl, h1, r1⟩ := trodAll_cons r0
  obtain ⟨v2, vs2, d2, ds2, p2, q2, rfl, rfl, rfl, h2, r2⟩ := trodAll_cons r1
  obtain ⟨v3, vs3, d3, ds3, p3, q3, rfl, rfl, rfl, h3, r3⟩ := trodAll_cons r2
  obtain ⟨rfl, rfl, rfl⟩ := trodAll_nil r3
  obtain rfl : args = #[v0, v1, v2, v3] := by cases args; simp_all
  obtain ⟨rfl, rfl⟩ := trodVars_none hV
  have k0 := h0
  have lt0 : ∀ x ∈ p0, x.block < W.heap.size := by obtain ⟨m, hm⟩ := k0; exact DataW.trod_lt m _ _ _ hm
  obtain ⟨x0_0, x0_1, x0_2, x0_3, x0_4, x0_5, x0_6, x0_7, x0_8, x0_9, x0_10, rfl, y0_0, y0_1, y0_2, y0_3, y0_4, y0_5, y0_6, y0_7, y0_8, y0_9, y0_10⟩ := Sp.open_spec (hval 0 42 v0 rfl rfl) h0
  have k1 := h1
  have lt1 : ∀ x ∈ p1, x.block < W.heap.size := by obtain ⟨m, hm⟩ := k1; exact DataW.trod_lt m _ _ _ hm
  obtain ⟨x1A, x1n, x1c, x1s, x1d, rfl, w1, z1, y1⟩ := FleetTy.open_fleet (hval 1 45 v1 rfl rfl) h1
  obtain ⟨a2, rfl, rfl, rfl, w2⟩ := open_int Try.underlying3 (hval 2 3 v2 rfl rfl) h2
  obtain ⟨a3, rfl, rfl, rfl, w3⟩ := open_int Try.underlying3 (hval 3 3 v3 rfl rfl) h3
  clear hA0
  simp only [List.append_nil] at hW'
  refine (walk x0_0 x0_1 x0_2 x0_3 x0_4 x0_5 x0_6 x0_7 x0_8 x0_9 x0_10 x1A x1n x1c x1s x1d a2 a3 W y0_0 y0_1 y0_2 y0_3 y0_4 y0_5 y0_6 y0_7 y0_8 y0_9 y0_10 w1 z1 w2 w3).mono fun e W' ⟨he, bel⟩ => ?_
  subst he
  exact ⟨_, rfl, _, _, _, [], _, [], hW', trodAll_mk1 (shut_bool Try.underlying4 _), (trodAll_cons_mk (Below.trod laidOut (by kernel_rfl) (of_decide_eq_true (by kernel_rfl)) k0 bel lt0) (trodAll_cons_mk (Below.trod laidOut (by kernel_rfl) (of_decide_eq_true (by kernel_rfl)) k1 bel lt1) (trodAll_cons_mk (shut_int Try.underlying3 w2) (trodAll_cons_mk (shut_int Try.underlying3 w3) trodAll_mk0)))), rfl, bel.frame _, fun h => by cases h⟩

set_option maxRecDepth 100000 in
theorem lifted (os : Os) (started : os.Started) (H : Type) (enc : TypeId × Value → H) :
    ReturnsInHanded {} Try.checked os 10 .any (Rows.fnExactBakedSpec.pre6 enc Try.prog Try.f10 Rows.fnExactBakedRow.domain false) (Rows.fnExactBakedSpec.post enc Try.prog Try.f10 false true false false) := by
  refine returnsInHanded_of_change (C := Try.checked) own started (by kernel_rfl) Try.func10
    (ChangeSpec.witness6 (enc := enc) (C := Try.checked) false ⟨#[], #[.agg #[.int .i64 0, .int .i64 0, .int .i64 0, .int .i64 0, .int .i64 0, .int .i64 0, .int .i64 0, .int .i64 0, .int .i64 0, .int .i64 0, .int .i64 0], .agg #[.slice none 0 0, .int .i64 0], .int .i64 0, .int .i64 0], []⟩ 8 (by kernel_rfl) (by kernel_rfl) (by kernel_rfl) (by kernel_rfl)) ?_
  intro W base args ds gs before hval0 hW hcnd _
  exact contract H enc W base args ds gs before hval0 hW

theorem proved : Rows.FnExactBakedSaid :=
  OpenClaim.holds_of_wide 10 Try.f10 rfl rfl rfl rfl rfl rfl rfl ⟨rfl, rfl, rfl, rfl, rfl⟩ rfl rfl rfl rfl rfl (by kernel_rfl) Try.func10 (by kernel_rfl)
    (of_decide_eq_true (by kernel_rfl)) (by unfold Func.isWrapper; first | (rw [if_pos (by decide +kernel)]; kernel_rfl) | (rw [if_neg (by decide +kernel)]; exact ⟨rfl, rfl⟩))
    (fun os started H enc _ => lifted os started H enc)
#print axioms proved
end Go.Proofs.Ytmmdpljimjfkdaa.fnExactBaked
