import Derived.Below
import Derived.ChangeOld
import Derived.OpenShut
import Derived.ProofKit
import Derived.ShutString
import Derived.Test.YtklgjjmcflgjeaaGreatRows
import Derived.WalkKit
import Derived.Test.YtklgjjmcflgjeaaGreatR32
import Derived.Test.YtklgjjmcflgjeaaGreatR47
set_option linter.unusedVariables false
set_option linter.unusedSimpArgs false
namespace Go.Proofs.YtklgjjmcflgjeaaGreat.fnExactTrailOf
open Go.ChangeShapes Go.WideShapes Go.ChangeAt Go.RowKit
open Go.ChangeMaps (open_string shut_string)
theorem own : ownKnob Tryz.prog.godebug = none := by kernel_rfl
theorem laidOut : laidOutB Tryz.prog = true := by kernel_rfl
theorem specSide (s : EngV.Spc) (rev : Int) (W : World) (B : Nat) (v : Value) (d : Ops.L) (h : Ops.lty.Rd W B v d) (hB : B ≤ W.heap.size) (hf : Ops.lty.Few d) : Calls Tryz.prog 14 #[.agg (EngV.spL s).toArray, .int .i64 rev, v] W (LK.Made1 Mks.lty (Trail.trP s rev d) (.bool (Play.okP s rev d)) W) := by
  obtain ⟨A, c, rfl, hp⟩ := h
  exact Trail.specTrailOf_any s rev A _ c d B W hp hB hf
theorem implSide (s : EngV.Spc) (rev : Int) (W : World) (B : Nat) (v : Value) (d : Ops.L) (hw : ∀ p : Ops.X, List.Mem p d → (Lit.int .i64 p.2.1).wf = true) (h : Ops.lty.Rd W B v d) (hB : B ≤ W.heap.size) (hf : Ops.lty.Few d) : Calls Tryz.prog 17 #[.agg (EngV.spL s).toArray, .int .i64 rev, v] W (LK.Made1 Mks.lty (Trail.trP s rev d) (.bool (Play.okP s rev d)) W) := by
  obtain ⟨A, c, rfl, hp⟩ := h
  exact Trail.trailOf_any s rev A _ c d W (hp.more hB) hf (fun p hp => hw p hp)
theorem walk (x0_0 x0_1 x0_2 x0_3 x0_4 x0_5 x0_6 x0_7 x0_8 x0_9 x0_10 : Int) (a1 : Int) (x2A : Option Addr) (x2n x2c : Nat) (x2d : Ops.L) (w : World) (y0_0 : (Lit.int .i64 x0_0).wf = true) (y0_1 : (Lit.int .i64 x0_1).wf = true) (y0_2 : (Lit.int .i64 x0_2).wf = true) (y0_3 : (Lit.int .i64 x0_3).wf = true) (y0_4 : (Lit.int .i64 x0_4).wf = true) (y0_5 : (Lit.int .i64 x0_5).wf = true) (y0_6 : (Lit.int .i64 x0_6).wf = true) (y0_7 : (Lit.int .i64 x0_7).wf = true) (y0_8 : (Lit.int .i64 x0_8).wf = true) (y0_9 : (Lit.int .i64 x0_9).wf = true) (y0_10 : (Lit.int .i64 x0_10).wf = true) (w1 : (Lit.int .i64 a1).wf = true) (w2 : Ops.lty.Rd w w.heap.size (.slice x2A x2n x2c) x2d) (z2 : LK.SzC 13 Ops.lty (.slice x2A x2n x2c) x2d w) (y2 : ∀ p : Ops.X, List.Mem p x2d → (Lit.int .i64 p.2.1).wf = true) :
    Calls Tryz.prog 4 #[.agg #[.int .i64 x0_0, .int .i64 x0_1, .int .i64 x0_2, .int .i64 x0_3, .int .i64 x0_4, .int .i64 x0_5, .int .i64 x0_6, .int .i64 x0_7, .int .i64 x0_8, .int .i64 x0_9, .int .i64 x0_10], .int .i64 a1, .slice x2A x2n x2c] w fun e w' => e = .returned (.bool true) ∧ Below w.heap.size w w' := by
  exact LawTrailOf.walk ⟨x0_0, x0_1, x0_2, x0_3, x0_4, x0_5, x0_6, x0_7, x0_8, x0_9, x0_10⟩ a1 _ x2d (Trail.trP ⟨x0_0, x0_1, x0_2, x0_3, x0_4, x0_5, x0_6, x0_7, x0_8, x0_9, x0_10⟩ a1 x2d) (Play.okP ⟨x0_0, x0_1, x0_2, x0_3, x0_4, x0_5, x0_6, x0_7, x0_8, x0_9, x0_10⟩ a1 x2d) w w2 z2 (Trail.few _ _ _) (fun W v h hf => specSide _ _ W _ v x2d h (Nat.le_refl _) hf) (fun W v h hf => implSide _ _ W _ v x2d y2 h (Nat.le_refl _) hf)
set_option maxRecDepth 100000 in
theorem contract (H : Type) (enc : TypeId × Value → H) (W : World) (base : Nat) (args : Array Value) (ds gs : List (DataW H)) (before : List MemPlace)
    (hval : ∀ (j : Nat) t v, Tryz.f4.params[j]? = some t → args[j]? = some v → Value.okWide Tryz.prog W .any base t v)
    (hW : DataW.Whole enc Tryz.prog Tryz.f4.params.toList Rows.fnExactTrailOfSpec.vars false W args.toList ds gs before) :
    Calls Tryz.prog 4 args W fun e W' => ∃ v, e = .returned v ∧ Rows.fnExactTrailOfSpec.post enc Tryz.prog Tryz.f4 false true false false W args v W' := by
  have hW' := hW
  obtain ⟨p, q, hA0, hV, rfl, hfz, hnd⟩ := hW
  have hA : DataW.TrodAll enc Tryz.prog W 0 (fun _ => true) true Tryz.f4.params.toList args.toList ds p := hA0
  rw [Tryz.params4] at hA hval
  obtain ⟨v0, vs0, d0, ds0, p0, q0, hargs, rfl, rfl, h0, r0⟩ := trodAll_cons hA
  obtain ⟨v1, vs1, d1, ds1, p1, q1, rfl, rfl, rfl, h1, r1⟩ := trodAll_cons r0
  obtain ⟨v2, vs2, d2, ds2, p2, q2, rfl, rfl, rfl, h2, r2⟩ := trodAll_cons r1
  obtain ⟨rfl, rfl, rfl⟩ := trodAll_nil r2
  obtain rfl : args = #[v0, v1, v2] := by cases args; simp_all
  obtain ⟨rfl, rfl⟩ := trodVars_none hV
  have k0 := h0
  have lt0 : ∀ x ∈ p0, x.block < W.heap.size := by obtain ⟨m, hm⟩ := k0; exact DataW.trod_lt m _ _ _ hm
  obtain ⟨x0_0, x0_1, x0_2, x0_3, x0_4, x0_5, x0_6, x0_7, x0_8, x0_9, x0_10, rfl, y0_0, y0_1, y0_2, y0_3, y0_4, y0_5, y0_6, y0_7, y0_8, y0_9, y0_10⟩ := Sp.open_spec (hval 0 42 v0 rfl rfl) h0
  obtain ⟨a1, rfl, rfl, rfl, w1⟩ := open_int Tryz.underlying3 (hval 1 3 v1 rfl rfl) h1
  have k2 := h2
  have lt2 : ∀ x ∈ p2, x.block < W.heap.size := by obtain ⟨m, hm⟩ := k2; exact DataW.trod_lt m _ _ _ hm
  obtain ⟨x2A, x2n, x2c, x2d, rfl, w2, z2, y2⟩ := Ops.open_list2 (hval 2 43 v2 rfl rfl) h2
  clear hA0
  simp only [List.append_nil] at hW'
  refine (walk x0_0 x0_1 x0_2 x0_3 x0_4 x0_5 x0_6 x0_7 x0_8 x0_9 x0_10 a1 x2A x2n x2c x2d W y0_0 y0_1 y0_2 y0_3 y0_4 y0_5 y0_6 y0_7 y0_8 y0_9 y0_10 w1 w2 z2 y2).mono fun e W' ⟨he, bel⟩ => ?_
  subst he
  exact ⟨_, rfl, _, _, _, [], _, [], hW', trodAll_mk1 (shut_bool Tryz.underlying4 _), (trodAll_cons_mk (Below.trod laidOut (by kernel_rfl) (of_decide_eq_true (by kernel_rfl)) k0 bel lt0) (trodAll_cons_mk (shut_int Tryz.underlying3 w1) (trodAll_cons_mk (Below.trod laidOut (by kernel_rfl) (of_decide_eq_true (by kernel_rfl)) k2 bel lt2) trodAll_mk0))), rfl, bel.frame _, fun h => by cases h⟩
set_option maxRecDepth 100000 in
theorem lifted (os : Os) (started : os.Started) (H : Type) (enc : TypeId × Value → H) :
    ReturnsInHanded {} Tryz.checked os 4 .any (Rows.fnExactTrailOfSpec.pre6 enc Tryz.prog Tryz.f4 Rows.fnExactTrailOfRow.domain false) (Rows.fnExactTrailOfSpec.post enc Tryz.prog Tryz.f4 false true false false) := by
  refine returnsInHanded_of_change (C := Tryz.checked) own started (by kernel_rfl) Tryz.func4
    (ChangeSpec.witness6 (enc := enc) (C := Tryz.checked) false ⟨#[], #[.agg #[.int .i64 0, .int .i64 0, .int .i64 0, .int .i64 0, .int .i64 0, .int .i64 0, .int .i64 0, .int .i64 0, .int .i64 0, .int .i64 0, .int .i64 0], .int .i64 0, .slice none 0 0], []⟩ 8 (by kernel_rfl) (by kernel_rfl) (by kernel_rfl) (by kernel_rfl)) ?_
  intro W base args ds gs before hval0 hW hcnd _
  exact contract H enc W base args ds gs before hval0 hW
theorem proved : Rows.FnExactTrailOfSaid :=
  OpenClaim.holds_of_wide 4 Tryz.f4 rfl rfl rfl rfl rfl rfl rfl ⟨rfl, rfl, rfl, rfl, rfl⟩ rfl rfl rfl rfl rfl (by kernel_rfl) Tryz.func4 (by kernel_rfl)
    (of_decide_eq_true (by kernel_rfl)) (by unfold Func.isWrapper; first | (rw [if_pos (by decide +kernel)]; kernel_rfl) | (rw [if_neg (by decide +kernel)]; exact ⟨rfl, rfl⟩))
    (fun os started H enc _ => lifted os started H enc)
#print axioms proved
end Go.Proofs.YtklgjjmcflgjeaaGreat.fnExactTrailOf
