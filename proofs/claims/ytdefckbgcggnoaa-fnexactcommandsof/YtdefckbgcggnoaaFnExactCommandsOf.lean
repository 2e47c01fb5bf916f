/-
  PROVED: at every list of events, laws.FnExactCommandsOf answers true: impl.CommandsOf answers as the model's, leaves its argument as it was, and its answer owns its memory. No conditions.
-/
import Derived.Test.YtdefckbgcggnoaaRows
import Derived.WalkKit
import Derived.ProofKit
import Derived.OpenShut
import Derived.ShutString
import Derived.ChangeOld
import Derived.Below
import Derived.Test.YtdefckbgcggnoaaLawCommandsOf
import Derived.Test.YtdefckbgcggnoaaComP
namespace Go.Proofs.Ytdefckbgcggnoaa.fnExactCommandsOf
open Go.ChangeShapes Go.WideShapes Go.ChangeAt Go.RowKit
open Go.ChangeMaps (open_string shut_string)
set_option linter.unusedVariables false

theorem own : ownKnob Try.prog.godebug = none := by kernel_rfl
theorem laidOut : laidOutB Try.prog = true := by kernel_rfl
theorem specC (W : World) (B : Nat) (v : Value) (d : Evs.L) (h : Evs.lty.Rd W B v d) (hB : B ≤ W.heap.size) (hf : Evs.lty.Few d) : Calls Try.prog 33 #[v] W (LK.Made Evs.lty (ComP.selV [0, 1] d) W) := by
  obtain ⟨A, c, rfl, hp⟩ := h
  exact ComP.specCommandsOf_any A _ c d B W hp hB hf
theorem implC (W : World) (B : Nat) (v : Value) (d : Evs.L) (h : Evs.lty.Rd W B v d) (hB : B ≤ W.heap.size) (hf : Evs.lty.Few d) : Calls Try.prog 34 #[v] W (LK.Made Evs.lty (ComP.selV [0, 1] d) W) := by
  obtain ⟨A, c, rfl, hp⟩ := h
  exact ComP.commandsOf_any A _ c d B W hp hB hf

theorem walk (x0A : Option Addr) (x0n x0c : Nat) (x0d : Evs.L) (w : World) (w0 : Evs.lty.Rd w w.heap.size (.slice x0A x0n x0c) x0d) (z0 : LK.SzC 20 Evs.lty (.slice x0A x0n x0c) x0d w) :
    Calls Try.prog 10 #[.slice x0A x0n x0c] w fun e w' => e = .returned (.bool true) ∧ Below w.heap.size w w' := by
  exact LawCommandsOf.walk _ x0d (ComP.selV [0, 1] x0d) w w0 z0 (fun hf => Nat.le_trans (ComP.sel_len _ x0d) hf) (fun hf W B v h hB => specC W B v x0d h hB hf) (fun hf W B v h hB => implC W B v x0d h hB hf)

set_option maxRecDepth 100000 in
theorem contract (H : Type) (enc : TypeId × Value → H) (W : World) (base : Nat) (args : Array Value) (ds gs : List (DataW H)) (before : List MemPlace)
    (hval : ∀ (j : Nat) t v, Try.f10.params[j]? = some t → args[j]? = some v → Value.okWide Try.prog W .any base t v)
    (hW : DataW.Whole enc Try.prog Try.f10.params.toList Rows.fnExactCommandsOfSpec.vars false W args.toList ds gs before) :
    Calls Try.prog 10 args W fun e W' => ∃ v, e = .returned v ∧ Rows.fnExactCommandsOfSpec.post enc Try.prog Try.f10 false true false false W args v W' := by
  have hW' := hW
  obtain ⟨p, q, hA0, hV, rfl, hfz, hnd⟩ := hW
  have hA : DataW.TrodAll enc Try.prog W 0 (fun _ => true) true Try.f10.params.toList args.toList ds p := hA0
  rw [Try.params10] at hA hval
  obtain ⟨v0, vs0, d0, ds0, p0, q0, hargs, rfl, rfl, h0, r0⟩ := trodAll_cons hA
  obtain ⟨rfl, rfl, rfl⟩ := trodAll_nil r0
  obtain rfl : args = #[v0] := by cases args; simp_all
  obtain ⟨rfl, rfl⟩ := trodVars_none hV
  have k0 := h0
  have lt0 : ∀ x ∈ p0, x.block < W.heap.size := by obtain ⟨m, hm⟩ := k0; exact DataW.trod_lt m _ _ _ hm
  obtain ⟨x0A, x0n, x0c, x0d, rfl, w0, z0⟩ := Evs.open_list (hval 0 35 v0 rfl rfl) h0
  clear hA0
  simp only [List.append_nil] at hW'
  refine (walk x0A x0n x0c x0d W w0 z0).mono fun e W' ⟨he, bel⟩ => ?_
  subst he
  exact ⟨_, rfl, _, _, _, [], _, [], hW', trodAll_mk1 (shut_bool Try.underlying4 _), (trodAll_cons_mk (Below.trod laidOut (by kernel_rfl) (of_decide_eq_true (by kernel_rfl)) k0 bel lt0) trodAll_mk0), rfl, bel.frame _, fun h => by cases h⟩

set_option maxRecDepth 100000 in
theorem lifted (os : Os) (started : os.Started) (H : Type) (enc : TypeId × Value → H) :
    ReturnsInHanded {} Try.checked os 10 .any (Rows.fnExactCommandsOfSpec.pre6 enc Try.prog Try.f10 Rows.fnExactCommandsOfRow.domain false) (Rows.fnExactCommandsOfSpec.post enc Try.prog Try.f10 false true false false) := by
  refine returnsInHanded_of_change (C := Try.checked) own started (by kernel_rfl) Try.func10
    (ChangeSpec.witness6 (enc := enc) (C := Try.checked) false ⟨#[], #[.slice none 0 0], []⟩ 8 (by kernel_rfl) (by kernel_rfl) (by kernel_rfl) (by kernel_rfl)) ?_
  intro W base args ds gs before hval0 hW hcnd _
  exact contract H enc W base args ds gs before hval0 hW

theorem proved : Rows.FnExactCommandsOfSaid :=
  OpenClaim.holds_of_wide 10 Try.f10 rfl rfl rfl rfl rfl rfl rfl ⟨rfl, rfl, rfl, rfl, rfl⟩ rfl rfl rfl rfl rfl (by kernel_rfl) Try.func10 (by kernel_rfl)
    (of_decide_eq_true (by kernel_rfl)) (by unfold Func.isWrapper; first | (rw [if_pos (by decide +kernel)]; kernel_rfl) | (rw [if_neg (by decide +kernel)]; exact ⟨rfl, rfl⟩))
    (fun os started H enc _ => lifted os started H enc)
#print axioms proved
end Go.Proofs.Ytdefckbgcggnoaa.fnExactCommandsOf
