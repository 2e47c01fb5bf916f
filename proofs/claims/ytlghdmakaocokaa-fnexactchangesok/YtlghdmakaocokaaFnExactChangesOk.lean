/-
  PROVED: at every list of changes, laws.FnExactChangesOk answers true: impl.ChangesOk answers as the model's and leaves its argument as it was. No conditions.
-/
import Derived.Test.YtlghdmakaocokaaRows
import Derived.WalkKit
import Derived.ProofKit
import Derived.OpenShut
import Derived.ShutString
import Derived.ChangeOld
import Derived.Below
import Derived.Test.YtlghdmakaocokaaLawChangesOk
import Derived.Test.YtlghdmakaocokaaChOk
namespace Go.Proofs.Ytlghdmakaocokaa.fnExactChangesOk
open Go.ChangeShapes Go.WideShapes Go.ChangeAt Go.RowKit
open Go.ChangeMaps (open_string shut_string)
set_option linter.unusedVariables false

theorem own : ownKnob Try.prog.godebug = none := by kernel_rfl
theorem laidOut : laidOutB Try.prog = true := by kernel_rfl
theorem specC (W : World) (B : Nat) (v : Value) (d : Chs.L) (h : Chs.lty.Rd W B v d) (hB : B ≤ W.heap.size) (hf : Chs.lty.Few d) : Calls Try.prog 10 #[v] W (LK.Says (.bool (ChOk.changesB d)) W) := by
  obtain ⟨A, c, rfl, hp⟩ := h
  exact ChOk.specChangesOk_any A _ c d B W hp hB hf
theorem implC (W : World) (B : Nat) (v : Value) (d : Chs.L) (h : Chs.lty.Rd W B v d) (hB : B ≤ W.heap.size) (hf : Chs.lty.Few d) : Calls Try.prog 12 #[v] W (LK.Says (.bool (ChOk.changesB d)) W) := by
  obtain ⟨A, c, rfl, hp⟩ := h
  exact ChOk.implChangesOk_any A _ c d B W hp hB hf

theorem walk (x0A : Option Addr) (x0n x0c : Nat) (x0d : Chs.L) (w : World) (w0 : Chs.lty.Rd w w.heap.size (.slice x0A x0n x0c) x0d) (z0 : LK.SzC 9 Chs.lty (.slice x0A x0n x0c) x0d w) :
    Calls Try.prog 4 #[.slice x0A x0n x0c] w fun e w' => e = .returned (.bool true) ∧ Below w.heap.size w w' := by
  exact LawChangesOk.walk _ x0d (ChOk.changesB x0d) w w0 z0 (fun hf W B v h hB => specC W B v x0d h hB hf) (fun hf W B v h hB => implC W B v x0d h hB hf)

set_option maxRecDepth 100000 in
theorem contract (H : Type) (enc : TypeId × Value → H) (W : World) (base : Nat) (args : Array Value) (ds gs : List (DataW H)) (before : List MemPlace)
    (hval : ∀ (j : Nat) t v, Try.f4.params[j]? = some t → args[j]? = some v → Value.okWide Try.prog W .any base t v)
    (hW : DataW.Whole enc Try.prog Try.f4.params.toList Rows.fnExactChangesOkSpec.vars false W args.toList ds gs before) :
    Calls Try.prog 4 args W fun e W' => ∃ v, e = .returned v ∧ Rows.fnExactChangesOkSpec.post enc Try.prog Try.f4 false true false false W args v W' := by
  have hW' := hW
  obtain ⟨p, q, hA0, hV, rfl, hfz, hnd⟩ := hW
  have hA : DataW.TrodAll enc Try.prog W 0 (fun _ => true) true Try.f4.params.toList args.toList ds p := hA0
  rw [Try.params4] at hA hval
  obtain ⟨v0, vs0, d0, ds0, p0, q0, hargs, rfl, rfl, h0, r0⟩ := trodAll_cons hA
  obtain ⟨rfl, rfl, rfl⟩ := trodAll_nil r0
  obtain rfl : args = #[v0] := by cases args; simp_all
  obtain ⟨rfl, rfl⟩ := trodVars_none hV
  have k0 := h0
  have lt0 : ∀ x ∈ p0, x.block < W.heap.size := by obtain ⟨m, hm⟩ := k0; exact DataW.trod_lt m _ _ _ hm
  obtain ⟨x0A, x0n, x0c, x0d, rfl, w0, z0⟩ := Chs.open_list (hval 0 28 v0 rfl rfl) h0
  clear hA0
  simp only [List.append_nil] at hW'
  refine (walk x0A x0n x0c x0d W w0 z0).mono fun e W' ⟨he, bel⟩ => ?_
  subst he
  exact ⟨_, rfl, _, _, _, [], _, [], hW', trodAll_mk1 (shut_bool Try.underlying4 _), (trodAll_cons_mk (Below.trod laidOut (by kernel_rfl) (of_decide_eq_true (by kernel_rfl)) k0 bel lt0) trodAll_mk0), rfl, bel.frame _, fun h => by cases h⟩

set_option maxRecDepth 100000 in
theorem lifted (os : Os) (started : os.Started) (H : Type) (enc : TypeId × Value → H) :
    ReturnsInHanded {} Try.checked os 4 .any (Rows.fnExactChangesOkSpec.pre6 enc Try.prog Try.f4 Rows.fnExactChangesOkRow.domain false) (Rows.fnExactChangesOkSpec.post enc Try.prog Try.f4 false true false false) := by
  refine returnsInHanded_of_change (C := Try.checked) own started (by kernel_rfl) Try.func4
    (ChangeSpec.witness6 (enc := enc) (C := Try.checked) false ⟨#[], #[.slice none 0 0], []⟩ 8 (by kernel_rfl) (by kernel_rfl) (by kernel_rfl) (by kernel_rfl)) ?_
  intro W base args ds gs before hval0 hW hcnd _
  exact contract H enc W base args ds gs before hval0 hW

theorem proved : Rows.FnExactChangesOkSaid :=
  OpenClaim.holds_of_wide 4 Try.f4 rfl rfl rfl rfl rfl rfl rfl ⟨rfl, rfl, rfl, rfl, rfl⟩ rfl rfl rfl rfl rfl (by kernel_rfl) Try.func4 (by kernel_rfl)
    (of_decide_eq_true (by kernel_rfl)) (by unfold Func.isWrapper; first | (rw [if_pos (by decide +kernel)]; kernel_rfl) | (rw [if_neg (by decide +kernel)]; exact ⟨rfl, rfl⟩))
    (fun os started H enc _ => lifted os started H enc)
#print axioms proved
end Go.Proofs.Ytlghdmakaocokaa.fnExactChangesOk
