/-
  PROVED: at every list of Marks, laws.FnExactMostPods answers true: impl.MostPods answers as the model's and leaves its argument as it was. No conditions.
-/
import Derived.Test.YtdefckbgcggnoaaRows
import Derived.WalkKit
import Derived.ProofKit
import Derived.OpenShut
import Derived.ShutString
import Derived.ChangeOld
import Derived.Below
import Derived.Test.YtdefckbgcggnoaaLawMostPods
import Derived.Test.YtdefckbgcggnoaaMostP
import Derived.Leaving
import Derived.Conc.Holds
namespace Go.Proofs.Ytdefckbgcggnoaa.fnExactMostPods
open Go.ChangeShapes Go.WideShapes Go.ChangeAt Go.RowKit
open Go.ChangeMaps (open_string shut_string)
set_option linter.unusedVariables false

theorem own : ownKnob Try.prog.godebug = none := by kernel_rfl
theorem laidOut : laidOutB Try.prog = true := by kernel_rfl
theorem specC (W : World) (B : Nat) (v : Value) (d : Mks.L) (h : Mks.lty.Rd W B v d) (hB : B ≤ W.heap.size) (hf : Mks.lty.Few d) : Calls Try.prog 13 #[v] W (LK.Says (.int .i64 (MostP.mostV d)) W) := by
  obtain ⟨A, c, rfl, hp⟩ := h
  exact MostP.specMostPods_any A _ c d B W hp hB hf
theorem implC (W : World) (B : Nat) (v : Value) (d : Mks.L) (h : Mks.lty.Rd W B v d) (hB : B ≤ W.heap.size) (hf : Mks.lty.Few d) : Calls Try.prog 15 #[v] W (LK.Says (.int .i64 (MostP.mostV d)) W) := by
  obtain ⟨A, c, rfl, hp⟩ := h
  exact MostP.implMostPods_any A _ c d B W hp hB hf

theorem walk (x0A : Option Addr) (x0n x0c : Nat) (x0d : Mks.L) (w : World) (w0 : Mks.lty.Rd w w.heap.size (.slice x0A x0n x0c) x0d) (z0 : LK.SzC 12 Mks.lty (.slice x0A x0n x0c) x0d w) :
    Calls Try.prog 3 #[.slice x0A x0n x0c] w fun e w' => e = .returned (.bool true) ∧ Below w.heap.size w w' := by
  exact LawMostPods.walk _ x0d (MostP.mostV x0d) w w0 z0 (fun hf W B v h hB => specC W B v x0d h hB hf) (fun hf W B v h hB => implC W B v x0d h hB hf)

set_option maxRecDepth 100000 in
theorem contract (H : Type) (enc : TypeId × Value → H) (W : World) (base : Nat) (args : Array Value) (ds gs : List (DataW H)) (before : List MemPlace)
    (hval : ∀ (j : Nat) t v, Try.f3.params[j]? = some t → args[j]? = some v → Value.okWide Try.prog W .any base t v)
    (hW : DataW.Whole enc Try.prog Try.f3.params.toList Rows.fnExactMostPodsSpec.vars false W args.toList ds gs before) :
    Calls Try.prog 3 args W fun e W' => ∃ v, e = .returned v ∧ Rows.fnExactMostPodsSpec.post enc Try.prog Try.f3 false true false false W args v W' := by
  have hW' := hW
  obtain ⟨p, q, hA0, hV, rfl, hfz, hnd⟩ := hW
  have hA : DataW.TrodAll enc Try.prog W 0 (fun _ => true) true Try.f3.params.toList args.toList ds p := hA0
  rw [Try.params3] at hA hval
  obtain ⟨v0, vs0, d0, ds0, p0, q0, hargs, rfl, rfl, h0, r0⟩ := trodAll_cons hA
  obtain ⟨rfl, rfl, rfl⟩ := trodAll_nil r0
  obtain rfl : args = #[v0] := by cases args; simp_all
  obtain ⟨rfl, rfl⟩ := trodVars_none hV
  have k0 := h0
  have lt0 : ∀ x ∈ p0, x.block < W.heap.size := by obtain ⟨m, hm⟩ := k0; exact DataW.trod_lt m _ _ _ hm
  obtain ⟨x0A, x0n, x0c, x0d, rfl, w0, z0⟩ := Mks.open_list (hval 0 22 v0 rfl rfl) h0
  clear hA0
  simp only [List.append_nil] at hW'
  refine (walk x0A x0n x0c x0d W w0 z0).mono fun e W' ⟨he, bel⟩ => ?_
  subst he
  exact ⟨_, rfl, _, _, _, [], _, [], hW', trodAll_mk1 (shut_bool Try.underlying4 _), (trodAll_cons_mk (Below.trod laidOut (by kernel_rfl) (of_decide_eq_true (by kernel_rfl)) k0 bel lt0) trodAll_mk0), rfl, bel.frame _, fun h => by cases h⟩

set_option maxRecDepth 100000 in
theorem lifted (os : Os) (started : os.Started) (H : Type) (enc : TypeId × Value → H) :
    ReturnsInHanded {} Try.checked os 3 .any (Rows.fnExactMostPodsSpec.pre6 enc Try.prog Try.f3 Rows.fnExactMostPodsRow.domain false) (Rows.fnExactMostPodsSpec.post enc Try.prog Try.f3 false true false false) := by
  refine returnsInHanded_of_change (C := Try.checked) own started (by kernel_rfl) Try.func3
    (ChangeSpec.witness6 (enc := enc) (C := Try.checked) false ⟨#[], #[.slice none 0 0], []⟩ 8 (by kernel_rfl) (by kernel_rfl) (by kernel_rfl) (by kernel_rfl)) ?_
  intro W base args ds gs before hval0 hW hcnd _
  exact contract H enc W base args ds gs before hval0 hW

theorem leaves {a : Assume} {C : Checked} {os : Os} {f : FuncId} {r : Reach} {Pre : World → Array Value → Prop} {Post : World → Array Value → Value → World → Prop} (h : ReturnsInHanded a C os f r Pre Post) : ReturnsInLeavingWide a C os f r Pre Post := fun enter => by
  obtain ⟨h1, h2, h3, h4, h5⟩ := h enter
  refine ⟨h1, h2, h3, h4, fun w tape i hf => ?_⟩
  obtain ⟨n, v, w', a1, a2, a3, a4, ⟨j, last, b1, b2, q, ho, he⟩, a6⟩ := h5 w tape i hf
  exact ⟨n, v, w', a1, a2, a3, a4, ⟨j, last, b1, b2, ho, onlyLeaving_of_quiet q, he⟩, a6⟩
theorem proved : Rows.FnExactMostPodsSaid :=
  OpenClaim.holds_of_wide_leaving 3 Try.f3 rfl rfl rfl rfl rfl rfl rfl ⟨rfl, rfl, rfl, rfl, rfl⟩ rfl rfl rfl rfl rfl (by kernel_rfl) Try.func3 (by kernel_rfl)
    (of_decide_eq_true (by kernel_rfl)) (by unfold Func.isWrapper; first | (rw [if_pos (by decide +kernel)]; kernel_rfl) | (rw [if_neg (by decide +kernel)]; exact ⟨rfl, rfl⟩))
    (fun os started H enc _ => leaves (lifted os started H enc))
#print axioms proved
end Go.Proofs.Ytdefckbgcggnoaa.fnExactMostPods
