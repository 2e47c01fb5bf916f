/-
  PROVED: at every journal and list of records, laws.FnExactCompactTo answers true: impl.CompactTo answers as the model's, leaves its arguments as they were, and its answer owns its memory. No conditions.
-/
import Derived.Test.YtpghccbknlokcaaRows
import Derived.WalkKit
import Derived.ProofKit
import Derived.OpenShut
import Derived.ShutString
import Derived.ChangeOld
import Derived.Below
import Derived.Test.YtpghccbknlokcaaLawCompactTo
import Derived.Test.YtpghccbknlokcaaJourComp
namespace Go.Proofs.Ytpghccbknlokcaa.fnExactCompactTo
open Go.ChangeShapes Go.WideShapes Go.ChangeAt Go.RowKit
open Go.ChangeMaps (open_string shut_string)
set_option linter.unusedVariables false

theorem own : ownKnob Try.prog.godebug = none := by kernel_rfl
theorem laidOut : laidOutB Try.prog = true := by kernel_rfl

theorem walk (x0A : Option Addr) (x0m x0c : Nat) (x0B : Option Addr) (x0n x0e : Nat) (x0s : Int) (x0d : Jour.JD) (x1A : Option Addr) (x1n x1c : Nat) (x1d : RecsTy.SD) (w : World) (w0 : Jour.jty.Rd w w.heap.size (.agg #[.slice x0A x0m x0c, .slice x0B x0n x0e, .int .i64 x0s]) x0d) (z0 : LK.SzC 27 Jour.jty (.agg #[.slice x0A x0m x0c, .slice x0B x0n x0e, .int .i64 x0s]) x0d w) (w1 : RecsTy.sty.Rd w w.heap.size (.slice x1A x1n x1c) x1d) (z1 : LK.SzC 38 RecsTy.sty (.slice x1A x1n x1c) x1d w) :
    Calls Try.prog 6 #[.agg #[.slice x0A x0m x0c, .slice x0B x0n x0e, .int .i64 x0s], .slice x1A x1n x1c] w fun e w' => e = .returned (.bool true) ∧ Below w.heap.size w w' := by
  exact LawCompactTo.walk x0A x0m x0c x0B x0n x0e x0s x0d (.slice x1A x1n x1c) x1d (Jour.compD x0d x1d) (Jour.compB x0d x1d) w w0 z0 w1 z1 (fun hf _ => Jour.few_comp hf) (fun hf hg W B v B' v' h hB h' hB' => Jour.specCompactTo_any W B B' v v' x0d x1d h hB h' hB' hf hg) (fun hf hg W B v B' v' h hB h' hB' => Jour.compactTo_any W B B' v v' x0d x1d h hB h' hB' hf hg)

set_option maxRecDepth 100000 in
theorem contract (H : Type) (enc : TypeId × Value → H) (W : World) (base : Nat) (args : Array Value) (ds gs : List (DataW H)) (before : List MemPlace)
    (hval : ∀ (j : Nat) t v, Try.f6.params[j]? = some t → args[j]? = some v → Value.okWide Try.prog W .any base t v)
    (hW : DataW.Whole enc Try.prog Try.f6.params.toList Rows.fnExactCompactToSpec.vars false W args.toList ds gs before) :
    Calls Try.prog 6 args W fun e W' => ∃ v, e = .returned v ∧ Rows.fnExactCompactToSpec.post enc Try.prog Try.f6 false true false false W args v W' := by
  have hW' := hW
  obtain ⟨p, q, hA0, hV, rfl, hfz, hnd⟩ := hW
  have hA : DataW.TrodAll enc Try.prog W 0 (fun _ => true) true Try.f6.params.toList args.toList ds p := hA0
  rw [Try.params6] at hA hval
  obtain ⟨v0, vs0, d0, ds0, p0, q0, hargs, rfl, rfl, h0, r0⟩ := trodAll_cons hA
  obtain ⟨v1, vs1, d1, ds1, p1, q1, rfl, rfl, rfl, h1, r1⟩ := trodAll_cons r0
  obtain ⟨rfl, rfl, rfl⟩ := trodAll_nil r1
  obtain rfl : args = #[v0, v1] := by cases args; simp_all
  obtain ⟨rfl, rfl⟩ := trodVars_none hV
  have k0 := h0
  have lt0 : ∀ x ∈ p0, x.block < W.heap.size := by obtain ⟨m, hm⟩ := k0; exact DataW.trod_lt m _ _ _ hm
  obtain ⟨x0A, x0m, x0c, x0B, x0n, x0e, x0s, x0d, rfl, w0, z0, y0⟩ := Jour.open_journal (hval 0 59 v0 rfl rfl) h0
  have k1 := h1
  have lt1 : ∀ x ∈ p1, x.block < W.heap.size := by obtain ⟨m, hm⟩ := k1; exact DataW.trod_lt m _ _ _ hm
  obtain ⟨x1A, x1n, x1c, x1d, rfl, w1, z1⟩ := RecsTy.open_records (hval 1 75 v1 rfl rfl) h1
  clear hA0
  simp only [List.append_nil] at hW'
  refine (walk x0A x0m x0c x0B x0n x0e x0s x0d x1A x1n x1c x1d W w0 z0 w1 z1).mono fun e W' ⟨he, bel⟩ => ?_
  subst he
  exact ⟨_, rfl, _, _, _, [], _, [], hW', trodAll_mk1 (shut_bool Try.underlying4 _), (trodAll_cons_mk (Below.trod laidOut (by kernel_rfl) (of_decide_eq_true (by kernel_rfl)) k0 bel lt0) (trodAll_cons_mk (Below.trod laidOut (by kernel_rfl) (of_decide_eq_true (by kernel_rfl)) k1 bel lt1) trodAll_mk0)), rfl, bel.frame _, fun h => by cases h⟩

set_option maxRecDepth 100000 in
theorem lifted (os : Os) (started : os.Started) (H : Type) (enc : TypeId × Value → H) :
    ReturnsInHanded {} Try.checked os 6 .any (Rows.fnExactCompactToSpec.pre6 enc Try.prog Try.f6 Rows.fnExactCompactToRow.domain false) (Rows.fnExactCompactToSpec.post enc Try.prog Try.f6 false true false false) := by
  refine returnsInHanded_of_change (C := Try.checked) own started (by kernel_rfl) Try.func6
    (ChangeSpec.witness6 (enc := enc) (C := Try.checked) false ⟨#[], #[.agg #[.slice none 0 0, .slice none 0 0, .int .i64 0], .slice none 0 0], []⟩ 8 (by kernel_rfl) (by kernel_rfl) (by kernel_rfl) (by kernel_rfl)) ?_
  intro W base args ds gs before hval0 hW hcnd _
  exact contract H enc W base args ds gs before hval0 hW

theorem proved : Rows.FnExactCompactToSaid :=
  OpenClaim.holds_of_wide 6 Try.f6 rfl rfl rfl rfl rfl rfl rfl ⟨rfl, rfl, rfl, rfl, rfl⟩ rfl rfl rfl rfl rfl (by kernel_rfl) Try.func6 (by kernel_rfl)
    (of_decide_eq_true (by kernel_rfl)) (by unfold Func.isWrapper; first | (rw [if_pos (by decide +kernel)]; kernel_rfl) | (rw [if_neg (by decide +kernel)]; exact ⟨rfl, rfl⟩))
    (fun os started H enc _ => lifted os started H enc)
#print axioms proved
end Go.Proofs.Ytpghccbknlokcaa.fnExactCompactTo
