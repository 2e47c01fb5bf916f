/-
  PROVED: at every record, laws.FnExactRecordOp answers true: impl.RecordOp answers as the model's, and leaves its argument as it was. No conditions.
-/
import Derived.Test.YtklgjjmcflgjeaaRows
import Derived.WalkKit
import Derived.ProofKit
import Derived.OpenShut
import Derived.ShutString
import Derived.ChangeOld
import Derived.Below
import Derived.Test.YtklgjjmcflgjeaaLawRecordOp
import Derived.Test.YtklgjjmcflgjeaaRecOp
namespace Go.Proofs.Ytklgjjmcflgjeaa.fnExactRecordOp
open Go.ChangeShapes Go.WideShapes Go.ChangeAt Go.RowKit
open Go.ChangeMaps (open_string shut_string)
set_option linter.unusedVariables false

theorem own : ownKnob Try.prog.godebug = none := by kernel_rfl
theorem laidOut : laidOutB Try.prog = true := by kernel_rfl
theorem specC (W : World) (B : Nat) (v : Value) (d : RecTy.RD) (h : RecTy.rty.Rd W B v d) (hB : B ≤ W.heap.size) (hf : RecTy.rty.Few d) : Calls Try.prog 19 #[v] W (LK.Says (.tuple #[.agg #[.int .i64 (OpR.opV d.1 d.2).1, .int .i64 (OpR.opV d.1 d.2).2.1, .int .i64 (OpR.opV d.1 d.2).2.2.1, .int .i64 (OpR.opV d.1 d.2).2.2.2], .bool (OpR.opW d.1 d.2)]) W) := by
  obtain ⟨k, zs⟩ := d
  obtain ⟨A, c, rfl, hp⟩ := h
  exact OpR.specRecordOp_any k A _ c zs B W hp hB hf
theorem implC (W : World) (B : Nat) (v : Value) (d : RecTy.RD) (h : RecTy.rty.Rd W B v d) (hB : B ≤ W.heap.size) (hf : RecTy.rty.Few d) : Calls Try.prog 21 #[v] W (LK.Says (.tuple #[.agg #[.int .i64 (OpR.opV d.1 d.2).1, .int .i64 (OpR.opV d.1 d.2).2.1, .int .i64 (OpR.opV d.1 d.2).2.2.1, .int .i64 (OpR.opV d.1 d.2).2.2.2], .bool (OpR.opW d.1 d.2)]) W) := by
  obtain ⟨k, zs⟩ := d
  obtain ⟨A, c, rfl, hp⟩ := h
  exact OpR.recordOp_any k A _ c zs B W hp hB hf

theorem walk (x0 : Int) (a0 : Option Addr) (len0 cap0 : Nat) (s0 : List Int) (w : World) (w0 : Rec.IsRec w a0 len0 s0) :
    Calls Try.prog 5 #[.agg #[.int .i64 x0, .slice a0 len0 cap0]] w fun e w' => e = .returned (.bool true) ∧ Below w.heap.size w w' := by
  obtain ⟨h1, h2⟩ := w0
  obtain rfl : s0.length = len0 := h1.1
  exact LawRecordOp.walk x0 a0 s0.length cap0 (x0, s0) (OpR.opV x0 s0).1 (OpR.opV x0 s0).2.1 (OpR.opV x0 s0).2.2.1 (OpR.opV x0 s0).2.2.2 (OpR.opW x0 s0) w ⟨a0, cap0, rfl, h1⟩ (RecTy.szRecord_any x0 a0 cap0 s0 w h2) (fun hf W B v h hB => specC W B v (x0, s0) h hB hf) (fun hf W B v h hB => implC W B v (x0, s0) h hB hf)

set_option maxRecDepth 100000 in
theorem contract (H : Type) (enc : TypeId × Value → H) (W : World) (base : Nat) (args : Array Value) (ds gs : List (DataW H)) (before : List MemPlace)
    (hval : ∀ (j : Nat) t v, Try.f5.params[j]? = some t → args[j]? = some v → Value.okWide Try.prog W .any base t v)
    (hW : DataW.Whole enc Try.prog Try.f5.params.toList Rows.fnExactRecordOpSpec.vars false W args.toList ds gs before) :
    Calls Try.prog 5 args W fun e W' => ∃ v, e = .returned v ∧ Rows.fnExactRecordOpSpec.post enc Try.prog Try.f5 false true false false W args v W' := by
  have hW' := hW
  obtain ⟨p, q, hA0, hV, rfl, hfz, hnd⟩ := hW
  have hA : DataW.TrodAll enc Try.prog W 0 (fun _ => true) true Try.f5.params.toList args.toList ds p := hA0
  rw [Try.params5] at hA hval
  obtain ⟨v0, vs0, d0, ds0, p0, q0, hargs, rfl, rfl, h0, r0⟩ := trodAll_cons hA
  obtain ⟨rfl, rfl, rfl⟩ := trodAll_nil r0
  obtain rfl : args = #[v0] := by cases args; simp_all
  obtain ⟨rfl, rfl⟩ := trodVars_none hV
  have k0 := h0
  have lt0 : ∀ x ∈ p0, x.block < W.heap.size := by obtain ⟨m, hm⟩ := k0; exact DataW.trod_lt m _ _ _ hm
  obtain ⟨x0, a0, len0, cap0, s0, rfl, y0, w0⟩ := Rec.open_record (hval 0 53 v0 rfl rfl) h0
  clear hA0
  simp only [List.append_nil] at hW'
  refine (walk x0 a0 len0 cap0 s0 W w0).mono fun e W' ⟨he, bel⟩ => ?_
  subst he
  exact ⟨_, rfl, _, _, _, [], _, [], hW', trodAll_mk1 (shut_bool Try.underlying4 _), (trodAll_cons_mk (Below.trod laidOut (by kernel_rfl) (of_decide_eq_true (by kernel_rfl)) k0 bel lt0) trodAll_mk0), rfl, bel.frame _, fun h => by cases h⟩

set_option maxRecDepth 100000 in
theorem lifted (os : Os) (started : os.Started) (H : Type) (enc : TypeId × Value → H) :
    ReturnsInHanded {} Try.checked os 5 .any (Rows.fnExactRecordOpSpec.pre6 enc Try.prog Try.f5 Rows.fnExactRecordOpRow.domain false) (Rows.fnExactRecordOpSpec.post enc Try.prog Try.f5 false true false false) := by
  refine returnsInHanded_of_change (C := Try.checked) own started (by kernel_rfl) Try.func5
    (ChangeSpec.witness6 (enc := enc) (C := Try.checked) false ⟨#[], #[.agg #[.int .i64 0, .slice none 0 0]], []⟩ 8 (by kernel_rfl) (by kernel_rfl) (by kernel_rfl) (by kernel_rfl)) ?_
  intro W base args ds gs before hval0 hW hcnd _
  exact contract H enc W base args ds gs before hval0 hW

theorem proved : Rows.FnExactRecordOpSaid :=
  OpenClaim.holds_of_wide 5 Try.f5 rfl rfl rfl rfl rfl rfl rfl ⟨rfl, rfl, rfl, rfl, rfl⟩ rfl rfl rfl rfl rfl (by kernel_rfl) Try.func5 (by kernel_rfl)
    (of_decide_eq_true (by kernel_rfl)) (by unfold Func.isWrapper; first | (rw [if_pos (by decide +kernel)]; kernel_rfl) | (rw [if_neg (by decide +kernel)]; exact ⟨rfl, rfl⟩))
    (fun os started H enc _ => lifted os started H enc)
#print axioms proved
end Go.Proofs.Ytklgjjmcflgjeaa.fnExactRecordOp
