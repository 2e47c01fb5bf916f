/-
  PROVED: at every journal and record, laws.FnExactAppendRecord answers true: impl.AppendRecord answers as the model's, leaves its arguments as they were, and its answer owns its memory. No conditions.
-/
import Derived.Test.YtpghccbknlokcaaRows
import Derived.WalkKit
import Derived.ProofKit
import Derived.OpenShut
import Derived.ShutString
import Derived.ChangeOld
import Derived.Below
import Derived.Test.YtpghccbknlokcaaLawAppendRecord
import Derived.Test.YtpghccbknlokcaaJourAdd
namespace Go.Proofs.Ytpghccbknlokcaa.fnExactAppendRecord
open Go.ChangeShapes Go.WideShapes Go.ChangeAt Go.RowKit
open Go.ChangeMaps (open_string shut_string)
set_option linter.unusedVariables false

theorem own : ownKnob Try.prog.godebug = none := by kernel_rfl
theorem laidOut : laidOutB Try.prog = true := by kernel_rfl

theorem walk (x0A : Option Addr) (x0m x0c : Nat) (x0B : Option Addr) (x0n x0e : Nat) (x0s : Int) (x0d : Jour.JD) (x1 : Int) (a1 : Option Addr) (len1 cap1 : Nat) (s1 : List Int) (w : World) (w0 : Jour.jty.Rd w w.heap.size (.agg #[.slice x0A x0m x0c, .slice x0B x0n x0e, .int .i64 x0s]) x0d) (z0 : LK.SzC 27 Jour.jty (.agg #[.slice x0A x0m x0c, .slice x0B x0n x0e, .int .i64 x0s]) x0d w) (w1 : Rec.IsRec w a1 len1 s1) :
    Calls Try.prog 5 #[.agg #[.slice x0A x0m x0c, .slice x0B x0n x0e, .int .i64 x0s], .agg #[.int .i64 x1, .slice a1 len1 cap1]] w fun e w' => e = .returned (.bool true) ∧ Below w.heap.size w w' := by
  obtain ⟨h1, h2⟩ := w1
  obtain rfl : s1.length = len1 := h1.1
  exact LawAppendRecord.walk x0A x0m x0c x0B x0n x0e x0s x0d x1 a1 s1.length cap1 (x1, s1) (Jour.appD x0d (x1, s1)) (Jour.appB x0d (x1, s1)) w w0 z0 ⟨a1, cap1, rfl, h1⟩ (RecTy.szRecord_any x1 a1 cap1 s1 w h2) (fun hf _ => Jour.few_app hf) (fun hf hg W B v B' v' h hB h' hB' => Jour.specAppendRecord_any W B B' v v' x0d (x1, s1) h hB h' hB' hf hg) (fun hf hg W B v B' v' h hB h' hB' => Jour.appendRecord_any W B B' v v' x0d (x1, s1) h hB h' hB' hf hg)

set_option maxRecDepth 100000 in
theorem contract (H : Type) (enc : TypeId × Value → H) (W : World) (base : Nat) (args : Array Value) (ds gs : List (DataW H)) (before : List MemPlace)
    (hval : ∀ (j : Nat) t v, Try.f5.params[j]? = some t → args[j]? = some v → Value.okWide Try.prog W .any base t v)
    (hW : DataW.Whole enc Try.prog Try.f5.params.toList Rows.fnExactAppendRecordSpec.vars false W args.toList ds gs before) :
    Calls Try.prog 5 args W fun e W' => ∃ v, e = .returned v ∧ Rows.fnExactAppendRecordSpec.post enc Try.prog Try.f5 false true false false W args v W' := by
  have hW' := hW
  obtain ⟨p, q, hA0, hV, rfl, hfz, hnd⟩ := hW
  have hA : DataW.TrodAll enc Try.prog W 0 (fun _ => true) true Try.f5.params.toList args.toList ds p := hA0
  rw [Try.params5] at hA hval
  obtain ⟨v0, vs0, d0, ds0, p0, q0, hargs, rfl, rfl, h0, r0⟩ := trodAll_cons hA
  obtain ⟨v1, vs1, d1, ds1, p1, q1, rfl, rfl, rfl, h1, r1⟩ := trodAll_cons r0
  obtain ⟨rfl, rfl, rfl⟩ := trodAll_nil r1
  obtain rfl : args = #[v0, v1] := by cases args; simp_all
  obtain ⟨rfl, rfl⟩ := trodVars_none hV
  have k0 := h0
  have lt0 : ∀ x ∈ p0, x.block < W.heap.size := by obtain ⟨m, hm⟩ := k0; exact DataW.trod_lt m _ _ _ hm
  obtain ⟨x0A, x0m, x0c, x0B, x0n, x0e, x0s, x0d, rfl, w0, z0, y0⟩ := Jour.open_journal (hval 0 59 v0 rfl rfl) h0
  have k1 := h1
  have lt1 : ∀ x ∈ p1, x.block < W.heap.size := by obtain ⟨m, hm⟩ := k1; exact DataW.trod_lt m _ _ _ hm
  obtain ⟨x1, a1, len1, cap1, s1, rfl, y1, w1⟩ := Rec.open_record (hval 1 61 v1 rfl rfl) h1
  clear hA0
  simp only [List.append_nil] at hW'
  refine (walk x0A x0m x0c x0B x0n x0e x0s x0d x1 a1 len1 cap1 s1 W w0 z0 w1).mono fun e W' ⟨he, bel⟩ => ?_
  subst he
  exact ⟨_, rfl, _, _, _, [], _, [], hW', trodAll_mk1 (shut_bool Try.underlying4 _), (trodAll_cons_mk (Below.trod laidOut (by kernel_rfl) (of_decide_eq_true (by kernel_rfl)) k0 bel lt0) (trodAll_cons_mk (Below.trod laidOut (by kernel_rfl) (of_decide_eq_true (by kernel_rfl)) k1 bel lt1) trodAll_mk0)), rfl, bel.frame _, fun h => by cases h⟩

set_option maxRecDepth 100000 in
theorem lifted (os : Os) (started : os.Started) (H : Type) (enc : TypeId × Value → H) :
    ReturnsInHanded {} Try.checked os 5 .any (Rows.fnExactAppendRecordSpec.pre6 enc Try.prog Try.f5 Rows.fnExactAppendRecordRow.domain false) (Rows.fnExactAppendRecordSpec.post enc Try.prog Try.f5 false true false false) := by
  refine returnsInHanded_of_change (C := Try.checked) own started (by kernel_rfl) Try.func5
    (ChangeSpec.witness6 (enc := enc) (C := Try.checked) false ⟨#[], #[.agg #[.slice none 0 0, .slice none 0 0, .int .i64 0], .agg #[.int .i64 0, .slice none 0 0]], []⟩ 8 (by kernel_rfl) (by kernel_rfl) (by kernel_rfl) (by kernel_rfl)) ?_
  intro W base args ds gs before hval0 hW hcnd _
  exact contract H enc W base args ds gs before hval0 hW

theorem proved : Rows.FnExactAppendRecordSaid :=
  OpenClaim.holds_of_wide 5 Try.f5 rfl rfl rfl rfl rfl rfl rfl ⟨rfl, rfl, rfl, rfl, rfl⟩ rfl rfl rfl rfl rfl (by kernel_rfl) Try.func5 (by kernel_rfl)
    (of_decide_eq_true (by kernel_rfl)) (by unfold Func.isWrapper; first | (rw [if_pos (by decide +kernel)]; kernel_rfl) | (rw [if_neg (by decide +kernel)]; exact ⟨rfl, rfl⟩))
    (fun os started H enc _ => lifted os started H enc)
#print axioms proved
end Go.Proofs.Ytpghccbknlokcaa.fnExactAppendRecord
