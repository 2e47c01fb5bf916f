/-
  PROVED: at every int, laws.FnExactPutNum answers true: impl.PutNum answers as the model's, and its answer owns its memory. No conditions.
-/
import Derived.Test.YtghckkameinicaaRows
import Derived.WalkKit
import Derived.ProofKit
import Derived.OpenShut
import Derived.ShutString
import Derived.ChangeOld
import Derived.Below
import Derived.Test.YtghckkameinicaaPutNum
namespace Go.Proofs.Ytghckkameinicaa.fnExactPutNum
open Go.ChangeShapes Go.WideShapes Go.ChangeAt Go.RowKit
open Go.ChangeMaps (open_string shut_string)
set_option linter.unusedVariables false

theorem own : ownKnob Try.prog.godebug = none := by kernel_rfl
theorem laidOut : laidOutB Try.prog = true := by kernel_rfl

set_option maxHeartbeats 1600000 in
theorem walk (a0 : Int) (w : World) (w0 : (Lit.int .i64 a0).wf = true) :
    Calls Try.prog 5 #[.int .i64 a0] w fun e w' => e = .returned (.bool true) ∧ Below w.heap.size w w' := by
  obtain ⟨bs, hbs⟩ : ∃ bs, bs = Bytes.putV a0 := ⟨_, rfl⟩
  have hl6 : bs.length ≤ 6 := by rw [hbs]; exact Bytes.putV_len a0
  have HB := Lib.hid hbs
  clear hbs
  go_enter Try.func5, Try.ntmps5
  go_wp2_with fail
  refine (Bytes.specPutNum_any a0 w).mono ?_
  rintro e w1 ⟨A1, n1, c1, rfl, h1, hb1⟩
  rw [← HB.out] at h1
  go_wp2_with fail
  refine (Bytes.putNum_any a0 w1).mono ?_
  rintro e w2 ⟨A2, n2, c2, rfl, h2, hb2⟩
  rw [← HB.out] at h2
  obtain rfl : n2 = n1 := by rw [← h1.1, ← h2.1]
  have hn6 : n2 ≤ 1048576 := by rw [← h1.1]; omega
  have hn7 : n2 ≤ 6 := by rw [← h1.1]; omega
  have H1 := Lib.hid h1.bytes
  have H2 := Lib.hid h2
  clear h1 h2
  have H12 := Lib.hid (H1.out.below hb2 (Nat.le_refl _))
  go_wp2_with fail
  refine (Bytes.eqByteS_same _ _ _ _ _ bs _ _ _ H2.out.bytes H12.out hn6).mono ?_
  rintro e w3 ⟨rfl, m1, hm1⟩
  have H3 : Hid (Bytes.OwnB w3 w1.heap.size A2 n2 c2 bs) := by rw [hm1]; exact H2.out
  have hb3 : Below w1.heap.size w1 w3 := by rw [hm1]; exact Ints.below_drewN hb2 m1
  clear hm1
  go_wp2_with fail
  refine (Bytes.markByteS_any A2 n2 c2 bs 1 _ _ H3.out hn6 (by omega) (by omega)).mono ?_
  rintro e w4 ⟨rfl, h4, hg4⟩
  have hb4 : Below w1.heap.size w1 w4 := hb3.grown hg4 hb3.size (fun q hq => (H3.out.lt q hq).1)
  have H4 := Lib.hid h4.bytes
  clear h4 hg4
  go_wp2_with fail
  refine (Bytes.heldByteS_any A2 n2 c2 1 _ _ H4.out hn6 (by omega) (by omega)).mono ?_
  rintro e w' ⟨rfl, rfl⟩
  go_wp2_with fail
  refine (Bytes.putNum_any a0 _).mono ?_
  rintro e w5 ⟨A5, n5, c5, rfl, h5, hb5⟩
  rw [← HB.out] at h5
  obtain rfl : n5 = n2 := by rw [← H3.out.1, ← h5.1]
  have H5 := Lib.hid h5.bytes
  clear h5
  have hb15 : Below w1.heap.size w1 w5 := hb4.trans (hb5.mono hb4.size)
  have H15 := Lib.hid (H1.out.below hb15 (Nat.le_refl _))
  have H45 := Lib.hid (H4.out.below hb5 (Nat.le_refl _))
  go_wp2_with fail
  refine (Bytes.eqByteS_same _ _ _ _ _ bs _ _ _ H5.out H15.out hn6).mono ?_
  rintro e w6 ⟨rfl, m2, hm2⟩
  have H46 : Hid (Bytes.IsBytes w6 w'.heap.size A2 n5 (Bytes.marksB 1 n5)) := by rw [hm2]; exact H45.out
  have hb6 : Below w1.heap.size w1 w6 := by rw [hm2]; exact Ints.below_drewN hb15 m2
  clear hm2
  go_wp2_with fail
  refine (Bytes.heldByteS_any A2 n5 c2 1 _ _ H46.out hn6 (by omega) (by omega)).mono ?_
  rintro e w' ⟨rfl, rfl⟩
  go_wp2_with fail
  go_ret
  exact ⟨rfl, hb1.trans (hb6.mono hb1.size)⟩

theorem contract (H : Type) (enc : TypeId × Value → H) (W : World) (base : Nat) (args : Array Value) (ds gs : List (DataW H)) (before : List MemPlace)
    (hval : ∀ (j : Nat) t v, Try.f5.params[j]? = some t → args[j]? = some v → Value.okWide Try.prog W .any base t v)
    (hW : DataW.Whole enc Try.prog Try.f5.params.toList Rows.fnExactPutNumSpec.vars false W args.toList ds gs before) :
    Calls Try.prog 5 args W fun e W' => ∃ v, e = .returned v ∧ Rows.fnExactPutNumSpec.post enc Try.prog Try.f5 false true false false W args v W' := by
  have hW' := hW
  obtain ⟨p, q, hA0, hV, rfl, hfz, hnd⟩ := hW
  have hA : DataW.TrodAll enc Try.prog W 0 (fun _ => true) true Try.f5.params.toList args.toList ds p := hA0
  rw [Try.params5] at hA hval
  obtain ⟨v0, vs0, d0, ds0, p0, q0, hargs, rfl, rfl, h0, r0⟩ := trodAll_cons hA
  obtain ⟨rfl, rfl, rfl⟩ := trodAll_nil r0
  obtain rfl : args = #[v0] := by cases args; simp_all
  obtain ⟨rfl, rfl⟩ := trodVars_none hV
  obtain ⟨a0, rfl, rfl, rfl, w0⟩ := open_int Try.underlying3 (hval 0 3 v0 rfl rfl) h0
  clear hA0
  simp only [List.append_nil] at hW'
  refine (walk a0 W w0).mono fun e W' ⟨he, bel⟩ => ?_
  subst he
  exact ⟨_, rfl, _, _, _, [], _, [], hW', trodAll_mk1 (shut_bool Try.underlying4 _), (trodAll_cons_mk (shut_int Try.underlying3 w0) trodAll_mk0), rfl, bel.frame _, fun h => by cases h⟩

set_option maxRecDepth 100000 in
theorem lifted (os : Os) (started : os.Started) (H : Type) (enc : TypeId × Value → H) :
    ReturnsInHanded {} Try.checked os 5 .any (Rows.fnExactPutNumSpec.pre6 enc Try.prog Try.f5 Rows.fnExactPutNumRow.domain false) (Rows.fnExactPutNumSpec.post enc Try.prog Try.f5 false true false false) := by
  refine returnsInHanded_of_change (C := Try.checked) own started (by kernel_rfl) Try.func5
    (ChangeSpec.witness6 (enc := enc) (C := Try.checked) false ⟨#[], #[.int .i64 0], []⟩ 8 (by kernel_rfl) (by kernel_rfl) (by kernel_rfl) (by kernel_rfl)) ?_
  intro W base args ds gs before hval0 hW hcnd _
  exact contract H enc W base args ds gs before hval0 hW

theorem proved : Rows.FnExactPutNumSaid :=
  OpenClaim.holds_of_wide 5 Try.f5 rfl rfl rfl rfl rfl rfl rfl ⟨rfl, rfl, rfl, rfl, rfl⟩ rfl rfl rfl rfl rfl (by kernel_rfl) Try.func5 (by kernel_rfl)
    (of_decide_eq_true (by kernel_rfl)) (by unfold Func.isWrapper; first | (rw [if_pos (by decide +kernel)]; kernel_rfl) | (rw [if_neg (by decide +kernel)]; exact ⟨rfl, rfl⟩))
    (fun os started H enc _ => lifted os started H enc)
#print axioms proved
end Go.Proofs.Ytghckkameinicaa.fnExactPutNum
