/-
  PROVED: at every fleet, laws.FnExactRevsOf answers true: impl.RevsOf answers as the model's, leaves its argument as it was, and its answer owns its memory. No conditions.
-/
import Derived.Test.YtpnlnekgekfhgaaRows
import Derived.WalkKit
import Derived.ProofKit
import Derived.OpenShut
import Derived.ShutString
import Derived.ChangeOld
import Derived.Below
import Derived.Test.YtpnlnekgekfhgaaLawRevsOf
import Derived.Test.YtpnlnekgekfhgaaSpecRevs
namespace Go.Proofs.Ytpnlnekgekfhgaa.fnExactRevsOf
open Go.ChangeShapes Go.WideShapes Go.ChangeAt Go.RowKit
open Go.ChangeMaps (open_string shut_string)
set_option linter.unusedVariables false

theorem own : ownKnob Try.prog.godebug = none := by kernel_rfl
theorem laidOut : laidOutB Try.prog = true := by kernel_rfl
theorem specC (W : World) (B : Nat) (v : Value) (d : FleetTy.FD) (h : FleetTy.fty.Rd W B v d) (hB : B ≤ W.heap.size) (hf : FleetTy.fty.Few d) : Calls Try.prog 48 #[v] W (LK.Made IntTy.ity (RevV.revD d) W) := by
  obtain ⟨ps, x⟩ := d
  obtain ⟨A, c, rfl, hp⟩ := h
  exact Crew.specRevsOf_any A _ c x ps B W hp hB hf
theorem implC (W : World) (B : Nat) (v : Value) (d : FleetTy.FD) (h : FleetTy.fty.Rd W B v d) (hB : B ≤ W.heap.size) (hf : FleetTy.fty.Few d) : Calls Try.prog 19 #[v] W (LK.Made IntTy.ity (RevV.revD d) W) := by
  obtain ⟨ps, x⟩ := d
  obtain ⟨A, c, rfl, hp⟩ := h
  exact Crew.revsOf_any A _ c x ps B W hp hB hf
theorem few_rev (d : FleetTy.FD) (hf : FleetTy.fty.Few d) : IntTy.ity.Few (RevV.revD d) := by
  show (RevV.revD d).length ≤ 1048576
  unfold RevV.revD
  split
  · have h1 := RevV.rev_len d.1
    have h2 : d.1.length ≤ 1048576 := hf
    omega
  · exact Nat.zero_le _

theorem walk (x0A : Option Addr) (x0n x0c : Nat) (x0s : Int) (x0d : FleetTy.FD) (w : World) (w0 : FleetTy.fty.Rd w w.heap.size (.agg #[.slice x0A x0n x0c, .int .i64 x0s]) x0d) (z0 : LK.SzC 32 FleetTy.fty (.agg #[.slice x0A x0n x0c, .int .i64 x0s]) x0d w) :
    Calls Try.prog 12 #[.agg #[.slice x0A x0n x0c, .int .i64 x0s]] w fun e w' => e = .returned (.bool true) ∧ Below w.heap.size w w' := by
  exact LawRevsOf.walk x0A x0n x0c x0s x0d (RevV.revD x0d) w w0 z0 (fun hf => few_rev x0d hf) (fun hf W B v h hB => specC W B v x0d h hB hf) (fun hf W B v h hB => implC W B v x0d h hB hf)

set_option maxRecDepth 100000 in
theorem contract (H : Type) (enc : TypeId × Value → H) (W : World) (base : Nat) (args : Array Value) (ds gs : List (DataW H)) (before : List MemPlace)
    (hval : ∀ (j : Nat) t v, Try.f12.params[j]? = some t → args[j]? = some v → Value.okWide Try.prog W .any base t v)
    (hW : DataW.Whole enc Try.prog Try.f12.params.toList Rows.fnExactRevsOfSpec.vars false W args.toList ds gs before) :
    Calls Try.prog 12 args W fun e W' => ∃ v, e = .returned v ∧ Rows.fnExactRevsOfSpec.post enc Try.prog Try.f12 false true false false W args v W' := by
  have hW' := hW
  obtain ⟨p, q, hA0, hV, rfl, hfz, hnd⟩ := hW
  have hA : DataW.TrodAll enc Try.prog W 0 (fun _ => true) true Try.f12.params.toList args.toList ds p := hA0
  rw [Try.params12] at hA hval
  obtain ⟨v0, vs0, d0, ds0, p0, q0, hargs, rfl, rfl, h0, r0⟩ := trodAll_cons hA
  obtain ⟨rfl, rfl, rfl⟩ := trodAll_nil r0
  obtain rfl : args = #[v0] := by cases args; simp_all
  obtain ⟨rfl, rfl⟩ := trodVars_none hV
  have k0 := h0
  have lt0 : ∀ x ∈ p0, x.block < W.heap.size := by obtain ⟨m, hm⟩ := k0; exact DataW.trod_lt m _ _ _ hm
  obtain ⟨x0A, x0n, x0c, x0s, x0d, rfl, w0, z0, y0⟩ := FleetTy.open_fleet (hval 0 60 v0 rfl rfl) h0
  clear hA0
  simp only [List.append_nil] at hW'
  refine (walk x0A x0n x0c x0s x0d W w0 z0).mono fun e W' ⟨he, bel⟩ => ?_
  subst he
  exact ⟨_, rfl, _, _, _, [], _, [], hW', trodAll_mk1 (shut_bool Try.underlying4 _), (trodAll_cons_mk (Below.trod laidOut (by kernel_rfl) (of_decide_eq_true (by kernel_rfl)) k0 bel lt0) trodAll_mk0), rfl, bel.frame _, fun h => by cases h⟩

set_option maxRecDepth 100000 in
theorem lifted (os : Os) (started : os.Started) (H : Type) (enc : TypeId × Value → H) :
    ReturnsInHanded {} Try.checked os 12 .any (Rows.fnExactRevsOfSpec.pre6 enc Try.prog Try.f12 Rows.fnExactRevsOfRow.domain false) (Rows.fnExactRevsOfSpec.post enc Try.prog Try.f12 false true false false) := by
  refine returnsInHanded_of_change (C := Try.checked) own started (by kernel_rfl) Try.func12
    (ChangeSpec.witness6 (enc := enc) (C := Try.checked) false ⟨#[], #[.agg #[.slice none 0 0, .int .i64 0]], []⟩ 8 (by kernel_rfl) (by kernel_rfl) (by kernel_rfl) (by kernel_rfl)) ?_
  intro W base args ds gs before hval0 hW hcnd _
  exact contract H enc W base args ds gs before hval0 hW

theorem proved : Rows.FnExactRevsOfSaid :=
  OpenClaim.holds_of_wide 12 Try.f12 rfl rfl rfl rfl rfl rfl rfl ⟨rfl, rfl, rfl, rfl, rfl⟩ rfl rfl rfl rfl rfl (by kernel_rfl) Try.func12 (by kernel_rfl)
    (of_decide_eq_true (by kernel_rfl)) (by unfold Func.isWrapper; first | (rw [if_pos (by decide +kernel)]; kernel_rfl) | (rw [if_neg (by decide +kernel)]; exact ⟨rfl, rfl⟩))
    (fun os started H enc _ => lifted os started H enc)
#print axioms proved
end Go.Proofs.Ytpnlnekgekfhgaa.fnExactRevsOf
