import Derived.Below
import Derived.ChangeOld
import Derived.Deep.DeepHandedRow
import Derived.Deep.DeepWitnessRowRef
import Derived.LaidMore
import Derived.Lib.LaidTab
import Derived.OpenShut
import Derived.OpenVars
import Derived.ProofKit
import Derived.ShutString
import Derived.Test.YtklgjjmcflgjeaaGreatDoorCards
import Derived.Test.YtklgjjmcflgjeaaGreatDoorTie
import Derived.WalkKit
import Derived.Test.YtklgjjmcflgjeaaGreatDoorC00
import Derived.Test.YtklgjjmcflgjeaaGreatDoorC10
import Derived.Test.YtklgjjmcflgjeaaGreatDoorC17
set_option linter.unusedVariables false
set_option linter.unusedSimpArgs false
namespace Go.Proofs.YtklgjjmcflgjeaaGreatDoor.fnExactStoreCompact
open Go.ChangeShapes Go.WideShapes Go.ChangeAt Go.RowKit
open Go.ChangeMaps (open_string shut_string)
theorem own : ownKnob Tryz.prog.godebug = none := by kernel_rfl
theorem laidOut : laidOutB Tryz.prog = true := by kernel_rfl
theorem vars3 {H : Type} {enc : TypeId × Value → H} {P : Program} {w : World} {spare : Nat → Bool} {n0 n1 n2 : String} {gs : List (DataW H)} {ps : List MemPlace} (h : DataW.TrodVars enc P w spare [n0, n1, n2] gs ps) : ∃ g0 g1 g2, gs = [g0, g1, g2] := by
  match gs, h with
  | [g0, g1, g2], _ => exact ⟨g0, g1, g2, rfl⟩
def zst : Value := .agg (StoTC.stL StoTC.zeroS none 0 0 none 0 0 none 0 0).toArray
theorem walk (x0A1 : Option Addr) (x0n1 x0c1 : Nat) (x0A2 : Option Addr) (x0n2 x0c2 : Nat) (x0A : Option Addr) (x0n x0c : Nat) (x0d : StoTC.Sto) (w : World) (w0 : StoTC.sty.Rd w w.heap.size (.agg (StoTC.stL x0d x0A1 x0n1 x0c1 x0A2 x0n2 x0c2 x0A x0n x0c).toArray) x0d) (z0 : LK.SzC 20 StoTC.sty (.agg (StoTC.stL x0d x0A1 x0n1 x0c1 x0A2 x0n2 x0c2 x0A x0n x0c).toArray) x0d w) (hL : laidMetH Tryz.prog Rows.fnExactStoreCompactRow.laid w) (hsh : w.ShapedOpen Tryz.prog) :
    Calls Tryz.prog 5 #[.agg (StoTC.stL x0d x0A1 x0n1 x0c1 x0A2 x0n2 x0c2 x0A x0n x0c).toArray] w fun e w' => e = .returned (.bool true) ∧ Below w.heap.size w w' := by
  obtain ⟨aT, aB, aO, hE, hlt, hne, hT, hBb⟩ := Rd.errs_laid2 hL
  exact LawStoreCompact.walk x0A1 x0n1 x0c1 x0A2 x0n2 x0c2 x0A x0n x0c x0d (StoC.cmpD x0d) (StoC.cmpB x0d) w w0 z0 (fun hf => StoC.few_cmp hf)
    (fun hf W B v hb h hB => StoC.specStoreCompact_any W B v x0d h hB hf)
    (fun hf W B v hb h hB => StoC.storeCompact_any W B v x0d h hB hf aT aB aO (Rd.errs_up (hE.below hb (Nat.le_refl _)) hb.size) (Jour.blk_up (Rd.ErrBlk.below ⟨hlt, hne, hT, hBb⟩ hb (Nat.le_refl _)) hb.size))
set_option maxRecDepth 100000 in
theorem contract (H : Type) (enc : TypeId × Value → H) (W : World) (base : Nat) (args : Array Value) (ds gs : List (DataW H)) (before : List MemPlace)
    (hval : ∀ (j : Nat) t v, Tryz.f5.params[j]? = some t → args[j]? = some v → Value.okWide Tryz.prog W .any base t v)
    (hW : DataW.Whole enc Tryz.prog Tryz.f5.params.toList Rows.fnExactStoreCompactSpec.vars false W args.toList ds gs before) (hL : laidMetH Tryz.prog Rows.fnExactStoreCompactRow.laid W) (hsh : W.ShapedOpen Tryz.prog) :
    Calls Tryz.prog 5 args W fun e W' => ∃ v, e = .returned v ∧ Rows.fnExactStoreCompactSpec.post enc Tryz.prog Tryz.f5 false true false false W args v W' := by
  have hW' := hW
  obtain ⟨p, q, hA0, hV, rfl, hfz, hnd⟩ := hW
  have hA : DataW.TrodAll enc Tryz.prog W 0 (fun _ => true) true Tryz.f5.params.toList args.toList ds p := hA0
  rw [Tryz.params5] at hA hval
  obtain ⟨v0, vs0, d0, ds0, p0, q0, hargs, rfl, rfl, h0, r0⟩ := trodAll_cons hA
  obtain ⟨rfl, rfl, rfl⟩ := trodAll_nil r0
  obtain rfl : args = #[v0] := by cases args; simp_all
  obtain ⟨g0, g1, g2, rfl⟩ := vars3 hV
  have k0 := h0
  have lt0 : ∀ x ∈ p0, x.block < W.heap.size := by obtain ⟨m, hm⟩ := k0; exact DataW.trod_lt m _ _ _ hm
  obtain ⟨x0A1, x0n1, x0c1, x0A2, x0n2, x0c2, x0A, x0n, x0c, x0d, rfl, w0, z0⟩ := StoTC.open_store (hval 0 61 v0 rfl rfl) h0
  clear hA0
  refine (walk x0A1 x0n1 x0c1 x0A2 x0n2 x0c2 x0A x0n x0c x0d W w0 z0 hL hsh).mono fun e W' ⟨he, bel⟩ => ?_
  subst he
  exact ⟨_, rfl, _, _, _, [], _, q, hW', trodAll_mk1 (shut_bool Tryz.underlying4 _), (trodAll_cons_mk (Below.trod laidOut (by kernel_rfl) (of_decide_eq_true (by kernel_rfl)) k0 bel lt0) trodAll_mk0), bel.trodVars laidOut (by kernel_rfl) hV, bel.frame _, fun h => by cases h⟩
theorem door_met (os : Os) (args : Array Value) : laidMetH Tryz.prog Rows.fnExactStoreCompactRow.laid ((World.doorLaid Tryz.prog 400 os).forCall (fun _ _ => 0) ⟨#[], args, []⟩).memory :=
  laidMetH_of_parts3 (fuel := 8) (laidMet_of_run' 8 (by kernel_rfl) (by kernel_rfl)) (by kernel_rfl) (by kernel_rfl)
theorem reads (os : Os) {H : Type} (enc : TypeId × Value → H) : (DataW.whole enc Tryz.prog ((World.doorLaid Tryz.prog 400 os).forCall (fun _ _ => 0) ⟨#[], #[zst], []⟩).memory Tryz.f5.params.toList Rows.fnExactStoreCompactSpec.vars false #[zst].toList 8).isSome = true := by kernel_rfl
theorem wv (os : Os) : ((World.doorLaid Tryz.prog 400 os).forCall (fun _ _ => 0) ⟨#[], #[zst], []⟩).variablesRefB Tryz.prog = true := by kernel_rfl
theorem wr (os : Os) : (((World.doorLaid Tryz.prog 400 os).forCall (fun _ _ => 0) ⟨#[], #[zst], []⟩).heap.toList.drop Tryz.prog.globals.size).take ((begin Tryz.prog (fun _ _ => 0) default).world.heap.size - Tryz.prog.globals.size) = (begin Tryz.prog (fun _ _ => 0) default).world.heap.toList.drop Tryz.prog.globals.size := by kernel_rfl
theorem wo (os : Os) : Input.okWideB Tryz.prog ((World.doorLaid Tryz.prog 400 os).forCall (fun _ _ => 0) ⟨#[], #[zst], []⟩) 5 ⟨#[], #[zst], []⟩ = true := by kernel_rfl
theorem ws (os : Os) {H : Type} (enc : TypeId × Value → H) : (OpenSpec.ofChange Rows.fnExactStoreCompactSpec).bare.sizedB enc Tryz.prog Tryz.f5 false ((World.doorLaid Tryz.prog 400 os).forCall (fun _ _ => 0) ⟨#[], #[zst], []⟩).memory #[zst] 8 = true := by kernel_rfl
set_option maxRecDepth 100000 in
theorem lifted (os : Os) (started : os.Started) (H : Type) (enc : TypeId × Value → H) (F : Stop.Interp) :
    ReturnsInHanded {} Tryz.checked os 5 .any ((OpenSpec.ofChange Rows.fnExactStoreCompactSpec).preRow enc Tryz.prog Tryz.f5 Rows.fnExactStoreCompactRow.domain false Rows.fnExactStoreCompactRow.laid) (((OpenSpec.ofChange Rows.fnExactStoreCompactSpec).at F).post enc Tryz.prog Tryz.f5 false true false false) := by
  obtain ⟨x, hx⟩ := Option.isSome_iff_exists.1 (reads os enc)
  refine returnsInHanded_of_row (C := Tryz.checked) (s := OpenSpec.ofChange Rows.fnExactStoreCompactSpec) own started (by kernel_rfl) Tryz.func5
    (witness_row_atRef (enc := enc) (C := Tryz.checked) false (World.doorLaid Tryz.prog 400 os) #[zst] rfl (wv os) (wr os) (wo os)
      (OpenSpec.preRow_of_cond 8 hx (by kernel_rfl) (fun k hk => by cases hk) (ws os enc) (door_met os _))) ?_
  intro W base args ds gs before hval hW _ _ _ hL hsh _
  exact contract H enc W base args ds gs before hval hW hL hsh
theorem band {a b : Bool} (ha : a = true) (hb : b = true) : (a && b) = true := by rw [ha, hb]; rfl
theorem q0 : Rows.fnExactStoreCompactRow.wf (OpenSpec.ofChange Rows.fnExactStoreCompactSpec) = true := by kernel_rfl
theorem q1 : laidOutB Tryz.prog = true := by kernel_rfl
theorem q2 : mapsRowed Tryz.prog = true := by kernel_rfl
theorem q3 : Tryz.f5.params.all (Tryz.prog.readableRec ·) = true := by kernel_rfl
theorem q4 : namedTie Tryz.prog Rows.fnExactStoreCompactRow.named Rows.fnExactStoreCompactSpec.vars = true := by kernel_rfl
theorem q9 : (Rows.fnExactStoreCompactRow.inPlace == Tryz.prog.inPlace 5) = true := by kernel_rfl
theorem q10 : (Rows.fnExactStoreCompactRow.unfollowed == Tryz.prog.unfollowed 5) = true := by kernel_rfl
theorem q11 : (Rows.fnExactStoreCompactRow.recurses == Tryz.prog.recurses 5) = true := by kernel_rfl
theorem q12 : (Rows.fnExactStoreCompactRow.named == Tryz.prog.varsNamed 5) = true := by kernel_rfl
theorem q13 : (Rows.fnExactStoreCompactRow.maps == (Tryz.f5.params.toList ++ Rows.fnExactStoreCompactSpec.plain.varTypes Tryz.prog).any (Tryz.prog.mapsRec ·)) = true := by kernel_rfl
theorem q14 : (Rows.fnExactStoreCompactRow.ifaces == (Tryz.f5.params.toList ++ Rows.fnExactStoreCompactSpec.plain.varTypes Tryz.prog).any (Tryz.prog.ifacesRec ·)) = true := by kernel_rfl
theorem q16 : (Rows.fnExactStoreCompactRow.loops == (Tryz.f5.params.toList ++ Rows.fnExactStoreCompactSpec.plain.varTypes Tryz.prog).any (Tryz.prog.loopsFrom ·)) = true := by kernel_rfl
theorem q17 : (Rows.fnExactStoreCompactRow.wideKeys == (Tryz.f5.params.toList ++ Rows.fnExactStoreCompactSpec.plain.varTypes Tryz.prog ++ Tryz.f5.resultTypes.toList).any (Tryz.prog.wideKeysFrom ·)) = true := by kernel_rfl
theorem q18 : Rows.fnExactStoreCompactSpec.vars.all (Tryz.prog.varReadable ·) = true := by kernel_rfl
theorem q22 : (Rows.fnExactStoreCompactRow.plainKeys == Tryz.prog.plainKeys) = true := by kernel_rfl
theorem q24 : Tryz.prog.stopsHeard = true := by kernel_rfl
theorem q25 : Tryz.prog.mayEnter = true := by kernel_rfl
theorem q26 : (Rows.fnExactStoreCompactRow.lifted == Tryz.prog.liftsFinal) = true := by kernel_rfl
theorem q27 : (Tryz.prog.make == some Rows.fnExactStoreCompactRow.make) = true := by kernel_rfl
theorem q30 : (Rows.fnExactStoreCompactRow.veiled == (Tryz.f5.params.toList ++ Rows.fnExactStoreCompactSpec.plain.varTypes Tryz.prog ++ Tryz.f5.resultTypes.toList).any (Tryz.prog.veiledRec ·)) = true := by kernel_rfl
theorem q31 : Rows.fnExactStoreCompactRow.veiledFits Tryz.prog Tryz.f5.params.toList (Tryz.f5.params.toList ++ Rows.fnExactStoreCompactSpec.plain.varTypes Tryz.prog ++ Tryz.f5.resultTypes.toList) = true := by kernel_rfl
theorem facts : joinedFacts Tryz.prog 5 Tryz.f5 (OpenSpec.ofChange Rows.fnExactStoreCompactSpec).bare Rows.fnExactStoreCompactRow = true := by
  delta joinedFacts
  exact band (band (band (band (band (band (band (band (band (band (band (band (band (band (band (band (band (band (band (band (band (band (band (band (band (band (band (band (band (band (band (q0) q1) q2) q3) q4) (by kernel_rfl)) (by kernel_rfl)) (by kernel_rfl)) (by kernel_rfl)) q9) q10) q11) q12) q13) q14) (by kernel_rfl)) q16) q17) q18) (by kernel_rfl)) (by kernel_rfl)) (by kernel_rfl)) q22) (by kernel_rfl)) q24) q25) q26) q27) (by kernel_rfl)) (by kernel_rfl)) q30) q31
theorem said : Rows.FnExactStoreCompactSaid :=
  OpenClaim.holds_of_cond 5 Tryz.f5 rfl rfl rfl rfl rfl rfl rfl ⟨rfl, rfl, rfl, rfl, rfl⟩ rfl rfl rfl rfl rfl (by kernel_rfl) Tryz.func5 facts
    (of_decide_eq_true (by kernel_rfl)) (by unfold Func.isWrapper; first | (rw [if_pos (by decide +kernel)]; kernel_rfl) | (rw [if_neg (by decide +kernel)]; exact ⟨rfl, rfl⟩))
    (fun os started H enc _ F => by rw [OpenClaim.pre_eq_preRow]; exact lifted os started H enc F)
theorem plain (f : FuncId) (fn : Func) (hf : Tryz.pinned.checked.prog.funcNamed Rows.fnExactStoreCompactRow.func = some f) (hfn : Tryz.pinned.checked.prog.funcs[f]? = some fn) :
    Rows.fnExactStoreCompactCard.stood.looks = Tryz.pinned.checked.prog.looks [] ∧ ∀ (j : Nat) t, fn.params[j]? = some t → Tryz.pinned.checked.prog.wantsStandIn t = false := by
  obtain rfl : f = 5 := Option.some.inj ((show Tryz.prog.funcNamed Rows.fnExactStoreCompactRow.func = some 5 by kernel_rfl).symm.trans hf) |>.symm
  obtain rfl : fn = Tryz.f5 := (Option.some.inj (Tryz.func5.symm.trans hfn)).symm
  refine ⟨by kernel_rfl, fun j t ht => ?_⟩
  rw [Tryz.params5] at ht
  have hm := Array.mem_of_getElem? ht
  obtain rfl : t = 61 := by simpa using hm
  exact (show Tryz.prog.wantsStandIn 61 = false by kernel_rfl)
theorem proved : Rows.FnExactStoreCompactCardSaid :=
  Claim7.holds_tied_plain_at .later [] _ _ _ _ said (fun _ h => by cases h) (by kernel_rfl) (fun _ h => by cases h) fnExactStoreCompact_row_tie rfl ⟨rfl, rfl⟩ (by kernel_rfl) rfl plain (by kernel_rfl)
#print axioms proved
end Go.Proofs.YtklgjjmcflgjeaaGreatDoor.fnExactStoreCompact
