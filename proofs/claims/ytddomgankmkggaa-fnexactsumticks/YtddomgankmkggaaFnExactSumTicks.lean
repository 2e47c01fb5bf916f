/-
  PROVED: at every slice of ints, laws.FnExactSumTicks answers true: impl.SumTicks answers as the model's, and leaves its argument as it was. No conditions.
-/
import Derived.Test.YtddomgankmkggaaRows
import Derived.WalkKit
import Derived.ProofKit
import Derived.OpenShut
import Derived.ShutString
import Derived.ChangeOld
import Derived.Below
import Derived.Test.YtddomgankmkggaaTickList
import Derived.Test.YtddomgankmkggaaIntCopy
namespace Go.Proofs.Ytddomgankmkggaa.fnExactSumTicks
open Go.ChangeShapes Go.WideShapes Go.ChangeAt Go.RowKit
open Go.ChangeMaps (open_string shut_string)
set_option linter.unusedVariables false

theorem own : ownKnob Try.prog.godebug = none := by kernel_rfl
theorem laidOut : laidOutB Try.prog = true := by kernel_rfl

/-- WHAT THE WALK IS TOLD OF A SLICE OF INTEGERS THAT CAME IN: it is nil; or it leads to a row of 'cap' cells, the numbers 'zs' (the first 'len' are its elements, the rest its spare room), each fitting its kind. -/
def IsRow (k : IntKind) (w : World) (a : Option Addr) (len cap : Nat) (zs : List Int) : Prop :=
  (a = none ∧ len = 0 ∧ cap = 0 ∧ zs = []) ∨
  ∃ x, a = some x ∧ len ≤ cap ∧ cap ≤ maxLen ∧ zs.length = cap ∧ (∀ i, i < zs.length → w.cell? (x.add i) = some (.int k (zs.getD i 0))) ∧ ∀ n ∈ zs, (Lit.int k n).wf = true

set_option maxHeartbeats 1600000 in
theorem walk (a0 : Option Addr) (len0 cap0 : Nat) (z0 : List Int) (w : World) (w0 : IsRow .i64 w a0 len0 cap0 z0) :
    Calls Try.prog 8 #[.slice a0 len0 cap0] w fun e w' => e = .returned (.bool true) ∧ Below w.heap.size w w' := by
  by_cases hbig : 1048576 < len0
  · go_enter Try.func8, Try.ntmps8
    go_wp2_with fail
    go_ret
    exact ⟨rfl, Below.refl _ _⟩
  · have hr := Ints.isInts_of_row w0
    clear w0
    have hzl : (z0.take len0).length = len0 := hr.1
    have hn : len0 ≤ 1048576 := by omega
    have hzn : (z0.take len0).length ≤ 1048576 := by omega
    clear hzl
    generalize z0.take len0 = zs at hr hzn
    have HR : Hid (Ints.IsInts w w.heap.size a0 len0 zs) := hr
    clear hr
    go_enter Try.func8, Try.ntmps8
    go_wp2_with fail
    refine (Ints.toIntS_any _ _ _ zs _ _ HR.out (Nat.le_refl _) hn).mono ?_
    rintro e w1 ⟨g1, rfl, hg1, hr1, hb1⟩
    have H1 : Hid (Ints.IsInts w1 w1.heap.size (some ⟨g1, 0, none⟩) zs.length zs) := hr1
    clear hr1
    go_wp2_with fail
    refine (TickList.specSum_any _ _ _ zs _ _ H1.out hzn).mono ?_
    rintro e w' ⟨rfl, rfl⟩
    go_wp2_with fail
    have HR1 : Hid (Ints.IsInts w1 w.heap.size a0 len0 zs) := HR.out.below hb1 (Nat.le_refl _)
    refine (Ints.toIntS_any _ _ _ zs _ _ HR1.out hb1.size hn).mono ?_
    rintro e w2 ⟨g2, rfl, hg2, hr2, hb2⟩
    have H2 : Hid (Ints.IsInts w2 w2.heap.size (some ⟨g2, 0, none⟩) zs.length zs) := hr2
    clear hr2
    go_wp2_with fail
    refine (TickList.sum_any _ _ _ zs _ _ H2.out hzn).mono ?_
    rintro e w' ⟨rfl, rfl⟩
    go_wp2_with fail
    have HR2 : Hid (Ints.IsInts w2 w.heap.size a0 len0 zs) := HR1.out.below hb2 hb1.size
    refine (Ints.toIntS_any _ _ _ zs _ _ HR2.out (Nat.le_trans hb1.size hb2.size) hn).mono ?_
    rintro e w3 ⟨g3, rfl, hg3, hr3, hb3⟩
    have H3 : Hid (Ints.IsInts w3 w3.heap.size (some ⟨g3, 0, none⟩) zs.length zs) := hr3
    clear hr3
    have H23 : Hid (Ints.IsInts w3 w2.heap.size (some ⟨g2, 0, none⟩) zs.length zs) := H2.out.below hb3 (Nat.le_refl _)
    go_wp2_with fail
    refine (Ints.eqIntS_same _ _ _ _ _ zs _ _ _ H23.out H3.out hzn).mono ?_
    rintro e w4 ⟨rfl, m, rfl⟩
    go_wp2_with fail
    go_ret
    exact ⟨rfl, Ints.below_drewN (((hb1.trans (hb2.mono hb1.size))).trans (hb3.mono (Nat.le_trans hb1.size hb2.size))) m⟩

set_option maxRecDepth 100000 in
theorem lifted (os : Os) (started : os.Started) (H : Type) (enc : TypeId × Value → H) :
    ReturnsInHanded {} Try.checked os 8 .any (Rows.fnExactSumTicksSpec.pre6 enc Try.prog Try.f8 Rows.fnExactSumTicksRow.domain false) (Rows.fnExactSumTicksSpec.post enc Try.prog Try.f8 false true false false) := by
  refine returnsInHanded_of_change (C := Try.checked) own started (by kernel_rfl) Try.func8
    (ChangeSpec.witness6 (enc := enc) (C := Try.checked) false ⟨#[], #[.slice none 0 0], []⟩ 8 (by kernel_rfl) (by kernel_rfl) (by kernel_rfl) (by kernel_rfl)) ?_
  intro W base args ds gs before hval0 hW hcnd _
  have hval : ∀ (j : Nat) t v, Try.f8.params[j]? = some t → args[j]? = some v → Value.okWide Try.prog W .any base t v := hval0
  have hW' := hW
  obtain ⟨p, q, hA0, hV, rfl, hfz, hnd⟩ := hW
  have hA : DataW.TrodAll enc Try.prog W 0 (fun _ => true) true Try.f8.params.toList args.toList ds p := hA0
  rw [Try.params8] at hA hval
  obtain ⟨v0, vs0, d0, ds0, p0, q0, hargs, rfl, rfl, h0, r0⟩ := trodAll_cons hA
  obtain ⟨rfl, rfl, rfl⟩ := trodAll_nil r0
  obtain rfl : args = #[v0] := by cases args; simp_all
  obtain ⟨rfl, rfl⟩ := trodVars_none hV
  obtain ⟨a0, len0, cap0, rfl⟩ := okWide_slice Try.underlying26 (hval 0 26 v0 rfl rfl)
  have k0 := h0
  have lt0 : ∀ x ∈ p0, x.block < W.heap.size := by obtain ⟨m, hm⟩ := k0; exact DataW.trod_lt m _ _ _ hm
  obtain ⟨z0, w0⟩ : ∃ zs, IsRow .i64 W a0 len0 cap0 zs := by
    obtain ⟨fuel, hf⟩ := h0
    rcases open_ints Try.underlying26 Try.underlying3 (by kernel_rfl) hf with ⟨hcs, _⟩ | ⟨x, l, c, zs, hcs, _, hl, hm, hz, _, hcell, hwz⟩
    · simp [Value.cells] at hcs
      obtain ⟨rfl, rfl, rfl⟩ := hcs
      exact ⟨[], .inl ⟨rfl, rfl, rfl, rfl⟩⟩
    · simp [Value.cells] at hcs
      obtain ⟨rfl, rfl, rfl⟩ := hcs
      exact ⟨zs, .inr ⟨_, rfl, hl, hm, by simpa using hz, hcell, hwz⟩⟩
  clear hA0 hval0
  refine (walk a0 len0 cap0 z0 W w0).mono fun e W' ⟨he, bel⟩ => ?_
  subst he
  exact ⟨_, rfl, _, _, _, [], _, [], hW', trodAll_mk1 (shut_bool Try.underlying4 _), (trodAll_cons_mk (Below.trod laidOut (by kernel_rfl) (of_decide_eq_true (by kernel_rfl)) k0 bel lt0) trodAll_mk0), rfl, bel.frame _, fun h => by cases h⟩

theorem over : Rows.fnExactSumTicksRow.holds Try.pinned (OpenSpec.ofChange Rows.fnExactSumTicksSpec) :=
  OpenClaim.holds_of_wide 8 Try.f8 rfl rfl rfl rfl rfl rfl rfl ⟨rfl, rfl, rfl, rfl, rfl⟩ rfl rfl rfl rfl rfl (by kernel_rfl) Try.func8 (by kernel_rfl)
    (of_decide_eq_true (by kernel_rfl)) (by unfold Func.isWrapper; first | (rw [if_pos (by decide +kernel)]; kernel_rfl) | (rw [if_neg (by decide +kernel)]; exact ⟨rfl, rfl⟩))
    (fun os started H enc _ => lifted os started H enc)

theorem proved : Rows.FnExactSumTicksSaid := over
#print axioms proved
end Go.Proofs.Ytddomgankmkggaa.fnExactSumTicks
