/-
  PROVED: at every code, laws.FnTicks answers true: adding stays a tick, is the same in either order and grows; Since undoes it; texts are read as they were written; the sum of a list and its parts. Condition: the listed package-level variables of the library hold what their initialisers lay (the card ties them to the program's text, over a pruned copy of the project).
-/
import Derived.Test.YtddomgankmkggaaDoorCards
import Derived.Test.YtddomgankmkggaaDoorTie
import Derived.WalkKit
import Derived.ProofKit
import Derived.OpenShut
import Derived.ShutString
import Derived.ChangeOld
import Derived.Below
import Derived.Deep.DeepHandedRow
import Derived.Deep.DeepWitnessRowRef
import Derived.LaidMore
import Derived.Lib.LaidTab
import Derived.Test.YtddomgankmkggaaDoorParse
import Derived.Test.YtddomgankmkggaaDoorLaid
import Derived.Test.YtddomgankmkggaaDoorTickList
import Derived.Test.YtddomgankmkggaaDoorDrawTick
namespace Go.Proofs.YtddomgankmkggaaDoor.fnTicks
open Go.ChangeShapes Go.WideShapes Go.ChangeAt Go.RowKit
open Go.ChangeMaps (open_string shut_string)
set_option linter.unusedVariables false

theorem own : ownKnob Tryd.prog.godebug = none := by kernel_rfl
theorem laidOut : laidOutB Tryd.prog = true := by kernel_rfl

def IsRow (k : IntKind) (w : World) (a : Option Addr) (len cap : Nat) (zs : List Int) : Prop :=
  (a = none ∧ len = 0 ∧ cap = 0 ∧ zs = []) ∨
  ∃ x, a = some x ∧ len ≤ cap ∧ cap ≤ maxLen ∧ zs.length = cap ∧ (∀ i, i < zs.length → w.cell? (x.add i) = some (.int k (zs.getD i 0))) ∧ ∀ n ∈ zs, (Lit.int k n).wf = true
open Tick TickList
theorem addV_comm {a b : Int} (ha : tokB a = true) (hb : tokB b = true) : addV b a = addV a b := by
  have h1 := tok_t ha
  have h2 := tok_t hb
  rw [addV_ok ha (by simp [inB]; omega), addV_ok hb (by simp [inB]; omega), Int.add_comm]
theorem addV_val {a b : Int} (ha : tokB a = true) (hb : tokB b = true) : addV a b = min 1000000000 (a + b) := by
  have h1 := tok_t ha
  have h2 := tok_t hb
  rw [addV_ok ha (by simp [inB]; omega)]; omega
theorem addV_neg {a b : Int} (ha : tokB a = true) (hb : tokB b = true) : addV a (-b) = sinceV b a := by
  have h1 := tok_t ha
  have h2 := tok_t hb
  rw [addV_ok ha (by simp [inB]; omega)]
  simp only [sinceV, ha, hb, Bool.and_self, if_true]; omega
theorem since_back {a b : Int} (ha : tokB a = true) (hb : tokB b = true) (hx : addV a b < 1000000000) : sinceV a (addV a b) = b := by
  have h1 := tok_t ha
  have h2 := tok_t hb
  rw [addV_val ha hb] at hx ⊢
  have : min 1000000000 (a + b) = a + b := by omega
  rw [this]
  have ht : tokB (a + b) = true := tok_mk (by omega) (by omega)
  simp only [sinceV, ha, ht, Bool.and_self, if_true]; omega
theorem tok_add {a b : Int} (ha : tokB a = true) (hb : tokB b = true) : tokB (addV a b) = true := by
  have h1 := tok_t ha
  have h2 := tok_t hb
  rw [addV_val ha hb]; exact tok_mk (by omega) (by omega)
theorem due_at {a b : Int} (ha : tokB a = true) (hb : tokB b = true) : dueB a b (addV a b) = decide (0 < b) := by
  simp [dueB, ha, hb, tok_add ha hb]
theorem due_not {a b : Int} (ha : tokB a = true) (hb : tokB b = true) (hx : 0 < addV a b) : dueB a b (addV a b - 1) = false := by
  simp only [dueB]
  have : ¬ addV a b ≤ addV a b - 1 := by omega
  simp [this]
theorem sum3 {a b : Int} (ha : tokB a = true) (hb : tokB b = true) : sumV [a, b, 1] = addV (addV a b) 1 := by
  have h1 := tok_t ha
  have h2 := tok_t hb
  have h3 := tok_t (tok_add ha hb)
  have h0 : addV 0 a = a := by rw [addV_val (tok_mk (by omega) (by omega)) ha]; omega
  have e1 : sumS 0 a = a := by simp [sumS, ha, h0]
  have e2 : sumS a b = addV a b := by simp [sumS, hb, h1.1]
  have e3 : sumS (addV a b) 1 = addV (addV a b) 1 := by
    have : tokB 1 = true := rfl
    simp [sumS, this, h3.1]
  simp [sumV, sumF, e1, e2, e3]
theorem soon2 (a b : Int) : soonV [-1, a, b] = soonV [a, b] := by
  have : stepV (-1) (-1) = -1 := rfl
  simp [soonV, soonF, this]
theorem parse_text {a : Int} (ha : tokB a = true) : SpecParse.parseF (TickText.textV a) = (a, true) := by
  have h1 := tok_t ha
  obtain ⟨t, rfl⟩ : ∃ t : Nat, a = (t : Int) := ⟨a.toNat, by omega⟩
  have ht : t ≤ 1000000000 := by omega
  rw [Parse.textV_nat ht]
  exact Parse.parseF_yes ⟨ht, rfl⟩
theorem text_len {a : Int} : (TickText.textV a).length ≤ 2000000 := by
  unfold TickText.textV
  split
  · rename_i h
    have h1 := tok_t h
    have h7 := Parse.dec_short (a.toNat / 1000) (by omega)
    simp [TickText.tickT, TickText.d3]; omega
  · simp

set_option maxRecDepth 100000 in
set_option maxHeartbeats 4000000 in
theorem walk (a0 : Option Addr) (len0 cap0 : Nat) (z0 : List Int) (w : World) (w0 : IsRow .u8 w a0 len0 cap0 z0) (hL : laidMetH Tryd.prog Rows.fnTicksRow.laid w) (hsh : w.ShapedOpen Tryd.prog) :
    Calls Tryd.prog 3 #[.slice a0 len0 cap0] w fun e w' => e = .returned (.bool true) ∧ Below w.heap.size w w' := by
  have HE : Hid (Env.Lib3 w.heap.size w) := Laid.lib3 hL hsh
  clear hL hsh
  by_cases hbig : 1048576 < len0
  · go_enter Tryd.func3, Tryd.ntmps3
    go_wp2_with go_in
    go_ret
    exact ⟨rfl, Below.refl _ _⟩
  · have hn : len0 ≤ 1048576 := by omega
    have HB := Lib.hid (Draw.isBytes_of_row w0)
    clear w0
    go_enter Tryd.func3, Tryd.ntmps3
    go_wp2_with (go_at_call 6; go_in)
    refine (DrawTick.drawSince_any _ w.heap.size (Nat.le_refl _) _ _ _ _ HB.out hn).mono ?_
    rintro e w1 ⟨a, b, rfl, hb1⟩
    clear HB
    cases ha : tokB a
    · go_wp2_with (first | (go_at_call 8; refine (specTickOk_any _ _).mono ?_; rintro e w' ⟨rfl, rfl⟩) | (go_at_call 9; refine (addTick_any _ _ _).mono ?_; rintro e w' ⟨rfl, rfl⟩) | (go_at_call 10; refine (specAddTick_any _ _ _).mono ?_; rintro e w' ⟨rfl, rfl⟩))
      go_ret
      exact ⟨by simp, hb1⟩
    · cases hb : tokB b
      · go_wp2_with (first | (go_at_call 8; refine (specTickOk_any _ _).mono ?_; rintro e w' ⟨rfl, rfl⟩) | (go_at_call 9; refine (addTick_any _ _ _).mono ?_; rintro e w' ⟨rfl, rfl⟩) | (go_at_call 10; refine (specAddTick_any _ _ _).mono ?_; rintro e w' ⟨rfl, rfl⟩))
        go_ret
        exact ⟨by simp, hb1⟩
      · go_wp2_with (first | (go_at_call 8; refine (specTickOk_any _ _).mono ?_; rintro e w' ⟨rfl, rfl⟩))
        have ba := tok_t ha
        have bb := tok_t hb
        have tx := tok_add ha hb
        have bx := tok_t tx
        have hval := addV_val ha hb
        have hax : a ≤ addV a b := by rw [hval]; omega
        have hzero : b = 0 → addV a b = a := by intro h; rw [hval]; omega
        have hpos : 0 < b → addV a b < 1000000000 → 0 < addV a b := by intro h _; rw [hval]; omega
        have HP := Lib.hid (parse_text ha)
        have HS3 := Lib.hid (sum3 ha hb)
        have HSO := Lib.hid (soon2 a b)
        have e2 := addV_comm ha hb
        have e3 := addV_neg ha hb
        have h5 := since_back ha hb
        have e6 := due_at ha hb
        have h7 := due_not ha hb
        clear hval
        obtain ⟨x, hx⟩ : ∃ x, x = addV a b := ⟨_, rfl⟩
        rw [← hx] at tx bx hax hzero hpos HS3 e2 h5 e6 h7
        have e1 : addV a b = x := hx.symm
        clear hx
        obtain ⟨s, hs⟩ : ∃ s, s = sinceV b a := ⟨_, rfl⟩
        rw [← hs] at e3
        have e4 : sinceV b a = s := hs.symm
        clear hs
        have hcases : (x < 1000000000 ∧ sinceV a x = b) ∨ ¬ x < 1000000000 := by
          by_cases h : x < 1000000000
          · exact .inl ⟨h, h5 h⟩
          · exact .inr h
        have hcaseb : (0 < b ∧ dueB a b x = true) ∨ (¬ 0 < b ∧ dueB a b x = false) := by
          by_cases h : 0 < b
          · exact .inl ⟨h, by rw [e6]; simpa using h⟩
          · exact .inr ⟨h, by rw [e6]; simpa using h⟩
        clear e6 h5 hzero
        rcases hcases with ⟨hxm, e5⟩ | hxm
        · rcases hcaseb with ⟨hbp, e6⟩ | ⟨hbp, e6⟩
          · have hx0 := hpos hbp hxm
            have e7 := h7 hx0
            clear hpos h7
            go_wp2_with (first | (go_at_call 9; refine (addTick_any _ _ _).mono ?_; rintro e w' ⟨rfl, rfl⟩) | (go_at_call 11; refine (tickOk_any _ _).mono ?_; rintro e w' ⟨rfl, rfl⟩) | (go_at_call 12; refine (sinceI_any _ _ _).mono ?_; rintro e w' ⟨rfl, rfl⟩) | (go_at_call 13; refine (dueAt_any _ _ _ _).mono ?_; rintro e w' ⟨rfl, rfl⟩))
            all_goals
              refine (TickText.text_any _ w.heap.size _ hb1.size (HE.out.on hb1).tab).mono ?_
              rintro e w2 ⟨rfl, hb2⟩
              have hb12 : Below w.heap.size w w2 := hb1.trans (hb2.mono hb1.size)
              go_wp2_with fail
              refine (Parse.parse_any _ w.heap.size _ (HE.out.on hb12) text_len).mono ?_
              rintro e w3 ⟨rfl, hb3⟩
              have hb13 : Below w.heap.size w w3 := hb12.trans (hb3.mono hb12.size)
              rw [HP.out]
              go_wp2_with fail
              refine (sum_any _ _ _ [a, b, 1] (w3.heap.size + 1) _ (DrawTick.lit_ints w3 _ [a, b, 1] 3 rfl) (by omega)).mono ?_
              rintro e w' ⟨rfl, rfl⟩
              rw [HS3.out]
              go_wp2_with fail
              refine (addTick_any _ _ _).mono ?_
              rintro e w' ⟨rfl, rfl⟩
              go_wp2_with fail
              refine (soonest_any _ _ _ [-1, a, b] (w3.heap.size + 1 + 1) _ (DrawTick.lit_ints_at (w3.alloc (.cells #[.int .i64 a, .int .i64 b, .int .i64 1] 3)) (w3.heap.size + 1) (by simp) 3 [-1, a, b] 3 rfl) (by omega)).mono ?_
              rintro e w' ⟨rfl, rfl⟩
              rw [HSO.out]
              go_wp2_with fail
              refine (specSoonest_any _ _ _ [a, b] (w3.heap.size + 1 + 1 + 1) _ (DrawTick.lit_ints_at ((w3.alloc (.cells #[.int .i64 a, .int .i64 b, .int .i64 1] 3)).alloc (.cells #[.int .i64 (-1), .int .i64 a, .int .i64 b] 3)) (w3.heap.size + 1 + 1) (by simp) 3 [a, b] 2 rfl) (by omega)).mono ?_
              rintro e w' ⟨rfl, rfl⟩
              go_wp2
              go_ret
              exact ⟨rfl, ((hb13.alloc hb13.size _).alloc (by have := hb13.size; simp; omega) _).alloc (by have := hb13.size; simp; omega) _⟩
          · clear hpos h7
            go_wp2_with (first | (go_at_call 9; refine (addTick_any _ _ _).mono ?_; rintro e w' ⟨rfl, rfl⟩) | (go_at_call 11; refine (tickOk_any _ _).mono ?_; rintro e w' ⟨rfl, rfl⟩) | (go_at_call 12; refine (sinceI_any _ _ _).mono ?_; rintro e w' ⟨rfl, rfl⟩) | (go_at_call 13; refine (dueAt_any _ _ _ _).mono ?_; rintro e w' ⟨rfl, rfl⟩))
            all_goals
              refine (TickText.text_any _ w.heap.size _ hb1.size (HE.out.on hb1).tab).mono ?_
              rintro e w2 ⟨rfl, hb2⟩
              have hb12 : Below w.heap.size w w2 := hb1.trans (hb2.mono hb1.size)
              go_wp2_with fail
              refine (Parse.parse_any _ w.heap.size _ (HE.out.on hb12) text_len).mono ?_
              rintro e w3 ⟨rfl, hb3⟩
              have hb13 : Below w.heap.size w w3 := hb12.trans (hb3.mono hb12.size)
              rw [HP.out]
              go_wp2_with fail
              refine (sum_any _ _ _ [a, b, 1] (w3.heap.size + 1) _ (DrawTick.lit_ints w3 _ [a, b, 1] 3 rfl) (by omega)).mono ?_
              rintro e w' ⟨rfl, rfl⟩
              rw [HS3.out]
              go_wp2_with fail
              refine (addTick_any _ _ _).mono ?_
              rintro e w' ⟨rfl, rfl⟩
              go_wp2_with fail
              refine (soonest_any _ _ _ [-1, a, b] (w3.heap.size + 1 + 1) _ (DrawTick.lit_ints_at (w3.alloc (.cells #[.int .i64 a, .int .i64 b, .int .i64 1] 3)) (w3.heap.size + 1) (by simp) 3 [-1, a, b] 3 rfl) (by omega)).mono ?_
              rintro e w' ⟨rfl, rfl⟩
              rw [HSO.out]
              go_wp2_with fail
              refine (specSoonest_any _ _ _ [a, b] (w3.heap.size + 1 + 1 + 1) _ (DrawTick.lit_ints_at ((w3.alloc (.cells #[.int .i64 a, .int .i64 b, .int .i64 1] 3)).alloc (.cells #[.int .i64 (-1), .int .i64 a, .int .i64 b] 3)) (w3.heap.size + 1 + 1) (by simp) 3 [a, b] 2 rfl) (by omega)).mono ?_
              rintro e w' ⟨rfl, rfl⟩
              go_wp2
              go_ret
              exact ⟨rfl, ((hb13.alloc hb13.size _).alloc (by have := hb13.size; simp; omega) _).alloc (by have := hb13.size; simp; omega) _⟩
        · rcases hcaseb with ⟨hbp, e6⟩ | ⟨hbp, e6⟩
          · clear hpos h7
            go_wp2_with (first | (go_at_call 9; refine (addTick_any _ _ _).mono ?_; rintro e w' ⟨rfl, rfl⟩) | (go_at_call 11; refine (tickOk_any _ _).mono ?_; rintro e w' ⟨rfl, rfl⟩) | (go_at_call 12; refine (sinceI_any _ _ _).mono ?_; rintro e w' ⟨rfl, rfl⟩) | (go_at_call 13; refine (dueAt_any _ _ _ _).mono ?_; rintro e w' ⟨rfl, rfl⟩))
            all_goals
              refine (TickText.text_any _ w.heap.size _ hb1.size (HE.out.on hb1).tab).mono ?_
              rintro e w2 ⟨rfl, hb2⟩
              have hb12 : Below w.heap.size w w2 := hb1.trans (hb2.mono hb1.size)
              go_wp2_with fail
              refine (Parse.parse_any _ w.heap.size _ (HE.out.on hb12) text_len).mono ?_
              rintro e w3 ⟨rfl, hb3⟩
              have hb13 : Below w.heap.size w w3 := hb12.trans (hb3.mono hb12.size)
              rw [HP.out]
              go_wp2_with fail
              refine (sum_any _ _ _ [a, b, 1] (w3.heap.size + 1) _ (DrawTick.lit_ints w3 _ [a, b, 1] 3 rfl) (by omega)).mono ?_
              rintro e w' ⟨rfl, rfl⟩
              rw [HS3.out]
              go_wp2_with fail
              refine (addTick_any _ _ _).mono ?_
              rintro e w' ⟨rfl, rfl⟩
              go_wp2_with fail
              refine (soonest_any _ _ _ [-1, a, b] (w3.heap.size + 1 + 1) _ (DrawTick.lit_ints_at (w3.alloc (.cells #[.int .i64 a, .int .i64 b, .int .i64 1] 3)) (w3.heap.size + 1) (by simp) 3 [-1, a, b] 3 rfl) (by omega)).mono ?_
              rintro e w' ⟨rfl, rfl⟩
              rw [HSO.out]
              go_wp2_with fail
              refine (specSoonest_any _ _ _ [a, b] (w3.heap.size + 1 + 1 + 1) _ (DrawTick.lit_ints_at ((w3.alloc (.cells #[.int .i64 a, .int .i64 b, .int .i64 1] 3)).alloc (.cells #[.int .i64 (-1), .int .i64 a, .int .i64 b] 3)) (w3.heap.size + 1 + 1) (by simp) 3 [a, b] 2 rfl) (by omega)).mono ?_
              rintro e w' ⟨rfl, rfl⟩
              go_wp2
              go_ret
              exact ⟨rfl, ((hb13.alloc hb13.size _).alloc (by have := hb13.size; simp; omega) _).alloc (by have := hb13.size; simp; omega) _⟩
          · clear hpos h7
            go_wp2_with (first | (go_at_call 9; refine (addTick_any _ _ _).mono ?_; rintro e w' ⟨rfl, rfl⟩) | (go_at_call 11; refine (tickOk_any _ _).mono ?_; rintro e w' ⟨rfl, rfl⟩) | (go_at_call 12; refine (sinceI_any _ _ _).mono ?_; rintro e w' ⟨rfl, rfl⟩) | (go_at_call 13; refine (dueAt_any _ _ _ _).mono ?_; rintro e w' ⟨rfl, rfl⟩))
            all_goals
              refine (TickText.text_any _ w.heap.size _ hb1.size (HE.out.on hb1).tab).mono ?_
              rintro e w2 ⟨rfl, hb2⟩
              have hb12 : Below w.heap.size w w2 := hb1.trans (hb2.mono hb1.size)
              go_wp2_with fail
              refine (Parse.parse_any _ w.heap.size _ (HE.out.on hb12) text_len).mono ?_
              rintro e w3 ⟨rfl, hb3⟩
              have hb13 : Below w.heap.size w w3 := hb12.trans (hb3.mono hb12.size)
              rw [HP.out]
              go_wp2_with fail
              refine (sum_any _ _ _ [a, b, 1] (w3.heap.size + 1) _ (DrawTick.lit_ints w3 _ [a, b, 1] 3 rfl) (by omega)).mono ?_
              rintro e w' ⟨rfl, rfl⟩
              rw [HS3.out]
              go_wp2_with fail
              refine (addTick_any _ _ _).mono ?_
              rintro e w' ⟨rfl, rfl⟩
              go_wp2_with fail
              refine (soonest_any _ _ _ [-1, a, b] (w3.heap.size + 1 + 1) _ (DrawTick.lit_ints_at (w3.alloc (.cells #[.int .i64 a, .int .i64 b, .int .i64 1] 3)) (w3.heap.size + 1) (by simp) 3 [-1, a, b] 3 rfl) (by omega)).mono ?_
              rintro e w' ⟨rfl, rfl⟩
              rw [HSO.out]
              go_wp2_with fail
              refine (specSoonest_any _ _ _ [a, b] (w3.heap.size + 1 + 1 + 1) _ (DrawTick.lit_ints_at ((w3.alloc (.cells #[.int .i64 a, .int .i64 b, .int .i64 1] 3)).alloc (.cells #[.int .i64 (-1), .int .i64 a, .int .i64 b] 3)) (w3.heap.size + 1 + 1) (by simp) 3 [a, b] 2 rfl) (by omega)).mono ?_
              rintro e w' ⟨rfl, rfl⟩
              go_wp2
              go_ret
              exact ⟨rfl, ((hb13.alloc hb13.size _).alloc (by have := hb13.size; simp; omega) _).alloc (by have := hb13.size; simp; omega) _⟩

theorem contract (H : Type) (enc : TypeId × Value → H) (W : World) (base : Nat) (args : Array Value) (ds gs : List (DataW H)) (before : List MemPlace)
    (hval : ∀ (j : Nat) t v, Tryd.f3.params[j]? = some t → args[j]? = some v → Value.okWide Tryd.prog W .any base t v)
    (hW : DataW.Whole enc Tryd.prog Tryd.f3.params.toList Rows.fnTicksSpec.vars false W args.toList ds gs before) (hL : laidMetH Tryd.prog Rows.fnTicksRow.laid W) (hsh : W.ShapedOpen Tryd.prog) :
    Calls Tryd.prog 3 args W fun e W' => ∃ v, e = .returned v ∧ Rows.fnTicksSpec.post enc Tryd.prog Tryd.f3 false true false false W args v W' := by
  have hW' := hW
  obtain ⟨p, q, hA0, hV, rfl, hfz, hnd⟩ := hW
  have hA : DataW.TrodAll enc Tryd.prog W 0 (fun _ => true) true Tryd.f3.params.toList args.toList ds p := hA0
  rw [Tryd.params3] at hA hval
  obtain ⟨v0, vs0, d0, ds0, p0, q0, hargs, rfl, rfl, h0, r0⟩ := trodAll_cons hA
  obtain ⟨rfl, rfl, rfl⟩ := trodAll_nil r0
  obtain rfl : args = #[v0] := by cases args; simp_all
  obtain ⟨rfl, rfl⟩ := trodVars_none hV
  obtain ⟨a0, len0, cap0, rfl⟩ := okWide_slice Tryd.underlying22 (hval 0 22 v0 rfl rfl)
  have k0 := h0
  have lt0 : ∀ x ∈ p0, x.block < W.heap.size := by obtain ⟨m, hm⟩ := k0; exact DataW.trod_lt m _ _ _ hm
  obtain ⟨z0, w0⟩ : ∃ zs, IsRow .u8 W a0 len0 cap0 zs := by
    obtain ⟨fuel, hf⟩ := h0
    rcases open_ints Tryd.underlying22 Tryd.underlying5 (by kernel_rfl) hf with ⟨hcs, _⟩ | ⟨x, l, c, zs, hcs, _, hl, hm, hz, _, hcell, hwz⟩
    · simp [Value.cells] at hcs
      obtain ⟨rfl, rfl, rfl⟩ := hcs
      exact ⟨[], .inl ⟨rfl, rfl, rfl, rfl⟩⟩
    · simp [Value.cells] at hcs
      obtain ⟨rfl, rfl, rfl⟩ := hcs
      exact ⟨zs, .inr ⟨_, rfl, hl, hm, by simpa using hz, hcell, hwz⟩⟩
  clear hA0
  simp only [List.append_nil] at hW'
  refine (walk a0 len0 cap0 z0 W w0 hL hsh).mono fun e W' ⟨he, bel⟩ => ?_
  subst he
  exact ⟨_, rfl, _, _, _, [], _, [], hW', trodAll_mk1 (shut_bool Tryd.underlying4 _), (trodAll_cons_mk (Below.trod laidOut (by kernel_rfl) (of_decide_eq_true (by kernel_rfl)) k0 bel lt0) trodAll_mk0), rfl, bel.frame _, fun h => by cases h⟩

theorem door_met (os : Os) (args : Array Value) : laidMetH Tryd.prog Rows.fnTicksRow.laid ((World.doorLaid Tryd.prog 400 os).forCall (fun _ _ => 0) ⟨#[], args, []⟩).memory :=
  laidMetH_of_parts3 (fuel := 8) (laidMet_of_run' 8 (by kernel_rfl) (by kernel_rfl)) (by kernel_rfl) (by kernel_rfl)
theorem reads (os : Os) {H : Type} (enc : TypeId × Value → H) : ∃ places, DataW.whole enc Tryd.prog ((World.doorLaid Tryd.prog 400 os).forCall (fun _ _ => 0) ⟨#[], #[.slice none 0 0], []⟩).memory Tryd.f3.params.toList Rows.fnTicksSpec.vars false #[Value.slice none 0 0].toList 8 = some ([.nil], [], places) :=
  ⟨[], by kernel_rfl⟩

set_option maxRecDepth 100000 in
theorem lifted (os : Os) (started : os.Started) (H : Type) (enc : TypeId × Value → H) (F : Stop.Interp) :
    ReturnsInHanded {} Tryd.checked os 3 .any ((OpenSpec.ofChange Rows.fnTicksSpec).preRow enc Tryd.prog Tryd.f3 Rows.fnTicksRow.domain false Rows.fnTicksRow.laid) (((OpenSpec.ofChange Rows.fnTicksSpec).at F).post enc Tryd.prog Tryd.f3 false true false false) := by
  obtain ⟨places, hx⟩ := reads os enc
  refine returnsInHanded_of_row (C := Tryd.checked) (s := OpenSpec.ofChange Rows.fnTicksSpec) own started (by kernel_rfl) Tryd.func3
    (witness_row_atRef (enc := enc) (C := Tryd.checked) false (World.doorLaid Tryd.prog 400 os) #[.slice none 0 0] rfl (by kernel_rfl) (by kernel_rfl) (by kernel_rfl)
      (OpenSpec.preRow_of_cond 8 hx (by kernel_rfl) (fun k hk => by cases hk) (by kernel_rfl) (door_met os _))) ?_
  intro W base args ds gs before hval hW _ _ _ hL hsh _
  exact contract H enc W base args ds gs before hval hW hL hsh

theorem said : Rows.FnTicksSaid :=
  OpenClaim.holds_of_cond 3 Tryd.f3 rfl rfl rfl rfl rfl rfl rfl ⟨rfl, rfl, rfl, rfl, rfl⟩ rfl rfl rfl rfl rfl (by kernel_rfl) Tryd.func3 (by kernel_rfl)
    (of_decide_eq_true (by kernel_rfl)) (by unfold Func.isWrapper; first | (rw [if_pos (by decide +kernel)]; kernel_rfl) | (rw [if_neg (by decide +kernel)]; exact ⟨rfl, rfl⟩))
    (fun os started H enc _ F => by rw [OpenClaim.pre_eq_preRow]; exact lifted os started H enc F)

theorem plain (f : FuncId) (fn : Func) (hf : Tryd.pinned.checked.prog.funcNamed Rows.fnTicksRow.func = some f) (hfn : Tryd.pinned.checked.prog.funcs[f]? = some fn) :
    Rows.fnTicksCard.stood.looks = Tryd.pinned.checked.prog.looks [] ∧ ∀ (j : Nat) t, fn.params[j]? = some t → Tryd.pinned.checked.prog.wantsStandIn t = false := by
  obtain rfl : f = 3 := Option.some.inj ((show Tryd.prog.funcNamed Rows.fnTicksRow.func = some 3 by kernel_rfl).symm.trans hf) |>.symm
  obtain rfl : fn = Tryd.f3 := (Option.some.inj (Tryd.func3.symm.trans hfn)).symm
  refine ⟨by kernel_rfl, fun j t ht => ?_⟩
  rw [Tryd.params3] at ht
  have hm := Array.mem_of_getElem? ht
  obtain rfl : t = 22 := by simpa using hm
  exact (show Tryd.prog.wantsStandIn 22 = false by kernel_rfl)

theorem proved : Rows.FnTicksCardSaid :=
  Claim7.holds_tied_plain_at .later [] _ _ _ _ said (fun _ h => by cases h) (by kernel_rfl) (fun _ h => by cases h) fnTicks_row_tie rfl ⟨rfl, rfl⟩ (by kernel_rfl) rfl plain (by kernel_rfl)
#print axioms proved
end Go.Proofs.YtddomgankmkggaaDoor.fnTicks
