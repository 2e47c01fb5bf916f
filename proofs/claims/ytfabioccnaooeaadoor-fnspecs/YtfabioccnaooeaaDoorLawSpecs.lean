/-
  THE WALK of laws.FnSpecs over this seat's translation: it answers true and turns nothing that was there, whatever spec and number are drawn.
-/
import Derived.Test.YtfabioccnaooeaaDoorSpQ
import Derived.Test.YtfabioccnaooeaaDoorSpT
import Derived.Test.YtfabioccnaooeaaDoorRw
import Derived.Test.YtfabioccnaooeaaDoorDrawRw
import Derived.Test.YtfabioccnaooeaaDoorByteAt
import Derived.Deep.DeepCutAuto
import Derived.Deep.Cut
namespace Go.Proofs.YtfabioccnaooeaaDoor.LawSpecs
open Go.ChangeShapes Go.WideShapes Go.ChangeAt Go.RowKit
open Go.Proofs.YtfabioccnaooeaaDoor.LK Go.Proofs.YtfabioccnaooeaaDoor.Sp Go.Proofs.YtfabioccnaooeaaDoor.Str
open Go.Proofs.YtfabioccnaooeaaDoor.Ints (big_any)
open Go.Proofs.YtfabioccnaooeaaDoor.Env (Lib3)
open Go.Proofs.YtfabioccnaooeaaDoor.DrawRw (RwSaid)
set_option linter.unusedVariables false
set_option linter.unusedSimpArgs false
theorem wait_zero {x0 x1 x2 x3 x4 x5 x6 x7 x8 x9 x10 : Int} (hs : specB x0 x1 x2 x3 x4 x5 x6 x7 x8 x9 x10 = true) : Rw.waitV x0 x1 x2 x3 x4 x5 x6 x7 x8 x9 x10 0 = 0 := by simp [Rw.waitV, hs]
theorem wait_no {x0 x1 x2 x3 x4 x5 x6 x7 x8 x9 x10 : Int} (n : Int) (hs : specB x0 x1 x2 x3 x4 x5 x6 x7 x8 x9 x10 = false) : Rw.waitV x0 x1 x2 x3 x4 x5 x6 x7 x8 x9 x10 n = -1 := by simp [Rw.waitV, hs]
theorem wait_up {x0 x1 x2 x3 x4 x5 x6 x7 x8 x9 x10 : Int} (hs : specB x0 x1 x2 x3 x4 x5 x6 x7 x8 x9 x10 = true) (k : Nat) (hk : 1 ≤ k) : Rw.waitV x0 x1 x2 x3 x4 x5 x6 x7 x8 x9 x10 k ≤ x6 ∧ Rw.waitV x0 x1 x2 x3 x4 x5 x6 x7 x8 x9 x10 (k - 1) ≤ Rw.waitV x0 x1 x2 x3 x4 x5 x6 x7 x8 x9 x10 k := by
  have hb := specB_t hs
  have h5 : 1 ≤ x5 := by omega
  have h56 : x5 ≤ x6 := by omega
  have e1 : Rw.waitV x0 x1 x2 x3 x4 x5 x6 x7 x8 x9 x10 k = min (Rw.dblN x5 x6 (k - 1)) x6 := by
    have h1 : (k : Int) ≠ 0 := by omega
    have h2 : (0 : Int) ≤ (k : Int) := by omega
    have h3 : ((k : Int) - 1).toNat = k - 1 := by omega
    unfold Rw.waitV
    rw [if_pos ⟨hs, h2⟩, if_neg h1, h3]
  rw [e1]
  refine ⟨by omega, ?_⟩
  by_cases h1 : k = 1
  · subst h1
    have h0 : ((1 : Nat) : Int) - 1 = 0 := rfl
    rw [h0, wait_zero hs]
    have := (Rw.dbl_bd h5 h56 0).1
    simp only [Nat.sub_self]
    omega
  · obtain ⟨j, rfl⟩ : ∃ j, k = j + 2 := ⟨k - 2, by omega⟩
    have e2 : Rw.waitV x0 x1 x2 x3 x4 x5 x6 x7 x8 x9 x10 (((j + 2 : Nat) : Int) - 1) = min (Rw.dblN x5 x6 j) x6 := by
      have h1 : (((j + 2 : Nat) : Int) - 1) ≠ 0 := by omega
      have h2 : (0 : Int) ≤ (((j + 2 : Nat) : Int) - 1) := by omega
      have h3 : ((((j + 2 : Nat) : Int) - 1) - 1).toNat = j := by omega
      unfold Rw.waitV
      rw [if_pos ⟨hs, h2⟩, if_neg h1, h3]
    have h3 : j + 2 - 1 = j + 1 := by omega
    rw [e2, h3]
    have := Rw.dbl_up h5 h56 j
    omega
theorem wait_ge {x0 x1 x2 x3 x4 x5 x6 x7 x8 x9 x10 : Int} (hs : specB x0 x1 x2 x3 x4 x5 x6 x7 x8 x9 x10 = true) (k : Nat) : 0 ≤ Rw.waitV x0 x1 x2 x3 x4 x5 x6 x7 x8 x9 x10 k := by
  have hb := specB_t hs
  by_cases h : k = 0
  · subst h
    have : Rw.waitV x0 x1 x2 x3 x4 x5 x6 x7 x8 x9 x10 ((0 : Nat) : Int) = 0 := wait_zero hs
    rw [this]; omega
  · have h1 : (k : Int) ≠ 0 := by omega
    have h2 : (0 : Int) ≤ (k : Int) := by omega
    have h3 := (Rw.dbl_bd (b := x5) (c := x6) (by omega) (by omega) ((k : Int) - 1).toNat).1
    unfold Rw.waitV
    rw [if_pos ⟨hs, h2⟩, if_neg h1]
    omega
set_option maxRecDepth 100000 in
set_option maxHeartbeats 12800000 in
theorem law_specs (A : Option Addr) (n c : Nat) (w : World) (hE : Lib3 w.heap.size w) (hD : n ≤ 1048576 → Calls Tryd.prog 7 #[.slice A n c] w (RwSaid w)) :
    Calls Tryd.prog 3 #[.slice A n c] w fun e w' => e = .returned (.bool true) ∧ Below w.heap.size w w' := by
  have HDR := Lib.hid hD
  have HE := Lib.hid hE
  clear hD hE
  by_cases hbig : (1048576 : Int) < n
  · have hd : decide ((1048576 : Int) < n) = true := by simp; omega
    go_enter Tryd.func3, Tryd.ntmps3
    go_wp2_with (go_at_call 6; refine (big_any A n c _).mono ?_; rintro e w' ⟨rfl, rfl⟩)
    go_ret
    exact ⟨rfl, Below.refl _ _⟩
  have hd : decide ((1048576 : Int) < n) = false := by simp; omega
  have hn : n ≤ 1048576 := by omega
  clear hbig
  go_enter Tryd.func3, Tryd.ntmps3
  go_wp2_with (go_at_call 6; refine (big_any A n c _).mono ?_; rintro e w' ⟨rfl, rfl⟩)
  refine (HDR.out hn).mono ?_
  clear HDR hn hd
  rintro e w1 ⟨x0, x1, x2, x3, x4, x5, x6, x7, x8, x9, x10, m, rfl, hm, hb1⟩
  obtain ⟨V, hV⟩ : ∃ V, V = w1.alloc (.cells #[.int .i64 x0, .int .i64 x1, .int .i64 x2, .int .i64 x3, .int .i64 x4, .int .i64 x5, .int .i64 x6, .int .i64 x7, .int .i64 x8, .int .i64 x9, .int .i64 x10] 25) := ⟨_, rfl⟩
  have hbV : Below w1.heap.size w1 V := by rw [hV]; exact bel1 _ _
  have KS : Hid (V.heap[w1.heap.size]? = some (.cells #[.int .i64 x0, .int .i64 x1, .int .i64 x2, .int .i64 x3, .int .i64 x4, .int .i64 x5, .int .i64 x6, .int .i64 x7, .int .i64 x8, .int .i64 x9, .int .i64 x10] 25)) := by rw [hV]; exact box_new w1 _
  have HB := Lib.hid (bel_then hb1 hbV hb1.size)
  clear hb1 hbV
  obtain ⟨T, hT⟩ : ∃ T, T = SpT.textV x0 x1 x2 x3 x4 x5 x6 x7 x8 x9 x10 := ⟨_, rfl⟩
  have CT : Hid (∀ W, Below w.heap.size w W → Calls Tryd.prog 8 #[.agg #[.int .i64 x0, .int .i64 x1, .int .i64 x2, .int .i64 x3, .int .i64 x4, .int .i64 x5, .int .i64 x6, .int .i64 x7, .int .i64 x8, .int .i64 x9, .int .i64 x10]] W (Says (.tuple #[.string T.1, .bool T.2]) W)) := fun W h => by rw [hT]; exact SpT.specText_any x0 x1 x2 x3 x4 x5 x6 x7 x8 x9 x10 W (Lib.tabBelow_of_tabIs (HE.out.on h).tab.here)
  obtain ⟨sp, hsp⟩ : ∃ b, b = specB x0 x1 x2 x3 x4 x5 x6 x7 x8 x9 x10 := ⟨_, rfl⟩
  have CS : Hid (∀ W, Calls Tryd.prog 9 #[.agg #[.int .i64 x0, .int .i64 x1, .int .i64 x2, .int .i64 x3, .int .i64 x4, .int .i64 x5, .int .i64 x6, .int .i64 x7, .int .i64 x8, .int .i64 x9, .int .i64 x10]] W (Says (.bool sp) W)) := fun W => by rw [hsp]; exact specSpecOk_any x0 x1 x2 x3 x4 x5 x6 x7 x8 x9 x10 W
  obtain ⟨rw_, hrw⟩ : ∃ f : Int → Int, f = fun k => Rw.waitV x0 x1 x2 x3 x4 x5 x6 x7 x8 x9 x10 k := ⟨_, rfl⟩
  have CW : Hid (∀ k : Int, k ≤ 100 → ∀ W, Calls Tryd.prog 10 #[.agg #[.int .i64 x0, .int .i64 x1, .int .i64 x2, .int .i64 x3, .int .i64 x4, .int .i64 x5, .int .i64 x6, .int .i64 x7, .int .i64 x8, .int .i64 x9, .int .i64 x10], .int .i64 k] W (Says (.int .i64 (rw_ k)) W)) := fun k hk W => by rw [hrw]; exact Rw.retryWait_any x0 x1 x2 x3 x4 x5 x6 x7 x8 x9 x10 k W (by omega)
  have CV : Hid (∀ k : Int, k ≤ 100 → ∀ W, Calls Tryd.prog 12 #[.agg #[.int .i64 x0, .int .i64 x1, .int .i64 x2, .int .i64 x3, .int .i64 x4, .int .i64 x5, .int .i64 x6, .int .i64 x7, .int .i64 x8, .int .i64 x9, .int .i64 x10], .int .i64 k] W (Says (.int .i64 (rw_ k)) W)) := fun k hk W => by rw [hrw]; exact Rw.specRetryWait_any x0 x1 x2 x3 x4 x5 x6 x7 x8 x9 x10 k W (by omega)
  have HNO : Hid (sp = false → ∀ k, rw_ k = -1) := fun h k => by rw [hrw]; exact wait_no k (by rw [← hsp]; exact h)
  have HYES : Hid (sp = true → rw_ 0 = 0 ∧ ∀ k : Nat, 1 ≤ k → rw_ k ≤ x6 ∧ rw_ (k - 1) ≤ rw_ k) := fun h => by rw [hrw]; exact ⟨wait_zero (by rw [← hsp]; exact h), fun k hk => wait_up (by rw [← hsp]; exact h) k hk⟩
  have HT2 : Hid (T.2 = sp) := by show T.2 = sp; rw [hT, hsp]; unfold SpT.textV; split <;> simp [*]
  have HT1 : Hid (sp = true → T.1 = bstr (SpT.textL [x0, x1, x2, x3, x4, x5, x6, x7, x8, x9, x10]) ∧ SpW.IsT (SpT.textL [x0, x1, x2, x3, x4, x5, x6, x7, x8, x9, x10]) [x0, x1, x2, x3, x4, x5, x6, x7, x8, x9, x10] ∧ (SpT.textL [x0, x1, x2, x3, x4, x5, x6, x7, x8, x9, x10]).length ≤ 2000000) := fun h => by
    rw [hsp] at h
    have hi : SpW.IsT (SpT.textL [x0, x1, x2, x3, x4, x5, x6, x7, x8, x9, x10]) [x0, x1, x2, x3, x4, x5, x6, x7, x8, x9, x10] := ⟨rfl, h, rfl⟩
    exact ⟨by rw [hT]; simp [SpT.textV, h], hi, by have := SpW.isT_len hi; omega⟩
  clear hsp hrw hT
  obtain ⟨tx, tb⟩ := T
  obtain rfl : tb = sp := HT2.out
  clear HT2
  have c0 := box_cell KS.out 0 _ rfl
  have c1 := box_cell KS.out 1 _ rfl
  have c2 := box_cell KS.out 2 _ rfl
  have c3 := box_cell KS.out 3 _ rfl
  have c4 := box_cell KS.out 4 _ rfl
  have c5 := box_cell KS.out 5 _ rfl
  have c6 := box_cell KS.out 6 _ rfl
  have c7 := box_cell KS.out 7 _ rfl
  have c8 := box_cell KS.out 8 _ rfl
  have c9 := box_cell KS.out 9 _ rfl
  have c10 := box_cell KS.out 10 _ rfl
  go_wp2_with fail
  rw [← hV]
  clear hV
  refine (CT.out _ HB.out).mono ?_
  rintro e w2 ⟨rfl, hb⟩
  have KS' := Lib.hid (box_below KS.out hb)
  have HB' := Lib.hid (bel_then HB.out hb HB.out.size)
  clear KS HB hb
  have KS := KS'
  have HB := HB'
  clear KS' HB'
  clear c0 c1 c2 c3 c4 c5 c6 c7 c8 c9 c10
  have c0 := box_cell KS.out 0 _ rfl
  have c1 := box_cell KS.out 1 _ rfl
  have c2 := box_cell KS.out 2 _ rfl
  have c3 := box_cell KS.out 3 _ rfl
  have c4 := box_cell KS.out 4 _ rfl
  have c5 := box_cell KS.out 5 _ rfl
  have c6 := box_cell KS.out 6 _ rfl
  have c7 := box_cell KS.out 7 _ rfl
  have c8 := box_cell KS.out 8 _ rfl
  have c9 := box_cell KS.out 9 _ rfl
  have c10 := box_cell KS.out 10 _ rfl
  go_wp2_with fail
  refine (CS.out _).mono ?_
  rintro e w3 ⟨rfl, hb⟩
  have KS' := Lib.hid (box_below KS.out hb)
  have HB' := Lib.hid (bel_then HB.out hb HB.out.size)
  clear KS HB hb
  have KS := KS'
  have HB := HB'
  clear KS' HB'
  clear c0 c1 c2 c3 c4 c5 c6 c7 c8 c9 c10
  clear CT CS
  have h00 : (tb != tb) = false := by simp
  cases tb
  · have hno := HNO.out rfl m
    have c0 := box_cell KS.out 0 _ rfl
    have c1 := box_cell KS.out 1 _ rfl
    have c2 := box_cell KS.out 2 _ rfl
    have c3 := box_cell KS.out 3 _ rfl
    have c4 := box_cell KS.out 4 _ rfl
    have c5 := box_cell KS.out 5 _ rfl
    have c6 := box_cell KS.out 6 _ rfl
    have c7 := box_cell KS.out 7 _ rfl
    have c8 := box_cell KS.out 8 _ rfl
    have c9 := box_cell KS.out 9 _ rfl
    have c10 := box_cell KS.out 10 _ rfl
    go_wp2_with fail
    refine (CW.out m (by omega) _).mono ?_
    rintro e w4 ⟨rfl, hb⟩
    have HBF := Lib.hid (bel_then HB.out hb HB.out.size)
    clear hb
    rw [hno]
    go_wp2
    go_ret
    exact ⟨rfl, HBF.out⟩
  clear HNO h00
  obtain ⟨hw0, hup⟩ := HYES.out rfl
  have HW0 := Lib.hid hw0
  have HUP := Lib.hid hup
  clear hup hw0 HYES
  obtain ⟨htx, hit, hlen⟩ := HT1.out rfl
  have htx' : tx = bstr (SpT.textL [x0, x1, x2, x3, x4, x5, x6, x7, x8, x9, x10]) := htx
  subst htx'
  clear HT1 htx
  have HIT := Lib.hid hit
  clear hit
  obtain ⟨tl, htl⟩ : ∃ l, l = SpT.textL [x0, x1, x2, x3, x4, x5, x6, x7, x8, x9, x10] := ⟨_, rfl⟩
  rw [← htl] at HIT hlen ⊢
  clear htl
  go_wp2_with fail
  refine (SpR.parseSpec_any tl w.heap.size _ (HE.out.on HB.out) HB.out.size hlen).mono ?_
  rintro e w5 ⟨y0, y1, y2, y3, y4, y5, y6, y7, y8, y9, y10, b, rfl, hb, hpq⟩
  obtain ⟨rfl, hq⟩ : b = true ∧ ([x0, x1, x2, x3, x4, x5, x6, x7, x8, x9, x10] : List Int) = [y0, y1, y2, y3, y4, y5, y6, y7, y8, y9, y10] := by
    rcases hpq with ⟨h1, h2⟩ | ⟨_, _, h3⟩
    · exact ⟨h1, SpW.isT_one HIT.out h2⟩
    · exact absurd HIT.out (h3 _)
  simp only [List.cons.injEq, and_true] at hq
  obtain ⟨rfl, rfl, rfl, rfl, rfl, rfl, rfl, rfl, rfl, rfl, rfl⟩ := hq
  clear hpq HIT hlen
  have KS' := Lib.hid (box_alloc (box_below KS.out hb) (.cells #[.int .i64 x0, .int .i64 x1, .int .i64 x2, .int .i64 x3, .int .i64 x4, .int .i64 x5, .int .i64 x6, .int .i64 x7, .int .i64 x8, .int .i64 x9, .int .i64 x10] 25))
  have hB5 := bel_then HB.out hb HB.out.size
  have HB' := Lib.hid (hB5.alloc hB5.size (.cells #[.int .i64 x0, .int .i64 x1, .int .i64 x2, .int .i64 x3, .int .i64 x4, .int .i64 x5, .int .i64 x6, .int .i64 x7, .int .i64 x8, .int .i64 x9, .int .i64 x10] 25))
  have KB := Lib.hid (box_new w5 (.cells #[.int .i64 x0, .int .i64 x1, .int .i64 x2, .int .i64 x3, .int .i64 x4, .int .i64 x5, .int .i64 x6, .int .i64 x7, .int .i64 x8, .int .i64 x9, .int .i64 x10] 25))
  clear KS HB hb hB5
  have KS := KS'
  have HB := HB'
  clear KS' HB'
  have c0 := box_cell KS.out 0 _ rfl
  have c1 := box_cell KS.out 1 _ rfl
  have c2 := box_cell KS.out 2 _ rfl
  have c3 := box_cell KS.out 3 _ rfl
  have c4 := box_cell KS.out 4 _ rfl
  have c5 := box_cell KS.out 5 _ rfl
  have c6 := box_cell KS.out 6 _ rfl
  have c7 := box_cell KS.out 7 _ rfl
  have c8 := box_cell KS.out 8 _ rfl
  have c9 := box_cell KS.out 9 _ rfl
  have c10 := box_cell KS.out 10 _ rfl
  have b0 := box_cell KB.out 0 _ rfl
  have b1 := box_cell KB.out 1 _ rfl
  have b2 := box_cell KB.out 2 _ rfl
  have b3 := box_cell KB.out 3 _ rfl
  have b4 := box_cell KB.out 4 _ rfl
  have b5 := box_cell KB.out 5 _ rfl
  have b6 := box_cell KB.out 6 _ rfl
  have b7 := box_cell KB.out 7 _ rfl
  have b8 := box_cell KB.out 8 _ rfl
  have b9 := box_cell KB.out 9 _ rfl
  have b10 := box_cell KB.out 10 _ rfl
  go_wp2_with fail
  clear c0 c1 c2 c3 c4 c5 c6 c7 c8 c9 c10 b0 b1 b2 b3 b4 b5 b6 b7 b8 b9 b10 KB
  go_loopw [9, 10] (fun i v wr => ∃ k : Nat, 1 ≤ k ∧ k ≤ 14 ∧ i = .int .i64 k ∧ Hid (wr.heap[w1.heap.size]? = some (.cells #[.int .i64 x0, .int .i64 x1, .int .i64 x2, .int .i64 x3, .int .i64 x4, .int .i64 x5, .int .i64 x6, .int .i64 x7, .int .i64 x8, .int .i64 x9, .int .i64 x10] 25)) ∧ Hid (Below w.heap.size w wr)) (fun i _ _ => 14 - (intOf i).toNat)
  case atStart => exact ⟨1, by omega, by omega, rfl, KS, HB⟩
  case round =>
    clear KS HB
    obtain ⟨k, hk1, hk14, rfl, KS, HB⟩ := hrel
    by_cases hlt : k < 14
    case neg =>
      have C0 : Hid (∀ W, Calls Tryd.prog 10 #[.agg #[.int .i64 x0, .int .i64 x1, .int .i64 x2, .int .i64 x3, .int .i64 x4, .int .i64 x5, .int .i64 x6, .int .i64 x7, .int .i64 x8, .int .i64 x9, .int .i64 x10], .int .i64 0] W (Says (.int .i64 0) W)) := fun W => by have h := CW.out 0 (by omega) W; rw [HW0.out] at h; exact h
      have c0 := box_cell KS.out 0 _ rfl
      have c1 := box_cell KS.out 1 _ rfl
      have c2 := box_cell KS.out 2 _ rfl
      have c3 := box_cell KS.out 3 _ rfl
      have c4 := box_cell KS.out 4 _ rfl
      have c5 := box_cell KS.out 5 _ rfl
      have c6 := box_cell KS.out 6 _ rfl
      have c7 := box_cell KS.out 7 _ rfl
      have c8 := box_cell KS.out 8 _ rfl
      have c9 := box_cell KS.out 9 _ rfl
      have c10 := box_cell KS.out 10 _ rfl
      go_wp2_with fail
      refine (C0.out _).mono ?_
      rintro e w9 ⟨rfl, hb⟩
      have HBF := Lib.hid (bel_then HB.out hb HB.out.size)
      clear hb c0 c1 c2 c3 c4 c5 c6 c7 c8 c9 c10
      go_wp2
      go_ret
      exact ⟨rfl, HBF.out⟩
    obtain ⟨hle, hup⟩ := HUP.out k hk1
    obtain ⟨a, ha⟩ : ∃ a, a = rw_ (k : Int) := ⟨_, rfl⟩
    obtain ⟨d, hd⟩ : ∃ d, d = rw_ ((k : Int) - 1) := ⟨_, rfl⟩
    rw [← ha] at hle hup
    rw [← hd] at hup
    have Ca : Hid (∀ W, Calls Tryd.prog 10 #[.agg #[.int .i64 x0, .int .i64 x1, .int .i64 x2, .int .i64 x3, .int .i64 x4, .int .i64 x5, .int .i64 x6, .int .i64 x7, .int .i64 x8, .int .i64 x9, .int .i64 x10], .int .i64 (k : Int)] W (Says (.int .i64 a) W)) := fun W => by rw [ha]; exact CW.out k (by omega) W
    have Cd : Hid (∀ W, Calls Tryd.prog 10 #[.agg #[.int .i64 x0, .int .i64 x1, .int .i64 x2, .int .i64 x3, .int .i64 x4, .int .i64 x5, .int .i64 x6, .int .i64 x7, .int .i64 x8, .int .i64 x9, .int .i64 x10], .int .i64 ((k : Int) - 1)] W (Says (.int .i64 d) W)) := fun W => by rw [hd]; exact CW.out _ (by omega) W
    have Cv : Hid (∀ W, Calls Tryd.prog 12 #[.agg #[.int .i64 x0, .int .i64 x1, .int .i64 x2, .int .i64 x3, .int .i64 x4, .int .i64 x5, .int .i64 x6, .int .i64 x7, .int .i64 x8, .int .i64 x9, .int .i64 x10], .int .i64 (k : Int)] W (Says (.int .i64 a) W)) := fun W => by rw [ha]; exact CV.out k (by omega) W
    clear ha hd
    have haa : (a != a) = false := by simp
    have c0 := box_cell KS.out 0 _ rfl
    have c1 := box_cell KS.out 1 _ rfl
    have c2 := box_cell KS.out 2 _ rfl
    have c3 := box_cell KS.out 3 _ rfl
    have c4 := box_cell KS.out 4 _ rfl
    have c5 := box_cell KS.out 5 _ rfl
    have c6 := box_cell KS.out 6 _ rfl
    have c7 := box_cell KS.out 7 _ rfl
    have c8 := box_cell KS.out 8 _ rfl
    have c9 := box_cell KS.out 9 _ rfl
    have c10 := box_cell KS.out 10 _ rfl
    go_wp2_with fail
    refine (Ca.out _).mono ?_
    rintro e w6 ⟨rfl, hb⟩
    have KS' := Lib.hid (box_below KS.out hb)
    have HB' := Lib.hid (bel_then HB.out hb HB.out.size)
    clear KS HB hb
    have KS := KS'
    have HB := HB'
    clear KS' HB'
    clear c0 c1 c2 c3 c4 c5 c6 c7 c8 c9 c10
    have c0 := box_cell KS.out 0 _ rfl
    have c1 := box_cell KS.out 1 _ rfl
    have c2 := box_cell KS.out 2 _ rfl
    have c3 := box_cell KS.out 3 _ rfl
    have c4 := box_cell KS.out 4 _ rfl
    have c5 := box_cell KS.out 5 _ rfl
    have c6 := box_cell KS.out 6 _ rfl
    have c7 := box_cell KS.out 7 _ rfl
    have c8 := box_cell KS.out 8 _ rfl
    have c9 := box_cell KS.out 9 _ rfl
    have c10 := box_cell KS.out 10 _ rfl
    go_wp2_with fail
    refine (Cd.out _).mono ?_
    rintro e w7 ⟨rfl, hb⟩
    have KS' := Lib.hid (box_below KS.out hb)
    have HB' := Lib.hid (bel_then HB.out hb HB.out.size)
    clear KS HB hb
    have KS := KS'
    have HB := HB'
    clear KS' HB'
    clear c0 c1 c2 c3 c4 c5 c6 c7 c8 c9 c10
    have c0 := box_cell KS.out 0 _ rfl
    have c1 := box_cell KS.out 1 _ rfl
    have c2 := box_cell KS.out 2 _ rfl
    have c3 := box_cell KS.out 3 _ rfl
    have c4 := box_cell KS.out 4 _ rfl
    have c5 := box_cell KS.out 5 _ rfl
    have c6 := box_cell KS.out 6 _ rfl
    have c7 := box_cell KS.out 7 _ rfl
    have c8 := box_cell KS.out 8 _ rfl
    have c9 := box_cell KS.out 9 _ rfl
    have c10 := box_cell KS.out 10 _ rfl
    go_wp2_with fail
    refine (Cv.out _).mono ?_
    rintro e w8 ⟨rfl, hb⟩
    have KS' := Lib.hid (box_below KS.out hb)
    have HB' := Lib.hid (bel_then HB.out hb HB.out.size)
    clear KS HB hb
    have KS := KS'
    have HB := HB'
    clear KS' HB'
    clear c0 c1 c2 c3 c4 c5 c6 c7 c8 c9 c10
    go_wp2
    go_round
    case rel => exact ⟨k + 1, by omega, by omega, by go_num, KS, HB⟩
    case measure => simp [intOf]; omega
end Go.Proofs.YtfabioccnaooeaaDoor.LawSpecs
