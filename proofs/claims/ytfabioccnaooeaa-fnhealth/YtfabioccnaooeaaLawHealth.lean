/-
  THE WALK of laws.FnHealth over this seat's translation: it answers true and turns nothing that was there, whatever spec, pod and tick are drawn.
-/
import Derived.Test.YtfabioccnaooeaaHi
import Derived.Test.YtfabioccnaooeaaByteAt
import Derived.Deep.DeepCutAuto
import Derived.Deep.Cut
namespace Go.Proofs.Ytfabioccnaooeaa.Hl
open Go.ChangeShapes Go.WideShapes Go.ChangeAt Go.RowKit
open Go.Proofs.Ytfabioccnaooeaa.LK Go.Proofs.Ytfabioccnaooeaa.Sp
open Go.Proofs.Ytfabioccnaooeaa.Ints (big_any)
open Go.Proofs.Ytfabioccnaooeaa.Tick (tokB tok_t tok_f sinceV specTickOk_any)
set_option linter.unusedVariables false
set_option linter.unusedSimpArgs false
/-- Some spec, pod and number, drawn. -/
def HlSaid (w : World) (e : Ending) (w' : World) : Prop := ∃ (x0 x1 x2 x3 x4 x5 x6 x7 x8 x9 x10 p0 p1 p2 p3 p4 now : Int), e = .returned (.tuple #[.agg #[.int .i64 x0, .int .i64 x1, .int .i64 x2, .int .i64 x3, .int .i64 x4, .int .i64 x5, .int .i64 x6, .int .i64 x7, .int .i64 x8, .int .i64 x9, .int .i64 x10], .agg #[.int .i64 p0, .int .i64 p1, .int .i64 p2, .int .i64 p3, .int .i64 p4], .int .i64 now]) ∧ Below w.heap.size w w'
theorem never_both (x0 x1 x2 x3 x4 x5 x6 x7 x8 x9 x10 p2 p4 now : Int) : (availB x0 x1 x2 x3 x4 x5 x6 x7 x8 x9 x10 p2 p4 now && lostB x0 x1 x2 x3 x4 x5 x6 x7 x8 x9 x10 p2 p4 now) = false := by
  unfold availB lostB
  by_cases h : p2 = 2
  · subst h; simp
  · simp [h]
theorem tok_is {a : Int} (h0 : 0 ≤ a) (h1 : a ≤ 1000000000) : tokB a = true := by simp [tokB, h0, h1]
theorem since_at {a b : Int} (ha : tokB a = true) (hb : tokB b = true) : sinceV a b = max 0 (b - a) := by simp [sinceV, ha, hb]
theorem at_next {x0 x1 x2 x3 x4 x5 x6 x7 x8 x9 x10 p2 p4 a : Int} (he : a = nextV x0 x1 x2 x3 x4 x5 x6 x7 x8 x9 x10 p2 p4) (h0 : 0 ≤ a) (ht : tokB a = true) :
    (availB x0 x1 x2 x3 x4 x5 x6 x7 x8 x9 x10 p2 p4 a || lostB x0 x1 x2 x3 x4 x5 x6 x7 x8 x9 x10 p2 p4 a) = true ∧ (a = 0 ∨ a ≤ p4 ∨ (availB x0 x1 x2 x3 x4 x5 x6 x7 x8 x9 x10 p2 p4 (a - 1) = false ∧ lostB x0 x1 x2 x3 x4 x5 x6 x7 x8 x9 x10 p2 p4 (a - 1) = false)) := by
  unfold nextV at he
  split at he
  case isFalse => omega
  rename_i hs
  simp only [Bool.and_eq_true] at hs
  obtain ⟨hs, h4⟩ := hs
  have hb := specB_t hs
  have h4' := tok_t h4
  have ha' := tok_t ht
  by_cases h3 : p2 = 3
  · rw [if_pos h3] at he
    exact ⟨by simp [lostB, hs, ht, h3], .inr (.inl (by omega))⟩
  rw [if_neg h3] at he
  by_cases h2 : p2 = 2
  · rw [if_pos h2] at he
    unfold cutV at he
    split at he
    · omega
    refine ⟨?_, ?_⟩
    · have : x3 ≤ sinceV p4 a := by rw [since_at h4 ht]; omega
      simp [availB, hs, ht, h2, this]
    · by_cases hle : a ≤ p4
      · exact .inr (.inl hle)
      by_cases hz : a = 0
      · exact .inl hz
      have hn : ¬ x3 ≤ sinceV p4 (a - 1) := by rw [since_at h4 (tok_is (by omega) (by omega))]; omega
      exact .inr (.inr ⟨by simp [availB, hn], by simp [lostB, h2]⟩)
  rw [if_neg h2] at he
  by_cases h01 : p2 = 0 ∨ p2 = 1
  · rw [if_pos h01] at he
    unfold cutV at he
    split at he
    · omega
    have h01b : (decide (p2 = 0) || decide (p2 = 1)) = true := by simpa using h01
    refine ⟨?_, ?_⟩
    · have : x7 ≤ sinceV p4 a := by rw [since_at h4 ht]; omega
      simp [lostB, hs, ht, h01b, this]
    · by_cases hle : a ≤ p4
      · exact .inr (.inl hle)
      by_cases hz : a = 0
      · exact .inl hz
      have hn : ¬ x7 ≤ sinceV p4 (a - 1) := by rw [since_at h4 (tok_is (by omega) (by omega))]; omega
      exact .inr (.inr ⟨by simp [availB, h2], by simp [lostB, h3, hn]⟩)
  · rw [if_neg h01] at he
    omega

set_option maxRecDepth 100000 in
set_option maxHeartbeats 12800000 in
theorem law_health (A : Option Addr) (n c : Nat) (w : World) (hD : n ≤ 1048576 → Calls Try.prog 13 #[.slice A n c] w (HlSaid w)) :
    Calls Try.prog 3 #[.slice A n c] w fun e w' => e = .returned (.bool true) ∧ Below w.heap.size w w' := by
  have HDR := Lib.hid hD
  clear hD
  by_cases hbig : (1048576 : Int) < n
  · have hd : decide ((1048576 : Int) < n) = true := by simp; omega
    go_enter Try.func3, Try.ntmps3
    go_wp2_with (go_at_call 12; refine (big_any A n c _).mono ?_; rintro e w' ⟨rfl, rfl⟩)
    go_ret
    exact ⟨rfl, Below.refl _ _⟩
  have hd : decide ((1048576 : Int) < n) = false := by simp; omega
  have hn : n ≤ 1048576 := by omega
  clear hbig
  go_enter Try.func3, Try.ntmps3
  go_wp2_with (go_at_call 12; refine (big_any A n c _).mono ?_; rintro e w' ⟨rfl, rfl⟩)
  refine (HDR.out hn).mono ?_
  clear HDR hn hd
  rintro e w1 ⟨x0, x1, x2, x3, x4, x5, x6, x7, x8, x9, x10, p0, p1, p2, p3, p4, now, rfl, hb1⟩
  obtain ⟨V, hV⟩ : ∃ V, V = (w1.alloc (.cells #[.int .i64 x0, .int .i64 x1, .int .i64 x2, .int .i64 x3, .int .i64 x4, .int .i64 x5, .int .i64 x6, .int .i64 x7, .int .i64 x8, .int .i64 x9, .int .i64 x10] 25)).alloc (.cells #[.int .i64 p0, .int .i64 p1, .int .i64 p2, .int .i64 p3, .int .i64 p4] 27) := ⟨_, rfl⟩
  have hbV : Below w1.heap.size w1 V := by rw [hV]; exact bel2 _ _ _
  have KS : Hid (V.heap[w1.heap.size]? = some (.cells #[.int .i64 x0, .int .i64 x1, .int .i64 x2, .int .i64 x3, .int .i64 x4, .int .i64 x5, .int .i64 x6, .int .i64 x7, .int .i64 x8, .int .i64 x9, .int .i64 x10] 25)) := by have h := box_alloc (box_new w1 (.cells #[.int .i64 x0, .int .i64 x1, .int .i64 x2, .int .i64 x3, .int .i64 x4, .int .i64 x5, .int .i64 x6, .int .i64 x7, .int .i64 x8, .int .i64 x9, .int .i64 x10] 25)) (.cells #[.int .i64 p0, .int .i64 p1, .int .i64 p2, .int .i64 p3, .int .i64 p4] 27); (try simp only [World.size_alloc] at h); rw [hV]; exact h
  have KP : Hid (V.heap[w1.heap.size + 1]? = some (.cells #[.int .i64 p0, .int .i64 p1, .int .i64 p2, .int .i64 p3, .int .i64 p4] 27)) := by have h := box_new (w1.alloc (.cells #[.int .i64 x0, .int .i64 x1, .int .i64 x2, .int .i64 x3, .int .i64 x4, .int .i64 x5, .int .i64 x6, .int .i64 x7, .int .i64 x8, .int .i64 x9, .int .i64 x10] 25)) (.cells #[.int .i64 p0, .int .i64 p1, .int .i64 p2, .int .i64 p3, .int .i64 p4] 27); (try simp only [World.size_alloc] at h); rw [hV]; exact h
  have HB := Lib.hid (bel_then hb1 hbV hb1.size)
  clear hb1 hbV
  obtain ⟨a0, ha0⟩ : ∃ z, z = availB x0 x1 x2 x3 x4 x5 x6 x7 x8 x9 x10 p2 p4 now := ⟨_, rfl⟩
  obtain ⟨l0, hl0⟩ : ∃ z, z = lostB x0 x1 x2 x3 x4 x5 x6 x7 x8 x9 x10 p2 p4 now := ⟨_, rfl⟩
  obtain ⟨at0, hat⟩ : ∃ z, z = nextV x0 x1 x2 x3 x4 x5 x6 x7 x8 x9 x10 p2 p4 := ⟨_, rfl⟩
  obtain ⟨a1, ha1⟩ : ∃ z, z = availB x0 x1 x2 x3 x4 x5 x6 x7 x8 x9 x10 p2 p4 at0 := ⟨_, rfl⟩
  obtain ⟨l1, hl1⟩ : ∃ z, z = lostB x0 x1 x2 x3 x4 x5 x6 x7 x8 x9 x10 p2 p4 at0 := ⟨_, rfl⟩
  obtain ⟨a2, ha2⟩ : ∃ z, z = availB x0 x1 x2 x3 x4 x5 x6 x7 x8 x9 x10 p2 p4 (at0 - 1) := ⟨_, rfl⟩
  obtain ⟨l2, hl2⟩ : ∃ z, z = lostB x0 x1 x2 x3 x4 x5 x6 x7 x8 x9 x10 p2 p4 (at0 - 1) := ⟨_, rfl⟩
  have Ca : Hid (∀ W, Calls Try.prog 14 #[.agg #[.int .i64 x0, .int .i64 x1, .int .i64 x2, .int .i64 x3, .int .i64 x4, .int .i64 x5, .int .i64 x6, .int .i64 x7, .int .i64 x8, .int .i64 x9, .int .i64 x10], .agg #[.int .i64 p0, .int .i64 p1, .int .i64 p2, .int .i64 p3, .int .i64 p4], .int .i64 now] W (Says (.bool a0) W)) := fun W => by rw [ha0]; exact isAvailable_any _ _ _ _ _ _ _ _ _ _ _ _ _ _ _ _ _ _
  have Cl : Hid (∀ W, Calls Try.prog 15 #[.agg #[.int .i64 x0, .int .i64 x1, .int .i64 x2, .int .i64 x3, .int .i64 x4, .int .i64 x5, .int .i64 x6, .int .i64 x7, .int .i64 x8, .int .i64 x9, .int .i64 x10], .agg #[.int .i64 p0, .int .i64 p1, .int .i64 p2, .int .i64 p3, .int .i64 p4], .int .i64 now] W (Says (.bool l0) W)) := fun W => by rw [hl0]; exact isLost_any _ _ _ _ _ _ _ _ _ _ _ _ _ _ _ _ _ _
  have Sa : Hid (∀ W, Calls Try.prog 16 #[.agg #[.int .i64 x0, .int .i64 x1, .int .i64 x2, .int .i64 x3, .int .i64 x4, .int .i64 x5, .int .i64 x6, .int .i64 x7, .int .i64 x8, .int .i64 x9, .int .i64 x10], .agg #[.int .i64 p0, .int .i64 p1, .int .i64 p2, .int .i64 p3, .int .i64 p4], .int .i64 now] W (Says (.bool a0) W)) := fun W => by rw [ha0]; exact specIsAvailable_any _ _ _ _ _ _ _ _ _ _ _ _ _ _ _ _ _ _
  have Sl : Hid (∀ W, Calls Try.prog 17 #[.agg #[.int .i64 x0, .int .i64 x1, .int .i64 x2, .int .i64 x3, .int .i64 x4, .int .i64 x5, .int .i64 x6, .int .i64 x7, .int .i64 x8, .int .i64 x9, .int .i64 x10], .agg #[.int .i64 p0, .int .i64 p1, .int .i64 p2, .int .i64 p3, .int .i64 p4], .int .i64 now] W (Says (.bool l0) W)) := fun W => by rw [hl0]; exact specIsLost_any _ _ _ _ _ _ _ _ _ _ _ _ _ _ _ _ _ _
  have Ca1 : Hid (∀ W, Calls Try.prog 14 #[.agg #[.int .i64 x0, .int .i64 x1, .int .i64 x2, .int .i64 x3, .int .i64 x4, .int .i64 x5, .int .i64 x6, .int .i64 x7, .int .i64 x8, .int .i64 x9, .int .i64 x10], .agg #[.int .i64 p0, .int .i64 p1, .int .i64 p2, .int .i64 p3, .int .i64 p4], .int .i64 at0] W (Says (.bool a1) W)) := fun W => by rw [ha1]; exact isAvailable_any _ _ _ _ _ _ _ _ _ _ _ _ _ _ _ _ _ _
  have Cl1 : Hid (∀ W, Calls Try.prog 15 #[.agg #[.int .i64 x0, .int .i64 x1, .int .i64 x2, .int .i64 x3, .int .i64 x4, .int .i64 x5, .int .i64 x6, .int .i64 x7, .int .i64 x8, .int .i64 x9, .int .i64 x10], .agg #[.int .i64 p0, .int .i64 p1, .int .i64 p2, .int .i64 p3, .int .i64 p4], .int .i64 at0] W (Says (.bool l1) W)) := fun W => by rw [hl1]; exact isLost_any _ _ _ _ _ _ _ _ _ _ _ _ _ _ _ _ _ _
  have Ca2 : Hid (∀ W, Calls Try.prog 14 #[.agg #[.int .i64 x0, .int .i64 x1, .int .i64 x2, .int .i64 x3, .int .i64 x4, .int .i64 x5, .int .i64 x6, .int .i64 x7, .int .i64 x8, .int .i64 x9, .int .i64 x10], .agg #[.int .i64 p0, .int .i64 p1, .int .i64 p2, .int .i64 p3, .int .i64 p4], .int .i64 (at0 - 1)] W (Says (.bool a2) W)) := fun W => by rw [ha2]; exact isAvailable_any _ _ _ _ _ _ _ _ _ _ _ _ _ _ _ _ _ _
  have Cl2 : Hid (∀ W, Calls Try.prog 15 #[.agg #[.int .i64 x0, .int .i64 x1, .int .i64 x2, .int .i64 x3, .int .i64 x4, .int .i64 x5, .int .i64 x6, .int .i64 x7, .int .i64 x8, .int .i64 x9, .int .i64 x10], .agg #[.int .i64 p0, .int .i64 p1, .int .i64 p2, .int .i64 p3, .int .i64 p4], .int .i64 (at0 - 1)] W (Says (.bool l2) W)) := fun W => by rw [hl2]; exact isLost_any _ _ _ _ _ _ _ _ _ _ _ _ _ _ _ _ _ _
  have Cn : Hid (∀ W, Calls Try.prog 18 #[.agg #[.int .i64 x0, .int .i64 x1, .int .i64 x2, .int .i64 x3, .int .i64 x4, .int .i64 x5, .int .i64 x6, .int .i64 x7, .int .i64 x8, .int .i64 x9, .int .i64 x10], .agg #[.int .i64 p0, .int .i64 p1, .int .i64 p2, .int .i64 p3, .int .i64 p4]] W (Says (.int .i64 at0) W)) := fun W => by rw [hat]; exact nextHealth_any _ _ _ _ _ _ _ _ _ _ _ _ _ _ _ _ _
  have Sn : Hid (∀ W, Calls Try.prog 19 #[.agg #[.int .i64 x0, .int .i64 x1, .int .i64 x2, .int .i64 x3, .int .i64 x4, .int .i64 x5, .int .i64 x6, .int .i64 x7, .int .i64 x8, .int .i64 x9, .int .i64 x10], .agg #[.int .i64 p0, .int .i64 p1, .int .i64 p2, .int .i64 p3, .int .i64 p4]] W (Says (.int .i64 at0) W)) := fun W => by rw [hat]; exact specNextHealth_any _ _ _ _ _ _ _ _ _ _ _ _ _ _ _ _ _
  have hnb : (a0 && l0) = false := by rw [ha0, hl0]; exact never_both _ _ _ _ _ _ _ _ _ _ _ _ _ _
  have HN : Hid (0 ≤ at0 → tokB at0 = true → (a1 || l1) = true ∧ (at0 = 0 ∨ at0 ≤ p4 ∨ (a2 = false ∧ l2 = false))) := fun h0 ht => by rw [ha1, hl1, ha2, hl2]; exact at_next hat h0 ht
  clear ha0 hl0 ha1 hl1 ha2 hl2 hat
  have c0 := box_cell KS.out 0 _ rfl
  have c1 := box_cell KS.out 1 _ rfl
  have c2 := box_cell KS.out 2 _ rfl
  have c3 := box_cell KS.out 3 _ rfl
  have c4 := box_cell KS.out 4 _ rfl
  have c5 := box_cell KS.out 5 _ rfl
  have c6 := box_cell KS.out 6 _ rfl
  have c7 := box_cell KS.out 7 _ rfl
  have c8 := box_cell KS.out 8 _ rfl
  have c9 := box_cell KS.out 9 _ rfl
  have c10 := box_cell KS.out 10 _ rfl
  have d0 := box_cell KP.out 0 _ rfl
  have d1 := box_cell KP.out 1 _ rfl
  have d2 := box_cell KP.out 2 _ rfl
  have d3 := box_cell KP.out 3 _ rfl
  have d4 := box_cell KP.out 4 _ rfl
  go_wp2_with fail
  rw [← hV]
  clear hV
  refine (Ca.out _).mono ?_
  rintro e w2 ⟨rfl, hb⟩
  have KS' := Lib.hid (box_below KS.out hb)
  have KP' := Lib.hid (box_below KP.out hb)
  have HB' := Lib.hid (bel_then HB.out hb HB.out.size)
  clear KS KP HB hb
  have KS := KS'
  have KP := KP'
  have HB := HB'
  clear KS' KP' HB'
  clear c0 c1 c2 c3 c4 c5 c6 c7 c8 c9 c10 d0 d1 d2 d3 d4
  have c0 := box_cell KS.out 0 _ rfl
  have c1 := box_cell KS.out 1 _ rfl
  have c2 := box_cell KS.out 2 _ rfl
  have c3 := box_cell KS.out 3 _ rfl
  have c4 := box_cell KS.out 4 _ rfl
  have c5 := box_cell KS.out 5 _ rfl
  have c6 := box_cell KS.out 6 _ rfl
  have c7 := box_cell KS.out 7 _ rfl
  have c8 := box_cell KS.out 8 _ rfl
  have c9 := box_cell KS.out 9 _ rfl
  have c10 := box_cell KS.out 10 _ rfl
  have d0 := box_cell KP.out 0 _ rfl
  have d1 := box_cell KP.out 1 _ rfl
  have d2 := box_cell KP.out 2 _ rfl
  have d3 := box_cell KP.out 3 _ rfl
  have d4 := box_cell KP.out 4 _ rfl
  go_wp2_with fail
  refine (Cl.out _).mono ?_
  rintro e w3 ⟨rfl, hb⟩
  have KS' := Lib.hid (box_below KS.out hb)
  have KP' := Lib.hid (box_below KP.out hb)
  have HB' := Lib.hid (bel_then HB.out hb HB.out.size)
  clear KS KP HB hb
  have KS := KS'
  have KP := KP'
  have HB := HB'
  clear KS' KP' HB'
  clear c0 c1 c2 c3 c4 c5 c6 c7 c8 c9 c10 d0 d1 d2 d3 d4
  have h00 : (a0 != a0) = false := by simp
  have h11 : (l0 != l0) = false := by simp
  have h22 : (at0 != at0) = false := by simp
  have hnb3 : (a0 = false ∧ l0 = false) ∨ (a0 = true ∧ l0 = false) ∨ (a0 = false ∧ l0 = true) := by revert hnb; cases a0 <;> cases l0 <;> simp
  clear hnb
  rcases hnb3 with ⟨rfl, rfl⟩ | ⟨rfl, rfl⟩ | ⟨rfl, rfl⟩
  all_goals
    clear h00 h11 Ca Cl
    have c0 := box_cell KS.out 0 _ rfl
    have c1 := box_cell KS.out 1 _ rfl
    have c2 := box_cell KS.out 2 _ rfl
    have c3 := box_cell KS.out 3 _ rfl
    have c4 := box_cell KS.out 4 _ rfl
    have c5 := box_cell KS.out 5 _ rfl
    have c6 := box_cell KS.out 6 _ rfl
    have c7 := box_cell KS.out 7 _ rfl
    have c8 := box_cell KS.out 8 _ rfl
    have c9 := box_cell KS.out 9 _ rfl
    have c10 := box_cell KS.out 10 _ rfl
    have d0 := box_cell KP.out 0 _ rfl
    have d1 := box_cell KP.out 1 _ rfl
    have d2 := box_cell KP.out 2 _ rfl
    have d3 := box_cell KP.out 3 _ rfl
    have d4 := box_cell KP.out 4 _ rfl
    go_wp2_with fail
    refine (Sa.out _).mono ?_
    rintro e w4 ⟨rfl, hb⟩
    have KS' := Lib.hid (box_below KS.out hb)
    have KP' := Lib.hid (box_below KP.out hb)
    have HB' := Lib.hid (bel_then HB.out hb HB.out.size)
    clear KS KP HB hb
    have KS := KS'
    have KP := KP'
    have HB := HB'
    clear KS' KP' HB'
    clear c0 c1 c2 c3 c4 c5 c6 c7 c8 c9 c10 d0 d1 d2 d3 d4
    have c0 := box_cell KS.out 0 _ rfl
    have c1 := box_cell KS.out 1 _ rfl
    have c2 := box_cell KS.out 2 _ rfl
    have c3 := box_cell KS.out 3 _ rfl
    have c4 := box_cell KS.out 4 _ rfl
    have c5 := box_cell KS.out 5 _ rfl
    have c6 := box_cell KS.out 6 _ rfl
    have c7 := box_cell KS.out 7 _ rfl
    have c8 := box_cell KS.out 8 _ rfl
    have c9 := box_cell KS.out 9 _ rfl
    have c10 := box_cell KS.out 10 _ rfl
    have d0 := box_cell KP.out 0 _ rfl
    have d1 := box_cell KP.out 1 _ rfl
    have d2 := box_cell KP.out 2 _ rfl
    have d3 := box_cell KP.out 3 _ rfl
    have d4 := box_cell KP.out 4 _ rfl
    go_wp2_with fail
    refine (Sl.out _).mono ?_
    rintro e w5 ⟨rfl, hb⟩
    have KS' := Lib.hid (box_below KS.out hb)
    have KP' := Lib.hid (box_below KP.out hb)
    have HB' := Lib.hid (bel_then HB.out hb HB.out.size)
    clear KS KP HB hb
    have KS := KS'
    have KP := KP'
    have HB := HB'
    clear KS' KP' HB'
    clear c0 c1 c2 c3 c4 c5 c6 c7 c8 c9 c10 d0 d1 d2 d3 d4
    have c0 := box_cell KS.out 0 _ rfl
    have c1 := box_cell KS.out 1 _ rfl
    have c2 := box_cell KS.out 2 _ rfl
    have c3 := box_cell KS.out 3 _ rfl
    have c4 := box_cell KS.out 4 _ rfl
    have c5 := box_cell KS.out 5 _ rfl
    have c6 := box_cell KS.out 6 _ rfl
    have c7 := box_cell KS.out 7 _ rfl
    have c8 := box_cell KS.out 8 _ rfl
    have c9 := box_cell KS.out 9 _ rfl
    have c10 := box_cell KS.out 10 _ rfl
    have d0 := box_cell KP.out 0 _ rfl
    have d1 := box_cell KP.out 1 _ rfl
    have d2 := box_cell KP.out 2 _ rfl
    have d3 := box_cell KP.out 3 _ rfl
    have d4 := box_cell KP.out 4 _ rfl
    go_wp2_with fail
    refine (Cn.out _).mono ?_
    rintro e w6 ⟨rfl, hb⟩
    have KS' := Lib.hid (box_below KS.out hb)
    have KP' := Lib.hid (box_below KP.out hb)
    have HB' := Lib.hid (bel_then HB.out hb HB.out.size)
    clear KS KP HB hb
    have KS := KS'
    have KP := KP'
    have HB := HB'
    clear KS' KP' HB'
    clear c0 c1 c2 c3 c4 c5 c6 c7 c8 c9 c10 d0 d1 d2 d3 d4
    have c0 := box_cell KS.out 0 _ rfl
    have c1 := box_cell KS.out 1 _ rfl
    have c2 := box_cell KS.out 2 _ rfl
    have c3 := box_cell KS.out 3 _ rfl
    have c4 := box_cell KS.out 4 _ rfl
    have c5 := box_cell KS.out 5 _ rfl
    have c6 := box_cell KS.out 6 _ rfl
    have c7 := box_cell KS.out 7 _ rfl
    have c8 := box_cell KS.out 8 _ rfl
    have c9 := box_cell KS.out 9 _ rfl
    have c10 := box_cell KS.out 10 _ rfl
    have d0 := box_cell KP.out 0 _ rfl
    have d1 := box_cell KP.out 1 _ rfl
    have d2 := box_cell KP.out 2 _ rfl
    have d3 := box_cell KP.out 3 _ rfl
    have d4 := box_cell KP.out 4 _ rfl
    go_wp2_with fail
    refine (Sn.out _).mono ?_
    rintro e w7 ⟨rfl, hb⟩
    have KS' := Lib.hid (box_below KS.out hb)
    have KP' := Lib.hid (box_below KP.out hb)
    have HB' := Lib.hid (bel_then HB.out hb HB.out.size)
    clear KS KP HB hb
    have KS := KS'
    have KP := KP'
    have HB := HB'
    clear KS' KP' HB'
    clear c0 c1 c2 c3 c4 c5 c6 c7 c8 c9 c10 d0 d1 d2 d3 d4
    clear Sa Sl Cn Sn
    by_cases h0 : at0 < 0
    · go_wp2
      go_ret
      exact ⟨rfl, HB.out⟩
    have c0 := box_cell KS.out 0 _ rfl
    have c1 := box_cell KS.out 1 _ rfl
    have c2 := box_cell KS.out 2 _ rfl
    have c3 := box_cell KS.out 3 _ rfl
    have c4 := box_cell KS.out 4 _ rfl
    have c5 := box_cell KS.out 5 _ rfl
    have c6 := box_cell KS.out 6 _ rfl
    have c7 := box_cell KS.out 7 _ rfl
    have c8 := box_cell KS.out 8 _ rfl
    have c9 := box_cell KS.out 9 _ rfl
    have c10 := box_cell KS.out 10 _ rfl
    have d0 := box_cell KP.out 0 _ rfl
    have d1 := box_cell KP.out 1 _ rfl
    have d2 := box_cell KP.out 2 _ rfl
    have d3 := box_cell KP.out 3 _ rfl
    have d4 := box_cell KP.out 4 _ rfl
    go_wp2_with fail
    refine (specTickOk_any at0 _).mono ?_
    rintro e w' ⟨rfl, rfl⟩
    cases htk : tokB at0
    · go_wp2
      go_ret
      exact ⟨rfl, HB.out⟩
    obtain ⟨hor, hah⟩ := HN.out (by omega) htk
    have htt := tok_t htk
    clear HN htk c0 c1 c2 c3 c4 c5 c6 c7 c8 c9 c10 d0 d1 d2 d3 d4
    have HAH := Lib.hid hah
    clear hah
    have c0 := box_cell KS.out 0 _ rfl
    have c1 := box_cell KS.out 1 _ rfl
    have c2 := box_cell KS.out 2 _ rfl
    have c3 := box_cell KS.out 3 _ rfl
    have c4 := box_cell KS.out 4 _ rfl
    have c5 := box_cell KS.out 5 _ rfl
    have c6 := box_cell KS.out 6 _ rfl
    have c7 := box_cell KS.out 7 _ rfl
    have c8 := box_cell KS.out 8 _ rfl
    have c9 := box_cell KS.out 9 _ rfl
    have c10 := box_cell KS.out 10 _ rfl
    have d0 := box_cell KP.out 0 _ rfl
    have d1 := box_cell KP.out 1 _ rfl
    have d2 := box_cell KP.out 2 _ rfl
    have d3 := box_cell KP.out 3 _ rfl
    have d4 := box_cell KP.out 4 _ rfl
    go_wp2_with fail
    refine (Ca1.out _).mono ?_
    rintro e w8 ⟨rfl, hb⟩
    have KS' := Lib.hid (box_below KS.out hb)
    have KP' := Lib.hid (box_below KP.out hb)
    have HB' := Lib.hid (bel_then HB.out hb HB.out.size)
    clear KS KP HB hb
    have KS := KS'
    have KP := KP'
    have HB := HB'
    clear KS' KP' HB'
    clear c0 c1 c2 c3 c4 c5 c6 c7 c8 c9 c10 d0 d1 d2 d3 d4
    have hcut : a1 = true ∨ (a1 = false ∧ l1 = true) := by revert hor; cases a1 <;> simp
    clear hor
    rcases hcut with rfl | ⟨rfl, rfl⟩
    · skip
      by_cases hz : at0 = 0
      · subst hz
        go_wp2
        go_ret
        exact ⟨rfl, HB.out⟩
      by_cases hle : at0 ≤ p4
      · have d4 := box_cell KP.out 4 _ rfl
        go_wp2
        go_ret
        exact ⟨rfl, HB.out⟩
      obtain ⟨rfl, rfl⟩ : a2 = false ∧ l2 = false := HAH.out.elim (fun h => absurd h hz) (fun h => h.elim (fun h => absurd h hle) id)
      clear HAH
      have c0 := box_cell KS.out 0 _ rfl
      have c1 := box_cell KS.out 1 _ rfl
      have c2 := box_cell KS.out 2 _ rfl
      have c3 := box_cell KS.out 3 _ rfl
      have c4 := box_cell KS.out 4 _ rfl
      have c5 := box_cell KS.out 5 _ rfl
      have c6 := box_cell KS.out 6 _ rfl
      have c7 := box_cell KS.out 7 _ rfl
      have c8 := box_cell KS.out 8 _ rfl
      have c9 := box_cell KS.out 9 _ rfl
      have c10 := box_cell KS.out 10 _ rfl
      have d0 := box_cell KP.out 0 _ rfl
      have d1 := box_cell KP.out 1 _ rfl
      have d2 := box_cell KP.out 2 _ rfl
      have d3 := box_cell KP.out 3 _ rfl
      have d4 := box_cell KP.out 4 _ rfl
      go_wp2_with fail
      refine (Ca2.out _).mono ?_
      rintro e w9 ⟨rfl, hb⟩
      have KS' := Lib.hid (box_below KS.out hb)
      have KP' := Lib.hid (box_below KP.out hb)
      have HB' := Lib.hid (bel_then HB.out hb HB.out.size)
      clear KS KP HB hb
      have KS := KS'
      have KP := KP'
      have HB := HB'
      clear KS' KP' HB'
      clear c0 c1 c2 c3 c4 c5 c6 c7 c8 c9 c10 d0 d1 d2 d3 d4
      have c0 := box_cell KS.out 0 _ rfl
      have c1 := box_cell KS.out 1 _ rfl
      have c2 := box_cell KS.out 2 _ rfl
      have c3 := box_cell KS.out 3 _ rfl
      have c4 := box_cell KS.out 4 _ rfl
      have c5 := box_cell KS.out 5 _ rfl
      have c6 := box_cell KS.out 6 _ rfl
      have c7 := box_cell KS.out 7 _ rfl
      have c8 := box_cell KS.out 8 _ rfl
      have c9 := box_cell KS.out 9 _ rfl
      have c10 := box_cell KS.out 10 _ rfl
      have d0 := box_cell KP.out 0 _ rfl
      have d1 := box_cell KP.out 1 _ rfl
      have d2 := box_cell KP.out 2 _ rfl
      have d3 := box_cell KP.out 3 _ rfl
      have d4 := box_cell KP.out 4 _ rfl
      go_wp2_with fail
      refine (Cl2.out _).mono ?_
      rintro e w10 ⟨rfl, hb⟩
      have KS' := Lib.hid (box_below KS.out hb)
      have KP' := Lib.hid (box_below KP.out hb)
      have HB' := Lib.hid (bel_then HB.out hb HB.out.size)
      clear KS KP HB hb
      have KS := KS'
      have KP := KP'
      have HB := HB'
      clear KS' KP' HB'
      clear c0 c1 c2 c3 c4 c5 c6 c7 c8 c9 c10 d0 d1 d2 d3 d4
      go_wp2
      go_ret
      exact ⟨rfl, HB.out⟩
    · skip
      have c0 := box_cell KS.out 0 _ rfl
      have c1 := box_cell KS.out 1 _ rfl
      have c2 := box_cell KS.out 2 _ rfl
      have c3 := box_cell KS.out 3 _ rfl
      have c4 := box_cell KS.out 4 _ rfl
      have c5 := box_cell KS.out 5 _ rfl
      have c6 := box_cell KS.out 6 _ rfl
      have c7 := box_cell KS.out 7 _ rfl
      have c8 := box_cell KS.out 8 _ rfl
      have c9 := box_cell KS.out 9 _ rfl
      have c10 := box_cell KS.out 10 _ rfl
      have d0 := box_cell KP.out 0 _ rfl
      have d1 := box_cell KP.out 1 _ rfl
      have d2 := box_cell KP.out 2 _ rfl
      have d3 := box_cell KP.out 3 _ rfl
      have d4 := box_cell KP.out 4 _ rfl
      go_wp2_with fail
      refine (Cl1.out _).mono ?_
      rintro e w9 ⟨rfl, hb⟩
      have KS' := Lib.hid (box_below KS.out hb)
      have KP' := Lib.hid (box_below KP.out hb)
      have HB' := Lib.hid (bel_then HB.out hb HB.out.size)
      clear KS KP HB hb
      have KS := KS'
      have KP := KP'
      have HB := HB'
      clear KS' KP' HB'
      clear c0 c1 c2 c3 c4 c5 c6 c7 c8 c9 c10 d0 d1 d2 d3 d4
      by_cases hz : at0 = 0
      · subst hz
        go_wp2
        go_ret
        exact ⟨rfl, HB.out⟩
      by_cases hle : at0 ≤ p4
      · have d4 := box_cell KP.out 4 _ rfl
        go_wp2
        go_ret
        exact ⟨rfl, HB.out⟩
      obtain ⟨rfl, rfl⟩ : a2 = false ∧ l2 = false := HAH.out.elim (fun h => absurd h hz) (fun h => h.elim (fun h => absurd h hle) id)
      clear HAH
      have c0 := box_cell KS.out 0 _ rfl
      have c1 := box_cell KS.out 1 _ rfl
      have c2 := box_cell KS.out 2 _ rfl
      have c3 := box_cell KS.out 3 _ rfl
      have c4 := box_cell KS.out 4 _ rfl
      have c5 := box_cell KS.out 5 _ rfl
      have c6 := box_cell KS.out 6 _ rfl
      have c7 := box_cell KS.out 7 _ rfl
      have c8 := box_cell KS.out 8 _ rfl
      have c9 := box_cell KS.out 9 _ rfl
      have c10 := box_cell KS.out 10 _ rfl
      have d0 := box_cell KP.out 0 _ rfl
      have d1 := box_cell KP.out 1 _ rfl
      have d2 := box_cell KP.out 2 _ rfl
      have d3 := box_cell KP.out 3 _ rfl
      have d4 := box_cell KP.out 4 _ rfl
      go_wp2_with fail
      refine (Ca2.out _).mono ?_
      rintro e w10 ⟨rfl, hb⟩
      have KS' := Lib.hid (box_below KS.out hb)
      have KP' := Lib.hid (box_below KP.out hb)
      have HB' := Lib.hid (bel_then HB.out hb HB.out.size)
      clear KS KP HB hb
      have KS := KS'
      have KP := KP'
      have HB := HB'
      clear KS' KP' HB'
      clear c0 c1 c2 c3 c4 c5 c6 c7 c8 c9 c10 d0 d1 d2 d3 d4
      have c0 := box_cell KS.out 0 _ rfl
      have c1 := box_cell KS.out 1 _ rfl
      have c2 := box_cell KS.out 2 _ rfl
      have c3 := box_cell KS.out 3 _ rfl
      have c4 := box_cell KS.out 4 _ rfl
      have c5 := box_cell KS.out 5 _ rfl
      have c6 := box_cell KS.out 6 _ rfl
      have c7 := box_cell KS.out 7 _ rfl
      have c8 := box_cell KS.out 8 _ rfl
      have c9 := box_cell KS.out 9 _ rfl
      have c10 := box_cell KS.out 10 _ rfl
      have d0 := box_cell KP.out 0 _ rfl
      have d1 := box_cell KP.out 1 _ rfl
      have d2 := box_cell KP.out 2 _ rfl
      have d3 := box_cell KP.out 3 _ rfl
      have d4 := box_cell KP.out 4 _ rfl
      go_wp2_with fail
      refine (Cl2.out _).mono ?_
      rintro e w11 ⟨rfl, hb⟩
      have KS' := Lib.hid (box_below KS.out hb)
      have KP' := Lib.hid (box_below KP.out hb)
      have HB' := Lib.hid (bel_then HB.out hb HB.out.size)
      clear KS KP HB hb
      have KS := KS'
      have KP := KP'
      have HB := HB'
      clear KS' KP' HB'
      clear c0 c1 c2 c3 c4 c5 c6 c7 c8 c9 c10 d0 d1 d2 d3 d4
      go_wp2
      go_ret
      exact ⟨rfl, HB.out⟩
end Go.Proofs.Ytfabioccnaooeaa.Hl
