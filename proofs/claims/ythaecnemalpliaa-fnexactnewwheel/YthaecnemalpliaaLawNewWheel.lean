/-
  THE WALK of laws.FnExactNewWheel over this seat's translation: it answers true and turns nothing that was there.
-/
import Derived.Test.YthaecnemalpliaaWheelNew
namespace Go.Proofs.Ythaecnemalpliaa.LawNewWheel
open Go.ChangeShapes Go.WideShapes Go.ChangeAt Go.RowKit
open Go.Proofs.Ythaecnemalpliaa.Timers
set_option linter.unusedVariables false

theorem newWheel_both (t : Int) : ∃ (now : Int) (ss : List TList) (r : Bool), ss.length ≤ 8 ∧ tot ss = 0 ∧ (∀ j, (ss.getD j []).length ≤ 1048576) ∧
    (∀ w, Calls Try.prog 14 #[.int .i64 t] w (AnsW w now ss (.bool r))) ∧ (∀ w, Calls Try.prog 30 #[.int .i64 t] w (AnsW w now ss (.bool r))) := by
  cases h : Tick.tokB t
  · exact ⟨0, [], false, by simp, rfl, by simp, fun w => newWheel_no t w h, fun w => specNewWheel_no t w h⟩
  · exact ⟨t, empty8, true, by decide, rfl, fun j => by rw [show empty8.getD j [] = [] from getD_rep 8 j]; exact Nat.zero_le _, fun w => newWheel_ok t w h, fun w => specNewWheel_ok t w h⟩

set_option maxHeartbeats 1600000 in
theorem walk (a0 : Int) (w : World) : Calls Try.prog 5 #[.int .i64 a0] w fun e w' => e = .returned (.bool true) ∧ Below w.heap.size w w' := by
  obtain ⟨now, ss, r, hl, ht, hm, hI, hS⟩ := newWheel_both a0
  have HI := Lib.hid hI
  have HS := Lib.hid hS
  have HT := Lib.hid ht
  have HM := Lib.hid hm
  obtain ⟨n, hn⟩ : ∃ n, n = ss.length := ⟨_, rfl⟩
  have hbb : (r != r) = false := by simp
  clear hI hS ht hm
  go_enter Try.func5, Try.ntmps5
  go_wp2_with fail
  refine (HS.out _).mono ?_
  rintro e w1 ⟨A1, c1, rfl, hO1, hb1⟩
  rw [← hn] at hO1 hl ⊢
  have HN := Lib.hid hn
  have HO1 := Lib.hid hO1
  clear hO1 hn
  go_wp2_with fail
  refine (HI.out _).mono ?_
  rintro e w2 ⟨A2, c2, rfl, hO2, hb2⟩
  rw [← HN.out] at hO2 ⊢
  have hB1 := (Box.new w1 now A1 n c1 26).below hb2
  have hlt : w1.heap.size < w2.heap.size := hB1.lt
  obtain ⟨c10, c11⟩ := hB1
  have HO2 := Lib.hid (hO2.base (lo' := w1.heap.size + 1) (by simp))
  have HI1 := Lib.hid ((HO1.out.reads.below (below_a1 w1 _) (Nat.le_refl _)).below hb2 (by simp))
  clear hO2 HO1
  go_wp2_with fail
  refine (eqWheel_same now A2 A1 n c2 c1 ss w2.heap.size w1.heap.size _ (HO2.out.reads.below (below_a1 w2 _) (Nat.le_refl _)) (HI1.out.below (below_a1 w2 _) (by omega)) (by simp) (by simp; omega) (by omega) HM.out).mono ?_
  rintro e w3 ⟨rfl, hb3⟩
  obtain ⟨c30, c31⟩ := ((Box.alloc ⟨c10, c11⟩ _).below hb3 : Box w3 w1.heap.size now A1 n c1)
  obtain ⟨d30, d31⟩ := (Box.new w2 now A2 n c2 26).below hb3
  have HO3 := Lib.hid ((HO2.out.below (below_a1 w2 _)).below hb3)
  have hs3 : w2.heap.size < w3.heap.size := by have := hb3.size; simp at this; omega
  have HI3 := Lib.hid ((HI1.out.below (below_a1 w2 _) (by omega)).below hb3 (by simp; omega))
  clear HO2 HI1 c10 c11
  go_wp2_with fail
  refine (markWheel_any now A2 n c2 ss _ _ _ HO3.out (by omega) (by rw [HT.out]; omega) HM.out).mono ?_
  rintro e w4 ⟨rfl, hO4, ht4⟩
  have hb03 : Below w.heap.size w w3 := ((hb1.alloc hb1.size _).trans (hb2.mono (by have := hb1.size; simp; omega))).alloc (by have := hb1.size; omega) _ |>.trans (hb3.mono (by have := hb1.size; simp; omega))
  have hb04 : Below w.heap.size w w4 := ht4.below hb03 (by have := hb1.size; omega) (by have := hb1.size; omega)
  obtain ⟨c40, c41⟩ := (Box.turned ⟨c30, c31⟩ ht4 (.inl (by omega)) : Box w4 w1.heap.size now A1 n c1)
  obtain ⟨d40, d41⟩ := (Box.turned ⟨d30, d31⟩ ht4 (.inr (Nat.le_refl _)) : Box w4 w2.heap.size now A2 n c2)
  have hs4 := ht4.size
  have HO4 := Lib.hid hO4
  have HI4 := Lib.hid (HI3.out.turned ht4 (by omega) (by omega))
  clear HO3 HI3 hO4 c30 c31 d30 d31
  have HELD : Hid (∀ (B : Nat) (W : World), IsSlots W B A2 n (marksS 1 ss) → B ≤ W.heap.size → Calls Try.prog 32 #[.agg #[.int .i64 now, .slice A2 n c2], .int .i64 1] W fun e w' => e = .returned (.int .i64 (1 + 2 * tot ss)) ∧ Below W.heap.size W w') :=
    fun B W h hB => heldWheel_any now A2 n c2 ss B W h hB (by omega) (by rw [HT.out]; omega) HM.out
  obtain ⟨M, hM⟩ : ∃ M : Int, M = 1 + 2 * tot ss := ⟨_, rfl⟩
  have hM0 : ¬ M < 0 := by omega
  rw [← hM] at HELD ⊢
  clear hM
  go_wp2_with fail
  refine (HELD.out _ _ HO4.out.reads (by omega)).mono ?_
  rintro e w5 ⟨rfl, hb5⟩
  obtain ⟨c50, c51⟩ := (Box.below ⟨c40, c41⟩ hb5 : Box w5 w1.heap.size now A1 n c1)
  obtain ⟨d50, d51⟩ := (Box.below ⟨d40, d41⟩ hb5 : Box w5 w2.heap.size now A2 n c2)
  have hs5 := hb5.size
  have HO5 := Lib.hid (HO4.out.below hb5)
  have HI5 := Lib.hid (HI4.out.below hb5 (by omega))
  have hb05 : Below w.heap.size w w5 := hb04.trans (hb5.mono hb04.size)
  clear HO4 HI4 c40 c41 d40 d41
  go_wp2_with fail
  refine (HI.out _).mono ?_
  rintro e w6 ⟨A6, c6, rfl, hO6, hb6⟩
  rw [← HN.out] at hO6 ⊢
  obtain ⟨c60, c61⟩ := (Box.below ⟨c50, c51⟩ hb6 : Box w6 w1.heap.size now A1 n c1)
  obtain ⟨d60, d61⟩ := (Box.below ⟨d50, d51⟩ hb6 : Box w6 w2.heap.size now A2 n c2)
  have hs6 := hb6.size
  have hl61 : w1.heap.size < w6.heap.size := by omega
  have hl62 : w2.heap.size < w6.heap.size := by omega
  have HO6 := Lib.hid hO6
  have HG6 := Lib.hid (HO5.out.below hb6)
  have HI6 := Lib.hid (HI5.out.below hb6 (by omega))
  have hb06 : Below w.heap.size w w6 := hb05.trans (hb6.mono hb05.size)
  clear HO5 HI5 c50 c51 d50 d51 hO6
  go_wp2_with fail
  refine (eqWheel_same now A6 A1 n c6 c1 ss w6.heap.size w1.heap.size _ (HO6.out.reads.below (below_a1 w6 _) (Nat.le_refl _)) (HI6.out.below (below_a1 w6 _) (by omega)) (by simp) (by simp; omega) (by omega) HM.out).mono ?_
  rintro e w7 ⟨rfl, hb7⟩
  obtain ⟨d70, d71⟩ := ((Box.alloc ⟨d60, d61⟩ _).below hb7 : Box w7 w2.heap.size now A2 n c2)
  have HG7 := Lib.hid ((HG6.out.below (below_a1 w6 _)).below hb7)
  have hs7 : w6.heap.size < w7.heap.size := by have := hb7.size; simp at this; omega
  have hb07 : Below w.heap.size w w7 := (hb06.alloc hb06.size _).trans (hb7.mono (by have := hb06.size; simp; omega))
  clear HG6 HI6 HO6 c60 c61 d60 d61
  go_wp2_with fail
  refine (HELD.out _ _ HG7.out.reads (by omega)).mono ?_
  rintro e w8 ⟨rfl, hb8⟩
  go_wp2
  go_ret
  exact ⟨rfl, hb07.trans (hb8.mono hb07.size)⟩
end Go.Proofs.Ythaecnemalpliaa.LawNewWheel
