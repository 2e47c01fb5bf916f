/-
  THE WALK of laws.FnExactArmTimer over this seat's translation: it answers true and turns nothing that was there.
-/
import Derived.Test.YthaecnemalpliaaImplArm
import Derived.Test.YthaecnemalpliaaSpecArm
import Derived.Test.YthaecnemalpliaaWheelOpen
namespace Go.Proofs.Ythaecnemalpliaa.LawArmTimer
open Go.ChangeShapes Go.WideShapes Go.ChangeAt Go.RowKit
open Go.Proofs.Ythaecnemalpliaa.Timers Go.Proofs.Ythaecnemalpliaa.WheelOk
set_option linter.unusedVariables false

set_option maxRecDepth 100000 in
set_option maxHeartbeats 6400000 in
theorem walk (x y z : Int) (A : Option Addr) (n c : Nat) (ss : List TList) (w : World) (hw : WheelOpen.IsWheel w A n ss) :
    Calls Try.prog 6 #[.agg #[.int .i64 x, .slice A n c], .int .i64 y, .int .i64 z] w fun e w' => e = .returned (.bool true) ∧ Below w.heap.size w w' := by
  obtain ⟨hr, hn, hm⟩ := hw
  have HR := Lib.hid hr
  have HM := Lib.hid hm
  clear hr hm
  go_enter Try.func6, Try.ntmps6
  go_wp2_with fail
  refine (szWheel_any x A n c ss w.heap.size _ (HR.out.below (below_a1 _ _) (Nat.le_refl _)) (by simp) hn HM.out).mono ?_
  rintro e w1 ⟨r, rfl, hb1, hr⟩
  have hb01 : Below w.heap.size w w1 := (below_a1 _ _).trans (hb1.mono (by simp))
  rcases hr with rfl | ⟨hr0, hfew⟩
  · go_wp2
    go_ret
    exact ⟨rfl, hb01⟩
  · have hn2 : n ≤ 1048576 := by omega
    have HM2 : Hid (∀ j, (ss.getD j []).length ≤ 1048576) := fun j => by have := tot_get ss j; omega
    have HLn : Hid (ss.length = n) := HR.out.1
    have hr1 : ¬ r < 0 := by omega
    have HTS : Hid (tot ss ≤ 1048576) := (by omega : tot ss ≤ 1048576)
    have hTO : tot (armS x ss y z) ≤ 1048576 := (armS_tot HTS.out)
    obtain ⟨os, hos⟩ : ∃ os, os = armS x ss y z := ⟨_, rfl⟩
    obtain ⟨ob, hob⟩ : ∃ ob, ob = armB x ss y z := ⟨_, rfl⟩
    have hNO : os.length = n := by rw [hos]; exact (armS_len x ss y z).trans HLn.out
    rw [← hos] at hTO
    have HS : Hid (∀ (A' : Option Addr) (c' B' : Nat) (W : World), IsSlots W B' A' n ss → B' ≤ W.heap.size → Calls Try.prog 33 #[.agg #[.int .i64 x, .slice A' n c'], .int .i64 y, .int .i64 z] W (AnsW W x os (.bool ob))) := by
      intro A' c' B' W h hB
      rw [hos, hob]
      exact specArm_any x y z A' n c' ss B' W h hB hn2 HM2.out
    have HI : Hid (∀ (A' : Option Addr) (c' B' : Nat) (W : World), IsSlots W B' A' n ss → B' ≤ W.heap.size → Calls Try.prog 16 #[.agg #[.int .i64 x, .slice A' n c'], .int .i64 y, .int .i64 z] W (AnsW W x os (.bool ob))) := by
      intro A' c' B' W h hB
      rw [hos, hob]
      exact armTimer_w x y z A' n c' ss B' W h hB hn2 HM2.out
    have HTO := Lib.hid hTO
    have HNO := Lib.hid hNO
    have HMO : Hid (∀ j, (os.getD j []).length ≤ 1048576) := fun j => by have := tot_get os j; have := HTO.out; omega
    have hbb : (ob != ob) = false := by simp
    obtain ⟨a10, a11⟩ := (Box.new w x A n c 44).below hb1
    have hs1 : w.heap.size < w1.heap.size := by have := hb1.size; simp at this; omega
    clear hb1 hfew hTO hNO hos hob
    go_wp2_with fail
    refine (toWheel_any x A n c ss w.heap.size _ (HR.out.below hb01 (Nat.le_refl _)) hb01.size hn2 HM2.out).mono ?_
    rintro e w2 ⟨A2, c2, rfl, hO2, hb2⟩
    rw [HLn.out] at hO2 ⊢
    have HO2 := Lib.hid hO2
    have HA2 : Hid (Box w2 w.heap.size x A n c) := Box.below ⟨a10, a11⟩ hb2
    have hb02 : Below w.heap.size w w2 := hb01.trans (hb2.mono hb01.size)
    have hs2 := hb2.size
    clear hO2 hb2 a10 a11
    go_wp2_with fail
    refine (HS.out A2 c2 w2.heap.size _ HO2.out.reads (Nat.le_refl _)).mono ?_
    rintro e w3 ⟨A3, c3, rfl, hO3, hb3⟩
    rw [HNO.out] at hO3 ⊢
    have HI3 := Lib.hid (hO3.reads.below (below_a1 w3 (.cells #[.int .i64 x, .slice A3 n c3] 26)) (Nat.le_refl _))
    have HC3 := Lib.hid (Box.new w3 x A3 n c3 26)
    obtain ⟨a30, a31⟩ := (HA2.out.below hb3)
    have hb03 : Below w.heap.size w (w3.alloc (.cells #[.int .i64 x, .slice A3 n c3] 26)) := (hb02.trans (hb3.mono hb02.size)).alloc (by have := hb3.size; omega) _
    have hs3 : w.heap.size < w3.heap.size := by have := hb3.size; omega
    clear hO3 hb3 HO2 HA2
    go_wp2_with fail
    have HA3 : Hid (Box (w3.alloc (.cells #[.int .i64 x, .slice A3 n c3] 26)) w.heap.size x A n c) := Box.alloc ⟨a30, a31⟩ _
    clear a30 a31
    refine (toWheel_any x A n c ss w.heap.size _ (HR.out.below hb03 (Nat.le_refl _)) hb03.size hn2 HM2.out).mono ?_
    rintro e w4 ⟨A4, c4, rfl, hO4, hb4⟩
    rw [HLn.out] at hO4 ⊢
    rw [World.size_alloc] at hO4
    have hs4 := hb4.size
    rw [World.size_alloc] at hs4
    have HO4 := Lib.hid (hO4.below (below_a1 w4 (.cells #[.int .i64 x, .slice A4 n c4] 26)))
    have HA4 := Lib.hid ((HA3.out.below hb4).alloc (.cells #[.int .i64 x, .slice A4 n c4] 26))
    have HC4 := Lib.hid ((HC3.out.below hb4).alloc (.cells #[.int .i64 x, .slice A4 n c4] 26))
    have HD4 := Lib.hid (Box.new w4 x A4 n c4 26)
    have HI4 := Lib.hid ((HI3.out.below hb4 (by simp)).below (below_a1 w4 (.cells #[.int .i64 x, .slice A4 n c4] 26)) (by omega))
    have hb04 : Below w.heap.size w (w4.alloc (.cells #[.int .i64 x, .slice A4 n c4] 26)) := (hb03.trans (hb4.mono hb03.size)).alloc (by omega) _
    clear hO4 hb4 HA3 HC3 HI3
    go_wp2_with fail
    refine (HI.out A4 c4 w4.heap.size _ HO4.out.reads (by simp)).mono ?_
    rintro e w5 ⟨A5, c5, rfl, hO5, hb5⟩
    rw [HNO.out] at hO5 ⊢
    have hs5 := hb5.size
    rw [World.size_alloc] at hO5 hs5
    have HO5 := Lib.hid (hO5.below (below_a1 w5 (.cells #[.int .i64 x, .slice A5 n c5] 26)))
    have HX5 := Lib.hid ((HO4.out.below hb5).below (below_a1 w5 (.cells #[.int .i64 x, .slice A5 n c5] 26)))
    have HA5 := Lib.hid ((HA4.out.below hb5).alloc (.cells #[.int .i64 x, .slice A5 n c5] 26))
    have HD5 := Lib.hid ((HD4.out.below hb5).alloc (.cells #[.int .i64 x, .slice A5 n c5] 26))
    have HE5 := Lib.hid (Box.new w5 x A5 n c5 26)
    have HI5 := Lib.hid ((HI4.out.below hb5 (by simp; omega)).below (below_a1 w5 (.cells #[.int .i64 x, .slice A5 n c5] 26)) (by omega))
    have hb05 : Below w.heap.size w (w5.alloc (.cells #[.int .i64 x, .slice A5 n c5] 26)) := (hb04.trans (hb5.mono hb04.size)).alloc (by omega) _
    obtain ⟨p0, p1⟩ := HC4.out.below hb5
    have HC5 : Hid (Box (w5.alloc (.cells #[.int .i64 x, .slice A5 n c5] 26)) w3.heap.size x A3 n c3) := Box.alloc ⟨p0, p1⟩ _
    have hl35 : w3.heap.size < w5.heap.size := by omega
    clear hO5 hb5 HO4 HA4 HC4 HD4 HI4
    go_wp2_with fail
    clear p0 p1
    refine (eqWheel_same x A5 A3 n c5 c3 os w5.heap.size w3.heap.size _ HO5.out.reads HI5.out (by simp) (by simp; omega) hn2 HMO.out).mono ?_
    rintro e w6 ⟨rfl, hb6⟩
    have hs6 := hb6.size
    rw [World.size_alloc] at hs6
    have HO6 := Lib.hid (HO5.out.below hb6)
    have HX6 := Lib.hid (HX5.out.below hb6)
    have HE6 := Lib.hid (HE5.out.below hb6)
    have HC6 := Lib.hid (HC5.out.below hb6)
    have HI6 := Lib.hid (HI5.out.below hb6 (by simp; omega))
    have hb06 : Below w.heap.size w w6 := hb05.trans (hb6.mono hb05.size)
    obtain ⟨a60, a61⟩ := HA5.out.below hb6
    obtain ⟨d60, d61⟩ := HD5.out.below hb6
    clear HO5 HX5 HA5 HD5 HE5 HI5 HC5 hb6
    go_wp2_with fail
    go_region_held3 (fun w' => w'.cell? ⟨w.heap.size, 0, none⟩ = some (.int .i64 x) ∧ w'.cell? ⟨w.heap.size, 1, none⟩ = some (.slice A n c) ∧ w'.cell? ⟨w4.heap.size, 0, none⟩ = some (.int .i64 x) ∧ w'.cell? ⟨w4.heap.size, 1, none⟩ = some (.slice A4 n c4))
      (first | go_keep | (refine ⟨below_keep hb7 ?_, below_keep hb7 ?_, below_keep hb7 ?_, below_keep hb7 ?_⟩ <;> simp only [*]) | (refine ⟨below_keep hb8 ?_, below_keep hb8 ?_, below_keep hb8 ?_, below_keep hb8 ?_⟩ <;> simp only [*]))
      (first | (go_at_call 27; refine (toWheel_any x A n c ss w.heap.size _ (by exact HR.out.below hb06.drew (Nat.le_refl _)) (by exact hb06.size) hn2 HM2.out).mono ?_; rintro e w7 ⟨A7, c7, rfl, hO7, hb7⟩; have hb7' : Below w6.heap.size w6 w7 := below_undrew hb7; rw [HLn.out] at hO7 ⊢; have HO7 := Lib.hid hO7; clear hO7) | (go_at_call 29; refine (eqWheel_same x A4 A7 n c4 c7 ss w4.heap.size w7.heap.size _ (by exact HX6.out.reads.below hb7' (by omega)) (by exact HO7.out.reads) (by exact Nat.le_trans (by omega) hb7'.size) (by exact Nat.le_refl _) hn2 HM2.out).mono ?_; rintro e w8 ⟨rfl, hb8⟩))
    have hb68 : Below w6.heap.size w6 w8 := hb7'.trans (hb8.mono hb7'.size)
    have hb08 : Below w.heap.size w w8 := hb06.trans (hb68.mono hb06.size)
    have hs8 := hb68.size
    have HO8 := Lib.hid (HO6.out.below hb68)
    have HX8 := Lib.hid (HX6.out.below hb68)
    have HE8 := Lib.hid (HE6.out.below hb68)
    have HC8 := Lib.hid (HC6.out.below hb68)
    have HI8 := Lib.hid (HI6.out.below hb68 (by omega))
    have HA8 : Hid (Box w8 w.heap.size x A n c) := (Box.below ⟨a60, a61⟩ hb68 : Box w8 w.heap.size x A n c)
    obtain ⟨d80, d81⟩ := (Box.below ⟨d60, d61⟩ hb68 : Box w8 w4.heap.size x A4 n c4)
    clear HO6 HX6 HE6 HC6 HI6 a60 a61 d60 d61 HO7 hb7 hb7' hb8
    go_wp2_with fail
    refine (markWheel_any x A4 n c4 ss _ _ _ HX8.out hn2 (by have := HTS.out; omega) HM2.out).mono ?_
    rintro e w9 ⟨rfl, hO9, ht9⟩
    obtain ⟨k9, hk9⟩ : ∃ k9 : Int, k9 = 1 + 2 * tot ss := ⟨_, rfl⟩
    have hk90 : ¬ k9 < 0 := by omega
    rw [← hk9]
    have hs9 := ht9.size
    have hb09 : Below w.heap.size w w9 := ht9.below hb08 (by omega) (by omega)
    have HO9 := Lib.hid (HO8.out.turned ht9 (by omega))
    have HI9 := Lib.hid (HI8.out.turned ht9 (by omega) (by omega))
    have HA9 : Hid (Box w9 w.heap.size x A n c) := (HA8.out.turned ht9 (.inl (by omega)) : Box w9 w.heap.size x A n c)
    obtain ⟨c90, c91⟩ := (HC8.out.turned ht9 (.inl (by omega)) : Box w9 w3.heap.size x A3 n c3)
    obtain ⟨e90, e91⟩ := (HE8.out.turned ht9 (.inr (by omega)) : Box w9 w5.heap.size x A5 n c5)
    clear HO8 HX8 HE8 HC8 HI8 HA8 d80 d81 hO9 ht9 hk9
    go_wp2_with fail
    refine (eqWheel_same x A5 A3 n c5 c3 os w5.heap.size w3.heap.size _ HO9.out.reads HI9.out (by omega) (by omega) hn2 HMO.out).mono ?_
    rintro e w10 ⟨rfl, hb10⟩
    have hs10 := hb10.size
    have hb010 : Below w.heap.size w w10 := hb09.trans (hb10.mono hb09.size)
    have HO10 := Lib.hid (HO9.out.below hb10)
    have HI10 := Lib.hid (HI9.out.below hb10 (by omega))
    have HA10 := Lib.hid (HA9.out.below hb10)
    have HC10 : Hid (Box w10 w3.heap.size x A3 n c3) := (Box.below ⟨c90, c91⟩ hb10 : Box w10 w3.heap.size x A3 n c3)
    obtain ⟨e100, e101⟩ := (Box.below ⟨e90, e91⟩ hb10 : Box w10 w5.heap.size x A5 n c5)
    clear HO9 HI9 HA9 c90 c91 e90 e91 hb10
    go_wp2_with fail
    refine (markWheel_any x A5 n c5 os _ _ _ HO10.out hn2 (by have := HTO.out; omega) HMO.out).mono ?_
    rintro e w11 ⟨rfl, hO11, ht11⟩
    have HELD : Hid (∀ (B : Nat) (W : World), IsSlots W B A5 n (marksS 1 os) → B ≤ W.heap.size → Calls Try.prog 32 #[.agg #[.int .i64 x, .slice A5 n c5], .int .i64 1] W fun e w' => e = .returned (.int .i64 (1 + 2 * tot os)) ∧ Below W.heap.size W w') :=
      fun B W h hB => heldWheel_any x A5 n c5 os B W h hB hn2 (by have := HTO.out; omega) HMO.out
    obtain ⟨M, hM⟩ : ∃ M : Int, M = 1 + 2 * tot os := ⟨_, rfl⟩
    have hM0 : ¬ M < 0 := by omega
    rw [← hM] at HELD ⊢
    have hs11 := ht11.size
    have hb011 : Below w.heap.size w w11 := ht11.below hb010 (by omega) (by omega)
    have HG11 := Lib.hid hO11
    have HI11 := Lib.hid (HI10.out.turned ht11 (by omega) (by omega))
    have HA11 : Hid (Box w11 w.heap.size x A n c) := (HA10.out.turned ht11 (.inl (by omega)) : Box w11 w.heap.size x A n c)
    have HC11 : Hid (Box w11 w3.heap.size x A3 n c3) := (HC10.out.turned ht11 (.inl (by omega)) : Box w11 w3.heap.size x A3 n c3)
    obtain ⟨e110, e111⟩ := (Box.turned ⟨e100, e101⟩ ht11 (.inr (Nat.le_refl _)) : Box w11 w5.heap.size x A5 n c5)
    clear HO10 HI10 HA10 HC10 e100 e101 hO11 ht11 hM
    go_wp2_with fail
    refine (HELD.out _ _ HG11.out.reads (by omega)).mono ?_
    rintro e w12 ⟨rfl, hb12⟩
    have hs12 := hb12.size
    have hb012 : Below w.heap.size w w12 := hb011.trans (hb12.mono hb011.size)
    have HG12 := Lib.hid (HG11.out.below hb12)
    have HI12 := Lib.hid (HI11.out.below hb12 (by omega))
    have HC12 := Lib.hid (HC11.out.below hb12)
    have HE12 : Hid (Box w12 w5.heap.size x A5 n c5) := (Box.below ⟨e110, e111⟩ hb12 : Box w12 w5.heap.size x A5 n c5)
    obtain ⟨a120, a121⟩ := HA11.out.below hb12
    clear HG11 HI11 HC11 HA11 e110 e111 hb12
    go_wp2_with fail
    clear a120 a121
    refine (toWheel_any x A n c ss w.heap.size _ (HR.out.below hb012 (Nat.le_refl _)) hb012.size hn2 HM2.out).mono ?_
    rintro e w13 ⟨A13, c13, rfl, hO13, hb13⟩
    rw [HLn.out] at hO13 ⊢
    have HO13 := Lib.hid hO13
    have hs13 := hb13.size
    have hb013 : Below w.heap.size w w13 := hb012.trans (hb13.mono hb012.size)
    have HG13 := Lib.hid (HG12.out.below hb13)
    have HI13 := Lib.hid (HI12.out.below hb13 (by omega))
    have HC13 := Lib.hid (HC12.out.below hb13)
    have HE13 := Lib.hid (HE12.out.below hb13)
    clear HG12 HI12 HC12 HE12 hb13 hO13
    go_wp2_with fail
    refine (HI.out A13 c13 w13.heap.size _ HO13.out.reads (Nat.le_refl _)).mono ?_
    rintro e w14 ⟨A14, c14, rfl, hO14, hb14⟩
    rw [HNO.out] at hO14 ⊢
    have hs14 := hb14.size
    have HO14 := Lib.hid (hO14.reads.below (below_a1 w14 (.cells #[.int .i64 x, .slice A14 n c14] 26)) (Nat.le_refl _))
    have HG14 := Lib.hid ((HG13.out.below hb14).below (below_a1 w14 (.cells #[.int .i64 x, .slice A14 n c14] 26)))
    have HI14 := Lib.hid ((HI13.out.below hb14 (by omega)).below (below_a1 w14 (.cells #[.int .i64 x, .slice A14 n c14] 26)) (by omega))
    have HE14 := Lib.hid ((HE13.out.below hb14).alloc (.cells #[.int .i64 x, .slice A14 n c14] 26))
    have hb014 : Below w.heap.size w (w14.alloc (.cells #[.int .i64 x, .slice A14 n c14] 26)) := (hb013.trans (hb14.mono hb013.size)).alloc (by omega) _
    obtain ⟨p0, p1⟩ := HC13.out.below hb14
    have hl14 : w3.heap.size < w14.heap.size := by omega
    clear HG13 HI13 HC13 HE13 hb14 hO14 HO13
    go_wp2_with fail
    clear p0 p1
    refine (eqWheel_same x A14 A3 n c14 c3 os w14.heap.size w3.heap.size _ HO14.out HI14.out (by simp) (by simp; omega) hn2 HMO.out).mono ?_
    rintro e w15 ⟨rfl, hb15⟩
    have hs15 := hb15.size
    rw [World.size_alloc] at hs15
    have hb015 : Below w.heap.size w w15 := hb014.trans (hb15.mono hb014.size)
    have HG15 := Lib.hid (HG14.out.below hb15)
    obtain ⟨e150, e151⟩ := HE14.out.below hb15
    clear HG14 HI14 HE14 HO14 hb15
    go_wp2_with fail
    refine (HELD.out _ _ HG15.out.reads (by omega)).mono ?_
    rintro e w16 ⟨rfl, hb16⟩
    go_wp2
    go_ret
    exact ⟨rfl, hb015.trans (hb16.mono hb015.size)⟩
end Go.Proofs.Ythaecnemalpliaa.LawArmTimer
