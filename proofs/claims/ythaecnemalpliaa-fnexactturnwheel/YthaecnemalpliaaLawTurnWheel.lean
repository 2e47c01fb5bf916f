/-
  THE WALK of laws.FnExactTurnWheel over this seat's translation: it answers true and turns nothing that was there.
-/
import Derived.Test.YthaecnemalpliaaSpecTurn
import Derived.Test.YthaecnemalpliaaIntMark
import Derived.Test.YthaecnemalpliaaWheelOpen
namespace Go.Proofs.Ythaecnemalpliaa.LawTurnWheel
open Go.ChangeShapes Go.WideShapes Go.ChangeAt Go.RowKit
open Go.Proofs.Ythaecnemalpliaa.Timers Go.Proofs.Ythaecnemalpliaa.WheelOk Go.Proofs.Ythaecnemalpliaa.Has Go.Proofs.Ythaecnemalpliaa.Ints
set_option linter.unusedVariables false

theorem OwnI.turned {w w' : World} {lo hi base : Nat} {A : Option Addr} {n c : Nat} {zs : List Int} (h : OwnI w base A n c zs) (ht : Turned lo hi w w') (hne : ∀ q, (Value.slice A n c).ownBlock = some q → q < lo ∨ hi ≤ q) : OwnI w' base A n c zs :=
  ⟨h.1, own_turned h.2 ht hne⟩
theorem Box.grown {w w' : World} {b : Nat} {now : Int} {A : Option Addr} {n c : Nat} {row : Option Nat} (h : Box w b now A n c) (hg : w.grownBy w' row) (hne : row ≠ some b) : Box w' b now A n c := by
  have hb := hg.block b h.lt (fun e => hne e.symm)
  exact ⟨(World.cell?_of_block hb).trans h.1, (World.cell?_of_block hb).trans h.2⟩
theorem Below.drewB {w : World} (m : Nat) : Below w.heap.size w (w.drewN m) := Ints.below_drewN (Below.refl _ _) m

set_option maxRecDepth 100000 in
set_option maxHeartbeats 8000000 in
theorem walk (x y : Int) (A : Option Addr) (n c : Nat) (ss : List TList) (w : World) (hw : WheelOpen.IsWheel w A n ss) :
    Calls Try.prog 8 #[.agg #[.int .i64 x, .slice A n c], .int .i64 y] w fun e w' => e = .returned (.bool true) ∧ Below w.heap.size w w' := by
  obtain ⟨hr, hn, hm⟩ := hw
  have HR := Lib.hid hr
  have HM := Lib.hid hm
  clear hr hm
  go_enter Try.func8, Try.ntmps8
  go_wp2_with fail
  refine (szWheel_any x A n c ss w.heap.size _ (HR.out.below (below_a1 _ _) (Nat.le_refl _)) (by simp) hn HM.out).mono ?_
  rintro e w1 ⟨r, rfl, hb1, hr⟩
  have hb01 : Below w.heap.size w w1 := (below_a1 _ _).trans (hb1.mono (by simp))
  rcases hr with rfl | ⟨hr0, hfew⟩
  · go_wp2
    go_ret
    exact ⟨rfl, hb01⟩
  · have hn2 : n ≤ 1048576 := by omega
    have HM2 : Hid (∀ j, (ss.getD j []).length ≤ 1048576) := fun j => by have := tot_get ss j; omega
    have HLn : Hid (ss.length = n) := HR.out.1
    have hr1 : ¬ r < 0 := by omega
    have HTS : Hid (tot ss ≤ 1048576) := (by omega : tot ss ≤ 1048576)
    have hTO : tot (turnSS x ss y) ≤ 1048576 := Nat.le_trans (turnSS_tot x ss y) HTS.out
    have hQ0 := turnZS_len x ss y
    obtain ⟨os, hos⟩ : ∃ os, os = turnSS x ss y := ⟨_, rfl⟩
    obtain ⟨zs, hzs⟩ : ∃ zs, zs = turnZS x ss y := ⟨_, rfl⟩
    obtain ⟨nx, hnx⟩ : ∃ nx, nx = turnNow x ss y := ⟨_, rfl⟩
    have hNO : os.length = n := by rw [hos]; exact (turnSS_len x ss y).trans HLn.out
    rw [← hos] at hTO
    rw [← hzs] at hQ0
    obtain ⟨q, hq⟩ : ∃ q, q = zs.length := ⟨_, rfl⟩
    rw [← hq] at hQ0
    have HS : Hid (∀ (A' : Option Addr) (c' B' : Nat) (W : World), IsSlots W B' A' n ss → B' ≤ W.heap.size → Calls Try.prog 35 #[.agg #[.int .i64 x, .slice A' n c'], .int .i64 y] W (AnsT False W nx os zs)) := by
      intro A' c' B' W h hB
      rw [hos, hzs, hnx]
      exact specTurn_any x y A' n c' ss B' W h hB hn2 HM2.out
    have HI : Hid (∀ (A' : Option Addr) (c' B' : Nat) (W : World), IsSlots W B' A' n ss → B' ≤ W.heap.size → Calls Try.prog 20 #[.agg #[.int .i64 x, .slice A' n c'], .int .i64 y] W (AnsT True W nx os zs)) := by
      intro A' c' B' W h hB
      rw [hos, hzs, hnx]
      exact turnWheel_w x y A' n c' ss B' W h hB hn2 HM2.out
    have HQ : Hid (zs.length = q) := hq.symm
    have HTO := Lib.hid hTO
    have HNO := Lib.hid hNO
    have HMO : Hid (∀ j, (os.getD j []).length ≤ 1048576) := fun j => by have := tot_get os j; have := HTO.out; omega
    obtain ⟨a10, a11⟩ := (Box.new w x A n c 44).below hb1
    have hs1 : w.heap.size < w1.heap.size := by have := hb1.size; simp at this; omega
    clear hb1 hfew hTO hNO hos hzs hnx hq
    go_wp2_with fail
    refine (toWheel_any x A n c ss w.heap.size _ (HR.out.below hb01 (Nat.le_refl _)) hb01.size hn2 HM2.out).mono ?_
    rintro e w2 ⟨A2, c2, rfl, hO2, hb2⟩
    rw [HLn.out] at hO2 ⊢
    have HO2 := Lib.hid hO2
    have HA2 : Hid (Box w2 w.heap.size x A n c) := Box.below ⟨a10, a11⟩ hb2
    have hb02 : Below w.heap.size w w2 := hb01.trans (hb2.mono hb01.size)
    have hs2 := hb2.size
    clear hO2 hb2 a10 a11
    go_wp2_with fail
    refine (HS.out A2 c2 w2.heap.size _ HO2.out.reads (Nat.le_refl _)).mono ?_
    rintro e w3 ⟨A3, c3, B3, d3, mid3, rfl, hmid3, hO3, hJ3, _, hb3⟩
    rw [HNO.out] at hO3 ⊢
    rw [HQ.out] at hJ3 ⊢
    have HJ3 := Lib.hid (hJ3.ints.below (below_a1 w3 (.cells #[.int .i64 nx, .slice A3 n c3] 26)) (Nat.le_refl _))
    have HI3 := Lib.hid (hO3.reads.below (below_a1 w3 (.cells #[.int .i64 nx, .slice A3 n c3] 26)) (Nat.le_refl _))
    have HC3 := Lib.hid (Box.new w3 nx A3 n c3 26)
    obtain ⟨a30, a31⟩ := (HA2.out.below hb3)
    have hb03 : Below w.heap.size w (w3.alloc (.cells #[.int .i64 nx, .slice A3 n c3] 26)) := (hb02.trans (hb3.mono hb02.size)).alloc (by have := hb3.size; omega) _
    have hs3 : w.heap.size < w3.heap.size := by have := hb3.size; omega
    clear hO3 hb3 HO2 HA2 hJ3
    go_wp2_with fail
    have HA3 : Hid (Box (w3.alloc (.cells #[.int .i64 nx, .slice A3 n c3] 26)) w.heap.size x A n c) := Box.alloc ⟨a30, a31⟩ _
    clear a30 a31
    refine (toWheel_any x A n c ss w.heap.size _ (HR.out.below hb03 (Nat.le_refl _)) hb03.size hn2 HM2.out).mono ?_
    rintro e w4 ⟨A4, c4, rfl, hO4, hb4⟩
    rw [HLn.out] at hO4 ⊢
    rw [World.size_alloc] at hO4
    have hs4 := hb4.size
    rw [World.size_alloc] at hs4
    have HO4 := Lib.hid (hO4.below (below_a1 w4 (.cells #[.int .i64 x, .slice A4 n c4] 26)))
    have HA4 := Lib.hid ((HA3.out.below hb4).alloc (.cells #[.int .i64 x, .slice A4 n c4] 26))
    have HC4 := Lib.hid ((HC3.out.below hb4).alloc (.cells #[.int .i64 x, .slice A4 n c4] 26))
    have HD4 := Lib.hid (Box.new w4 x A4 n c4 26)
    have HI4 := Lib.hid ((HI3.out.below hb4 (by simp)).below (below_a1 w4 (.cells #[.int .i64 x, .slice A4 n c4] 26)) (by omega))
    have hb04 : Below w.heap.size w (w4.alloc (.cells #[.int .i64 x, .slice A4 n c4] 26)) := (hb03.trans (hb4.mono hb03.size)).alloc (by omega) _
    have HJ4 := Lib.hid ((HJ3.out.below hb4 (by simp)).below (below_a1 w4 (.cells #[.int .i64 x, .slice A4 n c4] 26)) (by omega))
    clear hO4 hb4 HA3 HC3 HI3 HJ3
    go_wp2_with fail
    refine (HI.out A4 c4 w4.heap.size _ HO4.out.reads (by simp)).mono ?_
    rintro e w5 ⟨A5, c5, B5, d5, mid5, rfl, hmid5, hO5, hJ5, hsep5, hb5⟩
    rw [HNO.out] at hO5 ⊢
    rw [HQ.out] at hJ5 hsep5 ⊢
    have hs5 := hb5.size
    rw [World.size_alloc] at hmid5 hs5 hJ5
    have HLT : Hid (∀ q', (Value.slice B5 q d5).ownBlock = some q' → q' < w5.heap.size) := fun q' hq' => (hJ5.lt q' hq').2
    have HSEP := Lib.hid (hsep5 trivial)
    have HG5 := Lib.hid (hJ5.alloc (.cells #[.int .i64 nx, .slice A5 n c5] 26))
    have HJ5 := Lib.hid ((HJ4.out.below hb5 (by simp; omega)).below (below_a1 w5 (.cells #[.int .i64 nx, .slice A5 n c5] 26)) (by omega))
    have HO5 := Lib.hid (hO5.below (below_a1 w5 (.cells #[.int .i64 nx, .slice A5 n c5] 26)))
    have HX5 := Lib.hid ((HO4.out.below hb5).below (below_a1 w5 (.cells #[.int .i64 nx, .slice A5 n c5] 26)))
    have HA5 := Lib.hid ((HA4.out.below hb5).alloc (.cells #[.int .i64 nx, .slice A5 n c5] 26))
    have HD5 := Lib.hid ((HD4.out.below hb5).alloc (.cells #[.int .i64 nx, .slice A5 n c5] 26))
    have HE5 := Lib.hid (Box.new w5 nx A5 n c5 26)
    have HI5 := Lib.hid ((HI4.out.below hb5 (by simp; omega)).below (below_a1 w5 (.cells #[.int .i64 nx, .slice A5 n c5] 26)) (by omega))
    have hb05 : Below w.heap.size w (w5.alloc (.cells #[.int .i64 nx, .slice A5 n c5] 26)) := (hb04.trans (hb5.mono hb04.size)).alloc (by omega) _
    obtain ⟨p0, p1⟩ := HC4.out.below hb5
    have HC5 : Hid (Box (w5.alloc (.cells #[.int .i64 nx, .slice A5 n c5] 26)) w3.heap.size nx A3 n c3) := Box.alloc ⟨p0, p1⟩ _
    have hl35 : w3.heap.size < w5.heap.size := by omega
    clear hO5 hb5 HO4 HA4 HC4 HD4 HI4 hJ5 hsep5 HJ4
    go_wp2_with fail
    clear p0 p1
    refine (eqWheel_same nx A5 A3 n c5 c3 os w5.heap.size w3.heap.size _ HO5.out.reads HI5.out (by simp) (by simp; omega) hn2 HMO.out).mono ?_
    rintro e w6a ⟨rfl, hb6a⟩
    go_wp2_with fail
    refine (eqIntS_same B5 B3 q d5 d3 zs w6a.heap.size w3.heap.size _ (HG5.out.below hb6a).ints (HJ5.out.below hb6a (by simp; omega)) (by omega)).mono ?_
    rintro e w6' ⟨rfl, m6, rfl⟩
    obtain ⟨w6, hw6⟩ : ∃ w6, w6 = w6a.drewN m6 := ⟨_, rfl⟩
    rw [← hw6]
    have hb6 : Below (w5.alloc (.cells #[.int .i64 nx, .slice A5 n c5] 26)).heap.size (w5.alloc (.cells #[.int .i64 nx, .slice A5 n c5] 26)) w6 := by rw [hw6]; exact hb6a.trans ((Below.drewB m6).mono hb6a.size)
    have HG6 := Lib.hid (HG5.out.below hb6)
    have HJ6 := Lib.hid (HJ5.out.below hb6 (by simp; omega))
    clear hw6 hb6a HG5 HJ5
    have hs6 := hb6.size
    rw [World.size_alloc] at hs6
    have HO6 := Lib.hid (HO5.out.below hb6)
    have HX6 := Lib.hid (HX5.out.below hb6)
    have HE6 := Lib.hid (HE5.out.below hb6)
    have HC6 := Lib.hid (HC5.out.below hb6)
    have HI6 := Lib.hid (HI5.out.below hb6 (by simp; omega))
    have hb06 : Below w.heap.size w w6 := hb05.trans (hb6.mono hb05.size)
    obtain ⟨a60, a61⟩ := HA5.out.below hb6
    obtain ⟨d60, d61⟩ := HD5.out.below hb6
    clear HO5 HX5 HA5 HD5 HE5 HI5 HC5 hb6
    go_wp2_with fail
    go_region_held3 (fun w' => w'.cell? ⟨w.heap.size, 0, none⟩ = some (.int .i64 x) ∧ w'.cell? ⟨w.heap.size, 1, none⟩ = some (.slice A n c) ∧ w'.cell? ⟨w4.heap.size, 0, none⟩ = some (.int .i64 x) ∧ w'.cell? ⟨w4.heap.size, 1, none⟩ = some (.slice A4 n c4))
      (first | go_keep | (refine ⟨below_keep hb7 ?_, below_keep hb7 ?_, below_keep hb7 ?_, below_keep hb7 ?_⟩ <;> simp only [*]) | (refine ⟨below_keep hb8 ?_, below_keep hb8 ?_, below_keep hb8 ?_, below_keep hb8 ?_⟩ <;> simp only [*]))
      (first | (go_at_call 27; refine (toWheel_any x A n c ss w.heap.size _ (by exact HR.out.below hb06.drew (Nat.le_refl _)) (by exact hb06.size) hn2 HM2.out).mono ?_; rintro e w7 ⟨A7, c7, rfl, hO7, hb7⟩; have hb7' : Below w6.heap.size w6 w7 := below_undrew hb7; rw [HLn.out] at hO7 ⊢; have HO7 := Lib.hid hO7; clear hO7) | (go_at_call 29; refine (eqWheel_same x A4 A7 n c4 c7 ss w4.heap.size w7.heap.size _ (by exact HX6.out.reads.below hb7' (by omega)) (by exact HO7.out.reads) (by exact Nat.le_trans (by omega) hb7'.size) (by exact Nat.le_refl _) hn2 HM2.out).mono ?_; rintro e w8 ⟨rfl, hb8⟩))
    have hb68 : Below w6.heap.size w6 w8 := hb7'.trans (hb8.mono hb7'.size)
    have hb08 : Below w.heap.size w w8 := hb06.trans (hb68.mono hb06.size)
    have hs8 := hb68.size
    have HO8 := Lib.hid (HO6.out.below hb68)
    have HX8 := Lib.hid (HX6.out.below hb68)
    have HE8 := Lib.hid (HE6.out.below hb68)
    have HC8 := Lib.hid (HC6.out.below hb68)
    have HI8 := Lib.hid (HI6.out.below hb68 (by omega))
    have HA8 : Hid (Box w8 w.heap.size x A n c) := (Box.below ⟨a60, a61⟩ hb68 : Box w8 w.heap.size x A n c)
    obtain ⟨d80, d81⟩ := (Box.below ⟨d60, d61⟩ hb68 : Box w8 w4.heap.size x A4 n c4)
    have HG8 := Lib.hid (HG6.out.below hb68)
    have HJ8 := Lib.hid (HJ6.out.below hb68 (by omega))
    clear HG6 HJ6 HO6 HX6 HE6 HC6 HI6 a60 a61 d60 d61 HO7 hb7 hb7' hb8
    go_wp2_with fail
    refine (markWheel_any x A4 n c4 ss _ _ _ HX8.out hn2 (by have := HTS.out; omega) HM2.out).mono ?_
    rintro e w9 ⟨rfl, hO9, ht9⟩
    obtain ⟨k9, hk9⟩ : ∃ k9 : Int, k9 = 1 + 2 * tot ss := ⟨_, rfl⟩
    have hk90 : ¬ k9 < 0 := by omega
    rw [← hk9]
    have hs9 := ht9.size
    have hb09 : Below w.heap.size w w9 := ht9.below hb08 (by omega) (by omega)
    have HO9 := Lib.hid (HO8.out.turned ht9 (by omega))
    have HI9 := Lib.hid (HI8.out.turned ht9 (by omega) (by omega))
    have HA9 : Hid (Box w9 w.heap.size x A n c) := (HA8.out.turned ht9 (.inl (by omega)) : Box w9 w.heap.size x A n c)
    obtain ⟨c90, c91⟩ := (HC8.out.turned ht9 (.inl (by omega)) : Box w9 w3.heap.size nx A3 n c3)
    obtain ⟨e90, e91⟩ := (HE8.out.turned ht9 (.inr (by omega)) : Box w9 w5.heap.size nx A5 n c5)
    have HG9 := Lib.hid (OwnI.turned HG8.out ht9 (fun q' hq' => .inr (by have := (HG8.out.lt q' hq').1; omega)))
    have HJ9 : Hid (IsInts w9 w3.heap.size B3 q zs) := HJ8.out.below (ht9.below (B := w3.heap.size) (Below.refl _ _) (by omega) (by omega)) (Nat.le_refl _)
    clear HG8 HJ8 HO8 HX8 HE8 HC8 HI8 HA8 d80 d81 hO9 ht9 hk9
    go_wp2_with fail
    refine (eqWheel_same nx A5 A3 n c5 c3 os w5.heap.size w3.heap.size _ HO9.out.reads HI9.out (by omega) (by omega) hn2 HMO.out).mono ?_
    rintro e w10a ⟨rfl, hb10a⟩
    go_wp2_with fail
    refine (eqIntS_same B5 B3 q d5 d3 zs w10a.heap.size w3.heap.size _ (HG9.out.below hb10a).ints (HJ9.out.below hb10a (by omega)) (by omega)).mono ?_
    rintro e w10' ⟨rfl, m10, rfl⟩
    obtain ⟨w10, hw10⟩ : ∃ w10, w10 = w10a.drewN m10 := ⟨_, rfl⟩
    rw [← hw10]
    have hb10 : Below w9.heap.size w9 w10 := by rw [hw10]; exact hb10a.trans ((Below.drewB m10).mono hb10a.size)
    have HG10 := Lib.hid (HG9.out.below hb10)
    have HJ10 := Lib.hid (HJ9.out.below hb10 (by omega))
    clear hw10 hb10a HG9 HJ9
    have hs10 := hb10.size
    have hb010 : Below w.heap.size w w10 := hb09.trans (hb10.mono hb09.size)
    have HO10 := Lib.hid (HO9.out.below hb10)
    have HI10 := Lib.hid (HI9.out.below hb10 (by omega))
    have HA10 := Lib.hid (HA9.out.below hb10)
    have HC10 : Hid (Box w10 w3.heap.size nx A3 n c3) := (Box.below ⟨c90, c91⟩ hb10 : Box w10 w3.heap.size nx A3 n c3)
    obtain ⟨e100, e101⟩ := (Box.below ⟨e90, e91⟩ hb10 : Box w10 w5.heap.size nx A5 n c5)
    clear HO9 HI9 HA9 c90 c91 e90 e91 hb10
    go_wp2_with fail
    refine (markWheel_any nx A5 n c5 os _ _ _ HO10.out hn2 (by have := HTO.out; omega) HMO.out).mono ?_
    rintro e w11a ⟨rfl, hO11, ht11⟩
    obtain ⟨M0, hM0'⟩ : ∃ M0 : Int, M0 = 1 + 2 * tot os := ⟨_, rfl⟩
    have hM00 : 0 ≤ M0 := by omega
    have hM01 : M0 ≤ 8000000 := by have := HTO.out; omega
    have hM02 : ¬ M0 < 0 := by omega
    rw [← hM0']
    have HELD : Hid (∀ (B : Nat) (W : World), IsSlots W B A5 n (marksS 1 os) → B ≤ W.heap.size → Calls Try.prog 32 #[.agg #[.int .i64 nx, .slice A5 n c5], .int .i64 1] W fun e w' => e = .returned (.int .i64 M0) ∧ Below W.heap.size W w') := by
      intro B W h hB
      rw [hM0']
      exact heldWheel_any nx A5 n c5 os B W h hB hn2 (by have := HTO.out; omega) HMO.out
    have hs11a := ht11.size
    have hb011a : Below w.heap.size w w11a := ht11.below hb010 (by omega) (by omega)
    have HGI := Lib.hid (OwnI.turned HG10.out ht11 (fun q' hq' => .inl (HSEP.out q' hq')))
    have HOa := Lib.hid hO11
    have HI11a := Lib.hid (HI10.out.turned ht11 (by omega) (by omega))
    have HJ11a : Hid (IsInts w11a w3.heap.size B3 q zs) := HJ10.out.below (ht11.below (B := w3.heap.size) (Below.refl _ _) (by omega) (by omega)) (Nat.le_refl _)
    have HA11a : Hid (Box w11a w.heap.size x A n c) := (HA10.out.turned ht11 (.inl (by omega)) : Box w11a w.heap.size x A n c)
    have HC11a : Hid (Box w11a w3.heap.size nx A3 n c3) := (HC10.out.turned ht11 (.inl (by omega)) : Box w11a w3.heap.size nx A3 n c3)
    obtain ⟨e11a0, e11a1⟩ := (Box.turned ⟨e100, e101⟩ ht11 (.inr (Nat.le_refl _)) : Box w11a w5.heap.size nx A5 n c5)
    clear HO10 HI10 HA10 HC10 e100 e101 hO11 ht11 hM0' HG10 HJ10
    go_wp2_with fail
    refine (markIntS_any B5 q d5 zs M0 _ _ HGI.out (by omega) hM00 hM01).mono ?_
    rintro e w11 ⟨rfl, hGI11, hg11⟩
    have hs11 := hg11.size
    have hlow : ∀ q', (Value.slice B5 q d5).ownBlock = some q' → w4.heap.size + 1 ≤ q' := fun q' hq' => (HGI.out.lt q' hq').1
    have hblw : Below (w4.heap.size + 1) w11a w11 := (Below.refl _ _).grown hg11 (by omega) hlow
    have hb011 : Below w.heap.size w w11 := hb011a.trans (hblw.mono (by omega))
    have HG11 := Lib.hid (OwnS.ints HOa.out HGI.out.2 hg11)
    have HGI11 := Lib.hid hGI11
    have HI11 := Lib.hid (HI11a.out.below hblw (by omega))
    have HJ11 := Lib.hid (HJ11a.out.below hblw (by omega))
    have HA11 : Hid (Box w11 w.heap.size x A n c) := Box.grown HA11a.out hg11 (fun e => by have := hlow _ e; omega)
    have HC11 : Hid (Box w11 w3.heap.size nx A3 n c3) := Box.grown HC11a.out hg11 (fun e => by have := hlow _ e; omega)
    obtain ⟨e110, e111⟩ := (Box.grown (⟨e11a0, e11a1⟩ : Box w11a w5.heap.size nx A5 n c5) hg11 (fun e => by have := HLT.out _ e; omega) : Box w11 w5.heap.size nx A5 n c5)
    obtain ⟨M, hM⟩ : ∃ M : Int, M = M0 + q := ⟨_, rfl⟩
    have hM0 : ¬ M < 0 := by omega
    have HELI : Hid (∀ (B : Nat) (W : World), IsInts W B B5 q (marksI M0 q) → Calls Try.prog 38 #[.slice B5 q d5, .int .i64 M0] W fun e w' => e = .returned (.int .i64 M) ∧ w' = W) := by
      intro B W h
      rw [hM]
      exact heldIntS_any B5 q d5 M0 B W h (by omega) hM00 hM01
    rw [← hM]
    clear HI11a HJ11a HA11a HC11a e11a0 e11a1 hg11 HGI HOa hGI11 hM
    go_wp2_with fail
    refine (HELD.out _ _ HG11.out.reads (by omega)).mono ?_
    rintro e w12 ⟨rfl, hb12⟩
    have HGI12 := Lib.hid (HGI11.out.below hb12)
    have HJ12 := Lib.hid (HJ11.out.below hb12 (by omega))
    go_wp2_with fail
    refine (HELI.out _ _ HGI12.out.ints).mono ?_
    rintro e w12' ⟨rfl, hw12'⟩
    rw [hw12']
    clear hw12'
    have hs12 := hb12.size
    have hb012 : Below w.heap.size w w12 := hb011.trans (hb12.mono hb011.size)
    have HG12 := Lib.hid (HG11.out.below hb12)
    have HI12 := Lib.hid (HI11.out.below hb12 (by omega))
    have HC12 := Lib.hid (HC11.out.below hb12)
    have HE12 : Hid (Box w12 w5.heap.size nx A5 n c5) := (Box.below ⟨e110, e111⟩ hb12 : Box w12 w5.heap.size nx A5 n c5)
    obtain ⟨a120, a121⟩ := HA11.out.below hb12
    clear HG11 HI11 HC11 HA11 e110 e111 hb12 HGI11 HJ11
    go_wp2_with fail
    clear a120 a121
    refine (toWheel_any x A n c ss w.heap.size _ (HR.out.below hb012 (Nat.le_refl _)) hb012.size hn2 HM2.out).mono ?_
    rintro e w13 ⟨A13, c13, rfl, hO13, hb13⟩
    rw [HLn.out] at hO13 ⊢
    have HO13 := Lib.hid hO13
    have hs13 := hb13.size
    have hb013 : Below w.heap.size w w13 := hb012.trans (hb13.mono hb012.size)
    have HG13 := Lib.hid (HG12.out.below hb13)
    have HI13 := Lib.hid (HI12.out.below hb13 (by omega))
    have HC13 := Lib.hid (HC12.out.below hb13)
    have HE13 := Lib.hid (HE12.out.below hb13)
    have HGI13 := Lib.hid (HGI12.out.below hb13)
    have HJ13 := Lib.hid (HJ12.out.below hb13 (by omega))
    clear HG12 HI12 HC12 HE12 hb13 hO13 HGI12 HJ12
    go_wp2_with fail
    refine (HI.out A13 c13 w13.heap.size _ HO13.out.reads (Nat.le_refl _)).mono ?_
    rintro e w14 ⟨A14, c14, B14, d14, mid14, rfl, _, hO14, hJ14, _, hb14⟩
    rw [HNO.out] at hO14 ⊢
    rw [HQ.out] at hJ14 ⊢
    have HH14 := Lib.hid (hJ14.ints.below (below_a1 w14 (.cells #[.int .i64 nx, .slice A14 n c14] 26)) (Nat.le_refl _))
    have HGI14 := Lib.hid ((HGI13.out.below hb14).alloc (.cells #[.int .i64 nx, .slice A14 n c14] 26))
    have HJ14 := Lib.hid ((HJ13.out.below hb14 (by omega)).below (below_a1 w14 (.cells #[.int .i64 nx, .slice A14 n c14] 26)) (by have := hb14.size; omega))
    have hs14 := hb14.size
    have HO14 := Lib.hid (hO14.reads.below (below_a1 w14 (.cells #[.int .i64 nx, .slice A14 n c14] 26)) (Nat.le_refl _))
    have HG14 := Lib.hid ((HG13.out.below hb14).below (below_a1 w14 (.cells #[.int .i64 nx, .slice A14 n c14] 26)))
    have HI14 := Lib.hid ((HI13.out.below hb14 (by omega)).below (below_a1 w14 (.cells #[.int .i64 nx, .slice A14 n c14] 26)) (by omega))
    have HE14 := Lib.hid ((HE13.out.below hb14).alloc (.cells #[.int .i64 nx, .slice A14 n c14] 26))
    have hb014 : Below w.heap.size w (w14.alloc (.cells #[.int .i64 nx, .slice A14 n c14] 26)) := (hb013.trans (hb14.mono hb013.size)).alloc (by omega) _
    obtain ⟨p0, p1⟩ := HC13.out.below hb14
    have hl14 : w3.heap.size < w14.heap.size := by omega
    clear HG13 HI13 HC13 HE13 hb14 hO14 HO13 hJ14 HGI13 HJ13
    go_wp2_with fail
    clear p0 p1
    refine (eqWheel_same nx A14 A3 n c14 c3 os w14.heap.size w3.heap.size _ HO14.out HI14.out (by simp) (by simp; omega) hn2 HMO.out).mono ?_
    rintro e w15a ⟨rfl, hb15a⟩
    go_wp2_with fail
    refine (eqIntS_same B14 B3 q d14 d3 zs w14.heap.size w3.heap.size _ (HH14.out.below hb15a (by simp)) (HJ14.out.below hb15a (by simp; omega)) (by omega)).mono ?_
    rintro e w15' ⟨rfl, m15, rfl⟩
    obtain ⟨w15, hw15⟩ : ∃ w15, w15 = w15a.drewN m15 := ⟨_, rfl⟩
    rw [← hw15]
    have hb15 : Below (w14.alloc (.cells #[.int .i64 nx, .slice A14 n c14] 26)).heap.size (w14.alloc (.cells #[.int .i64 nx, .slice A14 n c14] 26)) w15 := by rw [hw15]; exact hb15a.trans ((Below.drewB m15).mono hb15a.size)
    have HGI15 := Lib.hid (HGI14.out.below hb15)
    clear hw15 hb15a HGI14 HJ14 HH14
    have hs15 := hb15.size
    rw [World.size_alloc] at hs15
    have hb015 : Below w.heap.size w w15 := hb014.trans (hb15.mono hb014.size)
    have HG15 := Lib.hid (HG14.out.below hb15)
    obtain ⟨e150, e151⟩ := HE14.out.below hb15
    clear HG14 HI14 HE14 HO14 hb15
    go_wp2_with fail
    refine (HELD.out _ _ HG15.out.reads (by omega)).mono ?_
    rintro e w16 ⟨rfl, hb16⟩
    have HGI16 := Lib.hid (HGI15.out.below hb16)
    go_wp2_with fail
    refine (HELI.out _ _ HGI16.out.ints).mono ?_
    rintro e w16' ⟨rfl, hw16'⟩
    rw [hw16']
    clear hw16'
    go_wp2
    go_ret
    exact ⟨rfl, hb015.trans (hb16.mono hb015.size)⟩
end Go.Proofs.Ythaecnemalpliaa.LawTurnWheel
