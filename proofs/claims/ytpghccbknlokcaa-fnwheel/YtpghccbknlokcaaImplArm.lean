/-
  THE CONTRACT of the program's ArmTimer over this seat's translation; nothing that was there has turned.
-/
import Derived.Test.YtpghccbknlokcaaArmV
namespace Go.Proofs.Ytpghccbknlokcaa.WheelOk
open Go.ChangeShapes Go.WideShapes Go.ChangeAt Go.RowKit Go.Shelf
open Go.Proofs.Ytpghccbknlokcaa.Timers Go.Proofs.Ytpghccbknlokcaa.Ring
open Go.Proofs.Ytpghccbknlokcaa.Tick (tokB tok_t inB tickOk_any)
open Go.Proofs.Ytpghccbknlokcaa.Spoke (spokeV spoke_t)
set_option linter.unusedVariables false

set_option maxRecDepth 100000 in
set_option maxHeartbeats 3000000 in
theorem armTimer_w (now x y : Int) (A : Option Addr) (n c : Nat) (ss : List TList) (B : Nat) (w : World) (hr : IsSlots w B A n ss) (hB : B ≤ w.heap.size) (hn : n ≤ 1048576) (hm : ∀ j, (ss.getD j []).length ≤ 1048576) :
    Calls Try.prog 10 #[.agg #[.int .i64 now, .slice A n c], .int .i64 x, .int .i64 y] w (AnsW w now (armS now ss x y) (.bool (armB now ss x y))) := by
  have HM := Lib.hid hm
  have HR := Lib.hid hr
  have HL : Hid (ss.length = n) := hr.1
  clear hm hr
  go_enter Try.func10, Try.ntmps10
  go_wp2_with fail
  obtain ⟨w1, hw1⟩ : ∃ w1, w1 = (w.alloc (.cells #[.int .i64 now, .slice A n c] 26)).alloc (.cells #[.int .i64 0, .slice none 0 0] 26) := ⟨_, rfl⟩
  have hb01 : Below w.heap.size w w1 := by rw [hw1]; exact below_a2 _ _ _
  have hs1 : w1.heap.size = w.heap.size + 1 + 1 := by rw [hw1]; simp
  have hx1 : w1.heap[w.heap.size]? = some (.cells #[.int .i64 now, .slice A n c] 26 (0, 0)) := by
    rw [hw1, Below.heap_alloc _ _ _ (by simp)]
    exact heap_alloc_new w _
  have hx2 : w1.heap[w.heap.size + 1]? = some (.cells #[.int .i64 0, .slice none 0 0] 26 (0, 0)) := ansBox (lo := 0) hw1 (Below.refl _ _)
  have HX1 := Lib.hid hx1
  have HX2 := Lib.hid hx2
  rw [← hw1]
  clear hx1 hx2 hw1
  have no : ∀ W : World, Below w1.heap.size w1 W → armB now ss x y = false → Calls Try.prog 47 #[.agg #[.int .i64 now, .slice A n c]] W fun e w' =>
      ∃ A3 c3, e = .returned (.agg #[.int .i64 now, .slice A3 n c3]) ∧ w'.heap[w.heap.size + 1]? = some (.cells #[.int .i64 0, .slice none 0 0] 26 (0, 0)) ∧
        AnsW w now (armS now ss x y) (.bool (armB now ss x y)) (.returned (.tuple #[.agg #[.int .i64 now, .slice A3 n c3], .bool false])) ((w'.setCell ⟨w.heap.size + 1, 0, none⟩ (.int .i64 now)).setCell ⟨w.heap.size + 1, 1, none⟩ (.slice A3 n c3)) := by
    intro W hbW hV
    have hb0W : Below w.heap.size w W := hb01.trans (hbW.mono (by omega))
    have hsW := hbW.size
    refine (sameWheel_any now A n c ss B _ (HR.out.below hb0W hB) (by omega) hn HM.out).mono ?_
    rintro e w3 ⟨A3, c3, rfl, hO3, hb3⟩
    have hb03 : Below w.heap.size w w3 := hb0W.trans (hb3.mono hb0W.size)
    have hVS : armS now ss x y = ss := by unfold armS; rw [hV]; rfl
    refine ⟨A3, c3, by rw [HL.out], (hb3.block _ (by omega)).trans ((hbW.block _ (by omega)).trans HX2.out), ?_⟩
    have h5 := ansW_end (now0 := now) (now := now) (r := .bool false) (b := w.heap.size + 1) (ss := ss) hO3 hb03 (by omega) (by omega) (by omega)
    rw [hVS, hV]
    rw [HL.out] at h5
    exact h5
  have NO := Lib.hid no
  clear no
  refine (ringOf_any now A n c ss B _ (HR.out.below hb01 hB) (by omega) hn HM.out).mono ?_
  rintro e w2 ⟨hb2, ⟨hw, rfl⟩ | ⟨hw, g, rfl, hO⟩⟩
  · have HV : Hid (armB now ss x y = false) := (by simp [armB, hw] : armB now ss x y = false)
    obtain ⟨c0, c1, f0, f1⟩ := blk2 ((hb2.block w.heap.size (by omega)).trans HX1.out)
    clear hw
    go_wp2_with fail
    refine (NO.out _ hb2 HV.out).mono ?_
    rintro e w3 ⟨A3, c3, rfl, hblk, hans⟩
    obtain ⟨d0, d1, g0, g1⟩ := blk2 hblk
    have HA := Lib.hid hans
    clear hans hblk
    go_wp2_with fail
    exact bodyPost_ret (v := .tuple #[.agg #[.int .i64 now, .slice A3 n c3], .bool false]) (by simp [results, Try.results10, go_sem, d0, d1]) rfl HA.out
  · have HG := Lib.hid (wheelB_good hw)
    have HO := Lib.hid hO
    have HW := Lib.hid hw
    have hs2 := hb2.size
    obtain ⟨c0, c1, f0, f1⟩ := blk2 ((hb2.block w.heap.size (by omega)).trans HX1.out)
    clear hO hw
    cases ha : inB x 1 1000000000
    · have HV : Hid (armB now ss x y = false) := by
        cases ht : tokB y
        · show _ = _; simp [armB, ht]
        · show _ = _; rw [arm_eq HW.out ht, ha]; rfl
      go_wp2_with (first | (go_at_call 46; refine (timerIdOk_any _ _).mono ?_; rintro e w' ⟨rfl, rfl⟩) | (go_at_call 44; refine (tickOk_any _ _).mono ?_; rintro e w' ⟨rfl, rfl⟩))
      refine (NO.out _ hb2 HV.out).mono ?_
      rintro e w3 ⟨A3, c3, rfl, hblk, hans⟩
      obtain ⟨d0, d1, g0, g1⟩ := blk2 hblk
      have HA := Lib.hid hans
      clear hans hblk
      go_wp2_with fail
      exact bodyPost_ret (v := .tuple #[.agg #[.int .i64 now, .slice A3 n c3], .bool false]) (by simp [results, Try.results10, go_sem, d0, d1]) rfl HA.out
    · cases ht : tokB y
      · have HV : Hid (armB now ss x y = false) := (by simp [armB, ht] : armB now ss x y = false)
        go_wp2_with (first | (go_at_call 46; refine (timerIdOk_any _ _).mono ?_; rintro e w' ⟨rfl, rfl⟩) | (go_at_call 44; refine (tickOk_any _ _).mono ?_; rintro e w' ⟨rfl, rfl⟩))
        refine (NO.out _ hb2 HV.out).mono ?_
        rintro e w3 ⟨A3, c3, rfl, hblk, hans⟩
        obtain ⟨d0, d1, g0, g1⟩ := blk2 hblk
        have HA := Lib.hid hans
        clear hans hblk
        go_wp2_with fail
        exact bodyPost_ret (v := .tuple #[.agg #[.int .i64 now, .slice A3 n c3], .bool false]) (by simp [results, Try.results10, go_sem, d0, d1]) rfl HA.out
      · by_cases hyn : y ≤ now
        · have HV : Hid (armB now ss x y = false) := by
            show _ = _
            rw [arm_eq HW.out ht, decide_eq_false (show ¬ now < y by omega)]
            simp
          go_wp2_with (first | (go_at_call 46; refine (timerIdOk_any _ _).mono ?_; rintro e w' ⟨rfl, rfl⟩) | (go_at_call 44; refine (tickOk_any _ _).mono ?_; rintro e w' ⟨rfl, rfl⟩))
          refine (NO.out _ hb2 HV.out).mono ?_
          rintro e w3 ⟨A3, c3, rfl, hblk, hans⟩
          obtain ⟨d0, d1, g0, g1⟩ := blk2 hblk
          have HA := Lib.hid hans
          clear hans hblk
          go_wp2_with fail
          exact bodyPost_ret (v := .tuple #[.agg #[.int .i64 now, .slice A3 n c3], .bool false]) (by simp [results, Try.results10, go_sem, d0, d1]) rfl HA.out
        · have HV : Hid (armB now ss x y = decide (tot (armL x y ss) ≤ 80)) := by
            show _ = _
            rw [arm_eq HW.out ht, ha, decide_eq_true (show now < y by omega)]
            rfl
          go_wp2_with (first | (go_at_call 46; refine (timerIdOk_any _ _).mono ?_; rintro e w' ⟨rfl, rfl⟩) | (go_at_call 44; refine (tickOk_any _ _).mono ?_; rintro e w' ⟨rfl, rfl⟩))
          refine (takeOff_any _ g now x ss _ HO.out HG.out.spots HG.out.once HG.out.hundred hs2).mono ?_
          rintro e w3 ⟨rfl, hO3, hb3⟩
          have HO3 := Lib.hid hO3
          have hb13 : Below w1.heap.size w1 w3 := hb2.trans hb3
          have hs3 := hb13.size
          obtain ⟨k, hk⟩ : ∃ k, k = (y % 8).toNat := ⟨_, rfl⟩
          have hk8 : k < 8 := by omega
          have hsp : spokeV y = (k : Int) := by rw [spoke_t ht]; omega
          have HK := Lib.hid hk
          have HSP := Lib.hid hsp
          have HAL : Hid ((stopL x ss).set k ((stopL x ss).getD k [] ++ [(x, y)]) = armL x y ss) := by show _ = _; rw [hk]; rfl
          have HL8 : Hid (((stopL x ss).getD k []).length ≤ 100) := by have h1 := tot_get (stopL x ss) k; have h2 := tot_stop x ss; have h3 := HG.out.hundred; exact (by omega : ((stopL x ss).getD k []).length ≤ 100)
          clear hO3 hk hsp c0 c1 f0 f1
          go_wp2_with fail
          refine (hang_any _ g now x y (stopL x ss) k _ HO3.out ht HSP.out hk8 HL8.out hs3).mono ?_
          rintro e w4 ⟨rfl, hO4, hb4⟩
          rw [HAL.out] at hO4
          have HO4 := Lib.hid hO4
          have hb14 : Below w1.heap.size w1 w4 := hb13.trans hb4
          have HSPO := Lib.hid (armL_spots (x := x) HG.out.len ht HG.out.spots)
          have htot := armL_tot (x := x) (y := y) HG.out.len
          have hfew := HG.out.few
          have hA81 : tot (armL x y ss) ≤ 81 := by omega
          clear hO4
          go_wp2_with fail
          refine (count_any _ g now (armL x y ss) _ HO4.out (fun j t h => (HSPO.out j t h).1) (by omega)).mono ?_
          rintro e w5 ⟨rfl, hb5⟩
          have HO5 := Lib.hid (HO4.out.below hb5)
          have hb15 : Below w1.heap.size w1 w5 := hb14.trans (hb5.mono hb14.size)
          have hs5 := hb15.size
          obtain ⟨T, hT⟩ : ∃ T, T = tot (armL x y ss) := ⟨_, rfl⟩
          have HA81 := Lib.hid hA81
          rw [← hT] at HV hA81 ⊢
          have HT := Lib.hid hT
          obtain ⟨c0, c1, f0, f1⟩ := blk2 ((hb15.block w.heap.size (by omega)).trans HX1.out)
          clear hT htot hfew
          by_cases h80 : T ≤ 80
          · have HVT : Hid (armB now ss x y = true) := by show _ = _; rw [HV.out, decide_eq_true h80]
            have HVS : Hid (armS now ss x y = armL x y ss) := by show _ = _; unfold armS; rw [HVT.out]; rfl
            have HAN : Hid ((armL x y ss).length = n) := (armL_len x y ss).trans HL.out
            go_wp2_with fail
            refine (wheelOf_any _ g now (armL x y ss) _ HO5.out HSPO.out (by have := HA81.out; omega)).mono ?_
            rintro e w6 ⟨A6, c6, rfl, hO6, hb6⟩
            obtain ⟨d0, d1, g0, g1⟩ := blk2 ((hb6.block (w.heap.size + 1) (by omega)).trans ((hb15.block (w.heap.size + 1) (by omega)).trans HX2.out))
            have HO6 := Lib.hid hO6
            have hb05 : Below w.heap.size w w5 := hb01.trans (hb15.mono (by omega))
            have hb06 : Below w.heap.size w w6 := hb05.trans (hb6.mono hb05.size)
            rw [HAN.out] at HO6 ⊢
            clear hO6
            go_wp2_with fail
            rw [HVS.out, HVT.out]
            refine bodyPost_ret (v := .tuple #[.agg #[.int .i64 now, .slice A6 n c6], .bool true]) (by simp [results, Try.results10, go_sem, d0, d1]) rfl ?_
            have h5 := ansW_end (now0 := now) (now := now) (r := .bool true) (b := w.heap.size + 1) (ss := armL x y ss) (by rw [HAN.out]; exact HO6.out) hb06 (by omega) (by omega) (by omega)
            rw [HAN.out] at h5
            exact h5
          · have HVF : Hid (armB now ss x y = false) := by show _ = _; rw [HV.out, decide_eq_false h80]
            go_wp2_with fail
            refine (NO.out _ hb15 HVF.out).mono ?_
            rintro e w6 ⟨A6, c6, rfl, hblk, hans⟩
            obtain ⟨d0, d1, g0, g1⟩ := blk2 hblk
            have HA := Lib.hid hans
            clear hans hblk
            go_wp2_with fail
            exact bodyPost_ret (v := .tuple #[.agg #[.int .i64 now, .slice A6 n c6], .bool false]) (by simp [results, Try.results10, go_sem, d0, d1]) rfl HA.out
end Go.Proofs.Ytpghccbknlokcaa.WheelOk
