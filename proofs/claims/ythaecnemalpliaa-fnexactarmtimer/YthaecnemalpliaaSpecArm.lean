/-
  THE CONTRACT of the model's ArmTimer over this seat's translation; nothing that was there has turned.
-/
import Derived.Test.YthaecnemalpliaaArmV
import Derived.Test.YthaecnemalpliaaSpecStop
import Derived.Deep.RegionHeld3
namespace Go.Proofs.Ythaecnemalpliaa.WheelOk
open Go.ChangeShapes Go.WideShapes Go.ChangeAt Go.RowKit Go.Shelf
open Go.Proofs.Ythaecnemalpliaa.Timers Go.Proofs.Ythaecnemalpliaa.Ring
open Go.Proofs.Ythaecnemalpliaa.Tick (tokB tok_t inB specTickOk_any)
open Go.Proofs.Ythaecnemalpliaa.Spoke (spokeV spoke_t specSpokeOf_any)
set_option linter.unusedVariables false
set_option linter.unusedSimpArgs false

set_option maxRecDepth 100000 in
set_option maxHeartbeats 3000000 in
theorem specArm_any (now x y : Int) (A : Option Addr) (n c : Nat) (ss : List TList) (B : Nat) (w : World) (hr : IsSlots w B A n ss) (hB : B ≤ w.heap.size) (hn : n ≤ 1048576) (hm : ∀ j, (ss.getD j []).length ≤ 1048576) :
    Calls Try.prog 33 #[.agg #[.int .i64 now, .slice A n c], .int .i64 x, .int .i64 y] w (AnsW w now (armS now ss x y) (.bool (armB now ss x y))) := by
  have HM := Lib.hid hm
  have HR := Lib.hid hr
  have HL : Hid (ss.length = n) := hr.1
  obtain ⟨i8, hi8, hy0, hy1, hy2⟩ := info_parts info68
  clear hm hr
  go_enter Try.func33, Try.ntmps33
  go_wp2_with fail
  obtain ⟨w1, hw1⟩ : ∃ w1, w1 = (w.alloc (.cells #[.int .i64 now, .slice A n c] 26)).alloc (.cells #[.int .i64 0, .slice none 0 0] 26) := ⟨_, rfl⟩
  have hb01 : Below w.heap.size w w1 := by rw [hw1]; exact below_a2 _ _ _
  have hs1 : w1.heap.size = w.heap.size + 1 + 1 := by rw [hw1]; simp
  have hx1 : w1.heap[w.heap.size]? = some (.cells #[.int .i64 now, .slice A n c] 26 (0, 0)) := by
    rw [hw1, Below.heap_alloc _ _ _ (by simp)]
    exact heap_alloc_new w _
  have hx2 : w1.heap[w.heap.size + 1]? = some (.cells #[.int .i64 0, .slice none 0 0] 26 (0, 0)) := ansBox (lo := 0) hw1 (Below.refl _ _)
  have HX1 := Lib.hid hx1
  have HX2 := Lib.hid hx2
  rw [← hw1]
  clear hx1 hx2 hw1
  have no : ∀ W : World, Below w1.heap.size w1 W → armB now ss x y = false → Calls Try.prog 65 #[.agg #[.int .i64 now, .slice A n c]] W fun e w' =>
      ∃ A3 c3, e = .returned (.agg #[.int .i64 now, .slice A3 n c3]) ∧ w'.heap[w.heap.size + 1]? = some (.cells #[.int .i64 0, .slice none 0 0] 26 (0, 0)) ∧
        AnsW w now (armS now ss x y) (.bool (armB now ss x y)) (.returned (.tuple #[.agg #[.int .i64 now, .slice A3 n c3], .bool false])) ((w'.setCell ⟨w.heap.size + 1, 0, none⟩ (.int .i64 now)).setCell ⟨w.heap.size + 1, 1, none⟩ (.slice A3 n c3)) := by
    intro W hbW hV
    have hb0W : Below w.heap.size w W := hb01.trans (hbW.mono (by omega))
    have hsW := hbW.size
    refine (l02Copy_any now A n c ss B _ (HR.out.below hb0W hB) (by omega) hn HM.out).mono ?_
    rintro e w3 ⟨A3, c3, rfl, hO3, hb3⟩
    have hb03 : Below w.heap.size w w3 := hb0W.trans (hb3.mono hb0W.size)
    have hVS : armS now ss x y = ss := by unfold armS; rw [hV]; rfl
    refine ⟨A3, c3, by rw [HL.out], (hb3.block _ (by omega)).trans ((hbW.block _ (by omega)).trans HX2.out), ?_⟩
    have h5 := ansW_end (now0 := now) (now := now) (r := .bool false) (b := w.heap.size + 1) (ss := ss) hO3 hb03 (by omega) (by omega) (by omega)
    rw [hVS, hV]
    rw [HL.out] at h5
    exact h5
  have NO := Lib.hid no
  clear no
  refine (specWheelOk_any now A n c ss B _ (HR.out.below hb01 hB) (by omega) hn HM.out).mono ?_
  rintro e w2 ⟨rfl, hb2⟩
  have hs2 := hb2.size
  obtain ⟨a0, a1, _, _⟩ := blk2 ((hb2.block w.heap.size (by omega)).trans HX1.out)
  cases hw : wheelB now ss
  · have HV : Hid (armB now ss x y = false) := (by simp [armB, hw] : armB now ss x y = false)
    go_wp2_with fail
    refine (NO.out _ hb2 HV.out).mono ?_
    rintro e w3 ⟨A3, c3, rfl, hblk, hans⟩
    obtain ⟨d0, d1, g0, g1⟩ := blk2 hblk
    have HA := Lib.hid hans
    clear hans hblk
    go_wp2_with fail
    exact bodyPost_ret (v := .tuple #[.agg #[.int .i64 now, .slice A3 n c3], .bool false]) (by simp [results, Try.results33, go_sem, d0, d1]) rfl HA.out
  · cases ht : tokB y
    · have HV : Hid (armB now ss x y = false) := (by simp [armB, ht] : armB now ss x y = false)
      go_wp2_with (go_at_call 53; refine (specTickOk_any _ _).mono ?_; rintro e w' ⟨rfl, rfl⟩)
      refine (NO.out _ hb2 HV.out).mono ?_
      rintro e w3 ⟨A3, c3, rfl, hblk, hans⟩
      obtain ⟨d0, d1, g0, g1⟩ := blk2 hblk
      have HA := Lib.hid hans
      clear hans hblk
      go_wp2_with fail
      exact bodyPost_ret (v := .tuple #[.agg #[.int .i64 now, .slice A3 n c3], .bool false]) (by simp [results, Try.results33, go_sem, d0, d1]) rfl HA.out
    · have HG := Lib.hid (wheelB_good hw)
      have HV : Hid (armB now ss x y = wheelB now (armL x y ss)) := by show _ = _; unfold armB; rw [hw, ht]; rfl
      have HSS : Hid (stopS now ss x = stopL x ss) := stopS_good hw
      have hb02 : Below w.heap.size w w2 := hb01.trans (hb2.mono (by omega))
      have HN8 : Hid (n = 8) := HL.out.symm.trans HG.out.len
      have HSL : Hid ((stopL x ss).length = n) := (stopL_length x ss).trans HL.out
      obtain ⟨k, hk⟩ : ∃ k, k = (y % 8).toNat := ⟨_, rfl⟩
      have hk8 : k < 8 := by omega
      have hkn : k < n := by have := HN8.out; omega
      have HSP : Hid (spokeV y = (k : Int)) := by show _ = _; rw [spoke_t ht]; omega
      have HAL : Hid ((stopL x ss).set k ((stopL x ss).getD k [] ++ [(x, y)]) = armL x y ss) := by show _ = _; rw [hk]; rfl
      clear hk
      go_wp2_with (go_at_call 53; refine (specTickOk_any _ _).mono ?_; rintro e w' ⟨rfl, rfl⟩)
      refine (specStop_any now x A n c ss B _ (HR.out.below hb02 hB) (by omega) hn HM.out).mono ?_
      rintro e w3 ⟨A3, c3, rfl, hO3, hb3⟩
      rw [HSS.out, HSL.out] at hO3
      rw [HSS.out, HSL.out]
      obtain ⟨ga, rfl, hga1, hga2⟩ := hO3.at_ (by omega)
      have hs3 := hb3.size
      clear a0 a1
      go_wp2_with fail
      obtain ⟨w4, hw4⟩ : ∃ w4, w4 = w3.alloc (.cells #[.int .i64 now, .slice (some ⟨ga, 0, none⟩) n c3] 26) := ⟨_, rfl⟩
      rw [← hw4]
      have hb34 : Below w3.heap.size w3 w4 := by rw [hw4]; exact below_a1 _ _
      have hs4 : w4.heap.size = w3.heap.size + 1 := by rw [hw4]; simp
      have hx4 : w4.heap[w3.heap.size]? = some (.cells #[.int .i64 now, .slice (some ⟨ga, 0, none⟩) n c3] 26 (0, 0)) := by rw [hw4]; exact heap_alloc_new w3 _
      have HO4 := Lib.hid (hO3.below hb34)
      obtain ⟨A7, c7, hcell, hfr, hTk⟩ := HO4.out.cell hkn
      obtain ⟨m, hm⟩ : ∃ m, m = ((stopL x ss).getD k []).length := ⟨_, rfl⟩
      have hm1 : m ≤ 100 := by have h1 := tot_get (stopL x ss) k; have h2 := tot_stop x ss; have h3 := HG.out.hundred; omega
      rw [← hm] at hcell hTk
      have HMM := Lib.hid hm
      have hb45 : Below w4.heap.size w4 (w4.alloc (.cells #[.int .i64 x, .int .i64 y] 68)).drew := (below_a1 _ _).drew
      have HO5 := Lib.hid (HO4.out.below hb45)
      have HROW5 := Lib.hid (own_below hTk.2.1 hb45)
      have hcell5 := below_keep hb45 hcell
      have HCM : Hid ((w4.alloc (.cells #[.int .i64 x, .int .i64 y] 68)).drew.cell? ⟨ga, k, none⟩ = some (.slice A7 ((stopL x ss).getD k []).length c7)) := by rw [hm] at hcell5; exact hcell5
      have hcellA : (w4.alloc (.cells #[.int .i64 x, .int .i64 y] 68)).cell? ⟨ga, k, none⟩ = some (.slice A7 m c7) := hcell5
      have HX5 : Hid ((w4.alloc (.cells #[.int .i64 x, .int .i64 y] 68)).drew.heap[w3.heap.size]? = some (.cells #[.int .i64 now, .slice (some ⟨ga, 0, none⟩) n c3] 26 (0, 0))) := (hb45.block _ (by omega)).trans hx4
      have HRNE := Lib.hid (row_ne_blk HROW5.out HX5.out (by decide))
      have HNEWS : Hid ((w4.alloc (.cells #[.int .i64 x, .int .i64 y] 68)).drew.heap[w3.heap.size + 1]? = some (.cells #[.int .i64 x, .int .i64 y] 68 (0, 0))) := by rw [← hs4]; exact heap_alloc_new w4 _
      have HTB := Lib.hid (fun q hq => (hTk.blk q hq))
      obtain ⟨b0, b1, _, _⟩ := blk2 hx4
      have hj0 : (0 : Int) ≤ (k : Int) := by omega
      have hj1 : (k : Int) < (n : Int) := by omega
      have hsd : (w4.alloc (.cells #[.int .i64 x, .int .i64 y] 68)).drew.heap.size = w4.heap.size + 1 := World.size_alloc _ _
      have HSD := Lib.hid hsd
      have hb14 : Below w1.heap.size w1 w4 := (hb2.trans (hb3.mono hs2)).trans (hb34.mono (by omega))
      have HB34 := Lib.hid hb34
      have HB45 := Lib.hid hb45
      have HX4 := Lib.hid hx4
      have HH5 : Hid ((w4.alloc (.cells #[.int .i64 x, .int .i64 y] 68)).drew.cell? ⟨w3.heap.size, 0, none⟩ = some (.int .i64 now) ∧ (w4.alloc (.cells #[.int .i64 x, .int .i64 y] 68)).drew.cell? ⟨w3.heap.size, 1, none⟩ = some (.slice (some ⟨ga, 0, none⟩) n c3)) := ⟨below_keep hb45 b0, below_keep hb45 b1⟩
      clear hO3 hw4 hTk hm hcell5 hsd hb34 hb45 hx4
      refine wp_region_held_drew (S := fun w' => w'.cell? ⟨w3.heap.size, 0, none⟩ = some (.int .i64 now) ∧ w'.cell? ⟨w3.heap.size, 1, none⟩ = some (.slice (some ⟨ga, 0, none⟩) n c3)) (by kernel_rfl) ⟨b0, b1⟩ (fun hHeld => ?_)
      refine wpAnyH_take (i := 0) (v := ?v0_1) rfl (by kernel_rfl) (by kernel_rfl) (by kernel_rfl) (fun _ _ _ h => h) (Or.inl ⟨by rfl, ?hy0_1⟩) (by assumption) ?_
      case hy0_1 => (intro w0 hSw; (try dsimp only at hSw); (try (obtain ⟨hSa, hSb⟩ := hSw)); go_simp <;> with_reducible rfl)
      try simp only [Act.put, List.getElem_toArray, List.getElem_cons_zero, List.getElem_cons_succ, List.setIfInBounds_toArray, List.set_cons_zero, List.set_cons_succ]
      refine wpAnyH_take (i := 1) (v := ?v1_2) rfl (by kernel_rfl) (by kernel_rfl) (by kernel_rfl) (fun _ _ _ h => h) (Or.inl ⟨by rfl, ?hy1_2⟩) (by assumption) ?_
      case hy1_2 => (intro w0 hSw; (try dsimp only at hSw); (try (obtain ⟨hSa, hSb⟩ := hSw)); go_simp <;> with_reducible rfl)
      try simp only [Act.put, List.getElem_toArray, List.getElem_cons_zero, List.getElem_cons_succ, List.setIfInBounds_toArray, List.set_cons_zero, List.set_cons_succ]
      refine wpAnyH_take (i := 2) (v := ?v2_3) rfl (by kernel_rfl) (by kernel_rfl) (by kernel_rfl) (fun _ _ _ h => h) (Or.inl ⟨by rfl, ?hy2_3⟩) (by assumption) ?_
      case hy2_3 => (intro w0 hSw; (try dsimp only at hSw); (try (obtain ⟨hSa, hSb⟩ := hSw)); go_simp <;> with_reducible rfl)
      try simp only [Act.put, List.getElem_toArray, List.getElem_cons_zero, List.getElem_cons_succ, List.setIfInBounds_toArray, List.set_cons_zero, List.set_cons_succ]
      refine wpAnyH_take (i := 4) (v := ?v4_4) rfl (by kernel_rfl) (by kernel_rfl) (by kernel_rfl) (fun _ _ _ h => h) (Or.inl ⟨by rfl, ?hy4_4⟩) (by assumption) ?_
      case hy4_4 => (intro w0 hSw; (try dsimp only at hSw); (try (obtain ⟨hSa, hSb⟩ := hSw)); go_simp <;> with_reducible rfl)
      try simp only [Act.put, List.getElem_toArray, List.getElem_cons_zero, List.getElem_cons_succ, List.setIfInBounds_toArray, List.set_cons_zero, List.set_cons_succ]
      refine wpAnyH_take (i := 5) (v := ?v5_5) rfl (by kernel_rfl) (by kernel_rfl) (by kernel_rfl) (fun _ _ _ h => h) (Or.inl ⟨by rfl, ?hy5_5⟩) (by assumption) ?_
      case hy5_5 => (intro w0 hSw; (try dsimp only at hSw); (try (obtain ⟨hSa, hSb⟩ := hSw)); go_simp <;> with_reducible rfl)
      try simp only [Act.put, List.getElem_toArray, List.getElem_cons_zero, List.getElem_cons_succ, List.setIfInBounds_toArray, List.set_cons_zero, List.set_cons_succ]
      refine wpAnyH_take (i := 6) (v := ?v6_6) rfl (by kernel_rfl) (by kernel_rfl) (by kernel_rfl) (fun _ _ _ h => h) (Or.inl ⟨by rfl, ?hy6_6⟩) (by assumption) ?_
      case hy6_6 => (intro w0 hSw; (try dsimp only at hSw); (try (obtain ⟨hSa, hSb⟩ := hSw)); go_simp <;> with_reducible rfl)
      try simp only [Act.put, List.getElem_toArray, List.getElem_cons_zero, List.getElem_cons_succ, List.setIfInBounds_toArray, List.set_cons_zero, List.set_cons_succ]
      refine wpAnyH_take (i := 10) (v := ?v10_7) rfl (by kernel_rfl) (by kernel_rfl) (by kernel_rfl) (fun _ _ _ h => h) (Or.inl ⟨by rfl, ?hy10_7⟩) (by assumption) ?_
      case hy10_7 => (intro w0 hSw; (try dsimp only at hSw); (try (obtain ⟨hSa, hSb⟩ := hSw)); go_simp <;> with_reducible rfl)
      try simp only [Act.put, List.getElem_toArray, List.getElem_cons_zero, List.getElem_cons_succ, List.setIfInBounds_toArray, List.set_cons_zero, List.set_cons_succ]
      refine wpAnyH_take (i := 11) (v := ?v11_8) rfl (by kernel_rfl) (by kernel_rfl) (by kernel_rfl) (fun _ _ _ h => h) (Or.inl ⟨by rfl, ?hy11_8⟩) (by assumption) ?_
      case hy11_8 => (intro w0 hSw; (try dsimp only at hSw); (try (obtain ⟨hSa, hSb⟩ := hSw)); go_simp <;> with_reducible rfl)
      try simp only [Act.put, List.getElem_toArray, List.getElem_cons_zero, List.getElem_cons_succ, List.setIfInBounds_toArray, List.set_cons_zero, List.set_cons_succ]
      refine wpAnyH_take (i := 12) (v := ?v12_9) rfl (by kernel_rfl) (by kernel_rfl) (by kernel_rfl) (fun _ _ _ h => h) (Or.inl ⟨by rfl, ?hy12_9⟩) (by assumption) ?_
      case hy12_9 => (intro w0 hSw; (try dsimp only at hSw); (try (obtain ⟨hSa, hSb⟩ := hSw)); go_simp <;> with_reducible rfl)
      try simp only [Act.put, List.getElem_toArray, List.getElem_cons_zero, List.getElem_cons_succ, List.setIfInBounds_toArray, List.set_cons_zero, List.set_cons_succ]
      refine wpAnyH_ready (rs := [3, 13]) (by kernel_rfl) (by simp) (AllReadyH.cons rfl (fun K hK => ?A10) (AllReadyH.cons rfl (fun K hK => ?B10) AllReadyH.nil))
      case' A10 =>
        go_simp
        refine (specSpokeOf_any _ _).mono ?_
        rintro e w' ⟨rfl, rfl⟩
        rw [HSP.out]
        refine hK.out _ _ hHeld (fun hHeld => ?_)
        clear hK K
        try simp only [Act.put, List.getElem_toArray, List.getElem_cons_zero, List.getElem_cons_succ, List.setIfInBounds_toArray, List.set_cons_zero, List.set_cons_succ]
        refine wpAnyH_ready (rs := [7, 13]) (by kernel_rfl) (by simp) (AllReadyH.cons rfl (fun K hK => ?A11) (AllReadyH.cons rfl (fun K hK => ?B11) AllReadyH.nil))
        case' A11 =>
          go_simp
          refine (specSpokeOf_any _ _).mono ?_
          rintro e w' ⟨rfl, rfl⟩
          rw [HSP.out]
          refine hK.out _ _ hHeld (fun hHeld => ?_)
          clear hK K
          try simp only [Act.put, List.getElem_toArray, List.getElem_cons_zero, List.getElem_cons_succ, List.setIfInBounds_toArray, List.set_cons_zero, List.set_cons_succ]
          refine wpAnyH_take (i := 8) (v := ?v8_12) rfl (by kernel_rfl) (by kernel_rfl) (by kernel_rfl) (fun _ _ _ h => h) (Or.inl ⟨by rfl, ?hy8_12⟩) (by assumption) ?_
          case hy8_12 => (intro w0 hSw; (try dsimp only at hSw); (try (obtain ⟨hSa, hSb⟩ := hSw)); go_simp <;> with_reducible rfl)
          try simp only [Act.put, List.getElem_toArray, List.getElem_cons_zero, List.getElem_cons_succ, List.setIfInBounds_toArray, List.set_cons_zero, List.set_cons_succ]
          refine wpAnyH_ready (rs := [9, 13]) (by kernel_rfl) (by simp) (AllReadyH.cons rfl (fun K hK => ?A13) (AllReadyH.cons rfl (fun K hK => ?B13) AllReadyH.nil))
          case' A13 =>
            go_simp
            refine hK.out _ _ hHeld (fun hHeld => ?_)
            clear hK K
            try simp only [Act.put, List.getElem_toArray, List.getElem_cons_zero, List.getElem_cons_succ, List.setIfInBounds_toArray, List.set_cons_zero, List.set_cons_succ]
            refine wpAnyH_ready (rs := [13]) (by kernel_rfl) (by simp) (AllReadyH.cons rfl (fun K hK => ?_) AllReadyH.nil)
            go_simp
            refine hK.out _ _ HH5.out (fun hHeld => ?_)
            clear hK K
            try simp only [Act.put, List.getElem_toArray, List.getElem_cons_zero, List.getElem_cons_succ, List.setIfInBounds_toArray, List.set_cons_zero, List.set_cons_succ]
          case' B13 =>
            go_simp
            refine hK.out _ _ HH5.out (fun hHeld => ?_)
            clear hK K
            try simp only [Act.put, List.getElem_toArray, List.getElem_cons_zero, List.getElem_cons_succ, List.setIfInBounds_toArray, List.set_cons_zero, List.set_cons_succ]
            refine wpAnyH_ready (rs := [9]) (by kernel_rfl) (by simp) (AllReadyH.cons rfl (fun K hK => ?_) AllReadyH.nil)
            go_simp
            refine hK.out _ _ hHeld (fun hHeld => ?_)
            clear hK K
            try simp only [Act.put, List.getElem_toArray, List.getElem_cons_zero, List.getElem_cons_succ, List.setIfInBounds_toArray, List.set_cons_zero, List.set_cons_succ]
        case' B11 =>
          go_simp
          refine hK.out _ _ HH5.out (fun hHeld => ?_)
          clear hK K
          try simp only [Act.put, List.getElem_toArray, List.getElem_cons_zero, List.getElem_cons_succ, List.setIfInBounds_toArray, List.set_cons_zero, List.set_cons_succ]
          refine wpAnyH_ready (rs := [7]) (by kernel_rfl) (by simp) (AllReadyH.cons rfl (fun K hK => ?_) AllReadyH.nil)
          go_simp
          refine (specSpokeOf_any _ _).mono ?_
          rintro e w' ⟨rfl, rfl⟩
          rw [HSP.out]
          refine hK.out _ _ hHeld (fun hHeld => ?_)
          clear hK K
          try simp only [Act.put, List.getElem_toArray, List.getElem_cons_zero, List.getElem_cons_succ, List.setIfInBounds_toArray, List.set_cons_zero, List.set_cons_succ]
          refine wpAnyH_take (i := 8) (v := ?v8_14) rfl (by kernel_rfl) (by kernel_rfl) (by kernel_rfl) (fun _ _ _ h => h) (Or.inl ⟨by rfl, ?hy8_14⟩) (by assumption) ?_
          case hy8_14 => (intro w0 hSw; (try dsimp only at hSw); (try (obtain ⟨hSa, hSb⟩ := hSw)); go_simp <;> with_reducible rfl)
          try simp only [Act.put, List.getElem_toArray, List.getElem_cons_zero, List.getElem_cons_succ, List.setIfInBounds_toArray, List.set_cons_zero, List.set_cons_succ]
          refine wpAnyH_ready (rs := [9]) (by kernel_rfl) (by simp) (AllReadyH.cons rfl (fun K hK => ?_) AllReadyH.nil)
          go_simp
          refine hK.out _ _ hHeld (fun hHeld => ?_)
          clear hK K
          try simp only [Act.put, List.getElem_toArray, List.getElem_cons_zero, List.getElem_cons_succ, List.setIfInBounds_toArray, List.set_cons_zero, List.set_cons_succ]
      case' B10 =>
        go_simp
        refine hK.out _ _ HH5.out (fun hHeld => ?_)
        clear hK K
        try simp only [Act.put, List.getElem_toArray, List.getElem_cons_zero, List.getElem_cons_succ, List.setIfInBounds_toArray, List.set_cons_zero, List.set_cons_succ]
        refine wpAnyH_ready (rs := [3]) (by kernel_rfl) (by simp) (AllReadyH.cons rfl (fun K hK => ?_) AllReadyH.nil)
        go_simp
        refine (specSpokeOf_any _ _).mono ?_
        rintro e w' ⟨rfl, rfl⟩
        rw [HSP.out]
        refine hK.out _ _ hHeld (fun hHeld => ?_)
        clear hK K
        try simp only [Act.put, List.getElem_toArray, List.getElem_cons_zero, List.getElem_cons_succ, List.setIfInBounds_toArray, List.set_cons_zero, List.set_cons_succ]
        refine wpAnyH_ready (rs := [7]) (by kernel_rfl) (by simp) (AllReadyH.cons rfl (fun K hK => ?_) AllReadyH.nil)
        go_simp
        refine (specSpokeOf_any _ _).mono ?_
        rintro e w' ⟨rfl, rfl⟩
        rw [HSP.out]
        refine hK.out _ _ hHeld (fun hHeld => ?_)
        clear hK K
        try simp only [Act.put, List.getElem_toArray, List.getElem_cons_zero, List.getElem_cons_succ, List.setIfInBounds_toArray, List.set_cons_zero, List.set_cons_succ]
        refine wpAnyH_take (i := 8) (v := ?v8_15) rfl (by kernel_rfl) (by kernel_rfl) (by kernel_rfl) (fun _ _ _ h => h) (Or.inl ⟨by rfl, ?hy8_15⟩) (by assumption) ?_
        case hy8_15 => (intro w0 hSw; (try dsimp only at hSw); (try (obtain ⟨hSa, hSb⟩ := hSw)); go_simp <;> with_reducible rfl)
        try simp only [Act.put, List.getElem_toArray, List.getElem_cons_zero, List.getElem_cons_succ, List.setIfInBounds_toArray, List.set_cons_zero, List.set_cons_succ]
        refine wpAnyH_ready (rs := [9]) (by kernel_rfl) (by simp) (AllReadyH.cons rfl (fun K hK => ?_) AllReadyH.nil)
        go_simp
        refine hK.out _ _ hHeld (fun hHeld => ?_)
        clear hK K
        try simp only [Act.put, List.getElem_toArray, List.getElem_cons_zero, List.getElem_cons_succ, List.setIfInBounds_toArray, List.set_cons_zero, List.set_cons_succ]
      all_goals
        refine wpAnyH_ready (rs := [14]) (by kernel_rfl) (by simp) (AllReadyH.cons rfl (fun K hK => ?_) AllReadyH.nil)
        refine step_append_lies _ rfl (.tmp 35) (.tmp 39) 66 rfl w2.heap.size 68 i8 _ 2 16 Try.underlying66 hi8 hy0 hy1 hy2 rfl (by omega) (.slice A7 m c7) m _ rfl (by exact HROW5.out) ⟨w3.heap.size + 1, 0, none⟩ 1 1 [.int .i64 x, .int .i64 y] rfl rfl (World.news_of_block (cs := #[.int .i64 x, .int .i64 y]) HNEWS.out) (by intro u hu; simp at hu; rcases hu with rfl | rfl <;> rfl) (by omega) (by unfold maxLen; omega) (by omega) (by rw [HSD.out]; omega) (w4.heap.size + 1) HSD.out ?_
        intro g2 cap2 w5 hown2 hgr2 hat2 hlt2
        have hsz5 := hgr2.size
        rw [HSD.out] at hsz5
        have hT2 : OwnT w5 w2.heap.size w5.heap.size (some ⟨g2, 0, none⟩) (m + 1) cap2 ((stopL x ss).getD k [] ++ [(x, y)]) := ⟨by simp [HMM.out], by rw [flat_app]; exact hown2, fun p e => by injection e with e; subst e; exact hlt2⟩
        obtain ⟨hO6, hf6, u6, hu6⟩ := HO5.out.put2 hkn HCM.out (by rw [← HMM.out]; exact hgr2) hT2 (by rw [HSD.out]; omega) (by
          rw [← HMM.out]
          rcases hat2 with h | h
          · exact .inl h.symm
          · refine .inr fun q hq => ?_
            have h5 : g2 = q := by simpa [Value.ownBlock] using hq
            subst h5
            rw [HSD.out]
            omega) (by omega)
        rw [HAL.out] at hO6
        have hgb5 := (hgr2.block w3.heap.size (by rw [HSD.out]; omega) (fun e => HRNE.out e.symm)).trans HX5.out
        obtain ⟨d50, d51, _, _⟩ := blk2 hgb5
        have hgb6 := (Below.heap_setCell w5 ⟨ga, k, none⟩ (.slice (some ⟨g2, 0, none⟩) (m + 1) cap2) w3.heap.size (by show w3.heap.size ≠ ga; omega)).trans hgb5
        obtain ⟨d60, d61, _, _⟩ := blk2 hgb6
        have HO6 := Lib.hid hO6
        have hb16 : Below w1.heap.size w1 (w5.setCell ⟨ga, k, none⟩ (.slice (some ⟨g2, 0, none⟩) (m + 1) cap2)) := ((hb14.trans (HB45.out.mono (by omega))).grown hgr2 (by rw [HSD.out]; omega) (fun q hq => by have := (HTB.out q hq).1; omega)).setCell (p := ⟨ga, k, none⟩) (by show _ ≤ ga; omega) _
        refine hK.out _ _ ⟨d50, d51⟩ (fun hHeld => ?_)
        clear hK K hO6 hgb5 hgb6 hgr2 hown2 hT2 hat2
        try simp only [Act.put, List.getElem_toArray, List.getElem_cons_zero, List.getElem_cons_succ, List.setIfInBounds_toArray, List.set_cons_zero, List.set_cons_succ]
        refine wpAnyH_take (i := 15) (v := ?v15_16) rfl (by kernel_rfl) (by kernel_rfl) (by kernel_rfl) (fun _ _ _ h => h) (Or.inl ⟨by rfl, ?hy15_16⟩) (by assumption) ?_
        case hy15_16 => (intro w0 hSw; (try dsimp only at hSw); (try (obtain ⟨hSa, hSb⟩ := hSw)); go_simp <;> with_reducible rfl)
        try simp only [Act.put, List.getElem_toArray, List.getElem_cons_zero, List.getElem_cons_succ, List.setIfInBounds_toArray, List.set_cons_zero, List.set_cons_succ]
        refine wpAnyH_ready (rs := [16]) (by kernel_rfl) (by simp) (AllReadyH.cons rfl (fun K hK => ?_) AllReadyH.nil)
        go_simp
        refine hK.out _ _ ⟨d60, d61⟩ (fun hHeld => ?_)
        clear hK K
        refine wpAnyH_done (by kernel_rfl) ?_ _
        obtain ⟨w6, hw6⟩ : ∃ w6, w6 = w5.setCell ⟨ga, k, none⟩ (.slice (some ⟨g2, 0, none⟩) (m + 1) cap2) := ⟨_, rfl⟩
        have hs6 : w6.heap.size = w5.heap.size := by rw [hw6]; simp [World.setCell]
        rw [← hw6] at HO6 d60 d61 hb16 ⊢
        rw [← hs6] at HO6
        have HAN : Hid ((armL x y ss).length = n) := (armL_len x y ss).trans HL.out
        have HMA : Hid (∀ j, ((armL x y ss).getD j []).length ≤ 1048576) := fun j => by
          have h1 := tot_get (armL x y ss) j
          have h2 := armL_tot (x := x) (y := y) HG.out.len
          have h3 := HG.out.few
          omega
        clear hw6 hs6 d50 d51 hHeld hf6 hu6
        go_wp2_with fail
        refine (specWheelOk_any now (some ⟨ga, 0, none⟩) n c3 (armL x y ss) w6.heap.size _ HO6.out.reads (Nat.le_refl _) hn HMA.out).mono ?_
        rintro e w7 ⟨rfl, hb7⟩
        have hs7 := hb7.size
        have hb17 : Below w1.heap.size w1 w7 := hb16.trans (hb7.mono hb16.size)
        have hs17 := hb17.size
        have hs16 := hb16.size
        obtain ⟨e70, e71⟩ := (Box.below ⟨d60, d61⟩ hb7 : Box w7 w3.heap.size now (some ⟨ga, 0, none⟩) n c3)
        cases hv : wheelB now (armL x y ss)
        · have HVF : Hid (armB now ss x y = false) := HV.out.trans hv
          obtain ⟨a0, a1, _, _⟩ := blk2 ((hb17.block w.heap.size (by omega)).trans HX1.out)
          go_wp2_with fail
          refine (NO.out _ hb17 HVF.out).mono ?_
          rintro e w8 ⟨A8, c8, rfl, hblk, hans⟩
          obtain ⟨r0, r1, _, _⟩ := blk2 hblk
          have HA := Lib.hid hans
          clear hans hblk
          go_wp2_with fail
          exact bodyPost_ret (v := .tuple #[.agg #[.int .i64 now, .slice A8 n c8], .bool false]) (by simp [results, Try.results33, go_sem, r0, r1]) rfl HA.out
        · have HVT : Hid (armB now ss x y = true) := HV.out.trans hv
          have HVS : Hid (armS now ss x y = armL x y ss) := by show _ = _; unfold armS; rw [HVT.out]; rfl
          have HO7 := Lib.hid ((HO6.out.below hb7).more hs7)
          have hb07 : Below w.heap.size w w7 := hb01.trans (hb17.mono (by omega))
          obtain ⟨r0, r1, _, _⟩ := blk2 ((hb17.block (w.heap.size + 1) (by omega)).trans HX2.out)
          have hl1 : w.heap.size + 1 < w7.heap.size := by omega
          go_wp2_with fail
          rw [HVS.out, HVT.out]
          refine bodyPost_ret (v := .tuple #[.agg #[.int .i64 now, .slice (some ⟨ga, 0, none⟩) n c3], .bool true]) (by simp [results, Try.results33, go_sem, r0, r1]) rfl ?_
          have h5 := ansW_end (now0 := now) (now := now) (r := .bool true) (b := w.heap.size + 1) (ss := armL x y ss) (by rw [HAN.out]; exact HO7.out) hb07 (by omega) (by omega) (by omega)
          rw [HAN.out] at h5
          exact h5
end Go.Proofs.Ythaecnemalpliaa.WheelOk
