import Derived.Test.YtklgjjmcflgjeaaGreatQ
import Derived.Test.YtklgjjmcflgjeaaGreatR07
import Derived.Test.YtklgjjmcflgjeaaGreatR13
import Derived.Test.YtklgjjmcflgjeaaGreatR15
set_option linter.unusedVariables false
set_option linter.unusedSimpArgs false
namespace Go.Proofs.YtklgjjmcflgjeaaGreat.BakS
open Go.ChangeShapes Go.WideShapes Go.ChangeAt Go.RowKit
open LK Pods FleetV Sp Hl CountI
open Tick (inB tokB sinceV sinceI_any tickOk_any specTickOk_any)
open BakI
open CountS (take_get)
set_option maxRecDepth 100000 in
set_option maxHeartbeats 12800000 in
theorem specBaked_any (x0 x1 x2 x3 x4 x5 x6 x7 x8 x9 x10 rev now : Int) (A : Option Addr) (n c : Nat) (nx : Int) (ps : PList) (B : Nat) (w : World) (hr : IsPods w B A n ps) (hB : B ≤ w.heap.size) (hn : n ≤ 1048576) : Calls Tryz.prog 189 #[.agg #[.int .i64 x0, .int .i64 x1, .int .i64 x2, .int .i64 x3, .int .i64 x4, .int .i64 x5, .int .i64 x6, .int .i64 x7, .int .i64 x8, .int .i64 x9, .int .i64 x10], .agg #[.slice A n c, .int .i64 nx], .int .i64 rev, .int .i64 now] w (Says (.bool (bakedV x0 x1 x2 x3 x4 x5 x6 x7 x8 x9 x10 rev now (ps, nx))) w) := by
  obtain ⟨R, hR⟩ : ∃ R, R = bakedV x0 x1 x2 x3 x4 x5 x6 x7 x8 x9 x10 rev now (ps, nx) := ⟨_, rfl⟩
  rw [← hR]
  have HR := Lib.hid hR
  have HL : Hid (ps.length = n) := hr.1
  have HP := Lib.hid hr
  clear hR hr
  obtain ⟨V, hV⟩ : ∃ V, V = ((w.alloc (.cells #[.int .i64 x0, .int .i64 x1, .int .i64 x2, .int .i64 x3, .int .i64 x4, .int .i64 x5, .int .i64 x6, .int .i64 x7, .int .i64 x8, .int .i64 x9, .int .i64 x10] 25)).alloc (.cells #[.slice A n c, .int .i64 nx] 34)) := ⟨_, rfl⟩
  have HB : Hid (Below w.heap.size w V) := by show Below _ _ _; rw [hV]; exact bel2 _ _ _
  have K0 : Hid (V.heap[w.heap.size]? = some (.cells #[.int .i64 x0, .int .i64 x1, .int .i64 x2, .int .i64 x3, .int .i64 x4, .int .i64 x5, .int .i64 x6, .int .i64 x7, .int .i64 x8, .int .i64 x9, .int .i64 x10] 25)) := by have h := box_alloc (box_new w (.cells #[.int .i64 x0, .int .i64 x1, .int .i64 x2, .int .i64 x3, .int .i64 x4, .int .i64 x5, .int .i64 x6, .int .i64 x7, .int .i64 x8, .int .i64 x9, .int .i64 x10] 25)) (.cells #[.slice A n c, .int .i64 nx] 34); (try simp only [World.size_alloc] at h); rw [hV]; exact h
  have K1 : Hid (V.heap[w.heap.size + 1]? = some (.cells #[.slice A n c, .int .i64 nx] 34)) := by have h := box_new (w.alloc (.cells #[.int .i64 x0, .int .i64 x1, .int .i64 x2, .int .i64 x3, .int .i64 x4, .int .i64 x5, .int .i64 x6, .int .i64 x7, .int .i64 x8, .int .i64 x9, .int .i64 x10] 25)) (.cells #[.slice A n c, .int .i64 nx] 34); (try simp only [World.size_alloc] at h); rw [hV]; exact h
  go_enter Tryz.func189, Tryz.ntmps189
  go_upto_region 1 with fail
  rw [← hV]
  clear hV
  go_wp2_with (refine wpList_load_row rfl 25 _ rfl _ rfl _ _ (0, 0) _ K0.out Tryz.underlying25 rfl (by kernel_rfl) ?_)
  refine (specSpecOk_any x0 x1 x2 x3 x4 x5 x6 x7 x8 x9 x10 _).mono ?_
  rintro e w1 ⟨rfl, hb⟩
  have K0' := Lib.hid (box_below K0.out hb)
  clear K0
  have K0 := K0'
  clear K0'
  have K1' := Lib.hid (box_below K1.out hb)
  clear K1
  have K1 := K1'
  clear K1'
  have HB' := Lib.hid (bel_then HB.out hb HB.out.size)
  clear HB hb
  have HB := HB'
  clear HB'
  cases h1 : specB x0 x1 x2 x3 x4 x5 x6 x7 x8 x9 x10
  · have HF : Hid (R = false) := by show _ = _; rw [HR.out]; simp [bakedV, h1]
    clear h1
    go_wp2
    go_ret
    exact ⟨by rw [HF.out]; rfl, HB.out⟩
  have Hh1 := Lib.hid h1
  clear h1
  have f0 := box_cell K1.out 0 _ rfl
  have f1 := box_cell K1.out 1 _ rfl
  go_wp2_with fail
  clear f0 f1
  refine (FleetSpec.specFleetOk_any A n c nx ps B _ (HP.out.below HB.out hB) (Nat.le_trans hB HB.out.size) hn).mono ?_
  rintro e w2 ⟨rfl, hb⟩
  have K0' := Lib.hid (box_below K0.out hb)
  clear K0
  have K0 := K0'
  clear K0'
  have K1' := Lib.hid (box_below K1.out hb)
  clear K1
  have K1 := K1'
  clear K1'
  have HB' := Lib.hid (bel_then HB.out hb HB.out.size)
  clear HB hb
  have HB := HB'
  clear HB'
  cases h2 : decide (FGood ps nx)
  · have HF : Hid (R = false) := by show _ = _; rw [HR.out]; simp [bakedV, Hh1.out, h2]
    clear h2
    go_wp2
    go_ret
    exact ⟨by rw [HF.out]; rfl, HB.out⟩
  have Hh2 := Lib.hid h2
  clear h2
  go_wp2_with fail
  refine (specTickOk_any now _).mono ?_
  rintro e w' ⟨rfl, rfl⟩
  cases h3 : tokB now
  · have HF : Hid (R = false) := by show _ = _; rw [HR.out]; simp [bakedV, Hh1.out, Hh2.out, h3]
    clear h3
    go_wp2
    go_ret
    exact ⟨by rw [HF.out]; rfl, HB.out⟩
  have Hh3 := Lib.hid h3
  clear h3
  have HF : Hid (R = decide (x9 ≤ (cntF (bakB x3 x10 rev now) ps : Nat))) := by show _ = _; rw [HR.out]; simp [bakedV, Hh1.out, Hh2.out, Hh3.out]
  have hbd := specB_t Hh1.out
  have bx : (0 ≤ x3 ∧ x3 ≤ 1000) ∧ (0 ≤ x10 ∧ x10 ≤ 1000) := by omega
  clear hbd HR Hh1 Hh2 Hh3
  have fz := box_cell K1.out 0 _ rfl
  go_wp2_with fail
  clear fz
  go_loopw [9, 10] (fun q i wr => ∃ (k m : Nat), k ≤ n ∧ i = .int .i64 k ∧ q = .int .i64 (m : Int) ∧ m ≤ k ∧ Hid (m = cntF (bakB x3 x10 rev now) (ps.take k)) ∧ Hid (wr.heap[w.heap.size]? = some (.cells #[.int .i64 x0, .int .i64 x1, .int .i64 x2, .int .i64 x3, .int .i64 x4, .int .i64 x5, .int .i64 x6, .int .i64 x7, .int .i64 x8, .int .i64 x9, .int .i64 x10] 25)) ∧ Hid (wr.heap[w.heap.size + 1]? = some (.cells #[.slice A n c, .int .i64 nx] 34)) ∧ Hid (Below w.heap.size w wr)) (fun _ i _ => n - (RowKit.intOf i).toNat)
  case atStart => exact ⟨0, 0, Nat.zero_le _, rfl, rfl, Nat.le_refl _, by simp [Hid, cntF], K0, K1, HB⟩
  case round =>
    clear K0 K1 HB
    obtain ⟨k, m, hk, rfl, rfl, hmk, HM, M0, M1, MB⟩ := hrel
    by_cases hlt : k < n
    case neg =>
      have HK : Hid (k = n) := (by omega : k = n)
      have hd : decide ((k : Int) < (n : Int)) = false := decide_eq_false (by omega)
      have hall : ps.take k = ps := List.take_of_length_le (by rw [HL.out, HK.out]; exact Nat.le_refl _)
      rw [hall] at HM
      rw [← HM.out] at HF
      clear hall HM
      have fz := box_cell M1.out 0 _ rfl
      have c9 := box_cell M0.out 9 _ rfl
      by_cases hge : x9 ≤ (m : Int)
      case pos =>
        have hd2 : decide (x9 ≤ (m : Int)) = true := by simp [hge]
        have HV : Hid (R = true) := by show _ = _; rw [HF.out, hd2]
        go_wp2
        go_ret
        exact ⟨by rw [HV.out]; rfl, MB.out⟩
      case neg =>
        have hd2 : decide (x9 ≤ (m : Int)) = false := by simp [hge]
        have HV : Hid (R = false) := by show _ = _; rw [HF.out, hd2]
        go_wp2
        go_ret
        exact ⟨by rw [HV.out]; rfl, MB.out⟩
    have hd : decide ((k : Int) < (n : Int)) = true := decide_eq_true (by omega)
    have hkl : k < ps.length := by rw [HL.out]; exact hlt
    have htk := take_get hkl
    obtain ⟨b, off, y0, y1, y2, y3, y4, rfl, hbB, hz, hc0, hc1, hc2, hc3, hc4⟩ := (HP.out.below MB.out hB).at_ hlt
    rw [hz] at htk
    have hs1 := cnt_snoc (bakB x3 x10 rev now) (ps.take k) (y0, y1, y2, y3, y4)
    rw [← htk, ← HM.out] at hs1
    have HS1 := Lib.hid hs1
    clear hs1 htk hz hkl HM
    obtain ⟨Q, hQ⟩ : ∃ Q, Q = decide (x3 + x10 ≤ sinceV y4 now) := ⟨_, rfl⟩
    have he1 : (decide (0 ≤ sinceV y4 now) && decide (x3 + x10 ≤ sinceV y4 now)) = Q := by (rw [hQ]; by_cases hg : x3 + x10 ≤ sinceV y4 now <;> simp [hg]; omega)
    have HLg : Hid (∀ W : World, Calls Tryz.prog 146 #[.agg #[.int .i64 y0, .int .i64 y1, .int .i64 y2, .int .i64 y3, .int .i64 y4], .int .i64 now, .int .i64 (x3 + x10)] W (Says (.bool Q) W)) := fun W => by have h := long_any y0 y1 y2 y3 y4 now (x3 + x10) W; rw [he1] at h; exact h
    have HQ := Lib.hid hQ
    clear hQ he1
    have hw1 : IntKind.i64.wrap (x3 + x10) = x3 + x10 := IntWalk.i64_in _ ⟨by omega, by omega⟩
    have fz : wr.cell? ⟨w.heap.size + 1, 0, none⟩ = some (.slice (some ⟨b, off, none⟩) n c) := box_cell M1.out 0 _ rfl
    have c3 := box_cell M0.out 3 _ rfl
    have c10 := box_cell M0.out 10 _ rfl
    cases hx : (y1 == rev)
    case false =>
      have hz1 : bakB x3 x10 rev now (y0, y1, y2, y3, y4) = false := by simp [bakB, hx]
      have HE1 : Hid (cntF (bakB x3 x10 rev now) (ps.take (k + 1)) = m) := by show _ = _; rw [HS1.out, hz1]; rfl
      clear hz1
      go_wp2_with fail
      refine wp_region_held_drew (S := fun w' => w'.cell? ⟨w.heap.size + 1, 0, none⟩ = some (.slice (some ⟨b, off, none⟩) n c) ∧ w'.cell? ⟨b, off + k * 5, none⟩ = some (.int .i64 y0) ∧ w'.cell? ⟨b, off + k * 5 + 1, none⟩ = some (.int .i64 y1) ∧ w'.cell? ⟨b, off + k * 5 + 2, none⟩ = some (.int .i64 y2) ∧ w'.cell? ⟨b, off + k * 5 + 3, none⟩ = some (.int .i64 y3) ∧ w'.cell? ⟨b, off + k * 5 + 4, none⟩ = some (.int .i64 y4) ∧ w'.cell? ⟨w.heap.size, 3, none⟩ = some (.int .i64 x3) ∧ w'.cell? ⟨w.heap.size, 10, none⟩ = some (.int .i64 x10)) (by kernel_rfl) ⟨fz, hc0, hc1, hc2, hc3, hc4, c3, c10⟩ (fun hHeld => ?_)
      refine tkk (i := 0) rfl ?_
      try simp only [Act.put, pj]
      refine tkk (i := 1) rfl ?_
      try simp only [Act.put, pj]
      refine tkk (i := 2) rfl ?_
      try simp only [Act.put, pj]
      refine tkk (i := 3) rfl ?_
      try simp only [Act.put, pj]
      refine tkk (i := 4) rfl ?_
      try simp only [Act.put, pj]
      refine tkk (i := 5) rfl ?_
      try simp only [Act.put, pj]
      refine tkk (i := 6) rfl ?_
      try simp only [Act.put, pj]
      refine tkk (i := 7) rfl ?_
      try simp only [Act.put, pj]
      refine tkk (i := 8) rfl ?_
      try simp only [Act.put, pj]
      refine tkj (i := 9) (v := undef) rfl (Or.inr ⟨by rfl, rfl⟩) ?_
      try simp only [Act.put, pj]
      refine tkj (i := 10) (v := undef) rfl (Or.inr ⟨by rfl, rfl⟩) ?_
      try simp only [Act.put, pj]
      refine tkj (i := 11) (v := undef) rfl (Or.inr ⟨by rfl, rfl⟩) ?_
      try simp only [Act.put, pj]
      refine tkj (i := 12) (v := undef) rfl (Or.inr ⟨by rfl, rfl⟩) ?_
      try simp only [Act.put, pj]
      refine tkj (i := 13) (v := undef) rfl (Or.inr ⟨by rfl, rfl⟩) ?_
      try simp only [Act.put, pj]
      refine tkj (i := 14) (v := undef) rfl (Or.inr ⟨by rfl, rfl⟩) ?_
      try simp only [Act.put, pj]
      refine tkj (i := 15) (v := undef) rfl (Or.inr ⟨by rfl, rfl⟩) ?_
      try simp only [Act.put, pj]
      refine tkk (i := 16) rfl ?_
      try simp only [Act.put, pj]
      refine tkk (i := 17) rfl ?_
      try simp only [Act.put, pj]
      refine tkj (i := 18) (v := undef) rfl (Or.inr ⟨by rfl, rfl⟩) ?_
      try simp only [Act.put, pj]
      refine tkj (i := 19) (v := undef) rfl (Or.inr ⟨by rfl, rfl⟩) ?_
      try simp only [Act.put, pj]
      refine tkj (i := 20) (v := undef) rfl (Or.inr ⟨by rfl, rfl⟩) ?_
      try simp only [Act.put, pj]
      refine tkj (i := 21) (v := undef) rfl (Or.inr ⟨by rfl, rfl⟩) ?_
      try simp only [Act.put, pj]
      refine tkj (i := 22) (v := undef) rfl (Or.inr ⟨by rfl, rfl⟩) ?_
      try simp only [Act.put, pj]
      refine tkj (i := 23) (v := undef) rfl (Or.inr ⟨by rfl, rfl⟩) ?_
      try simp only [Act.put, pj]
      refine tkj (i := 24) (v := undef) rfl (Or.inr ⟨by rfl, rfl⟩) ?_
      try simp only [Act.put, pj]
      refine tkj (i := 25) (v := undef) rfl (Or.inr ⟨by rfl, rfl⟩) ?_
      try simp only [Act.put, pj]
      refine tkj (i := 26) (v := undef) rfl (Or.inr ⟨by rfl, rfl⟩) ?_
      try simp only [Act.put, pj]
      refine tkj (i := 27) (v := undef) rfl (Or.inr ⟨by rfl, rfl⟩) ?_
      try simp only [Act.put, pj]
      refine tkj (i := 28) (v := undef) rfl (Or.inr ⟨by rfl, rfl⟩) ?_
      try simp only [Act.put, pj]
      refine tkj (i := 29) (v := undef) rfl (Or.inr ⟨by rfl, rfl⟩) ?_
      try simp only [Act.put, pj]
      refine tkk (i := 30) rfl ?_
      try simp only [Act.put, pj]
      refine wpAnyH_done (by kernel_rfl) ?_ _
      clear hHeld
      have MD : Below w.heap.size w wr.drew := MB.out.drew
      go_wp2
      go_roundw
      case rel => exact ⟨k + 1, m, by omega, by go_num, rfl, by omega, by show _ = _; rw [HE1.out], M0, M1, MD⟩
      case measure => simp [RowKit.intOf]; omega
    cases hq : (y2 == 2)
    case false =>
      have hz1 : bakB x3 x10 rev now (y0, y1, y2, y3, y4) = false := by simp [bakB, hx, hq]
      have HE1 : Hid (cntF (bakB x3 x10 rev now) (ps.take (k + 1)) = m) := by show _ = _; rw [HS1.out, hz1]; rfl
      clear hz1
      go_wp2_with fail
      refine wp_region_held_drew (S := fun w' => w'.cell? ⟨w.heap.size + 1, 0, none⟩ = some (.slice (some ⟨b, off, none⟩) n c) ∧ w'.cell? ⟨b, off + k * 5, none⟩ = some (.int .i64 y0) ∧ w'.cell? ⟨b, off + k * 5 + 1, none⟩ = some (.int .i64 y1) ∧ w'.cell? ⟨b, off + k * 5 + 2, none⟩ = some (.int .i64 y2) ∧ w'.cell? ⟨b, off + k * 5 + 3, none⟩ = some (.int .i64 y3) ∧ w'.cell? ⟨b, off + k * 5 + 4, none⟩ = some (.int .i64 y4) ∧ w'.cell? ⟨w.heap.size, 3, none⟩ = some (.int .i64 x3) ∧ w'.cell? ⟨w.heap.size, 10, none⟩ = some (.int .i64 x10)) (by kernel_rfl) ⟨fz, hc0, hc1, hc2, hc3, hc4, c3, c10⟩ (fun hHeld => ?_)
      refine tkk (i := 0) rfl ?_
      try simp only [Act.put, pj]
      refine tkk (i := 1) rfl ?_
      try simp only [Act.put, pj]
      refine tkk (i := 2) rfl ?_
      try simp only [Act.put, pj]
      refine tkk (i := 3) rfl ?_
      try simp only [Act.put, pj]
      refine tkk (i := 4) rfl ?_
      try simp only [Act.put, pj]
      refine tkk (i := 5) rfl ?_
      try simp only [Act.put, pj]
      refine tkk (i := 6) rfl ?_
      try simp only [Act.put, pj]
      refine tkk (i := 7) rfl ?_
      try simp only [Act.put, pj]
      refine tkk (i := 8) rfl ?_
      try simp only [Act.put, pj]
      refine tkk (i := 9) rfl ?_
      try simp only [Act.put, pj]
      refine tkk (i := 10) rfl ?_
      try simp only [Act.put, pj]
      refine tkk (i := 11) rfl ?_
      try simp only [Act.put, pj]
      refine tkk (i := 12) rfl ?_
      try simp only [Act.put, pj]
      refine tkk (i := 13) rfl ?_
      try simp only [Act.put, pj]
      refine tkk (i := 14) rfl ?_
      try simp only [Act.put, pj]
      refine tkk (i := 15) rfl ?_
      try simp only [Act.put, pj]
      refine tkk (i := 16) rfl ?_
      try simp only [Act.put, pj]
      refine tkk (i := 17) rfl ?_
      try simp only [Act.put, pj]
      refine tkj (i := 18) (v := undef) rfl (Or.inr ⟨by rfl, rfl⟩) ?_
      try simp only [Act.put, pj]
      refine tkj (i := 19) (v := undef) rfl (Or.inr ⟨by rfl, rfl⟩) ?_
      try simp only [Act.put, pj]
      refine tkj (i := 20) (v := undef) rfl (Or.inr ⟨by rfl, rfl⟩) ?_
      try simp only [Act.put, pj]
      refine tkj (i := 21) (v := undef) rfl (Or.inr ⟨by rfl, rfl⟩) ?_
      try simp only [Act.put, pj]
      refine tkj (i := 22) (v := undef) rfl (Or.inr ⟨by rfl, rfl⟩) ?_
      try simp only [Act.put, pj]
      refine tkj (i := 23) (v := undef) rfl (Or.inr ⟨by rfl, rfl⟩) ?_
      try simp only [Act.put, pj]
      refine tkj (i := 24) (v := undef) rfl (Or.inr ⟨by rfl, rfl⟩) ?_
      try simp only [Act.put, pj]
      refine tkj (i := 25) (v := undef) rfl (Or.inr ⟨by rfl, rfl⟩) ?_
      try simp only [Act.put, pj]
      refine tkj (i := 26) (v := undef) rfl (Or.inr ⟨by rfl, rfl⟩) ?_
      try simp only [Act.put, pj]
      refine tkj (i := 27) (v := undef) rfl (Or.inr ⟨by rfl, rfl⟩) ?_
      try simp only [Act.put, pj]
      refine tkj (i := 28) (v := undef) rfl (Or.inr ⟨by rfl, rfl⟩) ?_
      try simp only [Act.put, pj]
      refine tkj (i := 29) (v := undef) rfl (Or.inr ⟨by rfl, rfl⟩) ?_
      try simp only [Act.put, pj]
      refine tkk (i := 30) rfl ?_
      try simp only [Act.put, pj]
      refine wpAnyH_done (by kernel_rfl) ?_ _
      clear hHeld
      have MD : Below w.heap.size w wr.drew := MB.out.drew
      go_wp2
      go_roundw
      case rel => exact ⟨k + 1, m, by omega, by go_num, rfl, by omega, by show _ = _; rw [HE1.out], M0, M1, MD⟩
      case measure => simp [RowKit.intOf]; omega
    cases Q
    case false =>
      have hz1 : bakB x3 x10 rev now (y0, y1, y2, y3, y4) = false := by simp only [bakB, hx, hq, ← HQ.out]; rfl
      have HE1 : Hid (cntF (bakB x3 x10 rev now) (ps.take (k + 1)) = m) := by show _ = _; rw [HS1.out, hz1]; rfl
      clear hz1
      go_wp2_with fail
      refine wp_region_held_drew (S := fun w' => w'.cell? ⟨w.heap.size + 1, 0, none⟩ = some (.slice (some ⟨b, off, none⟩) n c) ∧ w'.cell? ⟨b, off + k * 5, none⟩ = some (.int .i64 y0) ∧ w'.cell? ⟨b, off + k * 5 + 1, none⟩ = some (.int .i64 y1) ∧ w'.cell? ⟨b, off + k * 5 + 2, none⟩ = some (.int .i64 y2) ∧ w'.cell? ⟨b, off + k * 5 + 3, none⟩ = some (.int .i64 y3) ∧ w'.cell? ⟨b, off + k * 5 + 4, none⟩ = some (.int .i64 y4) ∧ w'.cell? ⟨w.heap.size, 3, none⟩ = some (.int .i64 x3) ∧ w'.cell? ⟨w.heap.size, 10, none⟩ = some (.int .i64 x10)) (by kernel_rfl) ⟨fz, hc0, hc1, hc2, hc3, hc4, c3, c10⟩ (fun hHeld => ?_)
      refine tkk (i := 0) rfl ?_
      try simp only [Act.put, pj]
      refine tkk (i := 1) rfl ?_
      try simp only [Act.put, pj]
      refine tkk (i := 2) rfl ?_
      try simp only [Act.put, pj]
      refine tkk (i := 3) rfl ?_
      try simp only [Act.put, pj]
      refine tkk (i := 4) rfl ?_
      try simp only [Act.put, pj]
      refine tkk (i := 5) rfl ?_
      try simp only [Act.put, pj]
      refine tkk (i := 6) rfl ?_
      try simp only [Act.put, pj]
      refine tkk (i := 7) rfl ?_
      try simp only [Act.put, pj]
      refine tkk (i := 8) rfl ?_
      try simp only [Act.put, pj]
      refine tkk (i := 9) rfl ?_
      try simp only [Act.put, pj]
      refine tkk (i := 10) rfl ?_
      try simp only [Act.put, pj]
      refine tkk (i := 11) rfl ?_
      try simp only [Act.put, pj]
      refine tkk (i := 12) rfl ?_
      try simp only [Act.put, pj]
      refine tkk (i := 13) rfl ?_
      try simp only [Act.put, pj]
      refine tkk (i := 14) rfl ?_
      try simp only [Act.put, pj]
      refine tkk (i := 15) rfl ?_
      try simp only [Act.put, pj]
      refine tkk (i := 16) rfl ?_
      try simp only [Act.put, pj]
      refine tkk (i := 17) rfl ?_
      try simp only [Act.put, pj]
      refine tkk (i := 18) rfl ?_
      try simp only [Act.put, pj]
      refine tkk (i := 19) rfl ?_
      try simp only [Act.put, pj]
      refine tkk (i := 20) rfl ?_
      try simp only [Act.put, pj]
      refine tkk (i := 21) rfl ?_
      try simp only [Act.put, pj]
      refine tkk (i := 22) rfl ?_
      try simp only [Act.put, pj]
      refine tkk (i := 23) rfl ?_
      try simp only [Act.put, pj]
      refine tkk (i := 24) rfl ?_
      try simp only [Act.put, pj]
      refine tkk (i := 25) rfl ?_
      try simp only [Act.put, pj]
      refine tkk (i := 26) rfl ?_
      try simp only [Act.put, pj]
      refine tkk (i := 27) rfl ?_
      try simp only [Act.put, pj]
      refine tkk (i := 28) rfl ?_
      try simp only [Act.put, pj]
      refine wpAnyH_ready (rs := [29]) (by kernel_rfl) (by simp) (AllReadyH.cons rfl (fun K hK => ?_) AllReadyH.nil)
      go_simp
      refine (HLg.out _).mono ?_
      rintro e w4 ⟨rfl, hb2⟩
      have hb3 : Below wr.heap.size wr w4 := undrew hb2
      clear hHeld
      refine hK _ _ (by exact ⟨cell_keep hb3 fz, cell_keep hb3 hc0, cell_keep hb3 hc1, cell_keep hb3 hc2, cell_keep hb3 hc3, cell_keep hb3 hc4, cell_keep hb3 c3, cell_keep hb3 c10⟩) (fun hHeld => ?_)
      clear hK K
      try simp only [Act.put, pj]
      refine tkk (i := 30) rfl ?_
      try simp only [Act.put, pj]
      refine wpAnyH_done (by kernel_rfl) ?_ _
      clear hHeld
      have N0 := Lib.hid (box_below M0.out hb3)
      have N1 := Lib.hid (box_below M1.out hb3)
      have ND := bel_then MB.out hb3 MB.out.size
      clear hb2 hb3 M0 M1 MB
      go_wp2
      go_roundw
      case rel => exact ⟨k + 1, m, by omega, by go_num, rfl, by omega, by show _ = _; rw [HE1.out], N0, N1, ND⟩
      case measure => simp [RowKit.intOf]; omega
    case true =>
      have hz1 : bakB x3 x10 rev now (y0, y1, y2, y3, y4) = true := by simp only [bakB, hx, hq, ← HQ.out]; rfl
      have HE1 : Hid (cntF (bakB x3 x10 rev now) (ps.take (k + 1)) = m + 1) := by show _ = _; rw [HS1.out, hz1]; rfl
      clear hz1
      go_wp2_with fail
      refine wp_region_held_drew (S := fun w' => w'.cell? ⟨w.heap.size + 1, 0, none⟩ = some (.slice (some ⟨b, off, none⟩) n c) ∧ w'.cell? ⟨b, off + k * 5, none⟩ = some (.int .i64 y0) ∧ w'.cell? ⟨b, off + k * 5 + 1, none⟩ = some (.int .i64 y1) ∧ w'.cell? ⟨b, off + k * 5 + 2, none⟩ = some (.int .i64 y2) ∧ w'.cell? ⟨b, off + k * 5 + 3, none⟩ = some (.int .i64 y3) ∧ w'.cell? ⟨b, off + k * 5 + 4, none⟩ = some (.int .i64 y4) ∧ w'.cell? ⟨w.heap.size, 3, none⟩ = some (.int .i64 x3) ∧ w'.cell? ⟨w.heap.size, 10, none⟩ = some (.int .i64 x10)) (by kernel_rfl) ⟨fz, hc0, hc1, hc2, hc3, hc4, c3, c10⟩ (fun hHeld => ?_)
      refine tkk (i := 0) rfl ?_
      try simp only [Act.put, pj]
      refine tkk (i := 1) rfl ?_
      try simp only [Act.put, pj]
      refine tkk (i := 2) rfl ?_
      try simp only [Act.put, pj]
      refine tkk (i := 3) rfl ?_
      try simp only [Act.put, pj]
      refine tkk (i := 4) rfl ?_
      try simp only [Act.put, pj]
      refine tkk (i := 5) rfl ?_
      try simp only [Act.put, pj]
      refine tkk (i := 6) rfl ?_
      try simp only [Act.put, pj]
      refine tkk (i := 7) rfl ?_
      try simp only [Act.put, pj]
      refine tkk (i := 8) rfl ?_
      try simp only [Act.put, pj]
      refine tkk (i := 9) rfl ?_
      try simp only [Act.put, pj]
      refine tkk (i := 10) rfl ?_
      try simp only [Act.put, pj]
      refine tkk (i := 11) rfl ?_
      try simp only [Act.put, pj]
      refine tkk (i := 12) rfl ?_
      try simp only [Act.put, pj]
      refine tkk (i := 13) rfl ?_
      try simp only [Act.put, pj]
      refine tkk (i := 14) rfl ?_
      try simp only [Act.put, pj]
      refine tkk (i := 15) rfl ?_
      try simp only [Act.put, pj]
      refine tkk (i := 16) rfl ?_
      try simp only [Act.put, pj]
      refine tkk (i := 17) rfl ?_
      try simp only [Act.put, pj]
      refine tkk (i := 18) rfl ?_
      try simp only [Act.put, pj]
      refine tkk (i := 19) rfl ?_
      try simp only [Act.put, pj]
      refine tkk (i := 20) rfl ?_
      try simp only [Act.put, pj]
      refine tkk (i := 21) rfl ?_
      try simp only [Act.put, pj]
      refine tkk (i := 22) rfl ?_
      try simp only [Act.put, pj]
      refine tkk (i := 23) rfl ?_
      try simp only [Act.put, pj]
      refine tkk (i := 24) rfl ?_
      try simp only [Act.put, pj]
      refine tkk (i := 25) rfl ?_
      try simp only [Act.put, pj]
      refine tkk (i := 26) rfl ?_
      try simp only [Act.put, pj]
      refine tkk (i := 27) rfl ?_
      try simp only [Act.put, pj]
      refine tkk (i := 28) rfl ?_
      try simp only [Act.put, pj]
      refine wpAnyH_ready (rs := [29]) (by kernel_rfl) (by simp) (AllReadyH.cons rfl (fun K hK => ?_) AllReadyH.nil)
      go_simp
      refine (HLg.out _).mono ?_
      rintro e w4 ⟨rfl, hb2⟩
      have hb3 : Below wr.heap.size wr w4 := undrew hb2
      clear hHeld
      refine hK _ _ (by exact ⟨cell_keep hb3 fz, cell_keep hb3 hc0, cell_keep hb3 hc1, cell_keep hb3 hc2, cell_keep hb3 hc3, cell_keep hb3 hc4, cell_keep hb3 c3, cell_keep hb3 c10⟩) (fun hHeld => ?_)
      clear hK K
      try simp only [Act.put, pj]
      refine tkk (i := 30) rfl ?_
      try simp only [Act.put, pj]
      refine wpAnyH_done (by kernel_rfl) ?_ _
      clear hHeld
      have N0 := Lib.hid (box_below M0.out hb3)
      have N1 := Lib.hid (box_below M1.out hb3)
      have ND := bel_then MB.out hb3 MB.out.size
      clear hb2 hb3 M0 M1 MB
      go_wp2
      go_roundw
      case rel => exact ⟨k + 1, m + 1, by omega, by go_num, by go_num, by omega, by show _ = _; rw [HE1.out], N0, N1, ND⟩
      case measure => simp [RowKit.intOf]; omega
end Go.Proofs.YtklgjjmcflgjeaaGreat.BakS
