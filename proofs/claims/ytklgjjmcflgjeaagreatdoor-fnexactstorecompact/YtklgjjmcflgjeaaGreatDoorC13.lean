import Derived.Test.YtklgjjmcflgjeaaGreatDoorC08
import Derived.Test.YtklgjjmcflgjeaaGreatDoorC12
set_option linter.unusedVariables false
set_option linter.unusedSimpArgs false
namespace Go.Proofs.YtklgjjmcflgjeaaGreatDoor.Rd
open Go.ChangeShapes Go.WideShapes Go.ChangeAt Go.RowKit
open Ints (below_drewN)
open Bytes (IsBytes sumV sumV_in specSumOf_any)
def tornV (ds : List Int) : Bool := match recR ds 0 with | .torn => true | _ => false
theorem tornV_t {ds : List Int} (h : recR ds 0 = .torn) : tornV ds = true := by unfold tornV; rw [h]
theorem tornV_f {ds : List Int} (h : recR ds 0 ≠ .torn) : tornV ds = false := by
  unfold tornV
  cases hr : recR ds 0 with
  | torn => exact absurd hr h
  | bent => rfl
  | ok _ _ _ => rfl
theorem cutH (A : Option Addr) (n c q : Nat) (h2 : q ≤ c) (W : World) :
    (Instr.slice 22 (.slice A n c) none (some (.int .i64 q)) none).run Tryz.prog W = .ok (.slice (cutB A 0 c) q c) W := by
  obtain ⟨i0, hi, hz0, hz1, hz2⟩ := info_parts Bytes.infoByte
  rw [run_slice_h W 22 A n c (by kernel_rfl) .i64 q (by omega) (by omega)]
  have hs : (sizeOf (Tryz.prog.elem 22)).run Tryz.prog W = .ok 1 W := by
    have he : Tryz.prog.elem 22 = 5 := by kernel_rfl
    rw [he]
    simp [sizeOf, typeInfo, hi, hz1]
  rw [hs]
  simp [Result.andThen, sliced, cutB]
theorem cutL (A : Option Addr) (n c p : Nat) (h2 : p ≤ n) (W : World) :
    (Instr.slice 22 (.slice A n c) (some (.int .i64 p)) none none).run Tryz.prog W = .ok (.slice (cutB A p c) (n - p) (c - p)) W := by
  obtain ⟨i0, hi, hz0, hz1, hz2⟩ := info_parts Bytes.infoByte
  rw [run_slice_l W 22 A n c (by kernel_rfl) .i64 p (by omega) (by omega)]
  have hs : (sizeOf (Tryz.prog.elem 22)).run Tryz.prog W = .ok 1 W := by
    have he : Tryz.prog.elem 22 = 5 := by kernel_rfl
    rw [he]
    simp [sizeOf, typeInfo, hi, hz1]
  rw [hs]
  simp [Result.andThen, sliced, cutB]
theorem torn_nums {ds : List Int} (h : 1 < ds.length) (h0 : ds.getD 0 0 ≤ 99) (h1 : ds.getD 1 0 ≤ 12) (hn : numsA ds (ds.getD 1 0).toNat 2 [] = .torn) : recR ds 0 = .torn := by
  unfold recR
  rw [if_neg (by omega), if_neg (by omega), if_neg (by omega)]
  simp only [Nat.zero_add]
  rw [if_neg (by omega), hn]
  rfl
theorem bent_nums {ds : List Int} (h : 1 < ds.length) (h0 : ds.getD 0 0 ≤ 99) (h1 : ds.getD 1 0 ≤ 12) (hn : numsA ds (ds.getD 1 0).toNat 2 [] = .bent) : recR ds 0 = .bent := by
  unfold recR
  rw [if_neg (by omega), if_neg (by omega), if_neg (by omega)]
  simp only [Nat.zero_add]
  rw [if_neg (by omega), hn]
  rfl
theorem tail_nums {ds : List Int} {acc : List Int} {q : Nat} (h : 1 < ds.length) (h0 : ds.getD 0 0 ≤ 99) (h1 : ds.getD 1 0 ≤ 12) (hn : numsA ds (ds.getD 1 0).toNat 2 [] = .ok acc q) : recR ds 0 = tailR ds 0 q (ds.getD 0 0) acc := by
  unfold recR
  rw [if_neg (by omega), if_neg (by omega), if_neg (by omega)]
  simp only [Nat.zero_add]
  rw [if_neg (by omega), hn]
  rfl
set_option maxRecDepth 100000 in
set_option maxHeartbeats 6400000 in
theorem l03Torn_any (A : Option Addr) (n c : Nat) (ds : List Int) (B : Nat) (w : World) (hr : IsBytes w B A n ds) (hn : n ≤ 1048576) (hc : n ≤ c) (hpos : 0 < n) :
    Calls Tryz.prog 168 #[.slice A n c] w fun e w' => e = .returned (.bool (tornV ds)) ∧ ∃ k, w' = w.drewN k := by
  have HL : Hid (ds.length = n) := hr.1
  have HB := Lib.hid hr
  have HBY := Lib.hid hr.2.1
  clear hr
  have hne0 : ((n : Int) == 0) = false := by simp; omega
  obtain ⟨b, off, z0, rfl, hbB, hz0, hc0, hz00, hz01⟩ := HB.out.at_ hpos
  have HZ0 := Lib.hid hz0
  have hc0' : w.cell? ⟨b, off, none⟩ = some (.int .u8 z0) := hc0
  clear hz0 hc0
  by_cases h99 : 99 < z0
  · have HV : Hid (tornV ds = false) := tornV_f (by rw [recR, if_neg (by rw [HL.out]; omega), if_pos (by rw [← HZ0.out]; exact h99)]; simp)
    have hd : decide (99 < z0) = true := by simp [h99]
    go_enter Tryz.func168, Tryz.ntmps168
    go_wp2
    go_ret
    exact ⟨by rw [HV.out]; rfl, 0, rfl⟩
  · have hd : decide (99 < z0) = false := by simp; omega
    by_cases h1 : 1 < n
    · have hd1 : decide ((1 : Int) < (n : Int)) = true := by simp; omega
      have hd1n : decide (1 < n) = true := by simp; omega
      obtain ⟨b1, off1, mz, hA1, _, hmz, hc1, hm0, hm1⟩ := HB.out.at_ h1
      obtain ⟨rfl, rfl⟩ : b = b1 ∧ off = off1 := by injection hA1 with h; injection h with h1 h2; exact ⟨h1, h2⟩
      have HMZ := Lib.hid hmz
      clear hA1 hmz
      by_cases h12 : 12 < mz
      · have HV : Hid (tornV ds = false) := tornV_f (by
          rw [recR, if_neg (by rw [HL.out]; omega), if_neg (by rw [← HZ0.out]; omega), if_neg (by rw [HL.out]; omega), if_pos (by rw [Nat.zero_add, ← HMZ.out]; exact h12)]; simp)
        have hd2 : decide (12 < mz) = true := by simp [h12]
        go_enter Tryz.func168, Tryz.ntmps168
        go_wp2
        go_ret
        exact ⟨by rw [HV.out]; rfl, 0, rfl⟩
      · have hd2 : decide (12 < mz) = false := by simp; omega
        obtain ⟨m, hm⟩ : ∃ m : Nat, mz = (m : Int) := ⟨mz.toNat, by omega⟩
        subst hm
        have hm12 : m ≤ 12 := by omega
        have hne1 : ((n : Int) == 1) = false := by simp; omega
        have HMN : Hid ((ds.getD 1 0).toNat = m) := by show _ = _; rw [← HMZ.out]; simp
        have HT : Hid (numsA ds m 2 [] = .torn → recR ds 0 = .torn) := fun h => torn_nums (by rw [HL.out]; exact h1) (by rw [← HZ0.out]; omega) (by rw [← HMZ.out]; omega) (by rw [HMN.out]; exact h)
        have HBT : Hid (numsA ds m 2 [] = .bent → recR ds 0 = .bent) := fun h => bent_nums (by rw [HL.out]; exact h1) (by rw [← HZ0.out]; omega) (by rw [← HMZ.out]; omega) (by rw [HMN.out]; exact h)
        have HOT : Hid (∀ acc q, numsA ds m 2 [] = .ok acc q → recR ds 0 = tailR ds 0 q (ds.getD 0 0) acc) := fun acc q h => tail_nums (by rw [HL.out]; exact h1) (by rw [← HZ0.out]; omega) (by rw [← HMZ.out]; omega) (by rw [HMN.out]; exact h)
        go_enter Tryz.func168, Tryz.ntmps168
        go_wp2_with fail
        go_loop [3, 4] (fun x i => ∃ (k q : Nat) (acc : List Int), k ≤ m ∧ 2 ≤ q ∧ q ≤ n ∧ x = .int .i64 q ∧ i = .int .i64 k ∧ Hid (numsA ds m 2 [] = numsA ds (m - k) q acc)) (fun _ i => m - (RowKit.intOf i).toNat)
        case atStart => exact ⟨0, 2, [], Nat.zero_le _, Nat.le_refl _, by omega, rfl, rfl, rfl⟩
        case round =>
          obtain ⟨k, q, acc, hk, hq2, hqn, rfl, rfl, HN⟩ := hrel
          have hql : q ≤ ds.length := by rw [HL.out]; exact hqn
          by_cases hlt : k < m
          · obtain ⟨j, hj⟩ : ∃ j, m - k = j + 1 := ⟨m - k - 1, by omega⟩
            have hj2 : m - (k + 1) = j := by omega
            have HJ := Lib.hid hj
            have HJ2 := Lib.hid hj2
            clear hj hj2
            go_wp2_with fail
            refine (specTakeNum_any (some ⟨b, off, none⟩) n c q ds B w HB.out hn).mono ?_
            rintro e w' ⟨rfl, rfl⟩
            generalize hnr : numR ds q = nr
            cases nr with
            | ok x q' =>
              obtain ⟨e1, e2⟩ := take_ok hql hnr
              rw [e1, e2]
              have hnin := numR_in HBY.out hnr
              have hq'n : q' ≤ n := by rw [← HL.out]; exact hnin.2.2
              have hqq' := hnin.2.1
              have HN2 : Hid (numsA ds m 2 [] = numsA ds (m - (k + 1)) q' (acc ++ [x])) := by show _ = _; rw [HN.out, HJ.out, numsA_ok hnr, HJ2.out]
              have hdq : decide ((0 : Int) ≤ (q' : Int)) = true := by simp
              clear e1 e2 hnr hnin
              go_wp2
              go_round
              case rel => exact ⟨k + 1, q', acc ++ [x], by omega, by omega, hq'n, by go_num, by go_num, HN2⟩
              case measure => simp [RowKit.intOf]; omega
            | torn =>
              obtain ⟨e1, e2⟩ := take_torn hql hnr
              rw [e1, e2]
              have hti := (numR_torn_iff hql).1 hnr
              have HV : Hid (tornV ds = true) := tornV_t (HT.out (by rw [HN.out, HJ.out, numsA_torn hnr]))
              have HALL := Lib.hid hti.2
              have h5 : n - q ≤ 5 := by rw [← HL.out]; exact hti.1
              clear e1 e2 hnr hti
              go_wp2_with fail
              go_loop [7] (fun x => ∃ (t : Nat), q ≤ t ∧ t ≤ n ∧ x = .int .i64 t) (fun x => n - (RowKit.intOf x).toNat)
              case atStart => exact ⟨q, Nat.le_refl _, hqn, rfl⟩
              case round =>
                obtain ⟨t, hqt, htn, rfl⟩ := hrel
                by_cases htl : t < n
                · obtain ⟨b2, off2, z, hA2, _, hz, hcz, hzz0, hzz1⟩ := HB.out.at_ htl
                  obtain ⟨rfl, rfl⟩ : b = b2 ∧ off = off2 := by injection hA2 with h; injection h with h1 h2; exact ⟨h1, h2⟩
                  have hz128 : 128 ≤ z := by rw [hz]; exact HALL.out t hqt (by rw [HL.out]; exact htl)
                  have hdz : decide (z < 128) = false := by simp; omega
                  clear hA2 hz
                  go_wp2
                  go_round
                  case rel => exact ⟨t + 1, by omega, by omega, by go_num⟩
                  case measure => simp [RowKit.intOf]; omega
                · have hd5 : decide ((n : Int) - (q : Int) ≤ 5) = true := by simp; omega
                  go_wp2
                  go_ret
                  exact ⟨by rw [HV.out]; rfl, 0, rfl⟩
            | bent =>
              obtain ⟨e1, e2⟩ := take_bent hql hnr
              rw [e1, e2]
              have hnt : ¬ (ds.length - q ≤ 5 ∧ ∀ j, q ≤ j → j < ds.length → 128 ≤ ds.getD j 0) := fun h => by rw [(numR_torn_iff hql).2 h] at hnr; cases hnr
              have HNT := Lib.hid hnt
              have HV : Hid (tornV ds = false) := tornV_f (by rw [HBT.out (by rw [HN.out, HJ.out, numsA_bent hnr])]; simp)
              clear e1 e2 hnr hnt
              go_wp2_with fail
              go_loop [7] (fun x => ∃ (t : Nat), q ≤ t ∧ t ≤ n ∧ x = .int .i64 t ∧ Hid (∀ j, q ≤ j → j < t → 128 ≤ ds.getD j 0)) (fun x => n - (RowKit.intOf x).toNat)
              case atStart => exact ⟨q, Nat.le_refl _, hqn, rfl, fun j h1 h2 => by omega⟩
              case round =>
                obtain ⟨t, hqt, htn, rfl, HALL⟩ := hrel
                by_cases htl : t < n
                · obtain ⟨b2, off2, z, hA2, _, hz, hcz, hzz0, hzz1⟩ := HB.out.at_ htl
                  obtain ⟨rfl, rfl⟩ : b = b2 ∧ off = off2 := by injection hA2 with h; injection h with h1 h2; exact ⟨h1, h2⟩
                  by_cases hz128 : z < 128
                  · have hdz : decide (z < 128) = true := by simp [hz128]
                    clear hA2 hz
                    go_wp2
                    go_ret
                    exact ⟨by rw [HV.out]; rfl, 0, rfl⟩
                  · have hdz : decide (z < 128) = false := by simp; omega
                    have HALL2 : Hid (∀ j, q ≤ j → j < t + 1 → 128 ≤ ds.getD j 0) := fun j hj hj2 => by
                      by_cases e : j = t
                      · subst e; rw [← hz]; omega
                      · exact HALL.out j hj (by omega)
                    clear hA2 hz
                    go_wp2
                    go_round
                    case rel => exact ⟨t + 1, by omega, by omega, by go_num, HALL2⟩
                    case measure => simp [RowKit.intOf]; omega
                · have h5 : ¬ (n - q ≤ 5) := fun h => HNT.out ⟨by rw [HL.out]; exact h, fun j hj hj2 => HALL.out j hj (by rw [HL.out] at hj2; omega)⟩
                  have hd5 : decide ((n : Int) - (q : Int) ≤ 5) = false := by simp; omega
                  go_wp2
                  go_ret
                  exact ⟨by rw [HV.out]; rfl, 0, rfl⟩
          · have HOK : Hid (recR ds 0 = tailR ds 0 q (ds.getD 0 0) acc) := HOT.out acc q (by rw [HN.out, show m - k = 0 by omega]; rfl)
            by_cases hqe : q = n
            · have HV : Hid (tornV ds = true) := tornV_t (by rw [HOK.out, tailR, if_pos (by rw [HL.out]; omega)])
              have hdq : ((n : Int) == (q : Int)) = true := by simp; omega
              go_wp2
              go_ret
              exact ⟨by rw [HV.out]; rfl, 0, rfl⟩
            · have hdq : ((n : Int) == (q : Int)) = false := by simp; omega
              by_cases hq1 : q + 1 = n
              · have hdq1 : ((n : Int) == (q : Int) + 1) = true := by simp; omega
                obtain ⟨b2, off2, z, hA2, _, hz, hcz, hzz0, hzz1⟩ := HB.out.at_ (show q < n by omega)
                obtain ⟨rfl, rfl⟩ : b = b2 ∧ off = off2 := by injection hA2 with h; injection h with h1 h2; exact ⟨h1, h2⟩
                have hcut := cutH (some ⟨b, off, none⟩) n c q (by omega)
                have HBC := Lib.hid (bytes_cut2 (p := 0) (q := q) HB.out (by omega) hqn hc)
                obtain ⟨s, hs⟩ : ∃ s, s = sumV ((ds.take q).drop 0) := ⟨_, rfl⟩
                have hsb := sumV_in ((ds.take q).drop 0)
                rw [← hs] at hsb
                have HSUM : Hid (∀ nn, Calls Tryz.prog 170 #[.slice (cutB (some ⟨b, off, none⟩) 0 c) q c] (w.drewN nn) fun e w' => e = .returned (.int .i64 s) ∧ w' = w.drewN nn) := fun nn => by
                  rw [hs]
                  refine (specSumOf_any (cutB (some ⟨b, off, none⟩) 0 c) q c _ B (w.drewN nn) HBC.out (by omega)).mono ?_
                  rintro e w' ⟨rfl, rfl⟩
                  exact ⟨rfl, rfl⟩
                have HV : Hid (tornV ds = (z == s / 256)) := by
                  show _ = _
                  by_cases he : z = s / 256
                  · rw [tornV_t (by rw [HOK.out, tailR, if_neg (by rw [HL.out]; omega), if_neg (by rw [← hz, ← hs, he]; simp), if_pos (by rw [HL.out]; omega)])]
                    simp [he]
                  · rw [tornV_f (by rw [HOK.out, tailR, if_neg (by rw [HL.out]; omega), if_pos (by rw [← hz, ← hs]; exact he)]; simp)]
                    simp [he]
                clear hs hA2 hz
                go_wp2_with fail
                go_quiet (first | (go_at_call 170; exact Calls.quiet_of_same (HSUM.out _)))
                go_wp2
                go_ret
                exact ⟨by rw [HV.out]; rfl, _, rfl⟩
              · have hdq1 : ((n : Int) == (q : Int) + 1) = false := by simp; omega
                have HV : Hid (tornV ds = false) := tornV_f (by
                  rw [HOK.out, tailR, if_neg (by rw [HL.out]; omega)]
                  split
                  · simp
                  · rw [if_neg (by rw [HL.out]; omega)]
                    split <;> simp)
                go_wp2_with fail
                go_quiet (fail)
                go_wp2
                go_ret
                exact ⟨by rw [HV.out]; rfl, _, rfl⟩
    · have hd1 : decide ((1 : Int) < (n : Int)) = false := by simp; omega
      have hd1n : decide (1 < n) = false := by simp; omega
      have hne1 : ((n : Int) == 1) = true := by simp; omega
      have HV : Hid (tornV ds = true) := tornV_t (by rw [recR, if_neg (by rw [HL.out]; omega), if_neg (by rw [← HZ0.out]; omega), if_pos (by rw [HL.out]; omega)])
      go_enter Tryz.func168, Tryz.ntmps168
      go_wp2
      go_ret
      exact ⟨by rw [HV.out]; rfl, 0, rfl⟩
end Go.Proofs.YtklgjjmcflgjeaaGreatDoor.Rd
namespace Go.Proofs.YtklgjjmcflgjeaaGreatDoor.Rd
open Go.ChangeShapes Go.WideShapes Go.ChangeAt Go.RowKit
open Ints (below_drewN)
open Has (OwnI)
open Bytes (IsBytes)
open Rec (grown_set below_a1 blk2 ownI_base Box OwnRs OwnRsH RList flatH hdV lit2_news)
theorem bytes_from {w : World} {B : Nat} {A : Option Addr} {n c p : Nat} {bs : List Int} (h : IsBytes w B A n bs) (hp : p ≤ n) (hc : n ≤ c) : IsBytes w B (cutB A p c) (n - p) (bs.drop p) := by
  have h1 := bytes_cut2 (p := p) (q := n) h hp (Nat.le_refl _) hc
  rw [List.take_of_length_le (by rw [h.1]; exact Nat.le_refl _)] at h1
  exact h1
set_option maxRecDepth 100000 in
set_option maxHeartbeats 6400000 in
theorem specScan_any (A : Option Addr) (n c : Nat) (bs : List Int) (B : Nat) (w : World) (hr : IsBytes w B A n bs) (hB : B ≤ w.heap.size) (hn : n ≤ 1048576) (hc : n ≤ c) :
    Calls Tryz.prog 121 #[.slice A n c] w (AnsS w bs) := by
  obtain ⟨i0, hi0, hz0, hz1, hz2⟩ := info_parts infoRec
  have HL : Hid (bs.length = n) := hr.1
  have HB := Lib.hid hr
  have HBY := Lib.hid hr.2.1
  clear hr
  go_enter Tryz.func121, Tryz.ntmps121
  go_wp2_with fail
  go_loopw [5, 6] (fun o z wr => ∃ (p k : Nat) (A5 : Option Addr) (c5 : Nat) (acc : RList), p ≤ n ∧ k ≤ p ∧ o = .slice A5 k c5 ∧ z = .int .i64 p ∧ Hid (Amid bs p acc) ∧ Hid (OwnRs wr w.heap.size A5 k c5 acc) ∧ Below w.heap.size w wr ∧ w.heap.size ≤ wr.heap.size) (fun _ z _ => n - (RowKit.intOf z).toNat)
  case atStart => exact ⟨0, 0, _, _, [], Nat.zero_le _, Nat.le_refl _, rfl, rfl, amid_start bs, OwnRs.empty w, below_a1 _ _, by simp⟩
  case round =>
    obtain ⟨p, k, A5, c5, acc, hpn, hkp, rfl, rfl, HA, HO, hbr, hsr⟩ := hrel
    by_cases hlt : p < n
    · have hpl : p < bs.length := by rw [HL.out]; exact hlt
      have HBr := Lib.hid (HB.out.below hbr hB)
      have hQ : ∀ q, (Value.slice A5 k c5).ownBlock = some q → w.heap.size ≤ q ∧ q < wr.heap.size := HO.out.rowlt
      have HQ := Lib.hid hQ
      clear hQ
      have hfi : frR bs p = recR bs p := fr_in (by omega)
      go_wp2_with fail
      refine (specTakeFrame_any A n c p bs B wr HBr.out (by omega) hn hc).mono ?_
      rintro e w2 ⟨A1, c1, rfl, hO1, hb2⟩
      have hbw2 : Below w.heap.size w w2 := hbr.trans (hb2.mono hsr)
      have hs2 : wr.heap.size ≤ w2.heap.size := hb2.size
      have HO2 := Lib.hid (HO.out.below hb2)
      generalize hrr : recR bs p = rr
      rw [hrr] at hfi
      cases rr with
      | ok kd zs q =>
        obtain ⟨e1, e2, e3⟩ := fr_ok hfi
        rw [e1, e2, e3]
        rw [e2] at hO1
        obtain ⟨hnx, hpp, hppl⟩ := amid_next HBY.out HA.out hpl hrr
        have HNX := Lib.hid hnx
        have hqn : q ≤ n := by rw [← HL.out]; exact hppl
        obtain ⟨m, hm⟩ : ∃ m, zs.length = m := ⟨_, rfl⟩
        rw [hm] at hO1 ⊢
        have HO1 := Lib.hid hO1
        obtain ⟨hs, hH⟩ := HO.out
        have HH := Lib.hid hH
        obtain ⟨t0, t1⟩ := Box.new w2 kd A1 m c1 116
        have hb4 : Below wr.heap.size wr ((w2.alloc (.cells #[.int .i64 kd, .slice A1 m c1] 116)).alloc (.cells #[.int .i64 kd, .slice A1 m c1] 116)) := (hb2.alloc hb2.size _).alloc (by simp; omega) _
        have HB4 := Lib.hid hb4
        have HO4 : Hid (OwnI ((w2.alloc (.cells #[.int .i64 kd, .slice A1 m c1] 116)).alloc (.cells #[.int .i64 kd, .slice A1 m c1] 116)) wr.heap.size A1 m c1 zs) := (HO1.out.alloc _).alloc _
        have HH4 := Lib.hid (hH.below hb4)
        have hdq : decide ((q : Int) < 0) = false := by simp
        clear e1 e2 e3 hnx hO1 hrr hb4 hm hH hfi
        go_wp2_with (at_builtin; refine wpList_append_own _ rfl (.tmp 22) (.tmp 24) _ rfl w.heap.size 116 i0 _ 2 32 Tryz.underlying99 hi0 hz0 hz1 hz2 rfl (by omega) (.slice A5 k c5) k (flatH hs) rfl ?o1 ⟨w2.heap.size + 1, 0, none⟩ 1 1 [.int .i64 kd, .slice A1 m c1] rfl rfl ?o2 ?o3 ?o4 ?o5 ?o6 ?_)
        case o1 => exact HH4.out.2.2.1
        case o2 => have h5 := lit2_news (w2.alloc (.cells #[.int .i64 kd, .slice A1 m c1] 116)) (.int .i64 kd) (.slice A1 m c1) 116; simpa using h5
        case o3 => intro u hu; simp at hu; rcases hu with rfl | rfl <;> rfl
        case o4 => unfold maxLen; omega
        case o5 => omega
        case o6 => simp; omega
        intro v2 w5 hown hgr _
        obtain ⟨A6, c6, rfl, hO6⟩ := HH.out.push HB4.out HO4.out hsr hown hgr
        have HO6 := Lib.hid hO6
        have hb5 : Below w.heap.size w w5 := (hbr.trans (HB4.out.mono hsr)).grown hgr (by simp; omega) (fun q hq => (HQ.out q hq).1)
        have hs5 : w.heap.size ≤ w5.heap.size := by have := hgr.size; simp at this; omega
        clear hown hgr hO6 HB4 HO4 HH4 HH
        go_wp2
        go_roundw
        case rel => exact ⟨q, k + 1, A6, c6, acc ++ [(kd, zs)], hqn, by omega, rfl, by go_num, HNX, HO6, hb5, hs5⟩
        case measure => simp [RowKit.intOf]; omega
      | torn =>
        obtain ⟨e1, e2, e3⟩ := fr_no (.inl hfi)
        rw [e1, e2, e3]
        have HSC := Lib.hid (amid_torn HA.out hpl hrr)
        have HTV : Hid (tornV (bs.drop p) = true) := tornV_t (by
          have h1 := recR_drop bs p (by omega)
          rw [hrr] at h1
          cases h2 : recR (bs.drop p) 0 with
          | torn => rfl
          | bent => rw [h2] at h1; cases h1
          | ok a b c => rw [h2] at h1; cases h1)
        have hb3 : Below w.heap.size w (w2.alloc (.cells #[.int .i64 0, .slice A1 ([] : List Int).length c1] 116)) := hbw2.alloc hbw2.size _
        have HB3 := Lib.hid (bytes_from (HB.out.below hb3 hB) hpn hc)
        have HO3 := Lib.hid (HO2.out.below (below_a1 w2 (.cells #[.int .i64 0, .slice A1 ([] : List Int).length c1] 116)))
        have hcut := cutL A n c p hpn
        have hdq : ((p : Int) == (n : Int)) = false := by simp; omega
        clear e1 e2 e3 hrr hfi hO1
        go_wp2_with fail
        refine (l03Torn_any (cutB A p c) (n - p) (c - p) (bs.drop p) B _ HB3.out (by omega) (by omega) (by omega)).mono ?_
        rintro e w4 ⟨rfl, kk, rfl⟩
        rw [HTV.out]
        go_wp2
        exact bodyPost_ret (v := .tuple #[.slice A5 k c5, .int .i64 (p : Int), .int .i64 1]) (by simp [results, Tryz.results121, go_sem]) rfl (ansS_of HSC.out HO3.out (below_drewN hb3 kk))
      | bent =>
        obtain ⟨e1, e2, e3⟩ := fr_no (.inr hfi)
        rw [e1, e2, e3]
        have HSC := Lib.hid (amid_bent HA.out hpl hrr)
        have HTV : Hid (tornV (bs.drop p) = false) := tornV_f (by
          have h1 := recR_drop bs p (by omega)
          rw [hrr] at h1
          intro h2
          rw [h2] at h1; cases h1)
        have hb3 : Below w.heap.size w (w2.alloc (.cells #[.int .i64 0, .slice A1 ([] : List Int).length c1] 116)) := hbw2.alloc hbw2.size _
        have HB3 := Lib.hid (bytes_from (HB.out.below hb3 hB) hpn hc)
        have HO3 := Lib.hid (HO2.out.below (below_a1 w2 (.cells #[.int .i64 0, .slice A1 ([] : List Int).length c1] 116)))
        have hcut := cutL A n c p hpn
        have hdq : ((p : Int) == (n : Int)) = false := by simp; omega
        clear e1 e2 e3 hrr hfi hO1
        go_wp2_with fail
        refine (l03Torn_any (cutB A p c) (n - p) (c - p) (bs.drop p) B _ HB3.out (by omega) (by omega) (by omega)).mono ?_
        rintro e w4 ⟨rfl, kk, rfl⟩
        rw [HTV.out]
        go_wp2
        exact bodyPost_ret (v := .tuple #[.slice A5 k c5, .int .i64 (p : Int), .int .i64 2]) (by simp [results, Tryz.results121, go_sem]) rfl (ansS_of HSC.out HO3.out (below_drewN hb3 kk))
    · have HSC := Lib.hid (amid_end HA.out (by rw [HL.out]; omega))
      have hdq : ((p : Int) == (n : Int)) = true := by simp; omega
      go_wp2
      exact bodyPost_ret (v := .tuple #[.slice A5 k c5, .int .i64 (p : Int), .int .i64 0]) (by simp [results, Tryz.results121, go_sem]) rfl (ansS_of HSC.out HO.out hbr)
end Go.Proofs.YtklgjjmcflgjeaaGreatDoor.Rd
namespace Go.Proofs.YtklgjjmcflgjeaaGreatDoor.Jour
open Go.ChangeShapes Go.WideShapes Go.ChangeAt Go.RowKit
open Bytes LK
open JourC (CRd CRd.rd)
theorem blk_up {w : World} {B C : Nat} {aT aB : Addr} (h : Rd.ErrBlk B w aT aB) (hC : B ≤ C) : Rd.ErrBlk C w aT aB := ⟨⟨Nat.lt_of_lt_of_le h.lt.1 hC, Nat.lt_of_lt_of_le h.lt.2 hC⟩, h.ne, h.hT, h.hB⟩
end Go.Proofs.YtklgjjmcflgjeaaGreatDoor.Jour
