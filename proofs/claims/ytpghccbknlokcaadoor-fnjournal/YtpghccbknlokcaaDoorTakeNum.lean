/-
  CONTRACTS of TakeNum, the program's and the model's, over this seat's translation.
-/
import Derived.Test.YtpghccbknlokcaaDoorReader2
import Derived.Test.YtpghccbknlokcaaDoorPutNum
namespace Go.Proofs.YtpghccbknlokcaaDoor.Rd
open Go.ChangeShapes Go.WideShapes Go.ChangeAt Go.RowKit
open Go.Proofs.YtpghccbknlokcaaDoor.Ints (below_drewN)
open Go.Proofs.YtpghccbknlokcaaDoor.Bytes (IsBytes numB num_t num_f num_of l03Number_any)
open Go.Proofs.YtpghccbknlokcaaDoor.Rec (grown_set below_a1)
set_option linter.unusedVariables false
set_option linter.unusedSimpArgs false

def takeX (bs : List Int) (a : Int) : Int := if 0 ≤ a ∧ a ≤ bs.length then (match numR bs a.toNat with | .ok x _ => x | _ => 0) else 0
def takeP (bs : List Int) (a : Int) : Int := if 0 ≤ a ∧ a ≤ bs.length then (match numR bs a.toNat with | .ok _ q => (q : Int) | _ => -1) else -1
theorem take_out {bs : List Int} {a : Int} (h : a < 0 ∨ bs.length < a) : takeX bs a = 0 ∧ takeP bs a = -1 := by
  unfold takeX takeP
  rw [if_neg (by omega), if_neg (by omega)]
  exact ⟨rfl, rfl⟩
theorem take_ok {bs : List Int} {p q : Nat} {x : Int} (h : p ≤ bs.length) (hr : numR bs p = .ok x q) : takeX bs p = x ∧ takeP bs p = q := by
  unfold takeX takeP
  rw [if_pos (by omega), if_pos (by omega), Int.toNat_natCast, hr]
  exact ⟨rfl, rfl⟩
theorem take_torn {bs : List Int} {p : Nat} (h : p ≤ bs.length) (hr : numR bs p = .torn) : takeX bs p = 0 ∧ takeP bs p = -1 := by
  unfold takeX takeP
  rw [if_pos (by omega), if_pos (by omega), Int.toNat_natCast, hr]
  exact ⟨rfl, rfl⟩
theorem take_bent {bs : List Int} {p : Nat} (h : p ≤ bs.length) (hr : numR bs p = .bent) : takeX bs p = 0 ∧ takeP bs p = -1 := by
  unfold takeX takeP
  rw [if_pos (by omega), if_pos (by omega), Int.toNat_natCast, hr]
  exact ⟨rfl, rfl⟩


theorem shl_val (z d : Int) (k : Nat) (hk : k < 6) (hz : 0 ≤ z ∧ z < 256) (hd : d = z % 128 * 128 ^ k) : wrap64 (z % 128 * 2 ^ (7 * k)) = d := by
  have h6 : k = 0 ∨ k = 1 ∨ k = 2 ∨ k = 3 ∨ k = 4 ∨ k = 5 := by omega
  rcases h6 with rfl | rfl | rfl | rfl | rfl | rfl <;> simp [wrap64, hd] <;> omega

set_option maxHeartbeats 3200000 in
theorem specTakeNum_any (A : Option Addr) (n c : Nat) (a : Int) (bs : List Int) (B : Nat) (w : World) (hr : IsBytes w B A n bs) (hn : n ≤ 1048576) :
    Calls Tryd.prog 59 #[.slice A n c, .int .i64 a] w fun e w' => e = .returned (.tuple #[.int .i64 (takeX bs a), .int .i64 (takeP bs a)]) ∧ w = w' := by
  have HL : Hid (bs.length = n) := hr.1
  have HB := Lib.hid hr
  clear hr
  by_cases hin : 0 ≤ a ∧ a ≤ n
  · obtain ⟨p, rfl⟩ : ∃ p : Nat, a = (p : Int) := ⟨a.toNat, by omega⟩
    have hp : p ≤ n := by omega
    have hpl : p ≤ bs.length := by rw [HL.out]; exact hp
    have hd0 : decide ((p : Int) < 0) = false := by simp
    go_enter Tryd.func59, Tryd.ntmps59
    go_wp2_with fail
    go_loop [6, 7] (fun b i => ∃ (k : Nat) (x u : Int), k ≤ 6 ∧ p + k ≤ n ∧ b = .int .i64 x ∧ i = .int .i64 k ∧ 0 ≤ x ∧ x < u ∧ Hid (u = 128 ^ k) ∧ Hid (numR bs p = numG bs (6 - k) (p + k) k x u)) (fun _ i => 6 - (intOf i).toNat)
    case atStart => exact ⟨0, 0, 1, by omega, by omega, rfl, rfl, by omega, by omega, rfl, rfl⟩
    case round =>
      obtain ⟨k, x, u, hk, hpk, rfl, rfl, hx0, hxu, HU, HV⟩ := hrel
      by_cases hk6 : k < 6
      · have hd6 : decide ((k : Int) < 6) = true := by simp; omega
        obtain ⟨k', hk'⟩ : ∃ k', 6 - k = k' + 1 := ⟨5 - k, by omega⟩
        have HK := Lib.hid hk'
        clear hk'
        have hu1 : 1 ≤ u ∧ u ≤ 34359738368 := by rw [HU.out]; exact pow5 k hk6
        by_cases hq : p + k < n
        · have hdq : decide ((n : Int) - (k : Int) ≤ (p : Int)) = false := by simp; omega
          have hql : p + k < bs.length := by rw [HL.out]; exact hq
          obtain ⟨b, off, z, rfl, hbB, hz, hc, hz0, hz1⟩ := HB.out.at_ hq
          obtain ⟨d, hd⟩ : ∃ d, d = z % 128 * u := ⟨_, rfl⟩
          have hdb : 0 ≤ d ∧ d ≤ 127 * u := by rw [hd]; exact mul_bd z u hz0 hu1.1
          have hsh := shl_val z d k hk6 ⟨hz0, hz1⟩ (by rw [hd, HU.out])
          have HZ := Lib.hid hz
          have HD := Lib.hid hd
          clear hz hd
          by_cases h128 : 128 ≤ z
          · have hdz : decide (z < 128) = false := by simp; omega
            have HV2 : Hid (numR bs p = numG bs (6 - (k + 1)) (p + (k + 1)) (k + 1) (x + d) (u * 128)) := by
              show _ = _
              rw [HV.out, HK.out, numG_on hql (by rw [← HZ.out]; exact h128), ← HZ.out, ← HD.out, show 6 - (k + 1) = k' by have := HK.out; omega, Nat.add_assoc]
            have HU2 : Hid (u * 128 = 128 ^ (k + 1)) := by show _ = _; rw [HU.out, Int.pow_succ]
            go_wp2
            go_round
            case rel => exact ⟨k + 1, x + d, u * 128, by omega, by omega, by go_num, by go_num, by omega, by omega, HU2, HV2⟩
            case measure => simp [intOf]; omega
          · have hdz : decide (z < 128) = true := by simp; omega
            by_cases hbad : (z = 0 ∧ 0 < k) ∨ 1099511627775 < x + d
            · have HV2 : Hid (numR bs p = .bent) := by
                show _ = _
                rw [HV.out, HK.out, numG_bent hql (by rw [← HZ.out]; omega) (by rw [← HZ.out, ← HD.out]; exact hbad)]
              obtain ⟨e1, e2⟩ := take_bent hpl HV2.out
              have X1 := Lib.hid e1
              have X2 := Lib.hid e2
              clear e1 e2
              by_cases hz3 : z = 0 ∧ 0 < k
              · have hz4 : (z == 0) = true := by simp [hz3.1]
                have hz5 : decide ((0 : Int) < (k : Int)) = true := by simp; omega
                have hz6 : decide (0 < k) = true := by simp; omega
                clear hbad hz3
                go_wp2_with (go_at_call 66; refine (l03Number_any _ _).mono ?_; rintro e w' ⟨rfl, rfl⟩)
                go_ret2
                exact ⟨by rw [X1.out, X2.out]; rfl, rfl⟩
              · have hnb : numB (x + d) = false := by simp [numB, Go.Proofs.YtpghccbknlokcaaDoor.Tick.inB]; omega
                by_cases hz7 : z = 0
                · have hz4 : (z == 0) = true := by simp [hz7]
                  have hz5 : decide ((0 : Int) < (k : Int)) = false := by simp; omega
                  have hz6 : decide (0 < k) = false := by simp; omega
                  clear hbad hz3 hz7
                  go_wp2_with (go_at_call 66; refine (l03Number_any _ _).mono ?_; rintro e w' ⟨rfl, rfl⟩)
                  go_ret2
                  exact ⟨by rw [X1.out, X2.out]; rfl, rfl⟩
                · have hz4 : (z == 0) = false := by simp [hz7]
                  clear hbad hz3 hz7
                  go_wp2_with (go_at_call 66; refine (l03Number_any _ _).mono ?_; rintro e w' ⟨rfl, rfl⟩)
                  go_ret2
                  exact ⟨by rw [X1.out, X2.out]; rfl, rfl⟩
            · have HV2 : Hid (numR bs p = .ok (x + d) (p + k + 1)) := by
                show _ = _
                rw [HV.out, HK.out, numG_ok hql (by rw [← HZ.out]; omega) (by rw [← HZ.out, ← HD.out]; exact hbad), ← HZ.out, ← HD.out]
              obtain ⟨e1, e2⟩ := take_ok hpl HV2.out
              have X1 := Lib.hid e1
              have X2 := Lib.hid e2
              clear e1 e2
              have hnb : numB (x + d) = true := num_of (by omega) (by omega)
              by_cases hz7 : z = 0
              · have hz4 : (z == 0) = true := by simp [hz7]
                have hz5 : decide ((0 : Int) < (k : Int)) = false := by simp; omega
                have hz6 : decide (0 < k) = false := by simp; omega
                clear hbad hz7
                go_wp2_with (go_at_call 66; refine (l03Number_any _ _).mono ?_; rintro e w' ⟨rfl, rfl⟩)
                go_ret2
                exact ⟨by rw [X1.out, X2.out, show ((p + k + 1 : Nat) : Int) = (p : Int) + (k : Int) + 1 by omega]; rfl, rfl⟩
              · have hz4 : (z == 0) = false := by simp [hz7]
                clear hbad hz7
                go_wp2_with (go_at_call 66; refine (l03Number_any _ _).mono ?_; rintro e w' ⟨rfl, rfl⟩)
                go_ret2
                exact ⟨by rw [X1.out, X2.out, show ((p + k + 1 : Nat) : Int) = (p : Int) + (k : Int) + 1 by omega]; rfl, rfl⟩
        · have hdq : decide ((n : Int) - (k : Int) ≤ (p : Int)) = true := by simp; omega
          have HV2 : Hid (numR bs p = .torn) := by
            show _ = _
            rw [HV.out, HK.out, numG_torn (by rw [HL.out]; omega)]
          obtain ⟨e1, e2⟩ := take_torn hpl HV2.out
          have X1 := Lib.hid e1
          have X2 := Lib.hid e2
          clear e1 e2
          go_wp2
          go_ret2
          exact ⟨by rw [X1.out, X2.out]; rfl, rfl⟩
      · have hd6 : decide ((k : Int) < 6) = false := by simp; omega
        have HV2 : Hid (numR bs p = .bent) := by
          show _ = _
          rw [HV.out, show 6 - k = 0 by omega]
          rfl
        obtain ⟨e1, e2⟩ := take_bent hpl HV2.out
        have X1 := Lib.hid e1
        have X2 := Lib.hid e2
        clear e1 e2
        go_wp2
        go_ret2
        exact ⟨by rw [X1.out, X2.out]; rfl, rfl⟩
  · obtain ⟨e1, e2⟩ := take_out (bs := bs) (a := a) (by rw [HL.out]; omega)
    have X1 := Lib.hid e1
    have X2 := Lib.hid e2
    clear e1 e2
    have hout : a < 0 ∨ (n : Int) < a := by omega
    go_enter Tryd.func59, Tryd.ntmps59
    go_wp2_with fail
    go_loop [6, 7] (fun b i => b = .int .i64 (0 : Int) ∧ i = .int .i64 (0 : Int)) (fun _ i => 0)
    case atStart => exact ⟨rfl, rfl⟩
    case round =>
      obtain ⟨rfl, rfl⟩ := hrel
      by_cases h0 : a < 0
      · have hd0 : decide (a < 0) = true := by simp [h0]
        go_wp2
        go_ret2
        exact ⟨by rw [X1.out, X2.out]; rfl, rfl⟩
      · have hd0 : decide (a < 0) = false := by simp; omega
        have hd1 : decide ((n : Int) ≤ a) = true := by simp; omega
        go_wp2
        go_ret2
        exact ⟨by rw [X1.out, X2.out]; rfl, rfl⟩
end Go.Proofs.YtpghccbknlokcaaDoor.Rd
