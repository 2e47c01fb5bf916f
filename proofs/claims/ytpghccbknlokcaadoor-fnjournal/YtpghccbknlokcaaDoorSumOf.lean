/-
  CONTRACTS of SumOf, the program's and the model's, over this seat's translation.
-/
import Derived.Test.YtpghccbknlokcaaDoorBytes
namespace Go.Proofs.YtpghccbknlokcaaDoor.Bytes
open Go.ChangeShapes Go.WideShapes Go.ChangeAt Go.RowKit
set_option linter.unusedVariables false

def sumV (bs : List Int) : Int := bs.foldl (fun s x => (s * 131 + x + 1) % 65521) 1
theorem sumV_snoc (bs : List Int) (x : Int) : sumV (bs ++ [x]) = (sumV bs * 131 + x + 1) % 65521 := by simp [sumV]
theorem sumV_step (bs : List Int) (k : Nat) (h : k < bs.length) : sumV (bs.take (k + 1)) = (sumV (bs.take k) * 131 + bs.getD k 0 + 1) % 65521 := by
  rw [List.take_succ_eq_append_getElem h, sumV_snoc]
  simp [List.getD, h]
theorem sumV_in (bs : List Int) : 0 ≤ sumV bs ∧ sumV bs < 65521 := by
  rcases List.eq_nil_or_concat bs with rfl | ⟨l, x, rfl⟩
  · simp [sumV]
  · rw [List.concat_eq_append, sumV_snoc]; omega

set_option maxHeartbeats 800000 in
theorem sumOf_any (A : Option Addr) (n c : Nat) (bs : List Int) (B : Nat) (w : World) (hr : IsBytes w B A n bs) (hn : n ≤ 1048576) :
    Calls Tryd.prog 47 #[.slice A n c] w fun e w' => e = .returned (.int .i64 (sumV bs)) ∧ w = w' := by
  have HL : Hid (bs.length = n) := hr.1
  have HR := Lib.hid hr
  clear hr
  go_enter Tryd.func47, Tryd.ntmps47
  go_wp2_with fail
  go_loop [3, 8] (fun a i => ∃ (k : Nat) (s : Int), k ≤ n ∧ i = .int .i64 k ∧ a = .int .i64 s ∧ Hid (s = sumV (bs.take k)) ∧ 0 ≤ s ∧ s < 65521) (fun _ i => n - (intOf i).toNat)
  case atStart => exact ⟨0, 1, Nat.zero_le _, rfl, rfl, by show _ = _; simp [sumV], by omega, by omega⟩
  case round =>
    obtain ⟨k, s, hk, rfl, rfl, HS, hs0, hs1⟩ := hrel
    by_cases hlt : k < n
    · obtain ⟨b, off, z, rfl, hbB, hz, hc, hz0, hz1⟩ := HR.out.at_ hlt
      have HZ : Hid ((s * 131 + z + 1) % 65521 = sumV (bs.take (k + 1))) := by show _ = _; rw [sumV_step bs k (by rw [HL.out]; exact hlt), HS.out, hz]
      clear hz
      go_wp2
      go_round
      case rel => exact ⟨k + 1, (s * 131 + z + 1) % 65521, by omega, by go_num, by go_num, HZ, by omega, by omega⟩
      case measure => simp [intOf]; omega
    · have HK : Hid (s = sumV bs) := by
        have h1 := HS.out
        rw [List.take_of_length_le (by rw [HL.out]; omega)] at h1
        exact h1
      go_wp2
      go_ret
      rw [HK.out]
      exact ⟨rfl, rfl⟩

set_option maxHeartbeats 800000 in
theorem specSumOf_any (A : Option Addr) (n c : Nat) (bs : List Int) (B : Nat) (w : World) (hr : IsBytes w B A n bs) (hn : n ≤ 1048576) :
    Calls Tryd.prog 61 #[.slice A n c] w fun e w' => e = .returned (.int .i64 (sumV bs)) ∧ w = w' := by
  have HL : Hid (bs.length = n) := hr.1
  have HR := Lib.hid hr
  clear hr
  go_enter Tryd.func61, Tryd.ntmps61
  go_wp2_with fail
  go_loop [3, 4] (fun a i => ∃ (k : Nat) (s : Int), k ≤ n ∧ i = .int .i64 k ∧ a = .int .i64 s ∧ Hid (s = sumV (bs.take k)) ∧ 0 ≤ s ∧ s < 65521) (fun _ i => n - (intOf i).toNat)
  case atStart => exact ⟨0, 1, Nat.zero_le _, rfl, rfl, by show _ = _; simp [sumV], by omega, by omega⟩
  case round =>
    obtain ⟨k, s, hk, rfl, rfl, HS, hs0, hs1⟩ := hrel
    by_cases hlt : k < n
    · obtain ⟨b, off, z, rfl, hbB, hz, hc, hz0, hz1⟩ := HR.out.at_ hlt
      have HZ : Hid ((131 * s + z + 1) % 65521 = sumV (bs.take (k + 1))) := by show _ = _; rw [sumV_step bs k (by rw [HL.out]; exact hlt), HS.out, hz, Int.mul_comm]
      clear hz
      go_wp2
      go_round
      case rel => exact ⟨k + 1, (131 * s + z + 1) % 65521, by omega, by go_num, by go_num, HZ, by omega, by omega⟩
      case measure => simp [intOf]; omega
    · have HK : Hid (s = sumV bs) := by
        have h1 := HS.out
        rw [List.take_of_length_le (by rw [HL.out]; omega)] at h1
        exact h1
      go_wp2
      go_ret
      rw [HK.out]
      exact ⟨rfl, rfl⟩
end Go.Proofs.YtpghccbknlokcaaDoor.Bytes
