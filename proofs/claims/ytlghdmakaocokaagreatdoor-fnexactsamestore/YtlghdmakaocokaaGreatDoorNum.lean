/-
  THE CONTRACT of the model's l01Num over this seat's translation: at every int the decimal numeral; nothing that was there has turned.
-/
import Derived.Test.YtlghdmakaocokaaGreatDoorStr
import Derived.Lib.ItoaLen
namespace Go.Proofs.YtlghdmakaocokaaGreatDoor.Num
open Go.ChangeShapes Go.WideShapes Go.ChangeAt Go.RowKit
open Go.Proofs.YtlghdmakaocokaaGreatDoor.Str
set_option linter.unusedVariables false

/-- 'string(b)' at a new block of one byte. -/
theorem conv1 (w : World) (c : UInt8) (z : Int) (hz : (c.toNat : Int) = z) :
    (convert 24 9 (.slice (some ⟨w.heap.size, 0, none⟩) 1 1)).run Tryz.prog (w.alloc (.cells #[.int .u8 z] 5)) = .ok (.string (bstr [c])) (w.alloc (.cells #[.int .u8 z] 5)) := by
  refine run_convert_bytes_back (P := Tryz.prog) _ 24 9 5 ⟨w.heap.size, 0, none⟩ 1 [c] Tryz.underlying24 Tryz.underlying5 Tryz.underlying9 ?_
  intro j hj
  obtain rfl : j = 0 := by simpa using hj
  simp [Addr.add, hz]

def NumSaid (x : Int) (w : World) (e : Ending) (w' : World) : Prop :=
  e = .returned (.string (bstr (Lib.itoa x))) ∧ Below w.heap.size w w'

theorem digits_step (m : Nat) (l : List UInt8) (h : 0 < m) : (if m = 0 then [] else Lib.decDigits m) ++ l = (if m / 10 = 0 then [] else Lib.decDigits (m / 10)) ++ (UInt8.ofNat (48 + m % 10) :: l) := by
  rw [if_neg (by omega), Lib.decDigits]
  by_cases h1 : m < 10
  · rw [dif_pos h1, if_pos (by omega), show m % 10 = m by omega]; rfl
  · rw [dif_neg h1, if_neg (by omega)]; simp
theorem digits_short {M m : Nat} {l : List UInt8} (h1 : (M : Int) ≤ 9223372036854775808) (HD : Hid (Lib.decDigits M = (if m = 0 then [] else Lib.decDigits m) ++ l)) : l.length ≤ 21 := by
  have h := congrArg List.length HD.out
  have hl : (Lib.decDigits M).length ≤ 21 := by
    rw [Lib.decDigits_length]
    exact Nat.le_trans (Lib.nDigits_le20 M (by omega)) (by omega)
  rw [List.length_append] at h
  omega

set_option maxRecDepth 100000 in
set_option maxHeartbeats 400000 in
theorem l01Num_pos (M : Nat) (h0 : 0 < M) (h1 : (M : Int) ≤ 9223372036854775807) (w : World) :
    Calls Tryz.prog 23 #[.int .i64 M] w (NumSaid M w) := by
  have hne : ((M : Int) == 0) = false := by simp; omega
  have hneg : decide ((M : Int) < 0) = false := by simp
  go_enter Tryz.func23, Tryz.ntmps23
  go_wp2_with fail
  go_loopw [0, 3] (fun x o wr => ∃ (m : Nat) (l : List UInt8), (m : Int) ≤ 9223372036854775807 ∧ x = .int .i64 m ∧ o = .string (bstr l) ∧ Hid (Lib.decDigits M = (if m = 0 then [] else Lib.decDigits m) ++ l) ∧ Below w.heap.size w wr) (fun x _ _ => (intOf x).toNat)
  case atStart => exact ⟨M, [], h1, rfl, rfl, by show _ = _; rw [if_neg (by omega)]; simp, Below.refl _ _⟩
  case round =>
    obtain ⟨m, l, hm, rfl, rfl, HD, hb⟩ := hrel
    by_cases hz : 0 < m
    · have hnz : ((m : Int) != 0) = true := by simp; omega
      have hd0 : (0 : Int) ≤ (m : Int) % 10 := by omega
      have hd1 : (m : Int) % 10 ≤ 9 := by omega
      obtain ⟨c, hc⟩ : ∃ c, c = UInt8.ofNat (48 + m % 10) := ⟨_, rfl⟩
      have hcv := conv1 wr c (48 + (m : Int) % 10) (by rw [hc]; simp; omega)
      have HC : Hid (c = UInt8.ofNat (48 + m % 10)) := hc
      clear hc
      have hls := digits_short (by omega) HD
      have hsz : (bstr l).size ≤ 21 := by rw [bstr_size]; exact hls
      have hsc : (bstr [c]).size ≤ 1 := by rw [bstr_size]; simp
      go_wp2
      go_roundw
      case rel => exact ⟨m / 10, c :: l, by omega, by go_num, by rw [bstr_append]; rfl, by show _ = _; rw [HD.out, digits_step m l hz, HC.out], hb.alloc hb.size _⟩
      case measure => simp [intOf]; omega
    · have hm0 : m = 0 := by omega
      have HM : Hid (m = 0) := hm0
      clear hm0
      have hnz : ((m : Int) != 0) = false := by simp; omega
      go_wp2
      go_ret
      refine ⟨ret_str ?_, hb⟩
      have := HD.out
      rw [HM.out, if_pos rfl, List.nil_append] at this
      rw [show Lib.itoa (M : Int) = Lib.decDigits M by unfold Lib.itoa; rw [if_neg (by omega)]; simp, this]

theorem l01Num_zero (w : World) : Calls Tryz.prog 23 #[.int .i64 0] w (NumSaid 0 w) := by
  go_enter Tryz.func23, Tryz.ntmps23
  go_wp2
  go_ret
  refine ⟨ret_str (a := ⟨#[48]⟩) ?_, Below.refl _ _⟩
  rw [show Lib.itoa 0 = [48] by unfold Lib.itoa; rw [if_neg (by omega)]; rw [Lib.decDigits]; rfl]
  rfl

theorem neg_mod (m : Nat) : (-(m : Int)).tmod 10 = -((m % 10 : Nat) : Int) := by
  rw [Int.neg_tmod, Int.tmod_eq_emod_of_nonneg (by omega)]; omega
theorem neg_div (m : Nat) : (-(m : Int)).tdiv 10 = -((m / 10 : Nat) : Int) := by
  rw [Int.neg_tdiv, Int.tdiv_eq_ediv_of_nonneg (by omega)]; omega

set_option maxRecDepth 100000 in
set_option maxHeartbeats 400000 in
theorem l01Num_neg (M : Nat) (h0 : 0 < M) (h1 : (M : Int) ≤ 9223372036854775808) (w : World) :
    Calls Tryz.prog 23 #[.int .i64 (-(M : Int))] w (NumSaid (-(M : Int)) w) := by
  have hne : ((-(M : Int)) == 0) = false := by simp; omega
  have hneg : decide ((-(M : Int)) < 0) = true := by simp; omega
  go_enter Tryz.func23, Tryz.ntmps23
  go_wp2_with fail
  go_loopw [0, 3] (fun x o wr => ∃ (m : Nat) (l : List UInt8), (m : Int) ≤ 9223372036854775808 ∧ x = .int .i64 (-(m : Int)) ∧ o = .string (bstr l) ∧ Hid (Lib.decDigits M = (if m = 0 then [] else Lib.decDigits m) ++ l) ∧ Below w.heap.size w wr) (fun x _ _ => (-(intOf x)).toNat)
  case atStart => exact ⟨M, [], h1, rfl, rfl, by show _ = _; rw [if_neg (by omega)]; simp, Below.refl _ _⟩
  case round =>
    obtain ⟨m, l, hm, rfl, rfl, HD, hb⟩ := hrel
    by_cases hz : 0 < m
    · have hnz : ((-(m : Int)) != 0) = true := by simp; omega
      have hmod := neg_mod m
      have hdiv := neg_div m
      have hM : (M : Int) ≤ 9223372036854775808 := h1
      by_cases h10 : (0 : Int) < (m : Int) % 10
      · obtain ⟨c, hc⟩ : ∃ c, c = UInt8.ofNat (48 + m % 10) := ⟨_, rfl⟩
        have hcv := conv1 wr c (48 + (m : Int) % 10) (by rw [hc]; simp; omega)
        have HC : Hid (c = UInt8.ofNat (48 + m % 10)) := hc
        clear hc
        have hls := digits_short hM HD
        have hsz : (bstr l).size ≤ 21 := by rw [bstr_size]; exact hls
        have hsc : (bstr [c]).size ≤ 1 := by rw [bstr_size]; simp
        go_wp2
        go_roundw
        case rel => exact ⟨m / 10, c :: l, by omega, by go_num, by rw [bstr_append]; rfl, by show _ = _; rw [HD.out, digits_step m l hz, HC.out], hb.alloc hb.size _⟩
        case measure => simp [intOf]; omega
      · obtain ⟨c, hc⟩ : ∃ c, c = UInt8.ofNat (48 + m % 10) := ⟨_, rfl⟩
        have hcv := conv1 wr c (48 + -((m : Int) % 10)) (by rw [hc]; simp; omega)
        have HC : Hid (c = UInt8.ofNat (48 + m % 10)) := hc
        clear hc
        have hls := digits_short hM HD
        have hsz : (bstr l).size ≤ 21 := by rw [bstr_size]; exact hls
        have hsc : (bstr [c]).size ≤ 1 := by rw [bstr_size]; simp
        go_wp2
        go_roundw
        case rel => exact ⟨m / 10, c :: l, by omega, by go_num, by rw [bstr_append]; rfl, by show _ = _; rw [HD.out, digits_step m l hz, HC.out], hb.alloc hb.size _⟩
        case measure => simp [intOf]; omega
    · have hm0 : m = 0 := by omega
      have HM : Hid (m = 0) := hm0
      clear hm0
      have hnz : ((-(m : Int)) != 0) = false := by simp; omega
      have hls := digits_short h1 HD
      have hsz : (bstr l).size ≤ 21 := by rw [bstr_size]; exact hls
      have hsc : (⟨#[45]⟩ : ByteArray).size = 1 := rfl
      go_wp2
      go_ret
      refine ⟨ret_str (a := bstr [45] ++ bstr l) ?_, hb⟩
      have := HD.out
      rw [HM.out, if_pos rfl, List.nil_append] at this
      rw [show Lib.itoa (-(M : Int)) = 45 :: Lib.decDigits M by unfold Lib.itoa; rw [if_pos (by omega)]; simp, this]
      exact bstr_append [45] l

/-- At every int. -/
theorem l01Num_any (x : Int) (h0 : -9223372036854775808 ≤ x) (h1 : x ≤ 9223372036854775807) (w : World) :
    Calls Tryz.prog 23 #[.int .i64 x] w (NumSaid x w) := by
  rcases Int.lt_trichotomy x 0 with h | h | h
  · obtain ⟨M, rfl⟩ : ∃ M : Nat, x = -(M : Int) := ⟨x.natAbs, by omega⟩
    exact l01Num_neg M (by omega) (by omega) w
  · subst h; exact l01Num_zero w
  · obtain ⟨M, rfl⟩ : ∃ M : Nat, x = (M : Int) := ⟨x.natAbs, by omega⟩
    exact l01Num_pos M (by omega) h1 w
end Go.Proofs.YtlghdmakaocokaaGreatDoor.Num
