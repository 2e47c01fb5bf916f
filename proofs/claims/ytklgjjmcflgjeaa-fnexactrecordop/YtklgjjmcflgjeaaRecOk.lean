/-
  CONTRACTS of RecordOk, the program's and the model's, over this seat's translation.
-/
import Derived.Test.YtklgjjmcflgjeaaRec
import Derived.Test.YtklgjjmcflgjeaaPutNum
namespace Go.Proofs.Ytklgjjmcflgjeaa.Rec
open Go.ChangeShapes Go.WideShapes Go.ChangeAt Go.RowKit
open Go.Proofs.Ytklgjjmcflgjeaa.Ints Go.Proofs.Ytklgjjmcflgjeaa.Has
open Go.Proofs.Ytklgjjmcflgjeaa.Tick (inB in_t in_f l01In_any)
open Go.Proofs.Ytklgjjmcflgjeaa.Bytes (numB num_t num_f)
set_option linter.unusedVariables false

def recB (kd : Int) (zs : List Int) : Bool := inB kd 0 99 && decide (zs.length ≤ 12) && zs.all numB
theorem rec_1 {kd : Int} {zs : List Int} (h : inB kd 0 99 = false) : recB kd zs = false := by simp [recB, h]
theorem rec_2 {kd : Int} {zs : List Int} (h : 12 < zs.length) : recB kd zs = false := by simp [recB]; intro _ h2; omega
theorem rec_3 {kd : Int} {zs : List Int} (j : Nat) (h : j < zs.length) (h2 : numB (zs.getD j 0) = false) : recB kd zs = false := by
  have h3 : zs.all numB = false := by
    rw [List.all_eq_false]
    exact ⟨zs[j], List.getElem_mem h, by simpa [List.getD, h] using h2⟩
  simp [recB, h3]
theorem rec_4 {kd : Int} {zs : List Int} (h : inB kd 0 99 = true) (h1 : zs.length ≤ 12) (h2 : ∀ j, j < zs.length → numB (zs.getD j 0) = true) : recB kd zs = true := by
  have h3 : zs.all numB = true := by
    rw [List.all_eq_true]
    intro x hx
    obtain ⟨j, hj, rfl⟩ := List.mem_iff_getElem.mp hx
    simpa [List.getD, hj] using h2 j hj
  simp [recB, h, h1, h3]
theorem rec_t {kd : Int} {zs : List Int} (h : recB kd zs = true) : (0 ≤ kd ∧ kd ≤ 99) ∧ zs.length ≤ 12 ∧ ∀ x ∈ zs, numB x = true := by
  simp only [recB, Bool.and_eq_true, decide_eq_true_eq, List.all_eq_true] at h
  exact ⟨in_t h.1.1, h.1.2, h.2⟩


set_option maxHeartbeats 1600000 in
theorem specRecordOk_any (kd : Int) (A : Option Addr) (n c : Nat) (zs : List Int) (B : Nat) (w : World) (hr : IsInts w B A n zs) (hB : B ≤ w.heap.size) (hn : n ≤ 1048576) :
    Calls Try.prog 33 #[.agg #[.int .i64 kd, .slice A n c]] w fun e w' => e = .returned (.bool (recB kd zs)) ∧ Below w.heap.size w w' := by
  have HL : Hid (zs.length = n) := hr.1
  have HR := Lib.hid (hr.below (below_a1 w (.cells #[.int .i64 kd, .slice A n c] 45)) hB)
  clear hr
  cases h0 : inB kd 0 99
  · have HV : Hid (recB kd zs = false) := rec_1 h0
    go_enter Try.func33, Try.ntmps33
    go_wp2_with (go_at_call 32; refine (l01In_any _ _ _ _).mono ?_; rintro e w' ⟨rfl, rfl⟩)
    go_ret
    exact ⟨by rw [HV.out]; rfl, below_a1 _ _⟩
  · by_cases h2 : 12 < n
    · have HV : Hid (recB kd zs = false) := rec_2 (by rw [HL.out]; exact h2)
      have hd2 : decide ((12 : Int) < n) = true := by simp; omega
      go_enter Try.func33, Try.ntmps33
      go_wp2_with (go_at_call 32; refine (l01In_any _ _ _ _).mono ?_; rintro e w' ⟨rfl, rfl⟩)
      go_ret
      exact ⟨by rw [HV.out]; rfl, below_a1 _ _⟩
    · have hd2 : decide ((12 : Int) < n) = false := by simp; omega
      go_enter Try.func33, Try.ntmps33
      go_wp2_with (go_at_call 32; refine (l01In_any _ _ _ _).mono ?_; rintro e w' ⟨rfl, rfl⟩)
      have HK := Lib.hid h0
      clear h0
      go_loop [3] (fun i => ∃ k : Nat, k ≤ n ∧ i = .int .i64 k ∧ Hid (∀ j, j < k → numB (zs.getD j 0) = true)) (fun i => n - (intOf i).toNat)
      case atStart => exact ⟨0, Nat.zero_le _, rfl, fun j hj => absurd hj (by omega)⟩
      case round =>
        obtain ⟨k, hk, rfl, HF⟩ := hrel
        by_cases hlt : k < n
        · obtain ⟨b, off, z, rfl, hbB, hz, hc⟩ := HR.out.at_ hlt
          cases hnz : numB z
          · have HV : Hid (recB kd zs = false) := rec_3 k (by rw [HL.out]; exact hlt) (by rw [← hz]; exact hnz)
            clear hz
            go_wp2_with (go_at_call 51; refine (Bytes.l03Number_any _ _).mono ?_; rintro e w' ⟨rfl, rfl⟩)
            go_ret
            exact ⟨by rw [HV.out]; rfl, below_a1 _ _⟩
          · have HF2 : Hid (∀ j, j < k + 1 → numB (zs.getD j 0) = true) := fun j hj => by
              by_cases h : j = k
              · subst h; rw [← hz]; exact hnz
              · exact HF.out j (by omega)
            clear hz
            go_wp2_with (go_at_call 51; refine (Bytes.l03Number_any _ _).mono ?_; rintro e w' ⟨rfl, rfl⟩)
            go_round
            case rel => exact ⟨k + 1, by omega, by go_num, HF2⟩
            case measure => simp [intOf]; omega
        · have HV : Hid (recB kd zs = true) := rec_4 HK.out (by rw [HL.out]; omega) (fun j hj => HF.out j (by rw [HL.out] at hj; omega))
          go_wp2
          go_ret
          exact ⟨by rw [HV.out]; rfl, below_a1 _ _⟩
end Go.Proofs.Ytklgjjmcflgjeaa.Rec
