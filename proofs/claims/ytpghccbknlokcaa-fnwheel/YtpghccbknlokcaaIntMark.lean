/-
  THE CONTRACTS of the laws' markIntS and heldIntS over this seat's translation.
-/
import Derived.Test.YtpghccbknlokcaaStep
import Derived.Test.YtpghccbknlokcaaIntCopy
namespace Go.Proofs.Ytpghccbknlokcaa.Has
open Go.ChangeShapes Go.WideShapes Go.ChangeAt Go.RowKit
open Go.Proofs.Ytpghccbknlokcaa.Ints
set_option linter.unusedVariables false

/-- n numbers from k on. -/
def marksI (k : Int) (n : Nat) : List Int := (List.range n).map fun (i : Nat) => k + (i : Int)
theorem marksI_len (k : Int) (n : Nat) : (marksI k n).length = n := by simp [marksI]
theorem marksI_at (k : Int) (n j : Nat) (h : j < n) : (marksI k n).getD j 0 = k + (j : Int) := by simp [marksI, List.getD, h]
theorem marks_step (k : Int) (n j : Nat) (zs : List Int) (h : j < n) (hl : zs.length = n) : ((marksI k n).take j ++ zs.drop j).set j (k + (j : Int)) = (marksI k n).take (j + 1) ++ zs.drop (j + 1) := by
  have hj : ((marksI k n).take j).length = j := by rw [List.length_take, marksI_len]; omega
  rw [List.set_append_right _ _ (by omega), hj, Nat.sub_self, List.drop_eq_getElem_cons (by omega), List.set_cons_zero, List.take_succ_eq_append_getElem (by rw [marksI_len]; exact h), List.append_assoc]
  congr 1
  simp [marksI]

set_option maxHeartbeats 800000 in
theorem markIntS_any (A : Option Addr) (n c : Nat) (zs : List Int) (k : Int) (base : Nat) (w : World) (hO : OwnI w base A n c zs) (hn : n ≤ 1048576) (hk0 : 0 ≤ k) (hk1 : k ≤ 8000000) :
    Calls Try.prog 92 #[.slice A n c, .int .i64 k] w fun e w' => e = .returned (.int .i64 (k + n)) ∧ OwnI w' base A n c (marksI k n) ∧ w.grownBy w' (Value.slice A n c).ownBlock := by
  have HL : Hid (zs.length = n) := hO.1
  have HO := Lib.hid hO
  clear hO
  rcases Nat.eq_zero_or_pos n with h0 | h0
  · subst h0
    have HZ : Hid (zs = []) := List.eq_nil_of_length_eq_zero HL.out
    go_enter Try.func92, Try.ntmps92
    go_wp2_with fail
    go_loop [1, 5] (fun a i => a = .int .i64 k ∧ i = .int .i64 (0 : Int)) (fun _ _ => 0)
    case atStart => exact ⟨rfl, rfl⟩
    case round =>
      obtain ⟨rfl, rfl⟩ := hrel
      go_wp2
      go_ret
      refine ⟨by simp, ?_, World.grownBy.refl _ _⟩
      have h5 := HO.out
      rw [HZ.out] at h5
      exact h5
  · obtain ⟨g, cap, hv, hbg, hgl⟩ := HO.out.2.form h0
    obtain rfl : A = some ⟨g, 0, none⟩ := by injection hv
    clear hv
    go_enter Try.func92, Try.ntmps92
    go_wp2_with fail
    go_loopw [1, 5] (fun a i wr => ∃ j : Nat, j ≤ n ∧ a = .int .i64 (k + j) ∧ i = .int .i64 j ∧ Hid (OwnI wr base (some ⟨g, 0, none⟩) n c ((marksI k n).take j ++ zs.drop j)) ∧ Hid (w.grownBy wr (some g))) (fun _ i _ => n - (intOf i).toNat)
    case atStart => exact ⟨0, Nat.zero_le _, by simp, rfl, by simpa using HO, World.grownBy.refl _ _⟩
    case round =>
      obtain ⟨j, hj, rfl, rfl, HI, HG⟩ := hrel
      by_cases hlt : j < n
      · have hc : ∃ u, wr.cell? ⟨g, j, none⟩ = some u := by
          have h5 := HI.out.2.1
          exact ⟨_, (HI.out.2.cellAt j (by omega)).trans (List.getElem?_eq_getElem (by omega))⟩
        obtain ⟨u, hu⟩ := hc
        have hf := HI.out.2.frozenAt j
        obtain ⟨hs1, hs2⟩ := HI.out.2.stored j (.int .i64 (k + j))
        have HN : Hid (OwnI (wr.setCell ⟨g, j, none⟩ (.int .i64 (k + j))) base (some ⟨g, 0, none⟩) n c ((marksI k n).take (j + 1) ++ zs.drop (j + 1))) := by
          rw [← marks_step k n j zs hlt HL.out]
          refine ⟨by rw [List.length_set]; exact HI.out.1, ?_⟩
          rw [List.map_set]
          exact hs1
        have HG2 : Hid (w.grownBy (wr.setCell ⟨g, j, none⟩ (.int .i64 (k + j))) (some g)) := HG.out.andThen hs2 (fun q hq => by cases hq; exact Or.inr rfl)
        clear hs1 hs2
        go_wp2
        go_roundw
        case rel => exact ⟨j + 1, by omega, by go_num, by go_num, HN, HG2⟩
        case measure => simp [intOf]; omega
      · have HJ : Hid (j = n) := (by omega : j = n)
        go_wp2
        go_ret
        refine ⟨by rw [HJ.out]; rfl, ?_, HG.out⟩
        have h5 := HI.out
        rw [HJ.out, List.take_of_length_le (by rw [marksI_len]; exact Nat.le_refl _), List.drop_eq_nil_of_le (by rw [HL.out]; exact Nat.le_refl _), List.append_nil] at h5
        exact h5

end Go.Proofs.Ytpghccbknlokcaa.Has
