/-
  CONTRACTS of the laws' toTimerSS and toWheel over this seat's translation: a copy in memory of its own; nothing that was there has turned. And of szTimerS, szTimerSS, szWheel: 0 or more only where the slots and their timers are few.
-/
import Derived.Test.YthaecnemalpliaaTimerOwn
import Derived.Test.YthaecnemalpliaaTimerLaws
namespace Go.Proofs.Ythaecnemalpliaa.Timers
open Go.ChangeShapes Go.WideShapes Go.ChangeAt Go.RowKit
set_option linter.unusedVariables false

/-- What a copy of slots leaves. -/
def CopiedS (w : World) (ss : List TList) (e : Ending) (w' : World) : Prop :=
  ∃ A c, e = .returned (.slice A ss.length c) ∧ OwnS w' w.heap.size w'.heap.size A ss.length c ss ∧ Below w.heap.size w w'

def rest (ss : List TList) (k : Nat) : List TList := ss.take k ++ List.replicate (ss.length - k) []
theorem rest_len (ss : List TList) (k : Nat) (h : k ≤ ss.length) : (rest ss k).length = ss.length := by simp [rest]; omega
theorem rest_zero (ss : List TList) : rest ss 0 = List.replicate ss.length [] := by simp [rest]
theorem rest_all (ss : List TList) : rest ss ss.length = ss := by simp [rest]
theorem rest_set (ss : List TList) (k : Nat) (h : k < ss.length) : (rest ss k).set k (ss.getD k []) = rest ss (k + 1) := by
  unfold rest
  rw [List.set_append_right _ _ (by simp; omega)]
  have e : k - (ss.take k).length = 0 := by simp; omega
  have e2 : ss.length - k = (ss.length - (k + 1)) + 1 := by omega
  have e3 : ss.getD k [] = ss[k] := by simp [List.getD, h]
  rw [e, e2, List.replicate_succ, List.set_cons_zero, List.take_succ_eq_append_getElem h, e3, List.append_assoc]
  rfl
/-- Slots that were just made: all empty. -/
theorem OwnS.made {w : World} {lo g n c : Nat} (h : w.ownsRow lo 66 1 (.slice (some ⟨g, 0, none⟩) n c) n (List.replicate n (.slice none 0 0))) (hg : g < w.heap.size) : OwnS w lo w.heap.size (some ⟨g, 0, none⟩) n c (List.replicate n []) := by
  refine ⟨by simp, fun hn => ⟨g, _, rfl, hg, h, fun j hj => ?_, fun i j u v _ hu _ => ?_⟩⟩
  · rw [getD_rep]
    exact ⟨none, 0, by simp [hj], OwnT.nil _ _ _⟩
  · rw [List.getElem?_replicate] at hu
    split at hu
    · injection hu with hu
      subst hu
      exact .inl rfl
    · cases hu

set_option maxHeartbeats 1600000 in
theorem toTimerSS_any (A : Option Addr) (n cap : Nat) (ss : List TList) (B : Nat) (w : World) (hr : IsSlots w B A n ss) (hB : B ≤ w.heap.size) (hn : n ≤ 1048576) (hm : ∀ j, (ss.getD j []).length ≤ 1048576) :
    Calls Try.prog 60 #[.slice A n cap] w (CopiedS w ss) := by
  obtain ⟨i0, hi, hz0, hz1, hz2⟩ := info_parts info66
  have HLen : Hid (ss.length = n) := hr.1
  have HM := Lib.hid hm
  clear hm
  go_enter Try.func60, Try.ntmps60
  go_wp2_with (at_make; refine wpList_make_full _ rfl _ _ 24 rfl w.heap.size 66 i0 (.slice none 0 0) 1 Try.underlying24 hi hz0 hz1 _ _ _ _ n rfl rfl rfl rfl ?b1 ?b2 ?b3 ?_)
  case b1 => rw [hz2]; omega
  case b2 => unfold maxLen; omega
  case b3 => exact Nat.le_refl _
  intro w1 hown hgrow
  have hbel : Below w.heap.size w w1 := (Below.refl _ _).grown hgrow (Nat.le_refl _) (by intro k h; cases h)
  have hP0 : (madeCells #[Value.slice none 0 0] n).toList = List.replicate n (.slice none 0 0) := toList_madeCells_one _ _
  rw [hP0] at hown
  have hsz : w.heap.size < w1.heap.size := Ints.own_lt hown
  have hO0 := OwnS.made hown hsz
  have hr0 : List.replicate n ([] : TList) = rest ss 0 := by rw [rest_zero, HLen.out]
  rw [hr0] at hO0
  clear hP0 hgrow hi hz0 hz1 hz2 hr0 hown
  go_wp2_with fail
  go_loopw [4] (fun i wr => ∃ k : Nat, k ≤ n ∧ i = .int .i64 k ∧ OwnS wr w.heap.size wr.heap.size (some ⟨w.heap.size, 0, none⟩) n n (rest ss k) ∧ Below w.heap.size w wr ∧ w.heap.size < wr.heap.size) (fun i _ => n - (intOf i).toNat)
  case atStart => exact ⟨0, Nat.zero_le _, rfl, hO0, hbel, hsz⟩
  case round =>
    obtain ⟨k, hk, rfl, hownr, hbr, hszr⟩ := hrel
    by_cases hlt : k < n
    · obtain ⟨b, off, A1, n1, c1, rfl, hbB, hc1, hT1⟩ := (hr.below hbr hB).at_ hlt
      have hn1 : n1 ≤ 1048576 := by rw [← hT1.1]; exact HM.out k
      have HT1 := Lib.hid hT1
      have HO := Lib.hid hownr
      clear hT1 hownr
      go_wp2_with fail
      refine (toTimerS_any A1 n1 c1 _ B _ HT1.out (by have := hbr.size; omega) hn1).mono ?_
      rintro e w2 ⟨g, rfl, hown2, hb2⟩
      have hO2 := HO.out.below hb2
      obtain ⟨A0, c0, hcell, hfr, _⟩ := hO2.cell hlt
      have hT : OwnT w2 w.heap.size w2.heap.size (some ⟨g, 0, none⟩) (ss.getD k []).length (ss.getD k []).length (ss.getD k []) :=
        OwnT.base (lo := wr.heap.size) ⟨rfl, hown2, fun p e => by injection e with e; subst e; exact (hown2.lt g rfl).2⟩ hbr.size
      have hput := hO2.put (j := k) hlt hT (fun p hp => by injection hp with hp; subst hp; exact (hown2.lt g rfl).1) hb2.size
      rw [rest_set ss k (by rw [HLen.out]; exact hlt)] at hput
      have HPUT := Lib.hid hput
      have hbr2 : Below w.heap.size w w2 := hbr.trans (hb2.mono hbr.size)
      have hszr2 : w.heap.size < w2.heap.size := Nat.lt_of_lt_of_le hszr hb2.size
      obtain ⟨m1, hm1⟩ : ∃ m1, m1 = (ss.getD k []).length := ⟨_, rfl⟩
      rw [← hm1] at HPUT ⊢
      clear hput hT hO2 hown2 hm1
      go_wp2
      go_roundw
      case rel =>
        refine ⟨k + 1, by omega, by go_num, ?_, hbr2.setCell (p := ⟨w.heap.size, k, none⟩) (Nat.le_refl _) _, by simpa [World.setCell] using hszr2⟩
        have h1 := HPUT.out
        have h2 : (w2.setCell ⟨w.heap.size, k, none⟩ (.slice (some ⟨g, 0, none⟩) m1 m1)).heap.size = w2.heap.size := by simp [World.setCell]
        rw [h2]
        exact h1
      case measure => simp [intOf]; omega
    · have hkn : k = n := by omega
      have HK := Lib.hid hkn
      clear hkn
      go_wp2
      go_ret
      have hl := HLen.out
      refine ⟨some ⟨w.heap.size, 0, none⟩, n, by rw [hl]; rfl, ?_, hbr⟩
      rw [HK.out, ← hl, rest_all] at hownr
      rw [hl] at hownr ⊢
      exact hownr
end Go.Proofs.Ythaecnemalpliaa.Timers
