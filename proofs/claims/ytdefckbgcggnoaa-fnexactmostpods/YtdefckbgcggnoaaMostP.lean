/-
  MostPods, the model's and the program's, over this seat's translation: the greatest of the Marks' Pods.
-/
import Derived.Test.YtdefckbgcggnoaaMks
import Derived.Test.YtdefckbgcggnoaaEachI
namespace Go.Proofs.Ytdefckbgcggnoaa.MostP
open Go.ChangeShapes Go.WideShapes Go.ChangeAt Go.RowKit
open Go.Proofs.Ytdefckbgcggnoaa.LK Go.Proofs.Ytdefckbgcggnoaa.Mks
set_option linter.unusedVariables false

def podsM (p : X) : Int := p.2.2.2.2.1
def foldM (a : Int) (l : L) : Int := l.foldl (fun a p => max a (podsM p)) a
def mostV (ms : L) : Int := if 200 < ms.length then -1 else if ms.length = 0 then 0 else foldM (podsM (ms.getD 0 z)) ms
theorem foldM_take (a : Int) (ms : L) (k : Nat) (h : k < ms.length) : foldM a (ms.take (k + 1)) = max (foldM a (ms.take k)) (podsM (ms.getD k z)) := by
  have e : ms.getD k z = ms[k] := by simp [List.getD, h]
  unfold foldM
  rw [List.take_succ_eq_append_getElem h, List.foldl_append, e]
  rfl
/-- The model's, k seen. -/
def moK (ms : L) (k : Nat) : Int := if k = 0 then 0 else foldM (podsM (ms.getD 0 z)) (ms.take k)
theorem moK_step (ms : L) (k : Nat) (h : k < ms.length) : moK ms (k + 1) = if k = 0 ∨ moK ms k < podsM (ms.getD k z) then podsM (ms.getD k z) else moK ms k := by
  unfold moK
  rw [if_neg (by omega), foldM_take _ _ _ h]
  by_cases hk : k = 0
  · subst hk
    simp [foldM]
  · rw [if_neg hk]
    simp only [hk, false_or]
    split <;> omega
theorem ints1 (W : World) (x : Int) (n : Nat) (hn : n = W.heap.size) : Ints.IsInts (W.alloc (.cells #[.int .i64 x] 3)) (W.heap.size + 1) (some ⟨n, 0, none⟩) 1 [x] := by
  subst hn
  exact Each.ints_lit1 W x
set_option maxRecDepth 100000 in
set_option maxHeartbeats 6400000 in
theorem implMostPods_any (A : Option Addr) (n c : Nat) (ps : L) (B : Nat) (w : World) (hr : IsL w B A n ps) (hB : B ≤ w.heap.size) (hn : n ≤ 1048576) :
    Calls Try.prog 15 #[.slice A n c] w (Says (.int .i64 (mostV ps)) w) := by
  have HL : Hid (ps.length = n) := hr.1
  have HR := Lib.hid hr
  obtain ⟨R, hR⟩ : ∃ R, R = mostV ps := ⟨_, rfl⟩
  rw [← hR]
  have HV := Lib.hid hR
  clear hR hr
  go_enter Try.func15, Try.ntmps15
  by_cases h2 : 200 < n
  · have hd : decide ((200 : Int) < (n : Int)) = true := by simp; omega
    have HF : Hid (R = -1) := by show _ = _; rw [HV.out, mostV, if_pos (by rw [HL.out]; exact h2)]
    go_wp2
    go_ret
    exact ⟨by rw [HF.out]; rfl, Below.refl _ _⟩
  have hd : decide ((200 : Int) < (n : Int)) = false := by simp; omega
  by_cases h0 : n = 0
  · have hq : ((n : Int) == 0) = true := by simp [h0]
    have HF : Hid (R = 0) := by show _ = _; rw [HV.out, mostV, if_neg (by rw [HL.out]; exact h2), if_pos (by rw [HL.out]; exact h0)]
    clear h0
    go_wp2
    go_ret
    exact ⟨by rw [HF.out]; rfl, Below.refl _ _⟩
  have hq : ((n : Int) == 0) = false := by simp [h0]
  have hp : 0 < n := by omega
  have HF : Hid (R = foldM (podsM (ps.getD 0 z)) ps) := by show _ = _; rw [HV.out, mostV, if_neg (by rw [HL.out]; exact h2), if_neg (by rw [HL.out]; exact h0)]
  clear h0 HV
  obtain ⟨b, off, x0, x1, x2, x3, x4, x5, x6, x7, hA, hbB, hz, hc0, hc1, hc2, hc3, hc4, hc5, hc6, hc7⟩ := HR.out.at_ hp
  rw [Nat.zero_mul, Nat.add_zero] at hc0 hc1 hc2 hc3 hc4 hc5 hc6 hc7
  have HP : Hid (podsM (ps.getD 0 z) = x4) := by show _ = _; rw [hz]; rfl
  have HA := Lib.hid hA
  clear hz hc0 hc1 hc2 hc3 hc5 hc6 hc7
  subst hA
  go_wp2_with fail
  rw [HP.out] at HF
  clear hc4
  go_loopw [3, 20] (fun s i wr => ∃ (k : Nat) (a : Int), k ≤ n ∧ i = .int .i64 k ∧ s = .int .i64 a ∧ Hid (a = foldM x4 (ps.take k)) ∧ Hid (Below w.heap.size w wr)) (fun _ i _ => n - (intOf i).toNat)
  case atStart => exact ⟨0, x4, Nat.zero_le _, rfl, rfl, rfl, Below.refl _ _⟩
  case round =>
    obtain ⟨k, a, hk, rfl, rfl, HK, HB⟩ := hrel
    by_cases hlt : k < n
    · obtain ⟨b', off', y0, y1, y2, y3, y4, y5, y6, y7, hA', hbB', hz', hc0, hc1, hc2, hc3, hc4, hc5, hc6, hc7⟩ := (HR.out.below HB.out hB).at_ hlt
      injection hA' with hA'
      injection hA' with e1 e2 _
      subst e1 e2
      have HZ : Hid (podsM (ps.getD k z) = y4) := by show _ = _; rw [hz']; rfl
      clear hz'
      go_wp2_with fail
      refine (Each.greatestOf_any a (some ⟨wr.heap.size + 1, 0, none⟩) 1 1 [y4] (wr.heap.size + 2) _ (by have h := Each.ints_lit1 (wr.alloc (.cells #[.int .i64 y0, .int .i64 y1, .int .i64 y2, .int .i64 y3, .int .i64 y4, .int .i64 y5, .int .i64 y6, .int .i64 y7] 48)) y4; simp only [World.size_alloc] at h; exact h) (by simp) (by omega)).mono ?_
      rintro e w2 ⟨rfl, hb2⟩
      have HB2 : Hid (Below w.heap.size w w2) := bel_then HB.out (bel_then (bel2 _ _ _) hb2 (by simp; omega)) HB.out.size
      have HE : Hid ([y4].foldl max a = foldM x4 (ps.take (k + 1))) := by show _ = _; rw [foldM_take _ _ _ (by rw [HL.out]; exact hlt), ← HK.out, HZ.out]; rfl
      obtain ⟨q, hq2⟩ : ∃ q, q = [y4].foldl max a := ⟨_, rfl⟩
      rw [← hq2] at HE ⊢
      clear hb2 hq2 hc0 hc1 hc2 hc3 hc4 hc5 hc6 hc7 HZ
      go_wp2
      go_roundw
      case rel => exact ⟨k + 1, q, by omega, by go_num, rfl, HE, HB2⟩
      case measure => simp [intOf]; omega
    · have hkn : k = n := by omega
      have HN := Lib.hid hkn
      clear hkn
      go_wp2
      go_ret
      refine ⟨?_, HB.out⟩
      rw [HF.out, HK.out, HN.out, ← HL.out, List.take_length]
      rfl
set_option maxRecDepth 100000 in
set_option maxHeartbeats 6400000 in
theorem specMostPods_any (A : Option Addr) (n c : Nat) (ps : L) (B : Nat) (w : World) (hr : IsL w B A n ps) (hB : B ≤ w.heap.size) (hn : n ≤ 1048576) :
    Calls Try.prog 13 #[.slice A n c] w (Says (.int .i64 (mostV ps)) w) := by
  have HL : Hid (ps.length = n) := hr.1
  have HR := Lib.hid hr
  obtain ⟨R, hR⟩ : ∃ R, R = mostV ps := ⟨_, rfl⟩
  rw [← hR]
  have HV := Lib.hid hR
  clear hR hr
  go_enter Try.func13, Try.ntmps13
  by_cases h2 : 200 < n
  · have hd : decide ((200 : Int) < (n : Int)) = true := by simp; omega
    have HF : Hid (R = -1) := by show _ = _; rw [HV.out, mostV, if_pos (by rw [HL.out]; exact h2)]
    go_wp2
    go_ret
    exact ⟨by rw [HF.out]; rfl, Below.refl _ _⟩
  have hd : decide ((200 : Int) < (n : Int)) = false := by simp; omega
  have HF : Hid (R = moK ps n) := by
    show _ = _
    rw [HV.out, mostV, if_neg (by rw [HL.out]; exact h2), moK, ← HL.out, List.take_length]
  go_wp2_with fail
  go_loop [3, 4] (fun s i => ∃ (k : Nat) (a : Int), k ≤ n ∧ i = .int .i64 k ∧ s = .int .i64 a ∧ Hid (a = moK ps k)) (fun _ i => n - (intOf i).toNat)
  case atStart => exact ⟨0, 0, Nat.zero_le _, rfl, rfl, rfl⟩
  case round =>
    obtain ⟨k, a, hk, rfl, rfl, HK⟩ := hrel
    by_cases hlt : k < n
    · obtain ⟨b', off', y0, y1, y2, y3, y4, y5, y6, y7, hA', hbB', hz', hc0, hc1, hc2, hc3, hc4, hc5, hc6, hc7⟩ := HR.out.at_ hlt
      have HZ : Hid (podsM (ps.getD k z) = y4) := by show _ = _; rw [hz']; rfl
      have HS : Hid (moK ps (k + 1) = if k = 0 ∨ a < y4 then y4 else a) := by show _ = _; rw [moK_step ps k (by rw [HL.out]; exact hlt), ← HK.out, HZ.out]
      clear hz' hc0 hc1 hc2 hc3 hc5 hc6 hc7 HZ
      subst hA'
      by_cases hk0 : k = 0
      · have hq0 : ((k : Int) == 0) = true := by simp [hk0]
        have HE : Hid (y4 = moK ps (k + 1)) := by show _ = _; rw [HS.out, if_pos (.inl hk0)]
        clear hk0 HS
        go_wp2
        go_round
        case rel => exact ⟨k + 1, y4, by omega, by go_num, rfl, HE⟩
        case measure => simp [intOf]; omega
      · have hq0 : ((k : Int) == 0) = false := by simp [hk0]
        by_cases hay : a < y4
        · have hd2 : decide (a < y4) = true := by simp [hay]
          have HE : Hid (y4 = moK ps (k + 1)) := by show _ = _; rw [HS.out, if_pos (.inr hay)]
          clear hk0 hay HS
          go_wp2
          go_round
          case rel => exact ⟨k + 1, y4, by omega, by go_num, rfl, HE⟩
          case measure => simp [intOf]; omega
        · have hd2 : decide (a < y4) = false := by simp [hay]
          have HE : Hid (a = moK ps (k + 1)) := by show _ = _; rw [HS.out, if_neg (by rintro (h | h); exact hk0 h; exact hay h)]
          clear hk0 hay HS
          go_wp2
          go_round
          case rel => exact ⟨k + 1, a, by omega, by go_num, rfl, HE⟩
          case measure => simp [intOf]; omega
    · have hkn : k = n := by omega
      have HN := Lib.hid hkn
      clear hkn
      go_wp2
      go_ret
      refine ⟨?_, Below.refl _ _⟩
      rw [HF.out, HK.out, HN.out]
      rfl
end Go.Proofs.Ytdefckbgcggnoaa.MostP
