/-
  BacksBetween, the model's and the program's, over this seat's translation; and whether an event enters a phase.
-/
import Derived.Test.YtdefckbgcggnoaaEvs
namespace Go.Proofs.Ytdefckbgcggnoaa.BackP
open Go.ChangeShapes Go.WideShapes Go.ChangeAt Go.RowKit
open Go.Proofs.Ytdefckbgcggnoaa.LK Go.Proofs.Ytdefckbgcggnoaa.Evs
set_option linter.unusedVariables false

def entB (p : X) (ph : Int) : Bool := decide (p.1 = 2) && decide (p.2.1 = ph)
set_option maxHeartbeats 1600000 in
theorem enters_any (x0 x1 x2 ph : Int) (w : World) : Calls Try.prog 50 #[.agg #[.int .i64 x0, .int .i64 x1, .int .i64 x2], .int .i64 ph] w (Says (.bool (entB (x0, x1, x2) ph)) w) := by
  go_enter Try.func50, Try.ntmps50
  by_cases h0 : x0 = 2
  · have hq : (x0 == 2) = true := by simp [h0]
    by_cases h1 : x1 = ph
    · have hq1 : (x1 == ph) = true := by simp [h1]
      have HE : Hid (entB (x0, x1, x2) ph = true) := by show _ = _; simp [entB, h0, h1]
      clear h0 h1
      go_wp2
      go_ret
      exact ⟨by rw [HE.out]; rfl, bel1 _ _⟩
    · have hq1 : (x1 == ph) = false := by simp [h1]
      have HE : Hid (entB (x0, x1, x2) ph = false) := by show _ = _; simp [entB, h0, h1]
      clear h0 h1
      go_wp2
      go_ret
      exact ⟨by rw [HE.out]; rfl, bel1 _ _⟩
  · have hq : (x0 == 2) = false := by simp [h0]
    have HE : Hid (entB (x0, x1, x2) ph = false) := by show _ = _; simp [entB, h0]
    clear h0
    go_wp2
    go_ret
    exact ⟨by rw [HE.out]; rfl, bel1 _ _⟩
set_option maxHeartbeats 1600000 in
theorem phase_any (x0 x1 x2 ph : Int) (w : World) : Calls Try.prog 48 #[.agg #[.int .i64 x0, .int .i64 x1, .int .i64 x2], .int .i64 ph] w (Says (.bool (entB (x0, x1, x2) ph)) w) := by
  go_enter Try.func48, Try.ntmps48
  by_cases h0 : x0 = 2
  · have hq : (x0 == 2) = true := by simp [h0]
    by_cases h1 : x1 = ph
    · have hq1 : (x1 == ph) = true := by simp [h1]
      have HE : Hid (entB (x0, x1, x2) ph = true) := by show _ = _; simp [entB, h0, h1]
      clear h0 h1
      go_wp2
      go_ret
      exact ⟨by rw [HE.out]; rfl, bel1 _ _⟩
    · have hq1 : (x1 == ph) = false := by simp [h1]
      have HE : Hid (entB (x0, x1, x2) ph = false) := by show _ = _; simp [entB, h0, h1]
      clear h0 h1
      go_wp2
      go_ret
      exact ⟨by rw [HE.out]; rfl, bel1 _ _⟩
  · have hq : (x0 == 2) = false := by simp [h0]
    have HE : Hid (entB (x0, x1, x2) ph = false) := by show _ = _; simp [entB, h0]
    clear h0
    go_wp2
    go_ret
    exact ⟨by rw [HE.out]; rfl, bel1 _ _⟩
/-- Whether the place counts. -/
def plB (fr tt : Int) (k : Nat) (p : X) : Bool := decide (fr ≤ (k : Int)) && decide ((k : Int) < tt) && entB p 2
def cntK (fr tt : Int) (ps : L) : Nat → Int
  | 0 => 0
  | k + 1 => cntK fr tt ps k + if plB fr tt k (ps.getD k z) then 1 else 0
theorem cnt_bd (fr tt : Int) (ps : L) (k : Nat) : 0 ≤ cntK fr tt ps k ∧ cntK fr tt ps k ≤ k := by
  induction k with
  | zero => simp [cntK]
  | succ k ih => simp only [cntK]; split <;> omega
def backV (fr tt : Int) (ps : L) : Int := cntK fr tt ps ps.length
set_option maxRecDepth 100000 in
set_option maxHeartbeats 6400000 in
theorem implBacks_any (A : Option Addr) (n c : Nat) (fr tt : Int) (ps : L) (B : Nat) (w : World) (hr : IsL w B A n ps) (hB : B ≤ w.heap.size) (hn : n ≤ 1048576) :
    Calls Try.prog 23 #[.slice A n c, .int .i64 fr, .int .i64 tt] w (Says (.int .i64 (backV fr tt ps)) w) := by
  have HL : Hid (ps.length = n) := hr.1
  have HR := Lib.hid hr
  clear hr
  go_enter Try.func23, Try.ntmps23
  go_wp2_with fail
  go_loopw [7, 12] (fun s i wr => ∃ (k : Nat) (a : Int), k ≤ n ∧ i = .int .i64 k ∧ s = .int .i64 a ∧ Hid (a = cntK fr tt ps k) ∧ (0 ≤ a ∧ a ≤ 1048576) ∧ Hid (Below w.heap.size w wr)) (fun _ i _ => n - (intOf i).toNat)
  case atStart => exact ⟨0, 0, Nat.zero_le _, rfl, rfl, rfl, by omega, Below.refl _ _⟩
  case round =>
    obtain ⟨k, a, hk, rfl, rfl, HK, hab, HB⟩ := hrel
    by_cases hlt : k < n
    · obtain ⟨b, off, y0, y1, y2, hA, hbB, hz, hc0, hc1, hc2⟩ := (HR.out.below HB.out hB).at_ hlt
      have HS : Hid (cntK fr tt ps (k + 1) = a + if decide (fr ≤ (k : Int)) && decide ((k : Int) < tt) && entB (y0, y1, y2) 2 then 1 else 0) := by show _ = _; simp only [cntK, plB, hz]; rw [← HK.out]
      have HC : Hid (cntK fr tt ps (k + 1) ≤ 1048576 ∧ 0 ≤ cntK fr tt ps (k + 1)) := by have := cnt_bd fr tt ps (k + 1); exact ⟨by omega, this.1⟩
      have HA := Lib.hid hA
      clear hz
      subst hA
      have hbn : Below w.heap.size w (wr.alloc (.cells #[.int .i64 y0, .int .i64 y1, .int .i64 y2] 61)) := HB.out.alloc HB.out.size _
      have HBN := Lib.hid hbn
      have KE := box_new wr (.cells #[.int .i64 y0, .int .i64 y1, .int .i64 y2] 61)
      have HKE := Lib.hid KE
      clear hbn KE
      obtain ⟨q1, hq1⟩ : ∃ q, decide (fr ≤ (k : Int)) = q := ⟨_, rfl⟩
      obtain ⟨q2, hq2⟩ : ∃ q, decide ((k : Int) < tt) = q := ⟨_, rfl⟩
      rw [hq1, hq2] at HS
      go_upto_region 5 with fail
      obtain ⟨V, hV⟩ : ∃ V, V = wr.alloc (.cells #[.int .i64 y0, .int .i64 y1, .int .i64 y2] 61) := ⟨_, rfl⟩
      rw [← hV] at HBN HKE ⊢
      clear hV hc0 hc1 hc2 HB
      have e0 : V.cell? ⟨wr.heap.size, 0, none⟩ = some (.int .i64 y0) := box_cell HKE.out 0 _ rfl
      have e1 : V.cell? ⟨wr.heap.size, 1, none⟩ = some (.int .i64 y1) := box_cell HKE.out 1 _ rfl
      have e2 : V.cell? ⟨wr.heap.size, 2, none⟩ = some (.int .i64 y2) := box_cell HKE.out 2 _ rfl
      cases q1
      · have HF : Hid (a = cntK fr tt ps (k + 1)) := by show _ = _; rw [HS.out]; simp
        clear HS
        go_wp2
        go_roundw
        case rel => exact ⟨k + 1, a, by omega, by go_num, rfl, HF, hab, HBN⟩
        case measure => simp [intOf]; omega
      cases q2
      · have HF : Hid (a = cntK fr tt ps (k + 1)) := by show _ = _; rw [HS.out]; simp
        clear HS
        go_wp2
        go_roundw
        case rel => exact ⟨k + 1, a, by omega, by go_num, rfl, HF, hab, HBN⟩
        case measure => simp [intOf]; omega
      go_wp2_with fail
      refine (enters_any y0 y1 y2 2 _).mono ?_
      rintro e w2 ⟨rfl, hb2⟩
      have HB2 := Lib.hid (bel_then HBN.out hb2 HBN.out.size)
      obtain ⟨q3, hq3⟩ : ∃ q, entB (y0, y1, y2) 2 = q := ⟨_, rfl⟩
      rw [hq3] at HS
      rw [hq3]
      clear hb2 e0 e1 e2 hq3
      cases q3
      · have HF : Hid (a = cntK fr tt ps (k + 1)) := by show _ = _; rw [HS.out]; simp
        clear HS
        go_wp2
        go_roundw
        case rel => exact ⟨k + 1, a, by omega, by go_num, rfl, HF, hab, HB2⟩
        case measure => simp [intOf]; omega
      · have HF : Hid (a + 1 = cntK fr tt ps (k + 1)) := by show _ = _; rw [HS.out]; simp
        have hab2 : 0 ≤ a + 1 ∧ a + 1 ≤ 1048576 := by have h1 := HF.out; have h2 := HC.out; omega
        clear HS
        go_wp2
        go_roundw
        case rel => exact ⟨k + 1, a + 1, by omega, by go_num, rfl, HF, hab2, HB2⟩
        case measure => simp [intOf]; omega
    · have hkn : k = n := by omega
      have HN := Lib.hid hkn
      clear hkn
      go_wp2
      go_ret
      refine ⟨?_, HB.out⟩
      rw [HK.out, HN.out, ← HL.out]
      rfl
set_option maxRecDepth 100000 in
set_option maxHeartbeats 6400000 in
theorem specBacks_any (A : Option Addr) (n c : Nat) (fr tt : Int) (ps : L) (B : Nat) (w : World) (hr : IsL w B A n ps) (hB : B ≤ w.heap.size) (hn : n ≤ 1048576) :
    Calls Try.prog 21 #[.slice A n c, .int .i64 fr, .int .i64 tt] w (Says (.int .i64 (backV fr tt ps)) w) := by
  have HL : Hid (ps.length = n) := hr.1
  have HR := Lib.hid hr
  clear hr
  go_enter Try.func21, Try.ntmps21
  go_wp2_with fail
  go_loopw [7, 8] (fun s i wr => ∃ (k : Nat) (a : Int), k ≤ n ∧ i = .int .i64 k ∧ s = .int .i64 a ∧ Hid (a = cntK fr tt ps k) ∧ (0 ≤ a ∧ a ≤ 1048576) ∧ Hid (Below w.heap.size w wr)) (fun _ i _ => n - (intOf i).toNat)
  case atStart => exact ⟨0, 0, Nat.zero_le _, rfl, rfl, rfl, by omega, Below.refl _ _⟩
  case round =>
    obtain ⟨k, a, hk, rfl, rfl, HK, hab, HB⟩ := hrel
    by_cases hlt : k < n
    · obtain ⟨b, off, y0, y1, y2, hA, hbB, hz, hc0, hc1, hc2⟩ := (HR.out.below HB.out hB).at_ hlt
      have HS : Hid (cntK fr tt ps (k + 1) = a + if decide (fr ≤ (k : Int)) && decide ((k : Int) < tt) && entB (y0, y1, y2) 2 then 1 else 0) := by show _ = _; simp only [cntK, plB, hz]; rw [← HK.out]
      have HC : Hid (cntK fr tt ps (k + 1) ≤ 1048576 ∧ 0 ≤ cntK fr tt ps (k + 1)) := by have := cnt_bd fr tt ps (k + 1); exact ⟨by omega, this.1⟩
      have HA := Lib.hid hA
      clear hz
      subst hA
      obtain ⟨q1, hq1⟩ : ∃ q, decide (fr ≤ (k : Int)) = q := ⟨_, rfl⟩
      obtain ⟨q2, hq2⟩ : ∃ q, decide ((k : Int) < tt) = q := ⟨_, rfl⟩
      rw [hq1, hq2] at HS
      cases q1
      · have HF : Hid (a = cntK fr tt ps (k + 1)) := by show _ = _; rw [HS.out]; simp
        clear HS
        go_wp2
        go_roundw
        case rel => exact ⟨k + 1, a, by omega, by go_num, rfl, HF, hab, HB⟩
        case measure => simp [intOf]; omega
      cases q2
      · have HF : Hid (a = cntK fr tt ps (k + 1)) := by show _ = _; rw [HS.out]; simp
        clear HS
        go_wp2
        go_roundw
        case rel => exact ⟨k + 1, a, by omega, by go_num, rfl, HF, hab, HB⟩
        case measure => simp [intOf]; omega
      go_wp2_with fail
      refine (phase_any y0 y1 y2 2 _).mono ?_
      rintro e w2 ⟨rfl, hb2⟩
      have HB2 := Lib.hid (bel_then HB.out hb2 HB.out.size)
      obtain ⟨q3, hq3⟩ : ∃ q, entB (y0, y1, y2) 2 = q := ⟨_, rfl⟩
      rw [hq3] at HS
      rw [hq3]
      clear hb2 hq3 hc0 hc1 hc2
      cases q3
      · have HF : Hid (a = cntK fr tt ps (k + 1)) := by show _ = _; rw [HS.out]; simp
        clear HS
        go_wp2
        go_roundw
        case rel => exact ⟨k + 1, a, by omega, by go_num, rfl, HF, hab, HB2⟩
        case measure => simp [intOf]; omega
      · have HF : Hid (a + 1 = cntK fr tt ps (k + 1)) := by show _ = _; rw [HS.out]; simp
        have hab2 : 0 ≤ a + 1 ∧ a + 1 ≤ 1048576 := by have h1 := HF.out; have h2 := HC.out; omega
        clear HS
        go_wp2
        go_roundw
        case rel => exact ⟨k + 1, a + 1, by omega, by go_num, rfl, HF, hab2, HB2⟩
        case measure => simp [intOf]; omega
    · have hkn : k = n := by omega
      have HN := Lib.hid hkn
      clear hkn
      go_wp2
      go_ret
      refine ⟨?_, HB.out⟩
      rw [HK.out, HN.out, ← HL.out]
      rfl
end Go.Proofs.Ytdefckbgcggnoaa.BackP
