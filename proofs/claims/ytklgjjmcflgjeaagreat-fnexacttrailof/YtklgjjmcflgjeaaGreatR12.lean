import Derived.Test.YtklgjjmcflgjeaaGreatR01
set_option linter.unusedVariables false
set_option linter.unusedSimpArgs false
namespace Go.Proofs.YtklgjjmcflgjeaaGreat.Rw
open Go.ChangeShapes Go.WideShapes Go.ChangeAt Go.RowKit
open LK Sp
def dblN (b c : Int) : Nat → Int
  | 0 => b
  | k + 1 => if dblN b c k < c then 2 * dblN b c k else dblN b c k
theorem dbl_bd {b c : Int} (h1 : 1 ≤ b) (h2 : b ≤ c) : ∀ k, 1 ≤ dblN b c k ∧ dblN b c k ≤ 2 * c := by
  intro k
  induction k with
  | zero => simp only [dblN]; omega
  | succ k ih => simp only [dblN]; split <;> omega
theorem dbl_step {b c : Int} {k : Nat} (h : dblN b c k < c) : dblN b c (k + 1) = 2 * dblN b c k := if_pos h
theorem dbl_stop {b c : Int} {k : Nat} (h : ¬ dblN b c k < c) : ∀ m, dblN b c (k + m) = dblN b c k := by
  intro m
  induction m with
  | zero => rfl
  | succ m ih => rw [← Nat.add_assoc]; simp only [dblN]; rw [ih, if_neg h]
theorem dbl_end {b c : Int} {k m : Nat} (h : ¬ dblN b c k < c) (hk : k ≤ m) : dblN b c m = dblN b c k := by
  obtain ⟨d, rfl⟩ : ∃ d, m = k + d := ⟨m - k, by omega⟩
  exact dbl_stop h d
def waitV (x0 x1 x2 x3 x4 x5 x6 x7 x8 x9 x10 n : Int) : Int := if specB x0 x1 x2 x3 x4 x5 x6 x7 x8 x9 x10 = true ∧ 0 ≤ n then (if n = 0 then 0 else min (dblN x5 x6 (n - 1).toNat) x6) else -1
set_option maxRecDepth 100000 in
set_option maxHeartbeats 3200000 in
theorem retryWait_any (x0 x1 x2 x3 x4 x5 x6 x7 x8 x9 x10 n : Int) (w : World) (hn : n ≤ 9223372036854775807) :
    Calls Tryz.prog 265 #[.agg #[.int .i64 x0, .int .i64 x1, .int .i64 x2, .int .i64 x3, .int .i64 x4, .int .i64 x5, .int .i64 x6, .int .i64 x7, .int .i64 x8, .int .i64 x9, .int .i64 x10], .int .i64 n] w (Says (.int .i64 (waitV x0 x1 x2 x3 x4 x5 x6 x7 x8 x9 x10 n)) w) := by
  obtain ⟨R, hR⟩ : ∃ R, R = waitV x0 x1 x2 x3 x4 x5 x6 x7 x8 x9 x10 n := ⟨_, rfl⟩
  rw [← hR]
  have HR := Lib.hid hR
  clear hR
  obtain ⟨V, hV⟩ : ∃ V, V = (w.alloc (.cells #[.int .i64 x0, .int .i64 x1, .int .i64 x2, .int .i64 x3, .int .i64 x4, .int .i64 x5, .int .i64 x6, .int .i64 x7, .int .i64 x8, .int .i64 x9, .int .i64 x10] 25)) := ⟨_, rfl⟩
  have hbV : Below w.heap.size w V := by rw [hV]; exact bel1 _ _
  have BS : Hid (V.heap[w.heap.size]? = some (.cells #[.int .i64 x0, .int .i64 x1, .int .i64 x2, .int .i64 x3, .int .i64 x4, .int .i64 x5, .int .i64 x6, .int .i64 x7, .int .i64 x8, .int .i64 x9, .int .i64 x10] 25)) := by have h := box_new w (.cells #[.int .i64 x0, .int .i64 x1, .int .i64 x2, .int .i64 x3, .int .i64 x4, .int .i64 x5, .int .i64 x6, .int .i64 x7, .int .i64 x8, .int .i64 x9, .int .i64 x10] 25); (try simp only [World.size_alloc] at h); rw [hV]; exact h
  go_enter Tryz.func265, Tryz.ntmps265
  go_wp2_with fail
  rw [← hV]
  clear hV
  refine (specOk_any x0 x1 x2 x3 x4 x5 x6 x7 x8 x9 x10 _).mono ?_
  rintro e w1 ⟨rfl, hbs⟩
  have BS' := Lib.hid (box_below BS.out hbs)
  have hbn1 : Below w.heap.size w w1 := bel_then hbV hbs hbV.size
  clear BS
  have BS := BS'
  clear BS'
  clear hbs
  cases hs : specB x0 x1 x2 x3 x4 x5 x6 x7 x8 x9 x10
  · have HV : Hid (R = -1) := by show R = -1; rw [HR.out]; simp [waitV, hs]
    go_wp2
    go_ret
    exact ⟨by rw [HV.out]; rfl, hbn1⟩
  have hx := specB_t hs
  have h5 : 1 ≤ x5 ∧ x5 ≤ x6 := by omega
  have h6 : x6 ≤ 10000 := by omega
  clear hx
  by_cases hn0 : n < 0
  · have HV : Hid (R = -1) := by show R = -1; rw [HR.out]; simp [waitV]; omega
    go_wp2
    go_ret
    exact ⟨by rw [HV.out]; rfl, hbn1⟩
  by_cases hz : n = 0
  case pos =>
    have HV : Hid (R = 0) := by show R = 0; rw [HR.out]; simp [waitV, hs, hz]
    clear HR
    subst hz
    go_wp2
    go_ret
    exact ⟨by rw [HV.out]; rfl, hbn1⟩
  have HV : Hid (R = min (dblN x5 x6 (n - 1).toNat) x6) := by show R = _; rw [HR.out]; simp [waitV, hs, hz]; omega
  clear HR hs
  have HD := Lib.hid (dbl_bd h5.1 h5.2)
  have hn1 : 1 ≤ n := by omega
  have cBS_0 : w1.cell? ⟨w.heap.size, 0, none⟩ = some (.int .i64 x0) := box_cell BS.out 0 _ rfl
  have cBS_1 : w1.cell? ⟨w.heap.size, 1, none⟩ = some (.int .i64 x1) := box_cell BS.out 1 _ rfl
  have cBS_2 : w1.cell? ⟨w.heap.size, 2, none⟩ = some (.int .i64 x2) := box_cell BS.out 2 _ rfl
  have cBS_3 : w1.cell? ⟨w.heap.size, 3, none⟩ = some (.int .i64 x3) := box_cell BS.out 3 _ rfl
  have cBS_4 : w1.cell? ⟨w.heap.size, 4, none⟩ = some (.int .i64 x4) := box_cell BS.out 4 _ rfl
  have cBS_5 : w1.cell? ⟨w.heap.size, 5, none⟩ = some (.int .i64 x5) := box_cell BS.out 5 _ rfl
  have cBS_6 : w1.cell? ⟨w.heap.size, 6, none⟩ = some (.int .i64 x6) := box_cell BS.out 6 _ rfl
  have cBS_7 : w1.cell? ⟨w.heap.size, 7, none⟩ = some (.int .i64 x7) := box_cell BS.out 7 _ rfl
  have cBS_8 : w1.cell? ⟨w.heap.size, 8, none⟩ = some (.int .i64 x8) := box_cell BS.out 8 _ rfl
  have cBS_9 : w1.cell? ⟨w.heap.size, 9, none⟩ = some (.int .i64 x9) := box_cell BS.out 9 _ rfl
  have cBS_10 : w1.cell? ⟨w.heap.size, 10, none⟩ = some (.int .i64 x10) := box_cell BS.out 10 _ rfl
  go_wp2_with fail
  go_loop [5, 19] (fun q i => ∃ (k : Nat) (z : Int), (k : Int) ≤ n - 1 ∧ i = .int .i64 k ∧ q = .int .i64 z ∧ 1 ≤ z ∧ z ≤ 20000 ∧ Hid (z = dblN x5 x6 k)) (fun _ i => (n - 1).toNat - (RowKit.intOf i).toNat)
  case atStart => exact ⟨0, x5, by omega, rfl, rfl, by omega, by omega, rfl⟩
  case round =>
    obtain ⟨k, z, hk, rfl, rfl, hz1, hz2, HZ⟩ := hrel
    by_cases hlt : (k : Int) < n - 1
    case neg =>
      have HW : Hid (dblN x5 x6 (n - 1).toNat = z) := by show _ = z; rw [HZ.out]; congr 1; omega
      rcases Int.lt_or_le x6 z with hm | hm
      · have HE : Hid (R = x6) := by show R = x6; rw [HV.out, HW.out]; omega
        go_wp2
        go_ret
        exact ⟨by rw [HE.out]; first | rfl | (congr 2; omega), hbn1⟩
      · have HE : Hid (R = z) := by show R = z; rw [HV.out, HW.out]; omega
        go_wp2
        go_ret
        exact ⟨by rw [HE.out]; first | rfl | (congr 2; omega), hbn1⟩
    by_cases hzc : z < x6
    case neg =>
      have HW : Hid (dblN x5 x6 (n - 1).toNat = z) := by show _ = z; have h1 := HZ.out; rw [h1]; exact dbl_end (by rw [← h1]; exact hzc) (by omega)
      rcases Int.lt_or_le x6 z with hm | hm
      · have HE : Hid (R = x6) := by show R = x6; rw [HV.out, HW.out]; omega
        go_wp2
        go_ret
        exact ⟨by rw [HE.out]; first | rfl | (congr 2; omega), hbn1⟩
      · have HE : Hid (R = z) := by show R = z; rw [HV.out, HW.out]; omega
        go_wp2
        go_ret
        exact ⟨by rw [HE.out]; first | rfl | (congr 2; omega), hbn1⟩
    have HN : Hid (2 * z = dblN x5 x6 (k + 1)) := by show _ = _; have h1 := HZ.out; rw [dbl_step (by rw [← h1]; exact hzc), h1]
    go_wp2
    go_round
    case rel => exact ⟨k + 1, 2 * z, by omega, by go_num, by first | rfl | go_num | (congr 1; omega), by omega, by omega, HN.out⟩
    case measure => simp [RowKit.intOf]; omega
set_option maxRecDepth 100000 in
set_option maxHeartbeats 3200000 in
theorem specRetryWait_any (x0 x1 x2 x3 x4 x5 x6 x7 x8 x9 x10 n : Int) (w : World) (hn : n ≤ 9223372036854775807) :
    Calls Tryz.prog 184 #[.agg #[.int .i64 x0, .int .i64 x1, .int .i64 x2, .int .i64 x3, .int .i64 x4, .int .i64 x5, .int .i64 x6, .int .i64 x7, .int .i64 x8, .int .i64 x9, .int .i64 x10], .int .i64 n] w (Says (.int .i64 (waitV x0 x1 x2 x3 x4 x5 x6 x7 x8 x9 x10 n)) w) := by
  obtain ⟨R, hR⟩ : ∃ R, R = waitV x0 x1 x2 x3 x4 x5 x6 x7 x8 x9 x10 n := ⟨_, rfl⟩
  rw [← hR]
  have HR := Lib.hid hR
  clear hR
  obtain ⟨V, hV⟩ : ∃ V, V = (w.alloc (.cells #[.int .i64 x0, .int .i64 x1, .int .i64 x2, .int .i64 x3, .int .i64 x4, .int .i64 x5, .int .i64 x6, .int .i64 x7, .int .i64 x8, .int .i64 x9, .int .i64 x10] 25)) := ⟨_, rfl⟩
  have hbV : Below w.heap.size w V := by rw [hV]; exact bel1 _ _
  have BS : Hid (V.heap[w.heap.size]? = some (.cells #[.int .i64 x0, .int .i64 x1, .int .i64 x2, .int .i64 x3, .int .i64 x4, .int .i64 x5, .int .i64 x6, .int .i64 x7, .int .i64 x8, .int .i64 x9, .int .i64 x10] 25)) := by have h := box_new w (.cells #[.int .i64 x0, .int .i64 x1, .int .i64 x2, .int .i64 x3, .int .i64 x4, .int .i64 x5, .int .i64 x6, .int .i64 x7, .int .i64 x8, .int .i64 x9, .int .i64 x10] 25); (try simp only [World.size_alloc] at h); rw [hV]; exact h
  go_enter Tryz.func184, Tryz.ntmps184
  go_wp2_with fail
  rw [← hV]
  clear hV
  refine (specSpecOk_any x0 x1 x2 x3 x4 x5 x6 x7 x8 x9 x10 _).mono ?_
  rintro e w1 ⟨rfl, hbs⟩
  have BS' := Lib.hid (box_below BS.out hbs)
  have hbn1 : Below w.heap.size w w1 := bel_then hbV hbs hbV.size
  clear BS
  have BS := BS'
  clear BS'
  clear hbs
  cases hs : specB x0 x1 x2 x3 x4 x5 x6 x7 x8 x9 x10
  · have HV : Hid (R = -1) := by show R = -1; rw [HR.out]; simp [waitV, hs]
    go_wp2
    go_ret
    exact ⟨by rw [HV.out]; rfl, hbn1⟩
  have hx := specB_t hs
  have h5 : 1 ≤ x5 ∧ x5 ≤ x6 := by omega
  have h6 : x6 ≤ 10000 := by omega
  clear hx
  by_cases hn0 : n < 0
  · have HV : Hid (R = -1) := by show R = -1; rw [HR.out]; simp [waitV]; omega
    go_wp2
    go_ret
    exact ⟨by rw [HV.out]; rfl, hbn1⟩
  by_cases hz : n = 0
  case pos =>
    have HV : Hid (R = 0) := by show R = 0; rw [HR.out]; simp [waitV, hs, hz]
    clear HR
    subst hz
    go_wp2
    go_ret
    exact ⟨by rw [HV.out]; rfl, hbn1⟩
  have HV : Hid (R = min (dblN x5 x6 (n - 1).toNat) x6) := by show R = _; rw [HR.out]; simp [waitV, hs, hz]; omega
  clear HR hs
  have HD := Lib.hid (dbl_bd h5.1 h5.2)
  have hn1 : 1 ≤ n := by omega
  have cBS_0 : w1.cell? ⟨w.heap.size, 0, none⟩ = some (.int .i64 x0) := box_cell BS.out 0 _ rfl
  have cBS_1 : w1.cell? ⟨w.heap.size, 1, none⟩ = some (.int .i64 x1) := box_cell BS.out 1 _ rfl
  have cBS_2 : w1.cell? ⟨w.heap.size, 2, none⟩ = some (.int .i64 x2) := box_cell BS.out 2 _ rfl
  have cBS_3 : w1.cell? ⟨w.heap.size, 3, none⟩ = some (.int .i64 x3) := box_cell BS.out 3 _ rfl
  have cBS_4 : w1.cell? ⟨w.heap.size, 4, none⟩ = some (.int .i64 x4) := box_cell BS.out 4 _ rfl
  have cBS_5 : w1.cell? ⟨w.heap.size, 5, none⟩ = some (.int .i64 x5) := box_cell BS.out 5 _ rfl
  have cBS_6 : w1.cell? ⟨w.heap.size, 6, none⟩ = some (.int .i64 x6) := box_cell BS.out 6 _ rfl
  have cBS_7 : w1.cell? ⟨w.heap.size, 7, none⟩ = some (.int .i64 x7) := box_cell BS.out 7 _ rfl
  have cBS_8 : w1.cell? ⟨w.heap.size, 8, none⟩ = some (.int .i64 x8) := box_cell BS.out 8 _ rfl
  have cBS_9 : w1.cell? ⟨w.heap.size, 9, none⟩ = some (.int .i64 x9) := box_cell BS.out 9 _ rfl
  have cBS_10 : w1.cell? ⟨w.heap.size, 10, none⟩ = some (.int .i64 x10) := box_cell BS.out 10 _ rfl
  go_wp2_with fail
  go_loop [5, 6] (fun q i => ∃ (k : Nat) (z j : Int), j = (k : Int) + 1 ∧ (k : Int) ≤ n - 1 ∧ i = .int .i64 j ∧ q = .int .i64 z ∧ 1 ≤ z ∧ z ≤ 20000 ∧ Hid (z = dblN x5 x6 k)) (fun _ i => n.toNat - (RowKit.intOf i).toNat)
  case atStart => exact ⟨0, x5, 1, by omega, by omega, rfl, rfl, by omega, by omega, rfl⟩
  case round =>
    obtain ⟨k, z, j, hj, hk, rfl, rfl, hz1, hz2, HZ⟩ := hrel
    by_cases hlt : (k : Int) < n - 1
    case neg =>
      have HW : Hid (dblN x5 x6 (n - 1).toNat = z) := by show _ = z; rw [HZ.out]; congr 1; omega
      rcases Int.lt_or_le x6 z with hm | hm
      · have HE : Hid (R = x6) := by show R = x6; rw [HV.out, HW.out]; omega
        go_wp2
        go_ret
        exact ⟨by rw [HE.out]; first | rfl | (congr 2; omega), hbn1⟩
      · have HE : Hid (R = z) := by show R = z; rw [HV.out, HW.out]; omega
        go_wp2
        go_ret
        exact ⟨by rw [HE.out]; first | rfl | (congr 2; omega), hbn1⟩
    by_cases hzc : z < x6
    case neg =>
      have HW : Hid (dblN x5 x6 (n - 1).toNat = z) := by show _ = z; have h1 := HZ.out; rw [h1]; exact dbl_end (by rw [← h1]; exact hzc) (by omega)
      rcases Int.lt_or_le x6 z with hm | hm
      · have HE : Hid (R = x6) := by show R = x6; rw [HV.out, HW.out]; omega
        go_wp2
        go_ret
        exact ⟨by rw [HE.out]; first | rfl | (congr 2; omega), hbn1⟩
      · have HE : Hid (R = z) := by show R = z; rw [HV.out, HW.out]; omega
        go_wp2
        go_ret
        exact ⟨by rw [HE.out]; first | rfl | (congr 2; omega), hbn1⟩
    have HN : Hid (2 * z = dblN x5 x6 (k + 1)) := by show _ = _; have h1 := HZ.out; rw [dbl_step (by rw [← h1]; exact hzc), h1]
    go_wp2
    go_round
    case rel => first | exact ⟨k + 1, by omega, by omega, by omega, by omega, HN.out⟩ | exact ⟨k + 1, 2 * z, by omega, by omega, by omega, by omega, by omega, HN.out⟩ | (go_show; fail)
    case measure => simp [RowKit.intOf]; omega
end Go.Proofs.YtklgjjmcflgjeaaGreat.Rw
