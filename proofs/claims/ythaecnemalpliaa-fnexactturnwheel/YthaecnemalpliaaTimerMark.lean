/-
  CONTRACTS of the laws' markTimerS, markTimerSS, markWheel (over slots of one's own: each number is written once) and heldTimerS, heldTimerSS, heldWheel (over slots that read as the marks) over this seat's translation.
-/
import Derived.Test.YthaecnemalpliaaTimerSz
namespace Go.Proofs.Ythaecnemalpliaa.Timers
open Go.ChangeShapes Go.WideShapes Go.ChangeAt Go.RowKit
set_option linter.unusedVariables false

/-- The marks from k on in a list of n timers. -/
def marks (k : Int) (n : Nat) : TList := (List.range n).map fun (i : Nat) => (k + 2 * (i : Int), k + 2 * (i : Int) + 1)
theorem marks_len (k : Int) (n : Nat) : (marks k n).length = n := by simp [marks]
theorem marks_at (k : Int) (n j : Nat) (h : j < n) : (marks k n).getD j (0, 0) = (k + 2 * j, k + 2 * j + 1) := by simp [marks, List.getD, h]
def marksS : Int → List TList → List TList
  | _, [] => []
  | k, s :: ss => marks k s.length :: marksS (k + 2 * s.length) ss
theorem marksS_len (k : Int) (ss : List TList) : (marksS k ss).length = ss.length := by
  induction ss generalizing k with
  | nil => rfl
  | cons s ss ih => simp [marksS, ih]
theorem marksS_at (k : Int) (ss : List TList) (j : Nat) (h : j < ss.length) : (marksS k ss).getD j [] = marks (k + 2 * tot (ss.take j)) (ss.getD j []).length := by
  induction ss generalizing k j with
  | nil => simp at h
  | cons s ss ih =>
    cases j with
    | zero => simp [marksS, List.getD, tot]
    | succ j =>
      have := ih (k + 2 * s.length) j (by simpa using h)
      simp only [marksS, List.getD, List.getElem?_cons_succ, List.take_succ_cons, tot_cons] at this ⊢
      rw [this]
      congr 1
      push_cast
      omega
theorem marksS_tot (k : Int) (ss : List TList) : tot (marksS k ss) = tot ss := by
  induction ss generalizing k with
  | nil => rfl
  | cons s ss ih => simp [marksS, tot_cons, ih, marks_len]

/-- j timers of ts marked, the others as they were. -/
def partM (ts : TList) (k : Int) (j : Nat) : TList := marks k j ++ ts.drop j
theorem partM_len (ts : TList) (k : Int) (j : Nat) (h : j ≤ ts.length) : (partM ts k j).length = ts.length := by simp [partM, marks_len]; omega
theorem marks_succ (k : Int) (j : Nat) : marks k (j + 1) = marks k j ++ [(k + 2 * j, k + 2 * j + 1)] := by simp [marks, List.range_succ]
theorem partM_set (ts : TList) (k : Int) (j : Nat) (h : j < ts.length) : (partM ts k j).set j (k + 2 * j, k + 2 * j + 1) = partM ts k (j + 1) := by
  unfold partM
  rw [List.set_append_right _ _ (by simp [marks_len])]
  have e : j - (marks k j).length = 0 := by simp [marks_len]
  rw [e, List.drop_eq_getElem_cons h, List.set_cons_zero, marks_succ, List.append_assoc]
  rfl
theorem partM_zero (ts : TList) (k : Int) : partM ts k 0 = ts := by simp [partM, marks]
theorem partM_all (ts : TList) (k : Int) : partM ts k ts.length = marks k ts.length := by simp [partM]

/-- What marking a list of one's own leaves. -/
def MarkedT (w : World) (lo hi : Nat) (A : Option Addr) (n c : Nat) (k : Int) (e : Ending) (w' : World) : Prop :=
  e = .returned (.int .i64 (k + 2 * n)) ∧ OwnT w' lo hi A n c (marks k n) ∧ w.grownBy w' (Value.slice A n c).ownBlock

set_option maxHeartbeats 1600000 in
theorem markTimerS_any (A : Option Addr) (n c : Nat) (ts : TList) (lo hi : Nat) (k : Int) (w : World) (hO : OwnT w lo hi A n c ts) (hn : n ≤ 1048576) (h0 : 0 ≤ k) (h1 : k ≤ 100000000) :
    Calls Try.prog 76 #[.slice A n c, .int .i64 k] w (MarkedT w lo hi A n c k) := by
  have HLen : Hid (ts.length = n) := hO.1
  by_cases hp : n = 0
  · have HE : Hid (n = 0) := hp
    have HO := Lib.hid hO
    have hz : ¬ (0 : Nat) < n := by omega
    clear hp
    go_enter Try.func76, Try.ntmps76
    go_wp2_with fail
    go_loop [1, 5] (fun q i => q = .int .i64 k ∧ i = .int .i64 (0 : Int)) (fun _ _ => 0)
    case atStart => exact ⟨rfl, rfl⟩
    case round =>
      obtain ⟨rfl, rfl⟩ := hrel
      go_wp2
      go_ret
      have hn0 := HE.out
      subst hn0
      have hts : ts = [] := List.eq_nil_of_length_eq_zero HLen.out
      refine ⟨ret_int (by omega), ?_, World.grownBy.refl _ _⟩
      have h5 := HO.out
      rw [hts] at h5
      exact h5
  · obtain ⟨g, rfl, _, hg, _⟩ := hO.at0 (by omega)
    have hrow := hO.2.1
    have hgr : w.grownBy w (some g) := ⟨rfl, rfl, rfl, Nat.le_refl _, fun _ _ _ => rfl⟩
    have hrow0 : w.ownsRow lo 68 2 (.slice (some ⟨g, 0, none⟩) n c) n (flat (partM ts k 0)) := by rw [partM_zero]; exact hrow
    have HP := Lib.hid hp
    clear hrow hO hp
    go_enter Try.func76, Try.ntmps76
    go_wp2_with fail
    go_loopw [1, 5] (fun q i wr => ∃ (j : Nat) (x : Int), j ≤ n ∧ i = .int .i64 j ∧ q = .int .i64 x ∧ 0 ≤ x ∧ x ≤ k + 2 * j ∧ Hid (x = k + 2 * j) ∧ wr.ownsRow lo 68 2 (.slice (some ⟨g, 0, none⟩) n c) n (flat (partM ts k j)) ∧ w.grownBy wr (some g)) (fun _ i _ => n - (intOf i).toNat)
    case atStart => exact ⟨0, k, Nat.zero_le _, rfl, rfl, h0, by omega, by simp [Hid], hrow0, hgr⟩
    case round =>
      obtain ⟨j, x, hj, rfl, rfl, hx0, hx1, HX, hrowr, hgrr⟩ := hrel
      by_cases hlt : j < n
      · obtain ⟨⟨u1, hu1⟩, ⟨u2, hu2⟩, hf1, hf2, hst⟩ := own_cells2 hrowr hlt
        have HST := Lib.hid hst
        clear hst
        go_wp2
        go_roundw
        case rel =>
          refine ⟨j + 1, x + 1 + 1, by omega, by go_num, rfl, by omega, by omega, by have := HX.out; show _ = _; omega, ?_, ?_⟩
          · have h2 := HST.out (.int .i64 x) (.int .i64 (x + 1))
            rw [flat_set, HX.out, partM_set ts k j (by rw [HLen.out]; exact hlt)] at h2
            rw [HX.out]
            exact h2
          · exact ⟨hgrr.os, hgrr.tape, hgrr.output, by simpa [World.setCell] using hgrr.size, fun q hq hne => by
              rw [Below.heap_setCell _ _ _ _ (fun e => hne (by rw [e])), Below.heap_setCell _ _ _ _ (fun e => hne (by rw [e]))]
              exact hgrr.block q hq hne⟩
        case measure => simp [intOf]; omega
      · have HJ : Hid (j = n) := (by omega : j = n)
        go_wp2
        go_ret
        have hx := HX.out
        have hj' := HJ.out
        subst hj'
        refine ⟨ret_int hx, ⟨marks_len _ _, ?_, fun p e => by injection e with e; subst e; exact hg⟩, hgrr⟩
        rw [← HLen.out, partM_all] at hrowr
        rw [← HLen.out]
        exact hrowr

/-- What marking slots of one's own leaves. -/
def MarkedS (w : World) (lo hi : Nat) (A : Option Addr) (n c : Nat) (ss : List TList) (k : Int) (e : Ending) (w' : World) : Prop :=
  e = .returned (.int .i64 (k + 2 * tot ss)) ∧ OwnS w' lo hi A n c (marksS k ss) ∧ Turned lo hi w w'

/-- j lists marked, the others as they were. -/
def partS (ss : List TList) (k : Int) (j : Nat) : List TList := (marksS k ss).take j ++ ss.drop j
theorem partS_len (ss : List TList) (k : Int) (j : Nat) (h : j ≤ ss.length) : (partS ss k j).length = ss.length := by simp [partS, marksS_len]; omega
theorem partS_zero (ss : List TList) (k : Int) : partS ss k 0 = ss := by simp [partS]
theorem partS_all (ss : List TList) (k : Int) : partS ss k ss.length = marksS k ss := by
  have h : (marksS k ss).take ss.length = marksS k ss := List.take_of_length_le (by rw [marksS_len]; exact Nat.le_refl _)
  rw [partS, h]
  simp
theorem partS_at (ss : List TList) (k : Int) (j : Nat) (h : j < ss.length) : (partS ss k j).getD j [] = ss.getD j [] := by
  unfold partS
  have e : ((marksS k ss).take j).length = j := by simp [marksS_len]; omega
  rw [List.getD_eq_getElem?_getD, List.getElem?_append_right (by omega), e, Nat.sub_self, List.getD_eq_getElem?_getD]
  simp
theorem partS_set (ss : List TList) (k : Int) (j : Nat) (h : j < ss.length) : (partS ss k j).set j (marks (k + 2 * tot (ss.take j)) (ss.getD j []).length) = partS ss k (j + 1) := by
  unfold partS
  have hm : j < (marksS k ss).length := by rw [marksS_len]; exact h
  have e : ((marksS k ss).take j).length = j := by simp [marksS_len]; omega
  have e0 : j - ((marksS k ss).take j).length = 0 := by omega
  have e1 : (marksS k ss)[j] = marks (k + 2 * tot (ss.take j)) (ss.getD j []).length := by
    rw [← marksS_at k ss j h]
    simp [List.getD, hm]
  rw [List.set_append_right _ _ (by omega), e0, List.drop_eq_getElem_cons h, List.set_cons_zero, List.take_succ_eq_append_getElem hm, e1, List.append_assoc]
  rfl

/-- One list of slots of one's own is marked in place. -/
theorem OwnS.marked {w w' : World} {lo hi g j n c m : Nat} {A' : Option Addr} {c' : Nat} {ss : List TList} {ts : TList} (h : OwnS w lo hi (some ⟨g, 0, none⟩) n c ss) (hj : j < n)
    (hcell : w.cell? ⟨g, j, none⟩ = some (.slice A' m c')) (hT : OwnT w' lo hi A' m c' ts) (hlen : (ss.getD j []).length = m) (hgr : w.grownBy w' (Value.slice A' m c').ownBlock) :
    OwnS w' lo hi (some ⟨g, 0, none⟩) n c (ss.set j ts) ∧ Turned lo hi w w' := by
  obtain ⟨g', vs, e, hg, hrow, hjj, hd⟩ := h.2 (by omega)
  obtain rfl : g' = g := by injection e with e; injection e with e; exact e.symm
  obtain ⟨A1, c1, hv1, hT1⟩ := hjj j hj
  have hcv : vs[j]? = some (.slice A' m c') := (hrow.cellAt j (by omega)).symm.trans hcell
  obtain ⟨rfl, rfl⟩ : A1 = A' ∧ c1 = c' := by
    rw [hv1] at hcv
    injection hcv with hcv
    injection hcv with h1 h2 h3
    exact ⟨h1, h3⟩
  rw [hlen] at hT1 hv1
  have hsl : ss.length = n := h.1
  have hrow' : w'.ownsRow lo 66 1 (.slice (some ⟨g', 0, none⟩) n c) n vs := by
    refine hrow.kept hgr (.inr fun e => ?_)
    exact row_ne hrow hT1.2.1 (by decide) (show (Value.slice (some ⟨g', 0, none⟩) n c).ownBlock = some g' from rfl) (e.symm.trans rfl)
  refine ⟨⟨by simpa using hsl, fun _ => ⟨g', vs, rfl, hg, hrow', fun i hi => ?_, hd⟩⟩, Turned.of_grown hgr (fun q hq => ⟨(hT1.blk q hq).1, (hT1.blk q hq).2.1⟩)⟩
  by_cases hij : i = j
  · subst hij
    rw [Timers.getD_set_eq ss i ts (by omega)]
    exact ⟨A1, c1, by rw [hT.1]; exact hv1, by rw [hT.1]; exact hT⟩
  · rw [Timers.getD_set_ne ss i j ts hij]
    obtain ⟨A2, c2, hv2, hT2⟩ := hjj i hi
    refine ⟨A2, c2, hv2, hT2.grown hgr ?_⟩
    rcases Nat.lt_or_gt_of_ne hij with h1 | h1
    · exact hd i j _ _ h1 hv2 hv1
    · rcases hd j i _ _ h1 hv1 hv2 with h2 | h2
      · rw [h2]
        cases (Value.slice A2 (ss.getD i []).length c2).ownBlock <;> simp
      · exact .inr (Ne.symm h2)

set_option maxHeartbeats 1600000 in
theorem markTimerSS_any (A : Option Addr) (n c : Nat) (ss : List TList) (lo hi : Nat) (k : Int) (w : World) (hO : OwnS w lo hi A n c ss) (hn : n ≤ 1048576) (ht : tot ss ≤ 2097152) (hm : ∀ j, (ss.getD j []).length ≤ 1048576) (h0 : 0 ≤ k) (h1 : k ≤ 10000000) :
    Calls Try.prog 63 #[.slice A n c, .int .i64 k] w (MarkedS w lo hi A n c ss k) := by
  have HLen : Hid (ss.length = n) := hO.1
  have HM := Lib.hid hm
  have hO0 : OwnS w lo hi A n c (partS ss k 0) := by rw [partS_zero]; exact hO
  clear hm hO
  go_enter Try.func63, Try.ntmps63
  go_wp2_with fail
  go_loopw [1, 5] (fun q i wr => ∃ (j : Nat) (x : Int), j ≤ n ∧ i = .int .i64 j ∧ q = .int .i64 x ∧ 0 ≤ x ∧ x ≤ k + 2 * 2097152 ∧ Hid (x = k + 2 * tot (ss.take j)) ∧ OwnS wr lo hi A n c (partS ss k j) ∧ Turned lo hi w wr) (fun _ i _ => n - (intOf i).toNat)
  case atStart => exact ⟨0, k, Nat.zero_le _, rfl, rfl, h0, by omega, by simp [Hid, tot], hO0, Turned.refl _ _ _⟩
  case round =>
    obtain ⟨j, x, hj, rfl, rfl, hx0, hx1, HX, hOr, htr⟩ := hrel
    by_cases hlt : j < n
    · obtain ⟨g, rfl, hg1, hg2⟩ := hOr.at_ (by omega)
      obtain ⟨A1, c1, hcell, _, hT1⟩ := hOr.cell hlt
      rw [partS_at ss k j (by rw [HLen.out]; exact hlt)] at hcell hT1
      obtain ⟨m, hm1⟩ : ∃ m, m = (ss.getD j []).length := ⟨_, rfl⟩
      have hm2 : m ≤ 1048576 := by rw [hm1]; exact HM.out j
      rw [← hm1] at hcell
      have HM1 := Lib.hid hm1
      have HT := Lib.hid hT1
      have HO := Lib.hid hOr
      clear hm1 hT1 hOr
      go_wp2_with fail
      refine (markTimerS_any A1 m c1 (ss.getD j []) lo hi x _ (by rw [HM1.out]; exact HT.out) hm2 hx0 (by omega)).mono ?_
      rintro e w2 ⟨rfl, hT2, hgr2⟩
      obtain ⟨hO2, ht2⟩ := HO.out.marked hlt hcell hT2 (by rw [partS_at ss k j (by rw [HLen.out]; exact hlt)]; exact HM1.out.symm) hgr2
      have hp : (partS ss k j).set j (marks x m) = partS ss k (j + 1) := by rw [HM1.out, HX.out]; exact partS_set ss k j (by rw [HLen.out]; exact hlt)
      rw [hp] at hO2
      have HX2 : Hid (x + 2 * m = k + 2 * tot (ss.take (j + 1))) := by
        show _ = _
        rw [tot_take ss j (by rw [HLen.out]; exact hlt), ← HM1.out, HX.out]
        push_cast
        omega
      have hle : x + 2 * m ≤ k + 2 * 2097152 := by
        have h5 := tot_take_le ss (j + 1)
        have := HX2.out
        omega
      have HO2 := Lib.hid hO2
      clear hO2 hp hT2 hgr2
      go_wp2
      go_roundw
      case rel => exact ⟨j + 1, x + 2 * m, by omega, by go_num, rfl, by omega, hle, HX2, HO2.out, htr.trans ht2⟩
      case measure => simp [intOf]; omega
    · have HJ : Hid (j = n) := (by omega : j = n)
      go_wp2
      go_ret
      have hl := HLen.out
      have hj' := HJ.out
      have hx := HX.out
      rw [hj', ← hl, List.take_length] at hx
      rw [hj', ← hl, partS_all] at hOr
      rw [hl] at hOr
      exact ⟨ret_int hx, hOr, htr⟩

set_option maxHeartbeats 800000 in
theorem markWheel_any (now : Int) (A : Option Addr) (n c : Nat) (ss : List TList) (lo hi : Nat) (w : World) (hO : OwnS w lo hi A n c ss) (hn : n ≤ 1048576) (ht : tot ss ≤ 2097152) (hm : ∀ j, (ss.getD j []).length ≤ 1048576) :
    Calls Try.prog 31 #[.agg #[.int .i64 now, .slice A n c], .int .i64 1] w (MarkedS w lo hi A n c ss 1) := by
  have HO := Lib.hid hO
  have HM := Lib.hid hm
  clear hO hm
  go_enter Try.func31, Try.ntmps31
  go_wp2_with fail
  refine (markTimerSS_any A n c ss lo hi 1 _ (HO.out.below (below_a1 _ _)) hn ht HM.out (by omega) (by omega)).mono ?_
  rintro e w2 ⟨rfl, hO2, ht2⟩
  have HO2 := Lib.hid hO2
  clear hO2
  go_wp2
  go_ret
  exact ⟨rfl, HO2.out, (Turned.of_below (below_a1 _ _)).trans ht2⟩

set_option maxHeartbeats 1600000 in
theorem heldTimerS_any (A : Option Addr) (n c : Nat) (B : Nat) (k : Int) (w : World) (hr : IsTimers w B A n (marks k n)) (hn : n ≤ 1048576) (h0 : 0 ≤ k) (h1 : k ≤ 100000000) :
    Calls Try.prog 77 #[.slice A n c, .int .i64 k] w fun e w' => e = .returned (.int .i64 (k + 2 * n)) ∧ w = w' := by
  go_enter Try.func77, Try.ntmps77
  go_wp2_with fail
  go_loop [1, 5] (fun q i => ∃ (j : Nat) (x : Int), j ≤ n ∧ i = .int .i64 j ∧ q = .int .i64 x ∧ 0 ≤ x ∧ x ≤ k + 2 * j ∧ Hid (x = k + 2 * j)) (fun _ i => n - (intOf i).toNat)
  case atStart => exact ⟨0, k, Nat.zero_le _, rfl, rfl, h0, by omega, by simp [Hid]⟩
  case round =>
    obtain ⟨j, x, hj, rfl, rfl, hx0, hx1, HX⟩ := hrel
    by_cases hlt : j < n
    · obtain ⟨b, off, y, z, rfl, hbB, hz, hc1, hc2⟩ := hr.at_ hlt
      obtain ⟨rfl, rfl⟩ : x = y ∧ x + 1 = z := by
        rw [marks_at k n j hlt] at hz
        have e1 := congrArg Prod.fst hz
        have e2 := congrArg Prod.snd hz
        have := HX.out
        simp only at e1 e2
        omega
      clear hz
      go_wp2
      go_round
      case rel => exact ⟨j + 1, x + 1 + 1, by omega, by go_num, rfl, by omega, by omega, by have := HX.out; show _ = _; omega⟩
      case measure => simp [intOf]; omega
    · have HJ : Hid (j = n) := (by omega : j = n)
      go_wp2
      go_ret
      have hx := HX.out
      rw [HJ.out] at hx
      exact ⟨ret_int hx, rfl⟩

set_option maxHeartbeats 1600000 in
theorem heldTimerSS_any (A : Option Addr) (n c : Nat) (ss : List TList) (B : Nat) (k : Int) (w : World) (hr : IsSlots w B A n (marksS k ss)) (hn : n ≤ 1048576) (ht : tot ss ≤ 2097152) (hm : ∀ j, (ss.getD j []).length ≤ 1048576) (h0 : 0 ≤ k) (h1 : k ≤ 10000000) :
    Calls Try.prog 64 #[.slice A n c, .int .i64 k] w fun e w' => e = .returned (.int .i64 (k + 2 * tot ss)) ∧ w = w' := by
  have HLen : Hid (ss.length = n) := by have := hr.1; rw [marksS_len] at this; exact this
  have HM := Lib.hid hm
  clear hm
  go_enter Try.func64, Try.ntmps64
  go_wp2_with fail
  go_loop [1, 5] (fun q i => ∃ (j : Nat) (x : Int), j ≤ n ∧ i = .int .i64 j ∧ q = .int .i64 x ∧ 0 ≤ x ∧ x ≤ k + 2 * 2097152 ∧ Hid (x = k + 2 * tot (ss.take j))) (fun _ i => n - (intOf i).toNat)
  case atStart => exact ⟨0, k, Nat.zero_le _, rfl, rfl, h0, by omega, by simp [Hid, tot]⟩
  case round =>
    obtain ⟨j, x, hj, rfl, rfl, hx0, hx1, HX⟩ := hrel
    by_cases hlt : j < n
    · obtain ⟨b, off, A1, n1, c1, rfl, hbB, hc1, hT1⟩ := hr.at_ hlt
      rw [marksS_at k ss j (by rw [HLen.out]; exact hlt), ← HX.out] at hT1
      have hn1 : (ss.getD j []).length = n1 := by have := hT1.1; rw [marks_len] at this; exact this
      rw [hn1] at hT1
      have hn2 : n1 ≤ 1048576 := by rw [← hn1]; exact HM.out j
      have HT1 := Lib.hid hT1
      have HX2 : Hid (x + 2 * n1 = k + 2 * tot (ss.take (j + 1))) := by
        show _ = _
        rw [tot_take ss j (by rw [HLen.out]; exact hlt), hn1, HX.out]
        push_cast
        omega
      have hle : x + 2 * n1 ≤ k + 2 * 2097152 := by
        have h5 := tot_take_le ss (j + 1)
        have := HX2.out
        omega
      have hnl : ¬ x + 2 * n1 < 0 := by omega
      clear hT1 hn1
      go_wp2_with fail
      refine (heldTimerS_any A1 n1 c1 B x _ HT1.out hn2 hx0 (by omega)).mono ?_
      rintro e w2 ⟨rfl, rfl⟩
      go_wp2
      go_round
      case rel => exact ⟨j + 1, x + 2 * n1, by omega, by go_num, rfl, by omega, hle, HX2⟩
      case measure => simp [intOf]; omega
    · have HJ : Hid (j = n) := (by omega : j = n)
      go_wp2
      go_ret
      have hx := HX.out
      rw [HJ.out, ← HLen.out, List.take_length] at hx
      exact ⟨ret_int hx, rfl⟩

set_option maxHeartbeats 800000 in
theorem heldWheel_any (now : Int) (A : Option Addr) (n c : Nat) (ss : List TList) (B : Nat) (w : World) (hr : IsSlots w B A n (marksS 1 ss)) (hB : B ≤ w.heap.size) (hn : n ≤ 1048576) (ht : tot ss ≤ 2097152) (hm : ∀ j, (ss.getD j []).length ≤ 1048576) :
    Calls Try.prog 32 #[.agg #[.int .i64 now, .slice A n c], .int .i64 1] w fun e w' => e = .returned (.int .i64 (1 + 2 * tot ss)) ∧ Below w.heap.size w w' := by
  have HR := Lib.hid hr
  have HM := Lib.hid hm
  clear hr hm
  have hnl : ¬ (1 + 2 * (tot ss : Int)) < 0 := by omega
  go_enter Try.func32, Try.ntmps32
  go_wp2_with fail
  refine (heldTimerSS_any A n c ss B 1 _ (HR.out.below (below_a1 _ _) hB) hn ht HM.out (by omega) (by omega)).mono ?_
  rintro e w2 ⟨rfl, rfl⟩
  go_wp2
  go_ret
  exact ⟨rfl, below_a1 _ _⟩
end Go.Proofs.Ythaecnemalpliaa.Timers
