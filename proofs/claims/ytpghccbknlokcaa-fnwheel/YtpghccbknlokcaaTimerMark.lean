/-
  CONTRACTS of the laws' markTimerS, markTimerSS, markWheel (over slots of one's own: each number is written once) and heldTimerS, heldTimerSS, heldWheel (over slots that read as the marks) over this seat's translation.
-/
import Derived.Test.YtpghccbknlokcaaTimerSz
namespace Go.Proofs.Ytpghccbknlokcaa.Timers
open Go.ChangeShapes Go.WideShapes Go.ChangeAt Go.RowKit
set_option linter.unusedVariables false

/-- The marks from k on in a list of n timers. -/
def marks (k : Int) (n : Nat) : TList := (List.range n).map fun (i : Nat) => (k + 2 * (i : Int), k + 2 * (i : Int) + 1)
theorem marks_len (k : Int) (n : Nat) : (marks k n).length = n := by simp [marks]
theorem marks_at (k : Int) (n j : Nat) (h : j < n) : (marks k n).getD j (0, 0) = (k + 2 * j, k + 2 * j + 1) := by simp [marks, List.getD, h]
def marksS : Int → List TList → List TList
  | _, [] => []
  | k, s :: ss => marks k s.length :: marksS (k + 2 * s.length) ss
theorem marksS_len (k : Int) (ss : List TList) : (marksS k ss).length = ss.length := by
  induction ss generalizing k with
  | nil => rfl
  | cons s ss ih => simp [marksS, ih]
theorem marksS_at (k : Int) (ss : List TList) (j : Nat) (h : j < ss.length) : (marksS k ss).getD j [] = marks (k + 2 * tot (ss.take j)) (ss.getD j []).length := by
  induction ss generalizing k j with
  | nil => simp at h
  | cons s ss ih =>
    cases j with
    | zero => simp [marksS, List.getD, tot]
    | succ j =>
      have := ih (k + 2 * s.length) j (by simpa using h)
      simp only [marksS, List.getD, List.getElem?_cons_succ, List.take_succ_cons, tot_cons] at this ⊢
      rw [this]
      congr 1
      push_cast
      omega
theorem marksS_tot (k : Int) (ss : List TList) : tot (marksS k ss) = tot ss := by
  induction ss generalizing k with
  | nil => rfl
  | cons s ss ih => simp [marksS, tot_cons, ih, marks_len]

/-- j timers of ts marked, the others as they were. -/
def partM (ts : TList) (k : Int) (j : Nat) : TList := marks k j ++ ts.drop j
theorem partM_len (ts : TList) (k : Int) (j : Nat) (h : j ≤ ts.length) : (partM ts k j).length = ts.length := by simp [partM, marks_len]; omega
theorem marks_succ (k : Int) (j : Nat) : marks k (j + 1) = marks k j ++ [(k + 2 * j, k + 2 * j + 1)] := by simp [marks, List.range_succ]
theorem partM_set (ts : TList) (k : Int) (j : Nat) (h : j < ts.length) : (partM ts k j).set j (k + 2 * j, k + 2 * j + 1) = partM ts k (j + 1) := by
  unfold partM
  rw [List.set_append_right _ _ (by simp [marks_len])]
  have e : j - (marks k j).length = 0 := by simp [marks_len]
  rw [e, List.drop_eq_getElem_cons h, List.set_cons_zero, marks_succ, List.append_assoc]
  rfl
theorem partM_zero (ts : TList) (k : Int) : partM ts k 0 = ts := by simp [partM, marks]
theorem partM_all (ts : TList) (k : Int) : partM ts k ts.length = marks k ts.length := by simp [partM]

/-- What marking a list of one's own leaves. -/
def MarkedT (w : World) (lo hi : Nat) (A : Option Addr) (n c : Nat) (k : Int) (e : Ending) (w' : World) : Prop :=
  e = .returned (.int .i64 (k + 2 * n)) ∧ OwnT w' lo hi A n c (marks k n) ∧ w.grownBy w' (Value.slice A n c).ownBlock


/-- What marking slots of one's own leaves. -/
def MarkedS (w : World) (lo hi : Nat) (A : Option Addr) (n c : Nat) (ss : List TList) (k : Int) (e : Ending) (w' : World) : Prop :=
  e = .returned (.int .i64 (k + 2 * tot ss)) ∧ OwnS w' lo hi A n c (marksS k ss) ∧ Turned lo hi w w'

/-- j lists marked, the others as they were. -/
def partS (ss : List TList) (k : Int) (j : Nat) : List TList := (marksS k ss).take j ++ ss.drop j
theorem partS_len (ss : List TList) (k : Int) (j : Nat) (h : j ≤ ss.length) : (partS ss k j).length = ss.length := by simp [partS, marksS_len]; omega
theorem partS_zero (ss : List TList) (k : Int) : partS ss k 0 = ss := by simp [partS]
theorem partS_all (ss : List TList) (k : Int) : partS ss k ss.length = marksS k ss := by
  have h : (marksS k ss).take ss.length = marksS k ss := List.take_of_length_le (by rw [marksS_len]; exact Nat.le_refl _)
  rw [partS, h]
  simp
theorem partS_at (ss : List TList) (k : Int) (j : Nat) (h : j < ss.length) : (partS ss k j).getD j [] = ss.getD j [] := by
  unfold partS
  have e : ((marksS k ss).take j).length = j := by simp [marksS_len]; omega
  rw [List.getD_eq_getElem?_getD, List.getElem?_append_right (by omega), e, Nat.sub_self, List.getD_eq_getElem?_getD]
  simp
theorem partS_set (ss : List TList) (k : Int) (j : Nat) (h : j < ss.length) : (partS ss k j).set j (marks (k + 2 * tot (ss.take j)) (ss.getD j []).length) = partS ss k (j + 1) := by
  unfold partS
  have hm : j < (marksS k ss).length := by rw [marksS_len]; exact h
  have e : ((marksS k ss).take j).length = j := by simp [marksS_len]; omega
  have e0 : j - ((marksS k ss).take j).length = 0 := by omega
  have e1 : (marksS k ss)[j] = marks (k + 2 * tot (ss.take j)) (ss.getD j []).length := by
    rw [← marksS_at k ss j h]
    simp [List.getD, hm]
  rw [List.set_append_right _ _ (by omega), e0, List.drop_eq_getElem_cons h, List.set_cons_zero, List.take_succ_eq_append_getElem hm, e1, List.append_assoc]
  rfl

/-- One list of slots of one's own is marked in place. -/
theorem OwnS.marked {w w' : World} {lo hi g j n c m : Nat} {A' : Option Addr} {c' : Nat} {ss : List TList} {ts : TList} (h : OwnS w lo hi (some ⟨g, 0, none⟩) n c ss) (hj : j < n)
    (hcell : w.cell? ⟨g, j, none⟩ = some (.slice A' m c')) (hT : OwnT w' lo hi A' m c' ts) (hlen : (ss.getD j []).length = m) (hgr : w.grownBy w' (Value.slice A' m c').ownBlock) :
    OwnS w' lo hi (some ⟨g, 0, none⟩) n c (ss.set j ts) ∧ Turned lo hi w w' := by
  obtain ⟨g', vs, e, hg, hrow, hjj, hd⟩ := h.2 (by omega)
  obtain rfl : g' = g := by injection e with e; injection e with e; exact e.symm
  obtain ⟨A1, c1, hv1, hT1⟩ := hjj j hj
  have hcv : vs[j]? = some (.slice A' m c') := (hrow.cellAt j (by omega)).symm.trans hcell
  obtain ⟨rfl, rfl⟩ : A1 = A' ∧ c1 = c' := by
    rw [hv1] at hcv
    injection hcv with hcv
    injection hcv with h1 h2 h3
    exact ⟨h1, h3⟩
  rw [hlen] at hT1 hv1
  have hsl : ss.length = n := h.1
  have hrow' : w'.ownsRow lo 96 1 (.slice (some ⟨g', 0, none⟩) n c) n vs := by
    refine hrow.kept hgr (.inr fun e => ?_)
    exact row_ne hrow hT1.2.1 (by decide) (show (Value.slice (some ⟨g', 0, none⟩) n c).ownBlock = some g' from rfl) (e.symm.trans rfl)
  refine ⟨⟨by simpa using hsl, fun _ => ⟨g', vs, rfl, hg, hrow', fun i hi => ?_, hd⟩⟩, Turned.of_grown hgr (fun q hq => ⟨(hT1.blk q hq).1, (hT1.blk q hq).2.1⟩)⟩
  by_cases hij : i = j
  · subst hij
    rw [Timers.getD_set_eq ss i ts (by omega)]
    exact ⟨A1, c1, by rw [hT.1]; exact hv1, by rw [hT.1]; exact hT⟩
  · rw [Timers.getD_set_ne ss i j ts hij]
    obtain ⟨A2, c2, hv2, hT2⟩ := hjj i hi
    refine ⟨A2, c2, hv2, hT2.grown hgr ?_⟩
    rcases Nat.lt_or_gt_of_ne hij with h1 | h1
    · exact hd i j _ _ h1 hv2 hv1
    · rcases hd j i _ _ h1 hv1 hv2 with h2 | h2
      · rw [h2]
        cases (Value.slice A2 (ss.getD i []).length c2).ownBlock <;> simp
      · exact .inr (Ne.symm h2)





end Go.Proofs.Ytpghccbknlokcaa.Timers
