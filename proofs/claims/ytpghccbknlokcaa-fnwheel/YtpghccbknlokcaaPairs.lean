/-
  A WHEEL AGAINST THE LIST OF ITS ARMINGS: each of its lists holds those that are due on its spoke, in the order in which they were armed.
-/
import Derived.Test.YtpghccbknlokcaaTurnV
import Derived.Test.YtpghccbknlokcaaArmV
namespace Go.Proofs.Ytpghccbknlokcaa.WheelOk
open Go.ChangeShapes Go.WideShapes Go.ChangeAt Go.RowKit Go.Shelf
open Go.Proofs.Ytpghccbknlokcaa.Timers Go.Proofs.Ytpghccbknlokcaa.Ring Go.Proofs.Ytpghccbknlokcaa.Has
open Go.Proofs.Ytpghccbknlokcaa.Tick (tokB tok_t inB)
open Go.Proofs.Ytpghccbknlokcaa.Spoke (spokeV spoke_t)
set_option linter.unusedVariables false

theorem spk_lt (t : Int) : spk t < 8 := by unfold spk; omega
def onSpoke (j : Nat) (ps : TList) : TList := ps.filter fun p => decide (spk p.2 = j)
/-- The wheel's lists are the armings, list by list. -/
def Held (ss : List TList) (ps : TList) : Prop := ss.length = 8 ∧ ∀ j, ss.getD j [] = onSpoke j ps

theorem onSpoke_app (j : Nat) (a b : TList) : onSpoke j (a ++ b) = onSpoke j a ++ onSpoke j b := by simp [onSpoke]
theorem onSpoke_far (j : Nat) (h : 8 ≤ j) (ps : TList) : onSpoke j ps = [] := by
  unfold onSpoke
  rw [List.filter_eq_nil_iff]
  intro p _
  have := spk_lt p.2
  simp
  omega
theorem filter_swap (q r : Int × Int → Bool) (ps : TList) : (ps.filter q).filter r = (ps.filter r).filter q := by
  rw [List.filter_filter, List.filter_filter]
  congr 1
  funext p
  exact Bool.and_comm _ _
theorem held_empty : Held empty8 [] := ⟨rfl, fun j => getD_rep 8 j⟩
theorem held_stop {ss : List TList} {ps : TList} (h : Held ss ps) (x : Int) : Held (stopL x ss) (offL x ps) := by
  refine ⟨(stopL_length x ss).trans h.1, fun j => ?_⟩
  rw [stopL_at, h.2 j]
  exact filter_swap _ _ _
theorem held_arm {ss : List TList} {ps : TList} (h : Held ss ps) (x y : Int) : Held (armL x y ss) (offL x ps ++ [(x, y)]) := by
  have hs := held_stop h x
  refine ⟨(armL_len x y ss).trans h.1, fun j => ?_⟩
  rw [onSpoke_app]
  unfold armL
  by_cases e : j = (y % 8).toNat
  · subst e
    rw [Timers.getD_set_eq _ _ _ (by rw [hs.1]; omega), hs.2]
    congr 1
    simp [onSpoke, spk]
  · rw [Timers.getD_set_ne _ _ _ _ e, hs.2]
    have e2 : ¬ spk y = j := fun h2 => e h2.symm
    have : onSpoke j [(x, y)] = [] := by simp [onSpoke, e2]
    rw [this, List.append_nil]
theorem told_spoke (t : Int) (ps : TList) : toldL t (onSpoke (spk t) ps) = toldL t ps := by
  unfold toldL onSpoke
  rw [List.filter_filter]
  congr 2
  funext p
  by_cases e : p.2 = t
  · simp [e]
  · simp [e]
theorem stay_other (t : Int) (j : Nat) (h : j ≠ spk t) (ps : TList) : onSpoke j (stayL t ps) = onSpoke j ps := by
  unfold onSpoke stayL
  rw [List.filter_filter]
  congr 1
  funext p
  by_cases e : p.2 = t
  · have : ¬ spk p.2 = j := by rw [e]; exact fun h2 => h h2.symm
    simp [this]
  · simp [e]
theorem held_tick {ss : List TList} {ps : TList} (h : Held ss ps) (t : Int) : Held (ss.set (spk t) (stayL t (ss.getD (spk t) []))) (stayL t ps) := by
  refine ⟨by rw [List.length_set]; exact h.1, fun j => ?_⟩
  by_cases e : j = spk t
  · subst e
    rw [Timers.getD_set_eq _ _ _ (by rw [h.1]; exact spk_lt t), h.2]
    exact filter_swap _ _ _
  · rw [Timers.getD_set_ne _ _ _ _ e, h.2, stay_other t j e]

/-- The armings behind i ticks, and what has been told of them. -/
def leftP (now : Int) (ps : TList) : Nat → TList
  | 0 => ps
  | i + 1 => stayL (now + i + 1) (leftP now ps i)
def toldP (now : Int) (ps : TList) : Nat → List Int
  | 0 => []
  | i + 1 => toldP now ps i ++ toldL (now + i + 1) (leftP now ps i)
theorem held_turn {ss : List TList} {ps : TList} (h : Held ss ps) (now : Int) (i : Nat) : Held (turnR now ss i) (leftP now ps i) ∧ turnZ now ss i = toldP now ps i := by
  induction i with
  | zero => exact ⟨h, rfl⟩
  | succ i ih =>
    refine ⟨held_tick ih.1 (now + i + 1), ?_⟩
    rw [turnZ, toldP, ih.2, ih.1.2, told_spoke]
/-- Those of one tick: it does not matter what has been told before. -/
theorem told_left (now t : Int) (ps : TList) (i : Nat) (h : now + i < t) : toldL t (leftP now ps i) = toldL t ps := by
  induction i with
  | zero => rfl
  | succ i ih =>
    have h1 : now + (i : Int) < t := by omega
    rw [← ih h1, leftP]
    unfold toldL stayL
    rw [List.filter_filter]
    congr 2
    funext p
    by_cases e : p.2 = t
    · have : ¬ t = now + (i : Int) + 1 := by omega
      simp [e, this]
    · simp [e]
/-- How many timers a wheel holds: as many as are armed. -/
theorem held_perm (ps : TList) : ∀ n : Nat, ((List.range n).map fun j => onSpoke j ps).flatten.Perm (ps.filter fun p => decide (spk p.2 < n)) := by
  intro n
  induction n with
  | zero => simp
  | succ n ih =>
    rw [List.range_succ, List.map_append, List.flatten_append]
    simp only [List.map_cons, List.map_nil, List.flatten_cons, List.flatten_nil, List.append_nil]
    refine (List.Perm.append_right _ ih).trans ?_
    have h1 : ps.filter (fun p => decide (spk p.2 < n)) = (ps.filter fun p => decide (spk p.2 < n + 1)).filter fun p => decide (spk p.2 < n) := by
      rw [List.filter_filter]
      congr 1
      funext p
      by_cases e : spk p.2 < n
      · have : spk p.2 < n + 1 := by omega
        simp [e, this]
      · simp [e]
    have h2 : onSpoke n ps = (ps.filter fun p => decide (spk p.2 < n + 1)).filter fun p => !decide (spk p.2 < n) := by
      unfold onSpoke
      rw [List.filter_filter]
      congr 1
      funext p
      by_cases e : spk p.2 = n
      · simp [e]
      · by_cases e2 : spk p.2 < n
        · simp [e, e2]
        · have : ¬ spk p.2 < n + 1 := by omega
          simp [e, e2, this]
    rw [h1, h2]
    exact List.filter_append_perm _ _
theorem held_flat {ss : List TList} {ps : TList} (h : Held ss ps) : ss.flatten.Perm ps := by
  have h1 : ss = (List.range 8).map fun j => onSpoke j ps := by
    refine List.ext_getElem (by simp [h.1]) fun j h2 h3 => ?_
    rw [← getD_lt ss j [] h2, h.2]
    simp
  have h4 := held_perm ps 8
  rw [h1]
  refine h4.trans ?_
  rw [List.filter_eq_self.2 (fun p _ => by simpa using spk_lt p.2)]
theorem held_tot {ss : List TList} {ps : TList} (h : Held ss ps) : tot ss = ps.length := by
  rw [← flat_len_tot]
  exact (held_flat h).length_eq
end Go.Proofs.Ytpghccbknlokcaa.WheelOk
