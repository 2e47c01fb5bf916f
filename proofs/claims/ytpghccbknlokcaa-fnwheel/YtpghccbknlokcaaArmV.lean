/-
  WHAT ArmTimer ASKS AND ANSWERS, on lists: a wheel is as it should be just where each timer stands in its list, ahead of now, no Id stands twice and there are 80 at most; and what that says of a wheel in which one timer has been set.
-/
import Derived.Test.YtpghccbknlokcaaImplStop
namespace Go.Proofs.Ytpghccbknlokcaa.WheelOk
open Go.ChangeShapes Go.WideShapes Go.ChangeAt Go.RowKit Go.Shelf
open Go.Proofs.Ytpghccbknlokcaa.Timers Go.Proofs.Ytpghccbknlokcaa.Ring Go.Proofs.Ytpghccbknlokcaa.Has
open Go.Proofs.Ytpghccbknlokcaa.Tick (tokB tok_t inB)
open Go.Proofs.Ytpghccbknlokcaa.Spoke (spokeV spoke_t)
set_option linter.unusedVariables false

theorem okS_of_fine (now : Int) (k : Nat) (ids : List Int) (ls : List TList) (h : Fine now k ids ls) : okS now k ids ls = true := by
  induction k, ids, ls using okS.induct with
  | case1 k ids => exact okS_nil _ _ _
  | case2 k ids ls ih =>
    rw [okS_next]
    obtain ⟨h1, h2, h3⟩ := h
    refine ih ⟨fun j t ht => ?_, by simpa [tot_cons] using h2, by simpa using h3⟩
    have := h1 (j + 1) t (by simpa using ht)
    rw [show k + 1 + j = k + (j + 1) from by omega]
    exact this
  | case3 k ids t ts ls ih =>
    obtain ⟨h1, h2, h3⟩ := h
    rw [okS_step, Bool.and_eq_true]
    obtain ⟨a1, a2, a3⟩ := h1 0 t (by simp)
    rw [Nat.add_zero] at a1
    simp only [tot_cons, List.length_cons] at h2
    refine ⟨?_, ih ⟨fun j s hs => ?_, by simp only [tot_cons, List.length_append, List.length_cons, List.length_nil]; omega, by simpa [List.append_assoc] using h3⟩⟩
    · have hno : hasB ids t.1 = false := by
        cases hb : hasB ids t.1
        · rfl
        · have hm := (hasB_mem ids t.1).1 hb
          rw [List.nodup_append] at h3
          exact absurd rfl (h3.2.2 t.1 hm t.1 (by simp))
      have := tOk_yes (now := now) (k := k) (ids := ids) (x := t.1) (y := t.2) a3 (by omega) (by rw [a1]; simp) (by simp; omega) hno
      exact this
    · cases j with
      | zero => exact h1 0 s (by simp at hs ⊢; exact .inr hs)
      | succ j => exact h1 (j + 1) s (by simpa using hs)
theorem good_wheelB {now : Int} {ss : List TList} (h : Good now ss) : wheelB now ss = true := by
  have h1 : okS now 0 [] ss = true := okS_of_fine now 0 [] ss ⟨fun j t ht => by rw [Nat.zero_add]; exact ⟨(h.at_ j t ht).1, (h.at_ j t ht).2.1, (h.at_ j t ht).2.2.1⟩, by simpa using h.few, by simpa using h.once⟩
  simp [wheelB, h.tick, h.len, h1]

/-- A timer is set behind its list, having been taken off first. -/
def armL (x y : Int) (ss : List TList) : List TList := (stopL x ss).set (y % 8).toNat ((stopL x ss).getD (y % 8).toNat [] ++ [(x, y)])
def armB (now : Int) (ss : List TList) (x y : Int) : Bool := wheelB now ss && tokB y && wheelB now (armL x y ss)
def armS (now : Int) (ss : List TList) (x y : Int) : List TList := if armB now ss x y then armL x y ss else ss
theorem armL_len (x y : Int) (ss : List TList) : (armL x y ss).length = ss.length := by unfold armL; rw [List.length_set, stopL_length]
theorem armS_len (now : Int) (ss : List TList) (x y : Int) : (armS now ss x y).length = ss.length := by
  unfold armS
  split
  · exact armL_len x y ss
  · rfl
theorem tot_set (l : List TList) (p : Int × Int) : ∀ k, k < l.length → tot (l.set k (l.getD k [] ++ [p])) = tot l + 1 := by
  induction l with
  | nil => intro k h; simp at h
  | cons a l ih =>
    intro k h
    cases k with
    | zero => simp [tot_cons]; omega
    | succ k =>
      have := ih k (by simpa using h)
      rw [List.set_cons_succ, tot_cons, tot_cons]
      have e : (a :: l).getD (k + 1) [] = l.getD k [] := rfl
      rw [e, this]
      omega
theorem armL_tot {x y : Int} {ss : List TList} (h : ss.length = 8) : tot (armL x y ss) ≤ tot ss + 1 := by
  unfold armL
  rw [tot_set _ _ _ (by rw [stopL_length]; omega)]
  have := tot_stop x ss
  omega
theorem armL_spots {x y : Int} {ss : List TList} (hl : ss.length = 8) (hy : tokB y = true) (h : ∀ j t, t ∈ ss.getD j [] → tokB t.2 = true ∧ spokeV t.2 = (j : Int)) : ∀ j t, t ∈ (armL x y ss).getD j [] → tokB t.2 = true ∧ spokeV t.2 = (j : Int) := by
  intro j t ht
  unfold armL at ht
  by_cases e : j = (y % 8).toNat
  · subst e
    rw [Timers.getD_set_eq _ _ _ (by rw [stopL_length]; omega)] at ht
    rcases List.mem_append.1 ht with ht | ht
    · exact stop_spots h _ t ht
    · simp at ht
      subst ht
      exact ⟨hy, by rw [spoke_t hy]; omega⟩
  · rw [Timers.getD_set_ne _ _ _ _ e] at ht
    exact stop_spots h j t ht
theorem flat_set_perm (l : List TList) (k : Nat) (p : Int × Int) (h : k < l.length) : (l.set k (l.getD k [] ++ [p])).flatten.Perm (p :: l.flatten) := by
  have e1 : l.set k (l.getD k [] ++ [p]) = l.take k ++ (l.getD k [] ++ [p]) :: l.drop (k + 1) := by rw [List.set_eq_take_append_cons_drop, if_pos h]
  have e2 : l.flatten = (l.take k).flatten ++ (l.getD k [] ++ (l.drop (k + 1)).flatten) := by
    conv => lhs; rw [← List.take_append_drop k l, List.drop_eq_getElem_cons h]
    rw [List.flatten_append, List.flatten_cons, getD_lt l k [] h]
  have hm := List.perm_middle (l₁ := (l.take k).flatten ++ l.getD k []) (a := p) (l₂ := (l.drop (k + 1)).flatten)
  rw [e1, e2, List.flatten_append, List.flatten_cons]
  rw [List.append_assoc, List.append_assoc] at hm
  rw [List.append_assoc]
  exact hm
theorem off_sublist (x : Int) (ts : TList) : (offL x ts).Sublist ts := List.filter_sublist
theorem stop_sublist (x : Int) (ss : List TList) : (stopL x ss).flatten.Sublist ss.flatten := by
  induction ss with
  | nil => exact List.Sublist.refl _
  | cons s ss ih => exact (off_sublist x s).append ih
theorem stop_no (x : Int) (ss : List TList) : x ∉ (stopL x ss).flatten.map Prod.fst := by
  intro h
  obtain ⟨p, hp, hx⟩ := List.mem_map.1 h
  obtain ⟨l, hl, hp⟩ := List.mem_flatten.1 hp
  obtain ⟨s, hs, rfl⟩ := List.mem_map.1 hl
  exact (off_sub hp).2 hx
theorem arm_good {now x y : Int} {ss : List TList} (h : Good now ss) (hy : tokB y = true) (hx : inB x 1 1000000000 = true) (hn : now < y) (hf : tot (armL x y ss) ≤ 80) : Good now (armL x y ss) := by
  refine ⟨h.tick, (armL_len x y ss).trans h.len, fun j t ht => ?_, hf, ?_⟩
  · have h5 := armL_spots h.len hy h.spots j t ht
    refine ⟨h5.2, ?_⟩
    have h6 : t = (x, y) ∨ t ∈ ss.getD j [] := by
      unfold armL at ht
      by_cases e : j = (y % 8).toNat
      · subst e
        rw [Timers.getD_set_eq _ _ _ (by rw [stopL_length, h.len]; omega)] at ht
        rcases List.mem_append.1 ht with ht | ht
        · rw [stopL_at] at ht
          exact .inr (off_sub ht).1
        · exact .inl (by simpa using ht)
      · rw [Timers.getD_set_ne _ _ _ _ e, stopL_at] at ht
        exact .inr (off_sub ht).1
    rcases h6 with rfl | h6
    · exact ⟨hn, hx, hy⟩
    · exact ⟨(h.at_ j t h6).2.1, (h.at_ j t h6).2.2.1, (h.at_ j t h6).2.2.2⟩
  · have hp := (flat_set_perm (stopL x ss) (y % 8).toNat (x, y) (by rw [stopL_length, h.len]; omega)).map Prod.fst
    unfold armL
    rw [hp.nodup_iff, List.map_cons, List.nodup_cons]
    exact ⟨stop_no x ss, h.once.sublist ((stop_sublist x ss).map _)⟩
/-- What the program looks at is what the model looks at. -/
theorem arm_eq {now x y : Int} {ss : List TList} (hw : wheelB now ss = true) (hy : tokB y = true) : armB now ss x y = (inB x 1 1000000000 && decide (now < y) && decide (tot (armL x y ss) ≤ 80)) := by
  have h := wheelB_good hw
  unfold armB
  rw [hw, hy, Bool.true_and, Bool.true_and]
  cases hb : wheelB now (armL x y ss)
  · symm
    rw [Bool.eq_false_iff]
    intro hc
    simp only [Bool.and_eq_true, decide_eq_true_eq] at hc
    rw [good_wheelB (arm_good h hy hc.1.1 hc.1.2 hc.2)] at hb
    cases hb
  · have hg := wheelB_good hb
    have hm : (x, y) ∈ (armL x y ss).getD (y % 8).toNat [] := by
      unfold armL
      rw [Timers.getD_set_eq _ _ _ (by rw [stopL_length, h.len]; omega)]
      simp
    have h5 := hg.at_ _ _ hm
    have h6 : decide (now < y) = true := decide_eq_true h5.2.1
    have h7 : inB x 1 1000000000 = true := h5.2.2.1
    rw [h6, h7, decide_eq_true hg.few]
    rfl
theorem armS_tot {now x y : Int} {ss : List TList} (h : tot ss ≤ 1048576) : tot (armS now ss x y) ≤ 1048576 := by
  unfold armS
  split
  · rename_i hb
    unfold armB at hb
    simp only [Bool.and_eq_true] at hb
    have := (wheelB_good hb.2).few
    omega
  · exact h
/-- Of a wheel that is as it should be, StopTimer's lists are the lists without that Id. -/
theorem stopS_good {now x : Int} {ss : List TList} (hw : wheelB now ss = true) : stopS now ss x = stopL x ss := by
  unfold stopS stopB
  rw [hw, Bool.true_and]
  cases hv : (atV ss.flatten x == -1)
  · rfl
  · rcases atV_cases ss x (wheelB_good hw).spots with ⟨_, h⟩ | ⟨k, p, h1, _, _, h2, _⟩
    · exact (stopL_none h).symm
    · have := tok_t h2
      rw [h1] at hv
      have hv' : p.2 = -1 := by simpa using hv
      omega
end Go.Proofs.Ytpghccbknlokcaa.WheelOk
