/-
  WHAT FOLLOWS of a wheel that is as it should be: each timer's tick and list; how many there are; no Id twice.
-/
import Derived.Test.YtpghccbknlokcaaWheelOk
namespace Go.Proofs.Ytpghccbknlokcaa.WheelOk
open Go.ChangeShapes Go.WideShapes Go.ChangeAt Go.RowKit
open Go.Proofs.Ytpghccbknlokcaa.Timers Go.Proofs.Ytpghccbknlokcaa.Has
open Go.Proofs.Ytpghccbknlokcaa.Tick (tokB tok_t tok_f inB in_t in_f)
open Go.Proofs.Ytpghccbknlokcaa.Spoke (spokeV spoke_t spoke_f spoke_bd)
set_option linter.unusedVariables false

theorem hasB_mem (zs : List Int) (x : Int) : hasB zs x = true ↔ x ∈ zs := by
  unfold hasB
  rw [List.any_eq_true]
  constructor
  · rintro ⟨y, hy, he⟩
    have : y = x := by simpa using he
    rw [← this]; exact hy
  · intro h
    exact ⟨x, h, by simp⟩

theorem tOk_out {now : Int} {k : Nat} {ids : List Int} {t : Int × Int} (h : tOkB now k ids t = true) : inB t.1 1 1000000000 = true ∧ now < t.2 ∧ spokeV t.2 = (k : Int) ∧ ids.length ≠ 80 ∧ t.1 ∉ ids := by
  simp only [tOkB, Bool.and_eq_true, decide_eq_true_eq, Bool.not_eq_true', beq_eq_false_iff_ne, ne_eq, beq_iff_eq] at h
  obtain ⟨⟨⟨⟨h1, h2⟩, h3⟩, h4⟩, h5⟩ := h
  refine ⟨h1, h2, h3, h4, fun hm => ?_⟩
  rw [(hasB_mem ids t.1).2 hm] at h5
  cases h5

/-- What is so of the lists ls that stand from list k on, ids having come before. -/
def Fine (now : Int) (k : Nat) (ids : List Int) (ls : List TList) : Prop :=
  (∀ j t, t ∈ ls.getD j [] → spokeV t.2 = ((k + j : Nat) : Int) ∧ now < t.2 ∧ inB t.1 1 1000000000 = true) ∧ ids.length + tot ls ≤ 80 ∧ (ids ++ ls.flatten.map Prod.fst).Nodup

theorem okS_fine (now : Int) (k : Nat) (ids : List Int) (ls : List TList) (h : okS now k ids ls = true) (hl : ids.length ≤ 80) (hd : ids.Nodup) : Fine now k ids ls := by
  induction k, ids, ls using okS.induct with
  | case1 k ids => exact ⟨fun j t ht => by simp at ht, by simpa [tot] using hl, by simpa using hd⟩
  | case2 k ids ls ih =>
    rw [okS_next] at h
    obtain ⟨h1, h2, h3⟩ := ih h hl hd
    refine ⟨fun j t ht => ?_, by simpa [tot_cons] using h2, by simpa using h3⟩
    cases j with
    | zero => simp at ht
    | succ j =>
      have := h1 j t (by simpa using ht)
      rw [show k + (j + 1) = k + 1 + j from by omega]
      exact this
  | case3 k ids t ts ls ih =>
    rw [okS_step, Bool.and_eq_true] at h
    obtain ⟨ht, hr⟩ := h
    obtain ⟨a1, a2, a3, a4, a5⟩ := tOk_out ht
    obtain ⟨h1, h2, h3⟩ := ih hr (by simp; omega) (by
      rw [List.nodup_append]
      exact ⟨hd, by simp, fun a ha b hb => by simp at hb; subst hb; exact fun e => a5 (e ▸ ha)⟩)
    refine ⟨fun j s hs => ?_, ?_, by simpa [List.append_assoc] using h3⟩
    · cases j with
      | zero =>
        rcases List.mem_cons.1 (by simpa using hs) with rfl | hm
        · exact ⟨a3, a2, a1⟩
        · exact h1 0 s (by simpa using hm)
      | succ j => exact h1 (j + 1) s (by simpa using hs)
    · simp only [tot_cons, List.length_append, List.length_cons, List.length_nil] at h2 ⊢
      omega

/-- All of it, of a whole wheel. -/
structure Good (now : Int) (ss : List TList) : Prop where
  tick : tokB now = true
  len : ss.length = 8
  at_ : ∀ j t, t ∈ ss.getD j [] → spokeV t.2 = (j : Int) ∧ now < t.2 ∧ inB t.1 1 1000000000 = true ∧ tokB t.2 = true
  few : tot ss ≤ 80
  once : (ss.flatten.map Prod.fst).Nodup

theorem wheelB_good {now : Int} {ss : List TList} (h : wheelB now ss = true) : Good now ss := by
  simp only [wheelB, Bool.and_eq_true, beq_iff_eq] at h
  obtain ⟨⟨h1, h2⟩, h3⟩ := h
  obtain ⟨f1, f2, f3⟩ := okS_fine now 0 [] ss h3 (by simp) (by simp)
  refine ⟨h1, h2, fun j t ht => ?_, by simpa using f2, by simpa using f3⟩
  obtain ⟨a1, a2, a3⟩ := f1 j t ht
  rw [Nat.zero_add] at a1
  refine ⟨a1, a2, a3, ?_⟩
  cases hb : tokB t.2
  · rw [spoke_f hb] at a1; omega
  · rfl
theorem Good.each {now : Int} {ss : List TList} (h : Good now ss) (j : Nat) : (ss.getD j []).length ≤ 80 := Nat.le_trans (tot_get ss j) h.few
end Go.Proofs.Ytpghccbknlokcaa.WheelOk
