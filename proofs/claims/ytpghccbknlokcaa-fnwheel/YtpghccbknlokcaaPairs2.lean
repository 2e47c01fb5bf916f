/-
  WHAT A TURN TAKES OFF THE ARMINGS: those that are due, and no other; taken off one by one it is the same.
-/
import Derived.Test.YtpghccbknlokcaaPairs
namespace Go.Proofs.Ytpghccbknlokcaa.WheelOk
open Go.ChangeShapes Go.WideShapes Go.ChangeAt Go.RowKit Go.Shelf
open Go.Proofs.Ytpghccbknlokcaa.Timers Go.Proofs.Ytpghccbknlokcaa.Ring Go.Proofs.Ytpghccbknlokcaa.Has
set_option linter.unusedVariables false
set_option linter.unusedSimpArgs false

theorem leftP_mem (now : Int) (ps : TList) (i : Nat) : leftP now ps i = ps.filter fun p => !(decide (now < p.2) && decide (p.2 ≤ now + i)) := by
  induction i with
  | zero =>
    rw [leftP, List.filter_eq_self.2]
    intro p _
    by_cases h : now < p.2
    · have : ¬ p.2 ≤ now := by omega
      simp [this]
    · simp [h]
  | succ i ih =>
    rw [leftP, ih]
    unfold stayL
    rw [List.filter_filter]
    congr 1
    funext p
    rw [Bool.eq_iff_iff]
    simp only [Bool.and_eq_true, Bool.not_eq_true', Bool.and_eq_false_iff, decide_eq_false_iff_not, beq_eq_false_iff_ne, ne_eq]
    omega
theorem toldL_mem (t : Int) (ps : TList) (x : Int) : x ∈ toldL t ps ↔ ∃ p ∈ ps, p.1 = x ∧ p.2 = t := by
  unfold toldL
  simp only [List.mem_map, List.mem_filter, beq_iff_eq]
  constructor
  · rintro ⟨p, ⟨h1, h2⟩, h3⟩
    exact ⟨p, h1, h3, h2⟩
  · rintro ⟨p, h1, h2, h3⟩
    exact ⟨p, ⟨h1, h3⟩, h2⟩
theorem toldP_mem (now : Int) (ps : TList) (i : Nat) (x : Int) : x ∈ toldP now ps i ↔ ∃ p ∈ ps, p.1 = x ∧ now < p.2 ∧ p.2 ≤ now + i := by
  induction i with
  | zero =>
    constructor
    · intro h
      simp [toldP] at h
    · rintro ⟨p, _, _, h1, h2⟩
      exact absurd h2 (by omega)
  | succ i ih =>
    rw [toldP, List.mem_append, ih, told_left now (now + i + 1) ps i (by omega), toldL_mem]
    constructor
    · rintro (⟨p, h1, h2, h3, h4⟩ | ⟨p, h1, h2, h3⟩)
      · exact ⟨p, h1, h2, h3, by omega⟩
      · exact ⟨p, h1, h2, by omega, by omega⟩
    · rintro ⟨p, h1, h2, h3, h4⟩
      by_cases h : p.2 = now + i + 1
      · exact .inr ⟨p, h1, h2, h⟩
      · exact .inl ⟨p, h1, h2, h3, by omega⟩
theorem fold_off (zs : List Int) : ∀ ps : TList, zs.foldl (fun q x => offL x q) ps = ps.filter fun p => !decide (p.1 ∈ zs) := by
  induction zs with
  | nil => intro ps; exact (List.filter_eq_self.2 (fun p _ => by simp)).symm
  | cons z zs ih =>
    intro ps
    rw [List.foldl_cons, ih]
    unfold offL
    rw [List.filter_filter]
    congr 1
    funext p
    by_cases h : p.1 = z
    · simp [h]
    · by_cases h2 : p.1 ∈ zs <;> simp [h, h2]
theorem same_of_id {ps : TList} (h : (ps.map Prod.fst).Nodup) {p q : Int × Int} (hp : p ∈ ps) (hq : q ∈ ps) (e : p.1 = q.1) : p = q := by
  induction ps with
  | nil => cases hp
  | cons a ps ih =>
    rw [List.map_cons, List.nodup_cons] at h
    rcases List.mem_cons.1 hp with e1 | h1
    · rcases List.mem_cons.1 hq with e2 | h2
      · rw [e1, e2]
      · exact absurd (List.mem_map.2 ⟨q, h2, by rw [← e, e1]⟩) h.1
    · rcases List.mem_cons.1 hq with e2 | h2
      · exact absurd (List.mem_map.2 ⟨p, h1, by rw [e, e2]⟩) h.1
      · exact ih h.2 h1 h2
/-- Taking the told ones off, one by one, leaves what the turn leaves. -/
theorem fold_told {now : Int} {ps : TList} (h : (ps.map Prod.fst).Nodup) (i : Nat) : (toldP now ps i).foldl (fun q x => offL x q) ps = leftP now ps i := by
  rw [fold_off, leftP_mem]
  refine List.filter_congr fun p hp => ?_
  congr 1
  by_cases hd : now < p.2 ∧ p.2 ≤ now + i
  · have h1 : p.1 ∈ toldP now ps i := (toldP_mem now ps i p.1).2 ⟨p, hp, rfl, hd.1, hd.2⟩
    simp [h1, hd.1, hd.2]
  · have h1 : p.1 ∉ toldP now ps i := by
      intro hm
      obtain ⟨q, hq, e, h2, h3⟩ := (toldP_mem now ps i p.1).1 hm
      rw [same_of_id h hq hp e] at h2 h3
      exact hd ⟨h2, h3⟩
    have h2 : (decide (now < p.2) && decide (p.2 ≤ now + i)) = false := by
      rw [Bool.eq_false_iff]
      intro hc
      simp only [Bool.and_eq_true, decide_eq_true_eq] at hc
      exact hd hc
    rw [h2]
    simp [h1]
end Go.Proofs.Ytpghccbknlokcaa.WheelOk
