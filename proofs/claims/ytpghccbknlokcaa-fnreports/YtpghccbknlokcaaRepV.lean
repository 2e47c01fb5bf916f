/-
  WHAT FnReports COMES TO, on lists: a report that was taken is stale or unknown a second time, who goes stays so, a fleet stays good; counts by revision and state add up.
-/
import Derived.Test.YtpghccbknlokcaaSpecTake
import Derived.Test.YtpghccbknlokcaaFleetFind
import Derived.Test.YtpghccbknlokcaaFleetCount
import Derived.Test.YtpghccbknlokcaaRevV
namespace Go.Proofs.Ytpghccbknlokcaa.RepV
open Go.Proofs.Ytpghccbknlokcaa.Pods Go.Proofs.Ytpghccbknlokcaa.FleetV Go.Proofs.Ytpghccbknlokcaa.Crew Go.Proofs.Ytpghccbknlokcaa.RevV
open Go.Proofs.Ytpghccbknlokcaa.Tick (inB in_t tokB tok_t)
set_option linter.unusedVariables false

theorem good_off {ps : PList} {nx : Int} (k : Int) (h : FGood ps nx) : FGood (offP k ps) nx :=
  ⟨Nat.le_trans (len_off k ps) h.1, h.2.1, fun p hp => h.2.2.1 p (mem_off.1 hp).1, asc_off h.2.2.2⟩
theorem good_set {ps : PList} {nx : Int} {p : Pd} (h : FGood ps nx) (hp : PodOk p) (hn : p.1 < nx) : FGood (setP p ps) nx := by
  refine ⟨by rw [len_setP]; exact h.1, h.2.1, fun q hq => ?_, asc_setP h.2.2.2⟩
  rcases mem_setP hq with rfl | hq
  · exact ⟨hp, hn⟩
  · exact h.2.2.1 q hq
theorem takeO_t {d : PList × Int} {rp gen st now : Int} (h : takeO d rp gen st now = true) : FGood d.1 d.2 ∧ (1 ≤ gen ∧ gen ≤ 1000000000) ∧ (1 ≤ st ∧ st ≤ 4) ∧ 0 ≤ now ∧ now ≤ 1000000000 := by
  simp only [takeO, Bool.and_eq_true, decide_eq_true_eq] at h
  have h1 := in_t h.1.2.1
  have h2 := in_t h.1.2.2
  have h3 := tok_t h.2
  exact ⟨h.1.1, h1, h2, h3.1, h3.2⟩
theorem takeO_of {d : PList × Int} {rp gen st now : Int} (d' : PList × Int) (h : takeO d rp gen st now = true) (hg : FGood d'.1 d'.2) : takeO d' rp gen st now = true := by
  simp only [takeO, Bool.and_eq_true, decide_eq_true_eq] at h ⊢
  exact ⟨⟨hg, h.1.2⟩, h.2⟩
theorem rep_ok {p : Pd} {gen st now : Int} (h : PodOk p) (hg : 1 ≤ gen ∧ gen ≤ 1000000000) (hs : 1 ≤ st ∧ st ≤ 4) (hn : 0 ≤ now ∧ now ≤ 1000000000) : PodOk (repP p gen st now) := by
  unfold repP
  split
  · exact ⟨h.1, h.2.1, (show 0 ≤ st ∧ st ≤ 4 by omega), (show 0 ≤ gen ∧ gen ≤ 1000000000 by omega), hn.1, hn.2⟩
  · exact ⟨h.1, h.2.1, h.2.2.1, (show 0 ≤ gen ∧ gen ≤ 1000000000 by omega), h.2.2.2.2⟩
theorem rep_gen (p : Pd) (gen st now : Int) : (repP p gen st now).2.2.2.1 = gen := by unfold repP; split <;> rfl
theorem rep_going {p : Pd} {gen st now : Int} (h : p.2.2.1 = 4) : (repP p gen st now).2.2.1 = 4 := by
  unfold repP
  rw [if_neg (by intro hc; exact hc.1 h)]
  exact h
theorem fnd_setP {ps : PList} {p q : Pd} {k : Int} (h : fndP ps k = some p) (hq : q.1 = k) : fndP (setP q ps) k = some q := by
  unfold fndP setP
  induction ps with
  | nil => simp [fndP] at h
  | cons a ps ih =>
    rw [List.map_cons]
    by_cases ha : a.1 = k
    · have e : a.1 = q.1 := by rw [ha, hq]
      rw [if_pos e, List.find?_cons_of_pos (by simp [hq])]
    · have e : ¬ a.1 = q.1 := by rw [hq]; exact ha
      rw [if_neg e, List.find?_cons_of_neg (by simp [ha])]
      unfold fndP at h
      rw [List.find?_cons_of_neg (by simp [ha])] at h
      exact ih h
theorem fnd_off (ps : PList) (k : Int) : fndP (offP k ps) k = none := by
  unfold fndP
  rw [List.find?_eq_none]
  intro p hp
  simpa using (mem_off.1 hp).2
/-- A fleet stays good where the report is one. -/
theorem good_take {d : PList × Int} {rp gen st now : Int} (h : takeO d rp gen st now = true) : FGood (takeD d rp gen st now).1 (takeD d rp gen st now).2 := by
  obtain ⟨hg, h1, h2, h3⟩ := takeO_t h
  cases hf : fndP d.1 rp with
  | none => rw [(take_unk h hf).1]; exact hg
  | some p =>
    by_cases hl : gen ≤ p.2.2.2.1
    · rw [(take_old h hf hl).1]; exact hg
    · by_cases hs : st = 4
      · rw [(take_gone h hf hl hs).1]; exact good_off rp hg
      · rw [(take_set h hf hl hs).1]
        have hp := hg.2.2.1 p (fnd_mem hf).1
        exact good_set hg (rep_ok hp.1 h1 h2 h3) (by rw [rep_id]; exact hp.2)
theorem take_val {d : PList × Int} {rp gen st now : Int} : takeV d rp gen st now = 0 ∨ takeV d rp gen st now = 1 ∨ takeV d rp gen st now = 2 ∨ takeV d rp gen st now = 3 := by
  unfold takeV
  split
  · split
    · simp
    · split <;> simp
  · simp
theorem bad_of {d : PList × Int} {rp gen st now : Int} (h : ¬ FGood (takeD d rp gen st now).1 (takeD d rp gen st now).2) : takeV d rp gen st now = 3 := by
  cases ho : takeO d rp gen st now
  · exact (take_bad ho).2
  · exact absurd (good_take ho) h
/-- What stands behind a report that was taken. -/
theorem taken {d : PList × Int} {rp gen st now : Int} (h : takeV d rp gen st now = 0) :
    (st = 4 → takeV (takeD d rp gen st now) rp gen st now = 2 ∧ findB (takeD d rp gen st now) rp = false) ∧ (st ≠ 4 → takeV (takeD d rp gen st now) rp gen st now = 1 ∧ findB (takeD d rp gen st now) rp = true) ∧
      ((findP d rp).2.2.1 = 4 → findB (takeD d rp gen st now) rp = true → (findP (takeD d rp gen st now) rp).2.2.1 = 4) := by
  cases ho : takeO d rp gen st now
  · rw [(take_bad ho).2] at h; omega
  · have hg := (takeO_t ho).1
    have hgn := good_take ho
    cases hf : fndP d.1 rp with
    | none => rw [(take_unk ho hf).2] at h; omega
    | some p =>
      by_cases hl : gen ≤ p.2.2.2.1
      · rw [(take_old ho hf hl).2] at h; omega
      · by_cases hs : st = 4
        · have e := (take_gone ho hf hl hs).1
          rw [e] at hgn ⊢
          have hfo : findO (offP rp d.1, d.2) rp = none := by unfold findO; rw [if_pos hgn]; exact fnd_off _ _
          have ho2 := takeO_of (offP rp d.1, d.2) ho hgn
          refine ⟨fun _ => ⟨(take_unk ho2 (fnd_off _ _)).2, (find_no hfo).2⟩, fun hc => absurd hs hc, fun _ hb => ?_⟩
          rw [(find_no hfo).2] at hb; cases hb
        · have e := (take_set ho hf hl hs).1
          have hfs : fndP (setP (repP p gen st now) d.1) rp = some (repP p gen st now) := fnd_setP hf (by rw [rep_id]; exact (fnd_mem hf).2)
          rw [e] at hgn ⊢
          have hfo : findO (setP (repP p gen st now) d.1, d.2) rp = some (repP p gen st now) := by unfold findO; rw [if_pos hgn]; exact hfs
          have ho2 := takeO_of (setP (repP p gen st now) d.1, d.2) ho hgn
          have hold : findO d rp = some p := by unfold findO; rw [if_pos hg]; exact hf
          refine ⟨fun hc => absurd hc hs, fun _ => ⟨(take_old ho2 hfs (by rw [rep_gen]; exact Int.le_refl _)).2, (find_yes hfo).2⟩, fun h4 _ => ?_⟩
          rw [(find_yes hold).1] at h4
          rw [(find_yes hfo).1]
          exact rep_going h4

/-! the sums -/
def five (rev : Int) (ps : PList) (s : Nat) : Nat := ((List.range s).map fun (t : Nat) => cntV rev (t : Int) ps).sum
def sums (l : List Int) (ps : PList) : Nat := (l.map fun r => five r ps 5).sum
theorem five_succ (rev : Int) (ps : PList) (s : Nat) : five rev ps (s + 1) = five rev ps s + cntV rev (s : Int) ps := by simp [five, List.range_succ]
theorem sums_snoc (l : List Int) (r : Int) (ps : PList) : sums (l ++ [r]) ps = sums l ps + five r ps 5 := by simp [sums]
theorem cnt_le (rev st : Int) (ps : PList) : cntV rev st ps ≤ ps.length := List.length_filter_le _ _
theorem five_le (rev : Int) (ps : PList) (s : Nat) : five rev ps s ≤ s * ps.length := by
  induction s with
  | zero => simp [five]
  | succ s ih => rw [five_succ]; have := cnt_le rev (s : Int) ps; rw [Nat.succ_mul]; omega
theorem sums_le (l : List Int) (ps : PList) : sums l ps ≤ l.length * (5 * ps.length) := by
  induction l with
  | nil => simp [sums]
  | cons r l ih =>
    have h1 := five_le r ps 5
    have e : sums (r :: l) ps = five r ps 5 + sums l ps := by simp [sums]
    rw [e, List.length_cons, Nat.succ_mul]; omega
theorem cnt_cons (rev st : Int) (p : Pd) (ps : PList) : cntV rev st (p :: ps) = (if matB rev st p then 1 else 0) + cntV rev st ps := by
  unfold cntV
  by_cases h : matB rev st p = true
  · rw [if_pos h, List.filter_cons_of_pos h, List.length_cons]; omega
  · rw [if_neg h, List.filter_cons_of_neg h]; omega
theorem five_cons {rev : Int} {p : Pd} (ps : PList) (hr : 1 ≤ rev) (hp : PodOk p) : five rev (p :: ps) 5 = (if p.2.1 = rev then 1 else 0) + five rev ps 5 := by
  have h0 : rev ≠ 0 := by omega
  obtain ⟨s, hs, hs5⟩ : ∃ s : Nat, p.2.2.1 = (s : Int) ∧ s < 5 := ⟨p.2.2.1.toNat, by have := hp.2.2.1; omega, by have := hp.2.2.1; omega⟩
  have hm : ∀ t : Nat, matB rev (t : Int) p = (decide (p.2.1 = rev) && decide (s = t)) := by
    intro t
    unfold matB
    rw [hs]
    have e1 : (rev == 0) = false := by simpa using h0
    have e2 : ((t : Int) == -1) = false := by simp
    have e3 : (((s : Int)) == (t : Int)) = decide (s = t) := by rw [Bool.eq_iff_iff]; simp; omega
    have e4 : (p.2.1 == rev) = decide (p.2.1 = rev) := by rw [Bool.eq_iff_iff]; simp
    rw [e1, e2, e3, e4]
    simp
  simp only [five, List.range_succ, List.range_zero, List.nil_append, List.cons_append, List.map_cons, List.map_nil, List.sum_cons, List.sum_nil, cnt_cons, hm]
  by_cases hr2 : p.2.1 = rev
  · rcases (by omega : s = 0 ∨ s = 1 ∨ s = 2 ∨ s = 3 ∨ s = 4) with rfl | rfl | rfl | rfl | rfl <;> simp [hr2] <;> omega
  · simp [hr2]
theorem sums_cons {l : List Int} {p : Pd} (ps : PList) (hl : ∀ r ∈ l, 1 ≤ r) (hp : PodOk p) : sums l (p :: ps) = (l.filter fun r => decide (p.2.1 = r)).length + sums l ps := by
  induction l with
  | nil => simp [sums]
  | cons r l ih =>
    have h1 := ih (fun x hx => hl x (List.mem_cons_of_mem _ hx))
    have e : ∀ qs, sums (r :: l) qs = five r qs 5 + sums l qs := fun qs => by simp [sums]
    rw [e, e, five_cons ps (hl r (List.mem_cons_self ..)) hp, h1]
    by_cases hr : p.2.1 = r
    · rw [if_pos hr, List.filter_cons_of_pos (by simpa using hr), List.length_cons]; omega
    · rw [if_neg hr, List.filter_cons_of_neg (by simpa using hr)]; omega
theorem once {l : List Int} {x : Int} (h : AscI l) (hx : x ∈ l) : (l.filter fun r => decide (x = r)).length = 1 := by
  induction l with
  | nil => cases hx
  | cons r l ih =>
    have hp := List.pairwise_cons.1 h
    by_cases e : x = r
    · subst e
      rw [List.filter_cons_of_pos (by simp), List.length_cons]
      have : l.filter (fun r => decide (x = r)) = [] := by
        rw [List.filter_eq_nil_iff]
        intro y hy
        have := hp.1 y hy
        simp
        omega
      rw [this]; rfl
    · rw [List.filter_cons_of_neg (by simpa using e)]
      rcases List.mem_cons.1 hx with e2 | e2
      · exact absurd e2 e
      · exact ih hp.2 e2
theorem sums_all {l : List Int} (h : AscI l) (hl : ∀ r ∈ l, 1 ≤ r) : ∀ (ps : PList), (∀ p ∈ ps, PodOk p) → (∀ p ∈ ps, p.2.1 ∈ l) → sums l ps = ps.length := by
  intro ps
  induction ps with
  | nil =>
    intro _ _
    have h5 : ∀ r, five r [] 5 = 0 := fun r => by have := five_le r [] 5; simpa using this
    have := sums_le l []
    simpa using this
  | cons p ps ih =>
    intro h1 h2
    rw [sums_cons ps hl (h1 p (List.mem_cons_self ..)), once h (h2 p (List.mem_cons_self ..)), ih (fun q hq => h1 q (List.mem_cons_of_mem _ hq)) (fun q hq => h2 q (List.mem_cons_of_mem _ hq)), List.length_cons]
    omega
theorem sums_rev {ps : PList} {nx : Int} (h : FGood ps nx) : sums (revV ps) ps = ps.length :=
  sums_all (rev_asc ps) (fun r hr => by obtain ⟨p, hp, e⟩ := (rev_mem ps r).1 hr; have := (h.2.2.1 p hp).1.2.1.1; omega) ps (fun p hp => (h.2.2.1 p hp).1) (fun p hp => (rev_mem ps _).2 ⟨p, hp, rfl⟩)
theorem cnt_any (ps : PList) : cntV 0 (-1) ps = ps.length := by
  unfold cntV
  rw [List.filter_eq_self.2]
  intro p _
  simp [matB]
end Go.Proofs.Ytpghccbknlokcaa.RepV
