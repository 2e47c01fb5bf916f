/-
  MarkGoing, the model's and the program's, over this seat's translation.
-/
import Derived.Test.YtpghccbknlokcaaSpecAdd
namespace Go.Proofs.Ytpghccbknlokcaa.Crew
open Go.ChangeShapes Go.WideShapes Go.ChangeAt Go.RowKit Go.Maps Go.Sort Go.Shelf
open Go.Proofs.Ytpghccbknlokcaa.LK Go.Proofs.Ytpghccbknlokcaa.Pods Go.Proofs.Ytpghccbknlokcaa.FleetV Go.Proofs.Ytpghccbknlokcaa.Has Go.Proofs.Ytpghccbknlokcaa.Ints
open Go.Proofs.Ytpghccbknlokcaa.Tick (inB in_t in_f tokB tok_t tok_f tickOk_any specTickOk_any)
open Go.Proofs.Ytpghccbknlokcaa.FleetSpec (atP at_cases at_any copy_any specFleetOk_any)
set_option linter.unusedVariables false

/-- The pod as MarkGoing leaves it. -/
def goP (d : PList × Int) (id now : Int) : Option Pd := if FGood d.1 d.2 ∧ tokB now = true then (match fndP d.1 id with | some p => if p.2.2.1 = 4 then none else some (p.1, p.2.1, 4, p.2.2.2.1, now) | none => none) else none
def goD (d : PList × Int) (id now : Int) : PList × Int := match goP d id now with | some p => (setP p d.1, d.2) | none => d
def goB (d : PList × Int) (id now : Int) : Bool := (goP d id now).isSome
theorem go_no {d : PList × Int} {id now : Int} (h : goP d id now = none) : goD d id now = d ∧ goB d id now = false := by simp [goD, goB, h]
theorem go_yes {d : PList × Int} {id now : Int} {p : Pd} (h : goP d id now = some p) : goD d id now = (setP p d.1, d.2) ∧ goB d id now = true := by simp [goD, goB, h]
theorem few_go {d : PList × Int} (id now : Int) (h : FleetTy.fty.Few d) : FleetTy.fty.Few (goD d id now) := by
  cases e : goP d id now with
  | none => rw [(go_no e).1]; exact h
  | some p => rw [(go_yes e).1]; show (setP p d.1).length ≤ 1048576; rw [len_setP]; exact h
theorem set_setP {ps : PList} {p : Pd} {j : Nat} (h : Asc ps) (hj : j < ps.length) (he : (ps.getD j z5).1 = p.1) : ps.set j p = setP p ps := by
  have hg : ps.getD j z5 = ps[j] := by simp [List.getD, hj]
  rw [hg] at he
  apply List.ext_getElem
  · simp [setP]
  · intro i h1 h2
    have hi : i < ps.length := by simpa using h1
    simp only [setP, List.getElem_map]
    by_cases hij : j = i
    · subst hij
      simp [he]
    · rw [List.getElem_set_ne hij]
      have hne : ps[i].1 ≠ p.1 := by
        rw [← he]
        rcases Nat.lt_or_gt_of_ne hij with h3 | h3
        · have := List.pairwise_iff_getElem.1 h j i hj hi h3; omega
        · have := List.pairwise_iff_getElem.1 h i j hi hj h3; omega
      rw [if_neg hne]
theorem flat_set2 (ps : PList) (j : Nat) (a b : Int) (hj : j < ps.length) : ((flat ps).set (j * 5 + 2) (.int .i64 a)).set (j * 5 + 4) (.int .i64 b) = flat (ps.set j ((ps.getD j z5).1, (ps.getD j z5).2.1, a, (ps.getD j z5).2.2.2.1, b)) := by
  induction ps generalizing j with
  | nil => simp at hj
  | cons x l ih =>
    cases j with
    | zero => simp [flat_cons, cells5]
    | succ j =>
      have e2 : (j + 1) * 5 + 2 = j * 5 + 2 + 1 + 1 + 1 + 1 + 1 := by omega
      have e4 : (j + 1) * 5 + 4 = j * 5 + 4 + 1 + 1 + 1 + 1 + 1 := by omega
      have e : (x :: l).getD (j + 1) z5 = l.getD j z5 := by simp [List.getD]
      rw [e2, e4, e, List.set_cons_succ, flat_cons, flat_cons, ← ih j (by simpa using hj)]
      simp only [cells5, List.cons_append, List.nil_append, List.set_cons_succ]
theorem own_set2 {w : World} {base g n cap j : Nat} {ps : PList} (h : OwnP w base (some ⟨g, 0, none⟩) n cap ps) (hj : j < n) (a b : Int) :
    OwnP ((w.setCell ⟨g, j * 5 + 2, none⟩ (.int .i64 a)).setCell ⟨g, j * 5 + 4, none⟩ (.int .i64 b)) base (some ⟨g, 0, none⟩) n cap (ps.set j ((ps.getD j z5).1, (ps.getD j z5).2.1, a, (ps.getD j z5).2.2.2.1, b)) := by
  refine ⟨by simpa using h.1, ?_⟩
  rw [← flat_set2 ps j a b (by rw [h.1]; exact hj)]
  exact ((h.2.stored (j * 5 + 2) (.int .i64 a)).1.stored (j * 5 + 4) (.int .i64 b)).1

end Go.Proofs.Ytpghccbknlokcaa.Crew
