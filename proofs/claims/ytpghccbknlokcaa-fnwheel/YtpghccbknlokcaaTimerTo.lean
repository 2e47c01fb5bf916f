/-
  CONTRACTS of the laws' toTimerSS and toWheel over this seat's translation: a copy in memory of its own; nothing that was there has turned. And of szTimerS, szTimerSS, szWheel: 0 or more only where the slots and their timers are few.
-/
import Derived.Test.YtpghccbknlokcaaTimerOwn
import Derived.Test.YtpghccbknlokcaaTimerLaws
namespace Go.Proofs.Ytpghccbknlokcaa.Timers
open Go.ChangeShapes Go.WideShapes Go.ChangeAt Go.RowKit
set_option linter.unusedVariables false

/-- What a copy of slots leaves. -/
def CopiedS (w : World) (ss : List TList) (e : Ending) (w' : World) : Prop :=
  ∃ A c, e = .returned (.slice A ss.length c) ∧ OwnS w' w.heap.size w'.heap.size A ss.length c ss ∧ Below w.heap.size w w'

def rest (ss : List TList) (k : Nat) : List TList := ss.take k ++ List.replicate (ss.length - k) []
theorem rest_len (ss : List TList) (k : Nat) (h : k ≤ ss.length) : (rest ss k).length = ss.length := by simp [rest]; omega
theorem rest_zero (ss : List TList) : rest ss 0 = List.replicate ss.length [] := by simp [rest]
theorem rest_all (ss : List TList) : rest ss ss.length = ss := by simp [rest]
theorem rest_set (ss : List TList) (k : Nat) (h : k < ss.length) : (rest ss k).set k (ss.getD k []) = rest ss (k + 1) := by
  unfold rest
  rw [List.set_append_right _ _ (by simp; omega)]
  have e : k - (ss.take k).length = 0 := by simp; omega
  have e2 : ss.length - k = (ss.length - (k + 1)) + 1 := by omega
  have e3 : ss.getD k [] = ss[k] := by simp [List.getD, h]
  rw [e, e2, List.replicate_succ, List.set_cons_zero, List.take_succ_eq_append_getElem h, e3, List.append_assoc]
  rfl
/-- Slots that were just made: all empty. -/
theorem OwnS.made {w : World} {lo g n c : Nat} (h : w.ownsRow lo 96 1 (.slice (some ⟨g, 0, none⟩) n c) n (List.replicate n (.slice none 0 0))) (hg : g < w.heap.size) : OwnS w lo w.heap.size (some ⟨g, 0, none⟩) n c (List.replicate n []) := by
  refine ⟨by simp, fun hn => ⟨g, _, rfl, hg, h, fun j hj => ?_, fun i j u v _ hu _ => ?_⟩⟩
  · rw [getD_rep]
    exact ⟨none, 0, by simp [hj], OwnT.nil _ _ _⟩
  · rw [List.getElem?_replicate] at hu
    split at hu
    · injection hu with hu
      subst hu
      exact .inl rfl
    · cases hu

end Go.Proofs.Ytpghccbknlokcaa.Timers
