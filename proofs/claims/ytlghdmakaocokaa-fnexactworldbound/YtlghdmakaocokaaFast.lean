/-
  The rest of a region that only moves and picks, run by computation: every operation under a guard that is off is passed over, the others must give a value.
-/
import Derived.Test.YtlghdmakaocokaaLawKit
namespace Go.Proofs.Ytlghdmakaocokaa.Fast
open Go.ChangeShapes Go.WideShapes Go.ChangeAt Go.RowKit
set_option linter.unusedVariables false
def fast (P : Program) (ops : Array Oper) : List Oper → Act → World → Option (Act × World)
  | [], a, w => some (a, w)
  | o :: rest, a, w =>
    if Region.wanted o (yielded ops a.tmps) then
      match (execOp a.eval o).run P w with
      | .ok (.value v) w' => fast P ops rest (a.put o.dst v) w'
      | _ => none
    else fast P ops rest (a.put o.dst undef) w
theorem wpList_of_fast {P : Program} {ops : Array Oper} {Q : Exit → Act → World → Prop} : ∀ (rest : List Oper) (a : Act) (w : World) (r : Act × World), fast P ops rest a w = some r → Q .normal r.1 r.2 → wpList P ops Q rest a w := by
  intro rest
  induction rest with
  | nil => intro a w r h hQ; simp only [fast, Option.some.injEq] at h; subst h; exact hQ
  | cons o rest ih =>
    intro a w r h hQ
    unfold fast at h
    unfold wpList
    by_cases hw : Region.wanted o (yielded ops a.tmps) = true
    · rw [if_pos hw] at h ⊢
      refine .inl ?_
      unfold Oper.wp
      revert h
      cases hr : (execOp a.eval o).run P w with
      | ok x w' =>
        cases x with
        | value v => intro h; rw [Oper.upon_value]; exact ih _ _ _ h hQ
        | _ => intro h; exact absurd h (by simp)
      | _ => intro h; exact absurd h (by simp)
    · rw [if_neg hw] at h ⊢
      exact ih _ _ _ h hQ
theorem wpList_fast {P : Program} {ops : Array Oper} {Q : Exit → Act → World → Prop} {rest : List Oper} {a : Act} {w : World} (k : Nat) (v : Value)
    (h : (fast P ops rest a w).map (fun r => (r.1.tmps[k]?, r.1.defers, r.2)) = some (some v, [], w)) (hQ : ∀ a' : Act, a'.tmps[k]? = some v → a'.defers = [] → Q .normal a' w) : wpList P ops Q rest a w := by
  cases hf : fast P ops rest a w with
  | none => rw [hf] at h; cases h
  | some r =>
    rw [hf] at h
    simp only [Option.map_some, Option.some.injEq, Prod.mk.injEq] at h
    obtain ⟨h1, h2, h3⟩ := h
    refine wpList_of_fast rest a w r hf ?_
    rw [h3]
    exact hQ r.1 h1 h2
end Go.Proofs.Ytlghdmakaocokaa.Fast
