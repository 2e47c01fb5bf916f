/-
  WHAT THE PROGRAM COUNTS over this seat's translation: the pods that live of a revision, or of the others, and those of them that are available.
-/
import Derived.Test.YtcedgjglpjgehaaEachP
import Derived.Test.YtcedgjglpjgehaaCntI
import Derived.Test.YtcedgjglpjgehaaHi
import Derived.Laws.Rows
namespace Go.Proofs.Ytcedgjglpjgehaa.CountI
open Go.ChangeShapes Go.WideShapes Go.ChangeAt Go.RowKit Go.Shelf
open Go.Proofs.Ytcedgjglpjgehaa.LK Go.Proofs.Ytcedgjglpjgehaa.Pods Go.Proofs.Ytcedgjglpjgehaa.Sp Go.Proofs.Ytcedgjglpjgehaa.Hl Go.Proofs.Ytcedgjglpjgehaa.EachP
set_option linter.unusedVariables false
set_option linter.unusedSimpArgs false
attribute [local go_sem] Oper.semAt_some
def cntF (f : Pd → Bool) (ps : PList) : Nat := (ps.filter f).length
theorem cnt_snoc (f : Pd → Bool) (ps : PList) (p : Pd) : cntF f (ps ++ [p]) = cntF f ps + if f p then 1 else 0 := by
  unfold cntF
  rw [List.filter_append, List.length_append]
  by_cases h : f p = true
  · rw [if_pos h, List.filter_cons_of_pos h]; rfl
  · rw [if_neg h, List.filter_cons_of_neg h]; rfl
theorem cnt_le (f : Pd → Bool) (ps : PList) : cntF f ps ≤ ps.length := List.length_filter_le _ _
/-- Whether a pod is of the revision, or of the others. -/
def selB (oth : Bool) (rev : Int) (p : Pd) : Bool := !((p.2.1 == rev) == oth)
def liveB (oth : Bool) (rev : Int) (p : Pd) : Bool := selB oth rev p && !(p.2.2.1 == 4)
def goodB (x0 x1 x2 x3 x4 x5 x6 x7 x8 x9 x10 : Int) (oth : Bool) (rev now : Int) (p : Pd) : Bool := liveB oth rev p && availB x0 x1 x2 x3 x4 x5 x6 x7 x8 x9 x10 p.2.2.1 p.2.2.2.2 now
theorem own_box {A B : World} {row : Option Nat} {b : Nat} {cs : Array Value} {t : TypeId} (h : A.heap[b]? = some (.cells cs t (0, 0))) (hg : A.grownBy B row) (hr : ∀ r, row = some r → ∃ o : Obj, A.heap[r]? = some o ∧ o.isCells = false) : B.heap[b]? = some (.cells cs t (0, 0)) :=
  (grownBy_keeps_cells hg hr h rfl).trans h
theorem keeps_of {W W' : World} {Bp : Nat} {cs : Array Value} {t : TypeId} (hp : W.heap[Bp]? = some (.cells cs t (0, 0))) (h : Turned (fun k => k = Bp) W W') : KeepsOthers W W' :=
  ⟨h.size, fun k o hk hc => (h.block k (Array.getElem?_eq_some_iff.1 hk).1 (fun e => by subst e; rw [hp] at hk; cases hk; simp [Obj.isCells] at hc)).trans hk⟩
theorem set2B {W : World} {b : Nat} {t : TypeId} {z0 z1 : Value} (h : W.heap[b]? = some (.cells #[z0, z1] t (0, 0))) (u0 u1 : Value) : ((W.setCell ⟨b, 0, none⟩ u0).setCell ⟨b, 1, none⟩ u1).heap[b]? = some (.cells #[u0, u1] t (0, 0)) := by
  have h0 := box_set (i := 0) h u0
  have h1 := box_set (i := 1) h0 u1
  rw [h1]; simp
theorem set2T {S : Nat → Prop} {W : World} {b : Nat} (h : S b) (u0 u1 : Value) : Turned S W ((W.setCell ⟨b, 0, none⟩ u0).setCell ⟨b, 1, none⟩ u1) := (Turned.set W ⟨b, 0, none⟩ u0 h).trans (Turned.set _ ⟨b, 1, none⟩ u1 h)
theorem set0B {W : World} {b : Nat} {t : TypeId} {z0 z1 : Value} (h : W.heap[b]? = some (.cells #[z0, z1] t (0, 0))) (u0 : Value) : (W.setCell ⟨b, 0, none⟩ u0).heap[b]? = some (.cells #[u0, z1] t (0, 0)) := by
  have h0 := box_set (i := 0) h u0
  rw [h0]; simp
theorem set1B {W : World} {b : Nat} {t : TypeId} {z0 z1 : Value} (h : W.heap[b]? = some (.cells #[z0, z1] t (0, 0))) (u1 : Value) : (W.setCell ⟨b, 1, none⟩ u1).heap[b]? = some (.cells #[z0, u1] t (0, 0)) := by
  have h0 := box_set (i := 1) h u1
  rw [h0]; simp
end Go.Proofs.Ytcedgjglpjgehaa.CountI
