/-
  A STRUCT STORED AT ONCE into the variable in which it stands: the law of a walk's step, for whatever struct of fields of one cell each.
-/
import Derived.Test.YtlghdmakaocokaaLawKit
import Derived.Laws.Tables
namespace Go.Proofs.Ytlghdmakaocokaa.Put
open Go.ChangeShapes Go.WideShapes Go.ChangeAt Go.RowKit
open Go.Proofs.Ytlghdmakaocokaa.LK
set_option linter.unusedVariables false
theorem run_storeAt {P : Program} {w : World} {b : Nat} {t T : TypeId} {cur vs : Array Value} (hb : w.heap[b]? = some (.cells cur T (0, 0))) (hs : (sizeOf t).run P w = .ok vs.size w) (hc : cur.size = vs.size) (h1 : ∀ v ∈ vs.toList, v.oneCell' = true) :
    (Instr.storeAt t (.pointer (some ⟨b, 0, none⟩)) (.agg vs)).run P w = .ok () (w.setRow b vs) := by
  have h := run_storeCells_from (P := P) b T vs.toList 0 cur w hb (by simp [hc]) h1
  simp only [List.take_zero, List.nil_append, Array.toArray_toList] at h
  simp only [Instr.storeAt, storeVar, Value.cells]
  simp [go_sem, hs, Instr.sureAddr, h]
theorem wpList_put {P : Program} {ops : Array Oper} {Q : Exit → Act → World → Prop} {rest : List Oper} {o : Oper} {a : Act} {w : World} (hg : o.guard = none) (hd : o.dst = none) (t : TypeId) (x y : Operand) (hop : o.op = Op.store t x y) (b : Nat) (vs : Array Value)
    (hx : a.eval x = .pointer (some ⟨b, 0, none⟩)) (hy : a.eval y = .agg vs) (cur : Array Value) (T : TypeId) (hb : w.heap[b]? = some (.cells cur T (0, 0))) (hs : (sizeOf t).run P w = .ok vs.size w) (hc : cur.size = vs.size) (h1 : ∀ v ∈ vs.toList, v.oneCell' = true)
    (hK : wpList P ops Q rest a (w.setRow b vs)) : wpList P ops Q (o :: rest) a w := by
  refine wpList_plain hg fun K' hK' => ?_
  unfold Oper.wp
  have hr := run_storeAt (P := P) (t := t) hb hs hc h1
  have he : (execOp a.eval o).run P w = .ok .skip (w.setRow b vs) := by
    unfold execOp
    rw [hop]
    dsimp only
    rw [hx, hy]
    simp only [Sem.run_bind, hr, Result.andThen_ok]
    rfl
  rw [he, Oper.upon_skip, hd]
  exact hK' _ _ hK
theorem setRow_turned (w : World) (b : Nat) (vs : Array Value) : Turned (fun k => k = b) w (w.setRow b vs) :=
  ⟨rfl, rfl, rfl, by simp, fun k _ hk => setRow_other w b k vs hk⟩
theorem setRow_below {B : Nat} {w V : World} (h : Below B w V) (b : Nat) (vs : Array Value) (hb : B ≤ b) (hV : B ≤ V.heap.size) : Below B w (V.setRow b vs) :=
  Turned.low h (setRow_turned V b vs) (fun k hk => by omega) hV
theorem setRow_box {w : World} {b : Nat} {cur vs : Array Value} {T : TypeId} (h : w.heap[b]? = some (.cells cur T (0, 0))) : (w.setRow b vs).heap[b]? = some (.cells vs T (0, 0)) := setRow_heap w b cur vs T (0, 0) h
theorem setRow_far {w : World} {b k : Nat} {vs : Array Value} {ob : Obj} (h : w.heap[k]? = some ob) (hne : k ≠ b) : (w.setRow b vs).heap[k]? = some ob := (setRow_other w b k vs hne).trans h
end Go.Proofs.Ytlghdmakaocokaa.Put
