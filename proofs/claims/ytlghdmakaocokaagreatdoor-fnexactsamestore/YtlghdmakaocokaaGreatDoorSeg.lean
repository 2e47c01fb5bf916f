/-
  A STRETCH OF ONE BOX, loaded and stored at once (structs that hold structs), with a guard or without.
-/
import Derived.Test.YtlghdmakaocokaaGreatDoorLawKit
import Derived.Deep.MidRow
import Derived.Laws.CopyRow
namespace Go.Proofs.YtlghdmakaocokaaGreatDoor.Seg
open Go.ChangeShapes Go.WideShapes Go.ChangeAt Go.RowKit
open Go.Proofs.YtlghdmakaocokaaGreatDoor.LK
set_option linter.unusedVariables false
section
variable {P : Program} {ops : Array Oper} {rest : List Oper} {o : Oper} {a : Act} {w : World} {Q : Exit → Act → World → Prop}

theorem wpList_wanted (hw : Region.wanted o (yielded ops a.tmps) = true) (h : ∀ K : Act → World → Prop, (∀ a w, wpList P ops Q rest a w → K a w) → o.wp P a w K Q) : wpList P ops Q (o :: rest) a w :=
  wpList_step fun K hK => by simp only [hw, if_true]; exact h K hK
theorem range_of {b off : Nat} {cs vs : List Value} {t : TypeId} {fr : Nat × Nat} (hb : w.heap[b]? = some (.cells cs.toArray t fr)) (hv : (cs.drop off).take vs.length = vs) : w.rangeAt b off vs := fun j v hj => by
  rw [cell_of_row w b (off + j) cs.toArray t fr hb]
  have hl : j < vs.length := (List.getElem?_eq_some_iff.1 hj).1
  have h2 : ((cs.drop off).take vs.length)[j]? = some v := by rw [hv]; exact hj
  rw [List.getElem?_take_of_lt hl, List.getElem?_drop] at h2
  simpa using h2
/-- A stretch is loaded. -/
theorem wpList_get (hgd : o.guard = none) (ty : TypeId) (x : Operand) (ho : o.op = .load ty x) (b off : Nat) (hx : a.eval x = .pointer (some ⟨b, off, none⟩)) {cs : List Value} {t : TypeId} {fr : Nat × Nat}
    (hb : w.heap[b]? = some (.cells cs.toArray t fr)) (vs : List Value) (hv : (cs.drop off).take vs.length = vs) {d : TypeDesc} (hu : P.underlying ty = some d) (hd : d.isRow = true) (hi : (P.info? ty).map (·.size) = some vs.length)
    (h : wpList P ops Q rest (a.put o.dst (.agg vs.toArray)) w) : wpList P ops Q (o :: rest) a w :=
  wpList_load_mid hgd ty x ho b off hx vs d (range_of hb hv) hu hd hi h
/-- .. where the guard says yes. -/
theorem wpList_getG (hw : Region.wanted o (yielded ops a.tmps) = true) (ty : TypeId) (x : Operand) (ho : o.op = .load ty x) (b off : Nat) (hx : a.eval x = .pointer (some ⟨b, off, none⟩)) {cs : List Value} {t : TypeId} {fr : Nat × Nat}
    (hb : w.heap[b]? = some (.cells cs.toArray t fr)) (vs : List Value) (hv : (cs.drop off).take vs.length = vs) {d : TypeDesc} (hu : P.underlying ty = some d) (hd : d.isRow = true) (hi : (P.info? ty).map (·.size) = some vs.length)
    (h : wpList P ops Q rest (a.put o.dst (.agg vs.toArray)) w) : wpList P ops Q (o :: rest) a w :=
  wpList_wanted hw fun _ hK => wp_load_mid ty x ho b off hx vs d (range_of hb hv) hu hd hi (hK _ _ h)
/-- A stretch is stored. -/
theorem run_putAt {b off : Nat} {t T : TypeId} {cur vs new : List Value} (hb : w.heap[b]? = some (.cells cur.toArray T (0, 0))) (hi : (P.info? t).map (·.size) = some vs.length) (hl : off + vs.length ≤ cur.length) (hn : cur.take off ++ vs ++ cur.drop (off + vs.length) = new) (h1 : ∀ v ∈ vs, v.oneCell' = true) :
    (Instr.storeAt t (.pointer (some ⟨b, off, none⟩)) (.agg vs.toArray)).run P w = .ok () (w.setRow b new.toArray) := by
  have h := run_storeCells_at (P := P) b off T vs 0 cur.toArray w hb (by simpa using hl) h1
  simp only [Nat.add_zero] at h
  rw [← hn]
  cases hq : P.info? t with
  | none => simp [hq] at hi
  | some i =>
    have hs : vs.length = i.size := by simp [hq] at hi; omega
    simp only [Instr.storeAt, Instr.sureAddr, Sem.run_bind, Sem.run_pure, Result.andThen_ok]
    simp [storeVar, sizeOf, typeInfo, hq, Value.cells, hs]
    rw [← hs]
    simpa [List.append_assoc] using h
theorem wpList_put (hgd : o.guard = none) (hd : o.dst = none) (t : TypeId) (x y : Operand) (hop : o.op = Op.store t x y) (b off : Nat) (vs : List Value) (hx : a.eval x = .pointer (some ⟨b, off, none⟩)) (hy : a.eval y = .agg vs.toArray)
    {cur : List Value} {T : TypeId} (hb : w.heap[b]? = some (.cells cur.toArray T (0, 0))) (hi : (P.info? t).map (·.size) = some vs.length) (new : List Value) (hn : cur.take off ++ vs ++ cur.drop (off + vs.length) = new) (hl : off + vs.length ≤ cur.length) (h1 : ∀ v ∈ vs, v.oneCell' = true)
    (hK : wpList P ops Q rest a (w.setRow b new.toArray)) : wpList P ops Q (o :: rest) a w := by
  refine wpList_plain hgd fun K' hK' => ?_
  unfold Oper.wp
  have hr := run_putAt (P := P) (t := t) hb hi hl hn h1
  have he : (execOp a.eval o).run P w = .ok .skip (w.setRow b new.toArray) := by
    unfold execOp
    rw [hop]
    dsimp only
    rw [hx, hy]
    simp only [Sem.run_bind, hr, Result.andThen_ok]
    rfl
  rw [he, Oper.upon_skip, hd]
  exact hK' _ _ hK
/-- One cell is stored: the box anew. -/
theorem set_row {b i : Nat} {cur : List Value} {T : TypeId} (hb : w.heap[b]? = some (.cells cur.toArray T (0, 0))) (v : Value) (new : List Value) (hn : cur.set i v = new) : w.setCell ⟨b, i, none⟩ v = w.setRow b new.toArray := by
  rw [setCell_eq_setRow w b i cur.toArray T (0, 0) v hb, ← hn]
  congr 1
  simp
theorem set_box {b i : Nat} {cur : List Value} {T : TypeId} (hb : w.heap[b]? = some (.cells cur.toArray T (0, 0))) (v : Value) : (w.setCell ⟨b, i, none⟩ v).heap[b]? = some (.cells (cur.set i v).toArray T (0, 0)) := by
  rw [set_row hb v (cur.set i v) rfl]
  exact setRow_heap w b cur.toArray _ T (0, 0) hb
theorem row_turned (w : World) (b : Nat) (vs : Array Value) : Turned (fun k => k = b) w (w.setRow b vs) :=
  ⟨rfl, rfl, rfl, by simp, fun k _ hk => setRow_other w b k vs hk⟩
theorem row_box {b : Nat} {cur vs : Array Value} {T : TypeId} (h : w.heap[b]? = some (.cells cur T (0, 0))) : (w.setRow b vs).heap[b]? = some (.cells vs T (0, 0)) := setRow_heap w b cur vs T (0, 0) h
theorem row_far {b k : Nat} {vs : Array Value} {ob : Obj} (h : w.heap[k]? = some ob) (hne : k ≠ b) : (w.setRow b vs).heap[k]? = some ob := (setRow_other w b k vs hne).trans h
theorem row_row (b : Nat) (x y : Array Value) : (w.setRow b x).setRow b y = w.setRow b y := setRow_setRow w b x y
theorem row_below {B : Nat} {v V : World} (h : Below B v V) (b : Nat) (vs : Array Value) (hb : B ≤ b) (hV : B ≤ V.heap.size) : Below B v (V.setRow b vs) :=
  Turned.low h (row_turned V b vs) (fun k hk => by omega) hV
theorem set_below {B : Nat} {v V : World} (h : Below B v V) (b i : Nat) (x : Value) (hb : B ≤ b) (hV : B ≤ V.heap.size) : Below B v (V.setCell ⟨b, i, none⟩ x) :=
  Turned.low h (Turned.set (S := fun k => k = b) V ⟨b, i, none⟩ x rfl) (fun k hk => by omega) hV
/-- A result that lies in a variable of struct type. -/
theorem results_box {fn : Func} {p : Tmp} {ty : TypeId} (h : fn.results = #[.cell p ty]) (tmps : Array Value) {b : Nat} {cs : List Value} {t : TypeId} {fr : Nat × Nat} (hp : tmps.getD p undef = .pointer (some ⟨b, 0, none⟩)) (hb : w.heap[b]? = some (.cells cs.toArray t fr))
    {d : TypeDesc} (hu : P.underlying ty = some d) (hd : d.isRow = true) (hi : (P.info? ty).map (·.size) = some cs.length) : (results fn tmps).run P w = .ok (.agg cs.toArray) w :=
  results_cell_row h tmps w b t cs.toArray fr d hp hb hu (by cases d <;> simp_all) (by simpa using hi)
theorem results_box_tmp {fn : Func} {p q : Tmp} {ty : TypeId} (h : fn.results = #[.cell p ty, .tmp q]) (tmps : Array Value) {b : Nat} {cs : List Value} {t : TypeId} {fr : Nat × Nat} (hp : tmps.getD p undef = .pointer (some ⟨b, 0, none⟩)) {x : Value} (hx : tmps.getD q undef = x) (hb : w.heap[b]? = some (.cells cs.toArray t fr))
    {d : TypeDesc} (hu : P.underlying ty = some d) (hd : d.isRow = true) (hi : (P.info? ty).map (·.size) = some cs.length) : (results fn tmps).run P w = .ok (.tuple #[.agg cs.toArray, x]) w := by
  have hp' : tmps[p]?.getD undef = .pointer (some ⟨b, 0, none⟩) := by simpa using hp
  have hx' : tmps[q]?.getD undef = x := by simpa using hx
  simp [results, h, hp', hx', asAddr, run_loadVar_mid w b 0 ty cs d (range_of hb List.take_length) hu hd hi]
/-- A store that comes up in a region that draws. -/
theorem wp_put {K : Act → World → Prop} (hd : o.dst = none) (t : TypeId) (x y : Operand) (hop : o.op = Op.store t x y) (b off : Nat) (vs : List Value) (hx : a.eval x = .pointer (some ⟨b, off, none⟩)) (hy : a.eval y = .agg vs.toArray)
    {cur : List Value} {T : TypeId} (hb : w.heap[b]? = some (.cells cur.toArray T (0, 0))) (hi : (P.info? t).map (·.size) = some vs.length) (new : List Value) (hn : cur.take off ++ vs ++ cur.drop (off + vs.length) = new) (hl : off + vs.length ≤ cur.length) (h1 : ∀ v ∈ vs, v.oneCell' = true)
    (hK : K a (w.setRow b new.toArray)) : o.wp P a w K Q := by
  unfold Oper.wp
  have hr := run_putAt (P := P) (t := t) hb hi hl hn h1
  have he : (execOp a.eval o).run P w = .ok .skip (w.setRow b new.toArray) := by
    unfold execOp
    rw [hop]
    dsimp only
    rw [hx, hy]
    simp only [Sem.run_bind, hr, Result.andThen_ok]
    rfl
  rw [he, Oper.upon_skip, hd]
  exact hK
end
end Go.Proofs.YtlghdmakaocokaaGreatDoor.Seg
