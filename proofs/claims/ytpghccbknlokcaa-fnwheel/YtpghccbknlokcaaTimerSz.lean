/-
  CONTRACTS of the laws' toWheel (a copy in memory of its own) and of szTimerS, szTimerSS, szWheel (0 or more only where the slots and their timers are few) over this seat's translation.
-/
import Derived.Test.YtpghccbknlokcaaTimerTo
namespace Go.Proofs.Ytpghccbknlokcaa.Timers
open Go.ChangeShapes Go.WideShapes Go.ChangeAt Go.RowKit
set_option linter.unusedVariables false

/-- A wheel in memory of its own from lo on: what a function that answers a wheel leaves. -/
def CopiedW (w : World) (now : Int) (ss : List TList) (e : Ending) (w' : World) : Prop :=
  ∃ A c, e = .returned (.agg #[.int .i64 now, .slice A ss.length c]) ∧ OwnS w' w.heap.size w'.heap.size A ss.length c ss ∧ Below w.heap.size w w'

theorem OwnS.base {w : World} {lo lo' hi : Nat} {A : Option Addr} {n c : Nat} {ss : List TList} (h : OwnS w lo hi A n c ss) (hl : lo' ≤ lo) : OwnS w lo' hi A n c ss := by
  refine ⟨h.1, fun hn => ?_⟩
  obtain ⟨g, vs, e, hg, hrow, hj, hd⟩ := h.2 hn
  refine ⟨g, vs, e, hg, own_base hrow hl, fun j hjn => ?_, hd⟩
  obtain ⟨A', c', hv, hT⟩ := hj j hjn
  exact ⟨A', c', hv, hT.base hl⟩

theorem below_alloc3 {w w4 : World} {o p q : Obj} (h : Below (((w.alloc o).alloc p).alloc q).heap.size (((w.alloc o).alloc p).alloc q) w4) : Below w.heap.size w w4 :=
  (below_a3 w o p q).trans (h.mono (by simp; omega))

theorem blk2 {w : World} {g : Nat} {a b : Value} {t : TypeId} (h : w.heap[g]? = some (.cells #[a, b] t (0, 0))) :
    w.cell? ⟨g, 0, none⟩ = some a ∧ w.cell? ⟨g, 1, none⟩ = some b ∧ w.frozen? ⟨g, 0, none⟩ = false ∧ w.frozen? ⟨g, 1, none⟩ = false := by
  refine ⟨?_, ?_, ?_, ?_⟩ <;> simp [World.cell?, World.frozen?, h]
theorem old3 {w w4 : World} {o p q : Obj} (h : Below (((w.alloc o).alloc p).alloc q).heap.size (((w.alloc o).alloc p).alloc q) w4) :
    w4.heap[w.heap.size]? = some o ∧ w4.heap[w.heap.size + 1]? = some p ∧ w4.heap[w.heap.size + 1 + 1]? = some q := by
  have h1 : (w.alloc o).heap[w.heap.size]? = some o := heap_alloc_new w o
  have h2 : ((w.alloc o).alloc p).heap[w.heap.size + 1]? = some p := by have := heap_alloc_new (w.alloc o) p; simpa using this
  have h3 : (((w.alloc o).alloc p).alloc q).heap[w.heap.size + 1 + 1]? = some q := by have := heap_alloc_new ((w.alloc o).alloc p) q; simpa using this
  refine ⟨?_, ?_, ?_⟩
  · rw [h.block _ (by simp; omega), Below.heap_alloc _ _ _ (by simp; omega), Below.heap_alloc _ _ _ (by simp), h1]
  · rw [h.block _ (by simp), Below.heap_alloc _ _ _ (by simp), h2]
  · rw [h.block _ (by simp), h3]
theorem turned_set (w : World) (p : Addr) (u : Value) : Turned p.block (p.block + 1) w (w.setCell p u) :=
  ⟨rfl, rfl, rfl, by simp [World.setCell], fun k _ ho => Below.heap_setCell w p u k (by omega)⟩
theorem OwnS.setLow {w : World} {lo hi : Nat} {A : Option Addr} {n c : Nat} {ss : List TList} (h : OwnS w lo hi A n c ss) {p : Addr} (hp : p.block < lo) (u : Value) : OwnS (w.setCell p u) lo hi A n c ss :=
  h.turned (turned_set w p u) hp



/-- Less than 0, or few. -/
def Few (n : Nat) (ss : List TList) (left : Int) (w : World) (e : Ending) (w' : World) : Prop :=
  ∃ r : Int, e = .returned (.int .i64 r) ∧ w = w' ∧ (r = -1 ∨ (0 ≤ r ∧ (n : Int) + tot ss ≤ left))


end Go.Proofs.Ytpghccbknlokcaa.Timers
