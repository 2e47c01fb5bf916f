/-
  VARIABLES THAT HOLD A RECORD, and what a walk keeps of the world.
-/
import Derived.Test.YtlghdmakaocokaaGreatDoorRec
import Derived.Deep.RegionHeld3
namespace Go.Proofs.YtlghdmakaocokaaGreatDoor.Rec
open Go.ChangeShapes Go.WideShapes Go.ChangeAt Go.RowKit
open Go.Proofs.YtlghdmakaocokaaGreatDoor.Ints Go.Proofs.YtlghdmakaocokaaGreatDoor.Has
set_option linter.unusedVariables false

theorem below_keep {w w' : World} {p : Addr} {u : Value} (hb : Below w.heap.size w w') (h : w.cell? p = some u) : w'.cell? p = some u :=
  (hb.cell (World.block_lt_of_cell? w p h)).trans h
theorem below_undrew {B : Nat} {a w : World} (h : Below B a.drew w) : Below B a w := ⟨h.os, h.tape, h.output, h.size, h.block⟩

/-- A variable that holds a record. -/
def Box (w : World) (b : Nat) (kd : Int) (A : Option Addr) (n c : Nat) : Prop := w.cell? ⟨b, 0, none⟩ = some (.int .i64 kd) ∧ w.cell? ⟨b, 1, none⟩ = some (.slice A n c)
section
variable {w w' : World} {b : Nat} {kd : Int} {A : Option Addr} {n c : Nat}
theorem Box.lt (h : Box w b kd A n c) : b < w.heap.size := World.block_lt_of_cell? w _ h.1
theorem Box.below (h : Box w b kd A n c) (hb : Below w.heap.size w w') : Box w' b kd A n c := ⟨below_keep hb h.1, below_keep hb h.2⟩
theorem Box.low {C : Nat} (h : Box w b kd A n c) (hb : Below C w w') (hC : b < C) : Box w' b kd A n c := ⟨(hb.cell (p := ⟨b, 0, none⟩) hC).trans h.1, (hb.cell (p := ⟨b, 1, none⟩) hC).trans h.2⟩
theorem Box.alloc (h : Box w b kd A n c) (o : Obj) : Box (w.alloc o) b kd A n c := h.below (below_a1 w o)
theorem Box.new (w : World) (kd : Int) (A : Option Addr) (n c : Nat) (t : TypeId) : Box (w.alloc (.cells #[.int .i64 kd, .slice A n c] t)) w.heap.size kd A n c := by
  obtain ⟨h0, h1, _⟩ := blk2 (heap_alloc_new w (.cells #[.int .i64 kd, .slice A n c] t))
  exact ⟨h0, h1⟩
theorem Box.grown {row : Option Nat} (h : Box w b kd A n c) (hg : w.grownBy w' row) (hne : row ≠ some b) : Box w' b kd A n c := by
  have hl := h.lt
  have e : w'.heap[b]? = w.heap[b]? := hg.block b hl (fun e => hne e.symm)
  exact ⟨(World.cell?_of_block e).trans h.1, (World.cell?_of_block e).trans h.2⟩
end
end Go.Proofs.YtlghdmakaocokaaGreatDoor.Rec
