/-
  CONTRACTS of the model's l01Has and of slices.Index and slices.Contains at ints over this seat's translation: whether a number stands in a list; the world is left as it was. And lists of ints of one's own.
-/
import Derived.Test.YtlghdmakaocokaaGreatDoorInts
import Derived.Deep.AppendLies
import Derived.Lib.Hide
namespace Go.Proofs.YtlghdmakaocokaaGreatDoor.Has
open Go.ChangeShapes Go.WideShapes Go.ChangeAt Go.RowKit
open Go.Proofs.YtlghdmakaocokaaGreatDoor.Ints
set_option linter.unusedVariables false

def hasB (zs : List Int) (x : Int) : Bool := zs.any (· == x)
theorem has_none {zs : List Int} {x : Int} (h : ∀ j, j < zs.length → zs.getD j 0 ≠ x) : hasB zs x = false := by
  unfold hasB
  rw [List.any_eq_false]
  intro y hy
  obtain ⟨j, hj, rfl⟩ := List.mem_iff_getElem.1 hy
  have := h j hj
  simpa [List.getD, hj] using this
theorem has_some {zs : List Int} {x : Int} (j : Nat) (hj : j < zs.length) (h : zs.getD j 0 = x) : hasB zs x = true := by
  unfold hasB
  rw [List.any_eq_true]
  refine ⟨zs[j], List.getElem_mem hj, ?_⟩
  simpa [List.getD, hj] using h




/-- A list of ints of one's own, from base on. -/
def OwnI (w : World) (base : Nat) (A : Option Addr) (n c : Nat) (zs : List Int) : Prop := zs.length = n ∧ w.ownsRow base 3 1 (.slice A n c) n (zs.map (Value.int .i64))
theorem OwnI.ints {w : World} {base : Nat} {A : Option Addr} {n c : Nat} {zs : List Int} (h : OwnI w base A n c zs) : IsInts w w.heap.size A n zs := by
  refine ⟨h.1, fun hn => ?_⟩
  obtain ⟨g, cap, hv, _, hlt⟩ := h.2.form hn
  have hA : A = some ⟨g, 0, none⟩ := by injection hv
  subst hA
  refine ⟨g, 0, rfl, hlt, fun j hj => ?_⟩
  rw [Nat.zero_add, h.2.cellAt j (by omega)]
  have hl : j < zs.length := by rw [h.1]; exact hj
  simp [List.getD, hl]
theorem OwnI.grown {w w' : World} {base : Nat} {A : Option Addr} {n c : Nat} {zs : List Int} (h : OwnI w base A n c zs) {row : Option Nat} (hg : w.grownBy w' row) (hne : (Value.slice A n c).ownBlock = none ∨ (Value.slice A n c).ownBlock ≠ row) : OwnI w' base A n c zs := ⟨h.1, h.2.kept hg hne⟩
theorem OwnI.alloc {w : World} {base : Nat} {A : Option Addr} {n c : Nat} {zs : List Int} (h : OwnI w base A n c zs) (o : Obj) : OwnI (w.alloc o) base A n c zs := ⟨h.1, h.2.alloc o⟩
theorem OwnI.below {w w' : World} {base : Nat} {A : Option Addr} {n c : Nat} {zs : List Int} (h : OwnI w base A n c zs) (hb : Below w.heap.size w w') : OwnI w' base A n c zs :=
  ⟨h.1, h.2.kept ⟨hb.os, hb.tape, hb.output, hb.size, fun i hi _ => hb.block i hi⟩ (row := none) (by cases hv : (Value.slice A n c).ownBlock <;> simp)⟩
theorem OwnI.lt {w : World} {base : Nat} {A : Option Addr} {n c : Nat} {zs : List Int} (h : OwnI w base A n c zs) : ∀ k, (Value.slice A n c).ownBlock = some k → base ≤ k ∧ k < w.heap.size := h.2.lt
/-- Behind an append of one number. -/
theorem OwnI.of_append {w' : World} {base n : Nat} {v' : Value} {zs : List Int} {x : Int} (hl : zs.length = n) (h : w'.ownsRow base 3 1 v' (n + 1) (zs.map (Value.int .i64) ++ [.int .i64 x])) : ∃ A c, v' = .slice A (n + 1) c ∧ OwnI w' base A (n + 1) c (zs ++ [x]) := by
  obtain ⟨g, cap, rfl, _⟩ := h.form (by omega)
  exact ⟨_, _, rfl, by simp [hl], by simpa using h⟩
theorem infoInt : (Tryz.prog.info? 3).map (fun i => (i.zero, i.size, i.bytes)) = some (some (.int .i64 0), 1, 8) := by kernel_rfl
end Go.Proofs.YtlghdmakaocokaaGreatDoor.Has
