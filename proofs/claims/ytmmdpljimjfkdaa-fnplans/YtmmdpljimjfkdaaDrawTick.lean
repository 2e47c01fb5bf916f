/-
  CHAPTER 1's DRAWS over this seat's translation: a tick, an int, a pair of ints: whatever the code.
-/
import Derived.Test.YtmmdpljimjfkdaaDraw2
namespace Go.Proofs.Ytmmdpljimjfkdaa.DrawTick
open Go.ChangeShapes Go.WideShapes Go.ChangeAt Go.RowKit
open Go.Proofs.Ytmmdpljimjfkdaa.Ints Go.Proofs.Ytmmdpljimjfkdaa.Tick Go.Proofs.Ytmmdpljimjfkdaa.Draw
set_option linter.unusedVariables false

theorem lit_cells (w : World) (T : TypeId) (l : List Int) (j : Nat) (hj : j < l.length) : (w.alloc (.cells (l.map (Value.int .i64)).toArray T)).cell? ⟨w.heap.size, j, none⟩ = some (.int .i64 (l.getD j 0)) := by
  rw [World.cell?_alloc_at]
  · simp [List.getD, hj]
  · rfl
theorem lit_ints (w : World) (T : TypeId) (l : List Int) (k : Nat) (hk : l.length = k) : IsInts (w.alloc (.cells (l.map (Value.int .i64)).toArray T)) (w.heap.size + 1) (some ⟨w.heap.size, 0, none⟩) k l :=
  ⟨hk, fun _ => ⟨w.heap.size, 0, rfl, by omega, fun j hj => by rw [Nat.zero_add]; exact lit_cells w T l j (by omega)⟩⟩

theorem lit_ints_at (w : World) (L : Nat) (hL : L = w.heap.size) (T : TypeId) (l : List Int) (k : Nat) (hk : l.length = k) : IsInts (w.alloc (.cells (l.map (Value.int .i64)).toArray T)) (L + 1) (some ⟨L, 0, none⟩) k l := by
  subst hL; exact lit_ints w T l k hk

def IntSaid (P : Int → Prop) (w : World) (B g : Nat) (A : Option Addr) (n cap : Nat) (zs : List UInt8) (e : Ending) (w' : World) : Prop :=
  ∃ z : Int, P z ∧ e = .returned (.int .i64 z) ∧ CurAt w' B g A n cap zs ∧ w.grownBy w' (some g)



/-- Behind draws from a cursor that was made since w nothing of w has turned. -/
theorem below_grown {w w1 w2 : World} {g : Nat} (hb : Below w.heap.size w w1) (hg : w.heap.size ≤ g) (h : w1.grownBy w2 (some g)) : Below w.heap.size w w2 :=
  hb.grown h hb.size (fun k e => by injection e with e; omega)

end Go.Proofs.Ytmmdpljimjfkdaa.DrawTick
