/-
  RECORDS: a number and a list of ints; the contracts of the laws' toRecord, szRecord, eqRecord, markRecord, heldRecord over this seat's translation; and how a record comes in as an argument of a law.
-/
import Derived.Test.YtlghdmakaocokaaGreatDoorHas
import Derived.Test.YtlghdmakaocokaaGreatDoorIntCopy
import Derived.Maps.Range
import Derived.Lib.SmallJoins
import Derived.Deep.Slices
namespace Go.Proofs.YtlghdmakaocokaaGreatDoor.Rec
open Go.ChangeShapes Go.WideShapes Go.ChangeAt Go.RowKit Go.Joins Go.Deep
open Go.Proofs.YtlghdmakaocokaaGreatDoor.Ints Go.Proofs.YtlghdmakaocokaaGreatDoor.Has
set_option linter.unusedVariables false

theorem below_a1 (w : World) (o : Obj) : Below w.heap.size w (w.alloc o) := (Below.refl _ _).alloc (Nat.le_refl _) _
theorem below_a2 (w : World) (o p : Obj) : Below w.heap.size w ((w.alloc o).alloc p) := (below_a1 w o).alloc (by simp) _
theorem below_a3 (w : World) (o p q : Obj) : Below w.heap.size w (((w.alloc o).alloc p).alloc q) := (below_a2 w o p).alloc (by simp; omega) _
theorem below_alloc3 {w w4 : World} {o p q : Obj} (h : Below (((w.alloc o).alloc p).alloc q).heap.size (((w.alloc o).alloc p).alloc q) w4) : Below w.heap.size w w4 :=
  (below_a3 w o p q).trans (h.mono (by simp; omega))
theorem below_alloc1 {w w4 : World} {o : Obj} (h : Below (w.alloc o).heap.size (w.alloc o) w4) : Below w.heap.size w w4 :=
  (below_a1 w o).trans (h.mono (by simp))
theorem heap_new (w : World) (o : Obj) : (w.alloc o).heap[w.heap.size]? = some o := heap_alloc_new w o
theorem blk2 {w : World} {g : Nat} {a b : Value} {t : TypeId} (h : w.heap[g]? = some (.cells #[a, b] t (0, 0))) :
    w.cell? ⟨g, 0, none⟩ = some a ∧ w.cell? ⟨g, 1, none⟩ = some b ∧ w.frozen? ⟨g, 0, none⟩ = false ∧ w.frozen? ⟨g, 1, none⟩ = false := by
  refine ⟨?_, ?_, ?_, ?_⟩ <;> simp [World.cell?, World.frozen?, h]
theorem old3 {w w4 : World} {o p q : Obj} (h : Below (((w.alloc o).alloc p).alloc q).heap.size (((w.alloc o).alloc p).alloc q) w4) :
    w4.heap[w.heap.size]? = some o ∧ w4.heap[w.heap.size + 1]? = some p ∧ w4.heap[w.heap.size + 1 + 1]? = some q := by
  have h1 : (w.alloc o).heap[w.heap.size]? = some o := heap_new w o
  have h2 : ((w.alloc o).alloc p).heap[w.heap.size + 1]? = some p := by have := heap_new (w.alloc o) p; simpa using this
  have h3 : (((w.alloc o).alloc p).alloc q).heap[w.heap.size + 1 + 1]? = some q := by have := heap_new ((w.alloc o).alloc p) q; simpa using this
  refine ⟨?_, ?_, ?_⟩
  · rw [h.block _ (by simp; omega), Below.heap_alloc _ _ _ (by simp; omega), Below.heap_alloc _ _ _ (by simp), h1]
  · rw [h.block _ (by simp), Below.heap_alloc _ _ _ (by simp), h2]
  · rw [h.block _ (by simp), h3]
theorem own_base {w : World} {b b' : Nat} {e : TypeId} {size : Nat} {v : Value} {n : Nat} {xs : List Value} (h : w.ownsRow b e size v n xs) (hb : b' ≤ b) : w.ownsRow b' e size v n xs := by
  refine ⟨h.1, ?_⟩
  rcases h.2 with h2 | ⟨g, cap, cur, h3, h4, h5⟩
  · exact .inl h2
  · exact .inr ⟨g, cap, cur, h3, by omega, h5⟩
theorem ownI_base {w : World} {b b' : Nat} {A : Option Addr} {n c : Nat} {zs : List Int} (h : OwnI w b A n c zs) (hb : b' ≤ b) : OwnI w b' A n c zs := ⟨h.1, own_base h.2 hb⟩
theorem grown_set (w : World) (p : Addr) (u : Value) : w.grownBy (w.setCell p u) (some p.block) :=
  ⟨rfl, rfl, rfl, by simp [World.setCell], fun k _ ho => Below.heap_setCell w p u k (by intro e; exact ho (by rw [e]))⟩
/-- A cell below a row's blocks is written. -/
theorem ownI_setLow {w : World} {lo : Nat} {A : Option Addr} {n c : Nat} {zs : List Int} (h : OwnI w lo A n c zs) {p : Addr} (hp : p.block < lo) (u : Value) : OwnI (w.setCell p u) lo A n c zs := by
  refine h.grown (grown_set w p u) ?_
  cases hb : (Value.slice A n c).ownBlock with
  | none => exact .inl rfl
  | some q =>
    refine .inr fun e => ?_
    injection e with e
    have := (h.lt q hb).1
    omega

/-- What a copy leaves: ints of one's own; nothing older has turned. -/
def CopiedI (w : World) (zs : List Int) (e : Ending) (w' : World) : Prop :=
  ∃ g, e = .returned (.slice (some ⟨g, 0, none⟩) zs.length zs.length) ∧ OwnI w' w.heap.size (some ⟨g, 0, none⟩) zs.length zs.length zs ∧ Below w.heap.size w w'
theorem Part_whole (zs : List Int) : Part zs zs.length = zs.map (Value.int .i64) := by simp [Part]


/-- What a function that answers a record leaves. -/
def CopiedR (w : World) (kd : Int) (zs : List Int) (e : Ending) (w' : World) : Prop :=
  ∃ A c, e = .returned (.agg #[.int .i64 kd, .slice A zs.length c]) ∧ OwnI w' w.heap.size A zs.length c zs ∧ Below w.heap.size w w'


def szV (k : Int) (n : Nat) : Int := if k < n then -1 else k - n
theorem szV_f {k : Int} {n : Nat} (h : k < n) : szV k n = -1 := by rw [szV, if_pos h]
theorem szV_t {k : Int} {n : Nat} (h : ¬ k < n) : szV k n = k - n := by rw [szV, if_neg h]


/-- It answers true and turns nothing that was there. -/
def SaysTrue (w : World) (e : Ending) (w' : World) : Prop := e = .returned (.bool true) ∧ Below w.heap.size w w'


/-- n numbers from k on. -/
def marksI (k : Int) (n : Nat) : List Int := (List.range n).map fun (i : Nat) => k + (i : Int)
theorem marksI_len (k : Int) (n : Nat) : (marksI k n).length = n := by simp [marksI]
theorem marksI_at (k : Int) (n j : Nat) (h : j < n) : (marksI k n).getD j 0 = k + (j : Int) := by simp [marksI, List.getD, h]
theorem marks_step (k : Int) (n j : Nat) (zs : List Int) (h : j < n) (hl : zs.length = n) : ((marksI k n).take j ++ zs.drop j).set j (k + (j : Int)) = (marksI k n).take (j + 1) ++ zs.drop (j + 1) := by
  have hj : ((marksI k n).take j).length = j := by rw [List.length_take, marksI_len]; omega
  rw [List.set_append_right _ _ (by omega), hj, Nat.sub_self, List.drop_eq_getElem_cons (by omega), List.set_cons_zero, List.take_succ_eq_append_getElem (by rw [marksI_len]; exact h), List.append_assoc]
  congr 1
  simp [marksI]





/-- What a law is told of a record's numbers. -/
def IsRec (w : World) (A : Option Addr) (n : Nat) (zs : List Int) : Prop := IsInts w w.heap.size A n zs ∧ n ≤ maxLen

end Go.Proofs.YtlghdmakaocokaaGreatDoor.Rec
