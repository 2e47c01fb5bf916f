/-
  WHAT THE WALK OF AN EXACT LAW WANTS OF A KIND OF DATA: how it reads, what it is to own it, and the contracts of the laws' helpers; and how each is kept.
-/
import Derived.Test.YtlghdmakaocokaaRows
import Derived.WalkKit
import Derived.ProofKit
import Derived.OpenShut
import Derived.Below
import Derived.Deep.RegionHeld3
import Derived.Lib.Hide
import Derived.Deep.DeepCutAuto
namespace Go.Proofs.Ytlghdmakaocokaa.LK
open Go.ChangeShapes Go.WideShapes Go.ChangeAt Go.RowKit
set_option linter.unusedVariables false

/-- Outside of S all that was there is as it was. -/
structure Turned (S : Nat → Prop) (w w' : World) : Prop where
  os : w'.os = w.os
  tape : w'.tape = w.tape
  output : w'.output = w.output
  size : w.heap.size ≤ w'.heap.size
  block : ∀ k, k < w.heap.size → ¬ S k → w'.heap[k]? = w.heap[k]?
theorem Turned.refl (S : Nat → Prop) (w : World) : Turned S w w := ⟨rfl, rfl, rfl, Nat.le_refl _, fun _ _ _ => rfl⟩
theorem Turned.trans {S : Nat → Prop} {a b c : World} (h : Turned S a b) (k : Turned S b c) : Turned S a c :=
  ⟨k.os.trans h.os, k.tape.trans h.tape, k.output.trans h.output, Nat.le_trans h.size k.size, fun i hi hn => (k.block i (Nat.lt_of_lt_of_le hi h.size) hn).trans (h.block i hi hn)⟩
theorem Turned.wide {S S' : Nat → Prop} {a b : World} (h : Turned S a b) (hS : ∀ k, S k → S' k) : Turned S' a b := ⟨h.os, h.tape, h.output, h.size, fun k hk hn => h.block k hk (fun hs => hn (hS k hs))⟩
theorem Turned.of_below {S : Nat → Prop} {a b : World} (h : Below a.heap.size a b) : Turned S a b := ⟨h.os, h.tape, h.output, h.size, fun k hk _ => h.block k hk⟩
theorem Turned.of_grown {S : Nat → Prop} {a b : World} {row : Option Nat} (h : a.grownBy b row) (hS : ∀ k, row = some k → S k) : Turned S a b :=
  ⟨h.os, h.tape, h.output, h.size, fun k hk hn => h.block k hk (fun e => hn (hS k e.symm))⟩
theorem Turned.undrew {S : Nat → Prop} {a b : World} (h : Turned S a.drew b) : Turned S a b := ⟨h.os, h.tape, h.output, h.size, h.block⟩
theorem Turned.low {S : Nat → Prop} {B : Nat} {a b c : World} (h : Below B a b) (ht : Turned S b c) (hS : ∀ k, S k → B ≤ k) (hB : B ≤ b.heap.size) : Below B a c :=
  ⟨ht.os.trans h.os, ht.tape.trans h.tape, ht.output.trans h.output, Nat.le_trans h.size ht.size, fun k hk => (ht.block k (by omega) (fun hs => by have := hS k hs; omega)).trans (h.block k hk)⟩

theorem box_lt {w : World} {b : Nat} {o : Obj} (h : w.heap[b]? = some o) : b < w.heap.size := (Array.getElem?_eq_some_iff.1 h).1
theorem box_below {w w' : World} {b : Nat} {o : Obj} (h : w.heap[b]? = some o) (hb : Below w.heap.size w w') : w'.heap[b]? = some o := (hb.block b (box_lt h)).trans h
theorem box_turned {w w' : World} {S : Nat → Prop} {b : Nat} {o : Obj} (h : w.heap[b]? = some o) (ht : Turned S w w') (hn : ¬ S b) : w'.heap[b]? = some o := (ht.block b (box_lt h) hn).trans h
theorem box_new (w : World) (o : Obj) : (w.alloc o).heap[w.heap.size]? = some o := by
  show (w.heap.push o)[w.heap.size]? = _
  simp
theorem box_newd (w : World) (o : Obj) : (w.drew.alloc o).heap[w.heap.size]? = some o := box_new w.drew o
theorem box_alloc {w : World} {b : Nat} {o : Obj} (h : w.heap[b]? = some o) (p : Obj) : (w.alloc p).heap[b]? = some o := (Below.heap_alloc w p b (box_lt h)).trans h
theorem box_cell {w : World} {b : Nat} {cs : Array Value} {t : TypeId} (h : w.heap[b]? = some (.cells cs t (0, 0))) (i : Nat) (v : Value) (hi : cs[i]? = some v) : w.cell? ⟨b, i, none⟩ = some v := by
  simp [World.cell?, h, hi]
theorem box_frozen {w : World} {b : Nat} {cs : Array Value} {t : TypeId} (h : w.heap[b]? = some (.cells cs t (0, 0))) (i : Nat) : w.frozen? ⟨b, i, none⟩ = false := by
  simp [World.frozen?, h]
theorem box2 {w : World} {b : Nat} {x y : Value} {t : TypeId} (h : w.heap[b]? = some (.cells #[x, y] t (0, 0))) :
    w.cell? ⟨b, 0, none⟩ = some x ∧ w.cell? ⟨b, 1, none⟩ = some y ∧ w.frozen? ⟨b, 0, none⟩ = false ∧ w.frozen? ⟨b, 1, none⟩ = false :=
  ⟨box_cell h 0 _ rfl, box_cell h 1 _ rfl, box_frozen h 0, box_frozen h 1⟩
theorem box3 {w : World} {b : Nat} {x y z : Value} {t : TypeId} (h : w.heap[b]? = some (.cells #[x, y, z] t (0, 0))) :
    w.cell? ⟨b, 0, none⟩ = some x ∧ w.cell? ⟨b, 1, none⟩ = some y ∧ w.cell? ⟨b, 2, none⟩ = some z ∧ w.frozen? ⟨b, 0, none⟩ = false ∧ w.frozen? ⟨b, 1, none⟩ = false ∧ w.frozen? ⟨b, 2, none⟩ = false :=
  ⟨box_cell h 0 _ rfl, box_cell h 1 _ rfl, box_cell h 2 _ rfl, box_frozen h 0, box_frozen h 1, box_frozen h 2⟩
theorem box_set {w : World} {b i : Nat} {cs : Array Value} {t : TypeId} (h : w.heap[b]? = some (.cells cs t (0, 0))) (u : Value) : (w.setCell ⟨b, i, none⟩ u).heap[b]? = some (.cells (cs.setIfInBounds i u) t (0, 0)) := by
  simp [World.setCell, Array.getElem?_modify, h]
theorem box_other {w : World} {b : Nat} {o : Obj} (h : w.heap[b]? = some o) (p : Addr) (u : Value) (hne : b ≠ p.block) : (w.setCell p u).heap[b]? = some o := (Below.heap_setCell w p u b hne).trans h
theorem Turned.set {S : Nat → Prop} (w : World) (p : Addr) (u : Value) (h : S p.block) : Turned S w (w.setCell p u) :=
  ⟨rfl, rfl, rfl, by simp [World.setCell], fun k _ hn => Below.heap_setCell w p u k (fun e => hn (by rw [e]; exact h))⟩
theorem far1 {w : World} {b k i j : Nat} {u v : Value} (hne : k ≠ b) (h : w.cell? ⟨k, i, none⟩ = some v) : (w.setCell ⟨b, j, none⟩ u).cell? ⟨k, i, none⟩ = some v := by
  rw [World.cell?_setCell_other]
  · exact h
  · intro e; injection e with e _ _; exact hne e.symm
theorem far3 {w : World} {b k i : Nat} {u0 u1 u2 v : Value} (hne : k ≠ b) (h : w.cell? ⟨k, i, none⟩ = some v) : ((((w.setCell ⟨b, 0, none⟩ u0).setCell ⟨b, 1, none⟩ u1).setCell ⟨b, 2, none⟩ u2).drew).cell? ⟨k, i, none⟩ = some v :=
  far1 hne (far1 hne (far1 hne h))
theorem cell_keep {w w' : World} {p : Addr} {u : Value} (hb : Below w.heap.size w w') (h : w.cell? p = some u) : w'.cell? p = some u :=
  (hb.cell (World.block_lt_of_cell? w p h)).trans h
theorem undrew {B : Nat} {a w : World} (h : Below B a.drew w) : Below B a w := ⟨h.os, h.tape, h.output, h.size, h.block⟩
theorem al0 {p w : World} (h : Below p.heap.size p w) : Below p.heap.size p w := h
theorem al1 {p w : World} {o : Obj} (h : Below (p.alloc o).heap.size (p.alloc o) w) : Below p.heap.size p w := ((Below.refl _ _).alloc (Nat.le_refl _) o).trans (h.mono (by simp))
theorem bel1 (w : World) (o : Obj) : Below w.heap.size w (w.alloc o) := (Below.refl _ _).alloc (Nat.le_refl _) _
theorem bel2 (w : World) (o p : Obj) : Below w.heap.size w ((w.alloc o).alloc p) := (bel1 w o).alloc (by simp) _
theorem bel3 (w : World) (o p q : Obj) : Below w.heap.size w (((w.alloc o).alloc p).alloc q) := (bel2 w o p).alloc (by simp; omega) _
theorem bel_then {B : Nat} {a b c : World} (h : Below B a b) (k : Below b.heap.size b c) (hB : B ≤ b.heap.size) : Below B a c := h.trans (k.mono hB)

/-- A kind of data. -/
structure Ty where
  D : Type
  Rd : World → Nat → Value → D → Prop
  Own : World → (Nat → Prop) → Value → D → Prop
  Few : D → Prop
  cnt : D → Nat
  mark : Int → D → D
  rd_below : ∀ {w w' : World} {B C : Nat} {v : Value} {d : D}, Rd w B v d → Below C w w' → B ≤ C → Rd w' B v d
  own_rd : ∀ {w : World} {S : Nat → Prop} {v : Value} {d : D} (B : Nat), Own w S v d → (∀ k, S k → k < B) → Rd w B v d
  own_same : ∀ {w w' : World} {S : Nat → Prop} {v : Value} {d : D}, Own w S v d → (∀ k, S k → w'.heap[k]? = w.heap[k]?) → Own w' S v d
  few_cnt : ∀ {d : D}, Few d → cnt d ≤ 20000000

/-- The data d are owned at v, in blocks of S, which lie from lo to hi. -/
structure Has (T : Ty) (w : World) (lo hi : Nat) (S : Nat → Prop) (v : Value) (d : T.D) : Prop where
  own : T.Own w S v d
  inn : ∀ k, S k → lo ≤ k ∧ k < hi
  hi : hi ≤ w.heap.size
section
variable {T : Ty} {w w' : World} {lo hi : Nat} {S S' : Nat → Prop} {v : Value} {d : T.D}
theorem Has.rd (h : Has T w lo hi S v d) : T.Rd w w.heap.size v d := T.own_rd _ h.own (fun k hk => by have := h.inn k hk; have := h.hi; omega)
theorem Has.rdHi (h : Has T w lo hi S v d) : T.Rd w hi v d := T.own_rd _ h.own (fun k hk => (h.inn k hk).2)
theorem Has.below (h : Has T w lo hi S v d) (hb : Below w.heap.size w w') : Has T w' lo hi S v d :=
  ⟨T.own_same h.own (fun k hk => hb.block k (by have := h.inn k hk; have := h.hi; omega)), h.inn, Nat.le_trans h.hi hb.size⟩
theorem Has.alloc (h : Has T w lo hi S v d) (o : Obj) : Has T (w.alloc o) lo hi S v d := h.below (bel1 w o)
theorem Has.turned (h : Has T w lo hi S v d) (ht : Turned S' w w') (hn : ∀ k, S k → ¬ S' k) : Has T w' lo hi S v d :=
  ⟨T.own_same h.own (fun k hk => ht.block k (by have := h.inn k hk; have := h.hi; omega) (hn k hk)), h.inn, Nat.le_trans h.hi ht.size⟩
theorem Has.grow {lo' hi' : Nat} (h : Has T w lo hi S v d) (h1 : lo' ≤ lo) (h2 : hi ≤ hi') (h3 : hi' ≤ w.heap.size) : Has T w lo' hi' S v d :=
  ⟨h.own, fun k hk => by have := h.inn k hk; omega, h3⟩
theorem Has.drew (h : Has T w lo hi S v d) : Has T w.drew lo hi S v d := ⟨T.own_same h.own (fun k hk => rfl), h.inn, h.hi⟩
end

/-- What is left behind a call that answers data of its own. -/
def Made (T : Ty) (d : T.D) (w : World) (e : Ending) (w' : World) : Prop := ∃ v' S, e = .returned v' ∧ Has T w' w.heap.size w'.heap.size S v' d ∧ Below w.heap.size w w'
/-- .. and one value more. -/
def Made1 (T : Ty) (d : T.D) (x : Value) (w : World) (e : Ending) (w' : World) : Prop := ∃ v' S, e = .returned (.tuple #[v', x]) ∧ Has T w' w.heap.size w'.heap.size S v' d ∧ Below w.heap.size w w'
/-- A call that answers x and turns nothing. -/
def Says (x : Value) (w : World) (e : Ending) (w' : World) : Prop := e = .returned x ∧ Below w.heap.size w w'
/-- Sizes. -/
def SzAns (T : Ty) (d : T.D) (w : World) (e : Ending) (w' : World) : Prop := ∃ r : Int, e = .returned (.int .i64 r) ∧ Below w.heap.size w w' ∧ (r = -1 ∨ (0 ≤ r ∧ r ≤ 1048576 ∧ T.Few d))

def ToC (f : Nat) (T : Ty) : Prop := ∀ (w : World) (B : Nat) (v : Value) (d : T.D), T.Rd w B v d → B ≤ w.heap.size → T.Few d → Calls Try.prog f #[v] w (Made T d w)
def EqC (f : Nat) (T : Ty) : Prop := ∀ (w : World) (B B' : Nat) (v v' : Value) (d : T.D), T.Rd w B v d → T.Rd w B' v' d → B ≤ w.heap.size → B' ≤ w.heap.size → T.Few d → Calls Try.prog f #[v, v'] w (Says (.bool true) w)
def MarkC (f : Nat) (T : Ty) : Prop := ∀ (w : World) (lo hi : Nat) (S : Nat → Prop) (v : Value) (d : T.D) (k : Int), Has T w lo hi S v d → T.Few d → 0 ≤ k → k ≤ 200000000 →
  Calls Try.prog f #[v, .int .i64 k] w fun e w' => e = .returned (.int .i64 (k + T.cnt d)) ∧ Has T w' lo hi S v (T.mark k d) ∧ Turned S w w'
def HeldC (f : Nat) (T : Ty) : Prop := ∀ (w : World) (B : Nat) (v : Value) (d : T.D) (k : Int), T.Rd w B v (T.mark k d) → B ≤ w.heap.size → T.Few d → 0 ≤ k → k ≤ 200000000 →
  Calls Try.prog f #[v, .int .i64 k] w (Says (.int .i64 (k + T.cnt d)) w)
def SzC (f : Nat) (T : Ty) (v : Value) (d : T.D) (w : World) : Prop := ∀ (W : World) (k : Int), Below w.heap.size w W → 0 ≤ k → k ≤ 1048576 → Calls Try.prog f #[v, .int .i64 k] W (SzAns T d W)
end Go.Proofs.Ytlghdmakaocokaa.LK
