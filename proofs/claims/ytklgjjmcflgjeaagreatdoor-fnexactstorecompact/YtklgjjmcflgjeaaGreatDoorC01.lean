import Derived.Below
import Derived.Deep.AppendLies
import Derived.Deep.DeepCutAuto
import Derived.Deep.RegionHeld3
import Derived.Deep.Slices
import Derived.Lib.Hide
import Derived.Lib.SmallJoins
import Derived.OpenShut
import Derived.ProofKit
import Derived.Test.YtklgjjmcflgjeaaGreatDoorRows
import Derived.WalkKit
import Derived.Test.YtklgjjmcflgjeaaGreatDoorC00
set_option linter.unusedVariables false
set_option linter.unusedSimpArgs false
namespace Go.Proofs.YtklgjjmcflgjeaaGreatDoor.LK
open Go.ChangeShapes Go.WideShapes Go.ChangeAt Go.RowKit
structure Turned (S : Nat → Prop) (w w' : World) : Prop where
  os : w'.os = w.os
  tape : w'.tape = w.tape
  output : w'.output = w.output
  size : w.heap.size ≤ w'.heap.size
  block : ∀ k, k < w.heap.size → ¬ S k → w'.heap[k]? = w.heap[k]?
theorem Turned.refl (S : Nat → Prop) (w : World) : Turned S w w := ⟨rfl, rfl, rfl, Nat.le_refl _, fun _ _ _ => rfl⟩
theorem Turned.trans {S : Nat → Prop} {a b c : World} (h : Turned S a b) (k : Turned S b c) : Turned S a c :=
  ⟨k.os.trans h.os, k.tape.trans h.tape, k.output.trans h.output, Nat.le_trans h.size k.size, fun i hi hn => (k.block i (Nat.lt_of_lt_of_le hi h.size) hn).trans (h.block i hi hn)⟩
theorem Turned.wide {S S' : Nat → Prop} {a b : World} (h : Turned S a b) (hS : ∀ k, S k → S' k) : Turned S' a b := ⟨h.os, h.tape, h.output, h.size, fun k hk hn => h.block k hk (fun hs => hn (hS k hs))⟩
theorem Turned.of_below {S : Nat → Prop} {a b : World} (h : Below a.heap.size a b) : Turned S a b := ⟨h.os, h.tape, h.output, h.size, fun k hk _ => h.block k hk⟩
theorem Turned.of_grown {S : Nat → Prop} {a b : World} {row : Option Nat} (h : a.grownBy b row) (hS : ∀ k, row = some k → S k) : Turned S a b :=
  ⟨h.os, h.tape, h.output, h.size, fun k hk hn => h.block k hk (fun e => hn (hS k e.symm))⟩
theorem Turned.undrew {S : Nat → Prop} {a b : World} (h : Turned S a.drew b) : Turned S a b := ⟨h.os, h.tape, h.output, h.size, h.block⟩
theorem Turned.low {S : Nat → Prop} {B : Nat} {a b c : World} (h : Below B a b) (ht : Turned S b c) (hS : ∀ k, S k → B ≤ k) (hB : B ≤ b.heap.size) : Below B a c :=
  ⟨ht.os.trans h.os, ht.tape.trans h.tape, ht.output.trans h.output, Nat.le_trans h.size ht.size, fun k hk => (ht.block k (by omega) (fun hs => by have := hS k hs; omega)).trans (h.block k hk)⟩
theorem box_lt {w : World} {b : Nat} {o : Obj} (h : w.heap[b]? = some o) : b < w.heap.size := (Array.getElem?_eq_some_iff.1 h).1
theorem box_below {w w' : World} {b : Nat} {o : Obj} (h : w.heap[b]? = some o) (hb : Below w.heap.size w w') : w'.heap[b]? = some o := (hb.block b (box_lt h)).trans h
theorem box_turned {w w' : World} {S : Nat → Prop} {b : Nat} {o : Obj} (h : w.heap[b]? = some o) (ht : Turned S w w') (hn : ¬ S b) : w'.heap[b]? = some o := (ht.block b (box_lt h) hn).trans h
theorem box_new (w : World) (o : Obj) : (w.alloc o).heap[w.heap.size]? = some o := by
  show (w.heap.push o)[w.heap.size]? = _
  simp
theorem box_alloc {w : World} {b : Nat} {o : Obj} (h : w.heap[b]? = some o) (p : Obj) : (w.alloc p).heap[b]? = some o := (Below.heap_alloc w p b (box_lt h)).trans h
theorem box_cell {w : World} {b : Nat} {cs : Array Value} {t : TypeId} (h : w.heap[b]? = some (.cells cs t (0, 0))) (i : Nat) (v : Value) (hi : cs[i]? = some v) : w.cell? ⟨b, i, none⟩ = some v := by
  simp [World.cell?, h, hi]
theorem box_frozen {w : World} {b : Nat} {cs : Array Value} {t : TypeId} (h : w.heap[b]? = some (.cells cs t (0, 0))) (i : Nat) : w.frozen? ⟨b, i, none⟩ = false := by
  simp [World.frozen?, h]
theorem box2 {w : World} {b : Nat} {x y : Value} {t : TypeId} (h : w.heap[b]? = some (.cells #[x, y] t (0, 0))) :
    w.cell? ⟨b, 0, none⟩ = some x ∧ w.cell? ⟨b, 1, none⟩ = some y ∧ w.frozen? ⟨b, 0, none⟩ = false ∧ w.frozen? ⟨b, 1, none⟩ = false :=
  ⟨box_cell h 0 _ rfl, box_cell h 1 _ rfl, box_frozen h 0, box_frozen h 1⟩
theorem box3 {w : World} {b : Nat} {x y z : Value} {t : TypeId} (h : w.heap[b]? = some (.cells #[x, y, z] t (0, 0))) :
    w.cell? ⟨b, 0, none⟩ = some x ∧ w.cell? ⟨b, 1, none⟩ = some y ∧ w.cell? ⟨b, 2, none⟩ = some z ∧ w.frozen? ⟨b, 0, none⟩ = false ∧ w.frozen? ⟨b, 1, none⟩ = false ∧ w.frozen? ⟨b, 2, none⟩ = false :=
  ⟨box_cell h 0 _ rfl, box_cell h 1 _ rfl, box_cell h 2 _ rfl, box_frozen h 0, box_frozen h 1, box_frozen h 2⟩
theorem box_set {w : World} {b i : Nat} {cs : Array Value} {t : TypeId} (h : w.heap[b]? = some (.cells cs t (0, 0))) (u : Value) : (w.setCell ⟨b, i, none⟩ u).heap[b]? = some (.cells (cs.setIfInBounds i u) t (0, 0)) := by
  simp [World.setCell, Array.getElem?_modify, h]
theorem box_other {w : World} {b : Nat} {o : Obj} (h : w.heap[b]? = some o) (p : Addr) (u : Value) (hne : b ≠ p.block) : (w.setCell p u).heap[b]? = some o := (Below.heap_setCell w p u b hne).trans h
theorem Turned.set {S : Nat → Prop} (w : World) (p : Addr) (u : Value) (h : S p.block) : Turned S w (w.setCell p u) :=
  ⟨rfl, rfl, rfl, by simp [World.setCell], fun k _ hn => Below.heap_setCell w p u k (fun e => hn (by rw [e]; exact h))⟩
theorem far1 {w : World} {b k i j : Nat} {u v : Value} (hne : k ≠ b) (h : w.cell? ⟨k, i, none⟩ = some v) : (w.setCell ⟨b, j, none⟩ u).cell? ⟨k, i, none⟩ = some v := by
  rw [World.cell?_setCell_other]
  · exact h
  · intro e; injection e with e _ _; exact hne e.symm
theorem far3 {w : World} {b k i : Nat} {u0 u1 u2 v : Value} (hne : k ≠ b) (h : w.cell? ⟨k, i, none⟩ = some v) : ((((w.setCell ⟨b, 0, none⟩ u0).setCell ⟨b, 1, none⟩ u1).setCell ⟨b, 2, none⟩ u2).drew).cell? ⟨k, i, none⟩ = some v :=
  far1 hne (far1 hne (far1 hne h))
theorem cell_keep {w w' : World} {p : Addr} {u : Value} (hb : Below w.heap.size w w') (h : w.cell? p = some u) : w'.cell? p = some u :=
  (hb.cell (World.block_lt_of_cell? w p h)).trans h
theorem undrew {B : Nat} {a w : World} (h : Below B a.drew w) : Below B a w := ⟨h.os, h.tape, h.output, h.size, h.block⟩
theorem bel1 (w : World) (o : Obj) : Below w.heap.size w (w.alloc o) := (Below.refl _ _).alloc (Nat.le_refl _) _
theorem bel2 (w : World) (o p : Obj) : Below w.heap.size w ((w.alloc o).alloc p) := (bel1 w o).alloc (by simp) _
theorem bel3 (w : World) (o p q : Obj) : Below w.heap.size w (((w.alloc o).alloc p).alloc q) := (bel2 w o p).alloc (by simp; omega) _
theorem bel_then {B : Nat} {a b c : World} (h : Below B a b) (k : Below b.heap.size b c) (hB : B ≤ b.heap.size) : Below B a c := h.trans (k.mono hB)
structure Ty where
  D : Type
  Rd : World → Nat → Value → D → Prop
  Own : World → (Nat → Prop) → Value → D → Prop
  Few : D → Prop
  cnt : D → Nat
  mark : Int → D → D
  rd_below : ∀ {w w' : World} {B C : Nat} {v : Value} {d : D}, Rd w B v d → Below C w w' → B ≤ C → Rd w' B v d
  own_rd : ∀ {w : World} {S : Nat → Prop} {v : Value} {d : D} (B : Nat), Own w S v d → (∀ k, S k → k < B) → Rd w B v d
  own_same : ∀ {w w' : World} {S : Nat → Prop} {v : Value} {d : D}, Own w S v d → (∀ k, S k → w'.heap[k]? = w.heap[k]?) → Own w' S v d
  few_cnt : ∀ {d : D}, Few d → cnt d ≤ 20000000
structure Has (T : Ty) (w : World) (lo hi : Nat) (S : Nat → Prop) (v : Value) (d : T.D) : Prop where
  own : T.Own w S v d
  inn : ∀ k, S k → lo ≤ k ∧ k < hi
  hi : hi ≤ w.heap.size
section
variable {T : Ty} {w w' : World} {lo hi : Nat} {S S' : Nat → Prop} {v : Value} {d : T.D}
theorem Has.rd (h : Has T w lo hi S v d) : T.Rd w w.heap.size v d := T.own_rd _ h.own (fun k hk => by have := h.inn k hk; have := h.hi; omega)
theorem Has.below (h : Has T w lo hi S v d) (hb : Below w.heap.size w w') : Has T w' lo hi S v d :=
  ⟨T.own_same h.own (fun k hk => hb.block k (by have := h.inn k hk; have := h.hi; omega)), h.inn, Nat.le_trans h.hi hb.size⟩
theorem Has.alloc (h : Has T w lo hi S v d) (o : Obj) : Has T (w.alloc o) lo hi S v d := h.below (bel1 w o)
theorem Has.turned (h : Has T w lo hi S v d) (ht : Turned S' w w') (hn : ∀ k, S k → ¬ S' k) : Has T w' lo hi S v d :=
  ⟨T.own_same h.own (fun k hk => ht.block k (by have := h.inn k hk; have := h.hi; omega) (hn k hk)), h.inn, Nat.le_trans h.hi ht.size⟩
theorem Has.drew (h : Has T w lo hi S v d) : Has T w.drew lo hi S v d := ⟨T.own_same h.own (fun k hk => rfl), h.inn, h.hi⟩
end
def Made (T : Ty) (d : T.D) (w : World) (e : Ending) (w' : World) : Prop := ∃ v' S, e = .returned v' ∧ Has T w' w.heap.size w'.heap.size S v' d ∧ Below w.heap.size w w'
def Made1 (T : Ty) (d : T.D) (x : Value) (w : World) (e : Ending) (w' : World) : Prop := ∃ v' S, e = .returned (.tuple #[v', x]) ∧ Has T w' w.heap.size w'.heap.size S v' d ∧ Below w.heap.size w w'
def Says (x : Value) (w : World) (e : Ending) (w' : World) : Prop := e = .returned x ∧ Below w.heap.size w w'
def SzAns (T : Ty) (d : T.D) (w : World) (e : Ending) (w' : World) : Prop := ∃ r : Int, e = .returned (.int .i64 r) ∧ Below w.heap.size w w' ∧ (r = -1 ∨ (0 ≤ r ∧ r ≤ 1048576 ∧ T.Few d))
def ToC (f : Nat) (T : Ty) : Prop := ∀ (w : World) (B : Nat) (v : Value) (d : T.D), T.Rd w B v d → B ≤ w.heap.size → T.Few d → Calls Tryz.prog f #[v] w (Made T d w)
def EqC (f : Nat) (T : Ty) : Prop := ∀ (w : World) (B B' : Nat) (v v' : Value) (d : T.D), T.Rd w B v d → T.Rd w B' v' d → B ≤ w.heap.size → B' ≤ w.heap.size → T.Few d → Calls Tryz.prog f #[v, v'] w (Says (.bool true) w)
def MarkC (f : Nat) (T : Ty) : Prop := ∀ (w : World) (lo hi : Nat) (S : Nat → Prop) (v : Value) (d : T.D) (k : Int), Has T w lo hi S v d → T.Few d → 0 ≤ k → k ≤ 200000000 →
  Calls Tryz.prog f #[v, .int .i64 k] w fun e w' => e = .returned (.int .i64 (k + T.cnt d)) ∧ Has T w' lo hi S v (T.mark k d) ∧ Turned S w w'
def HeldC (f : Nat) (T : Ty) : Prop := ∀ (w : World) (B : Nat) (v : Value) (d : T.D) (k : Int), T.Rd w B v (T.mark k d) → B ≤ w.heap.size → T.Few d → 0 ≤ k → k ≤ 200000000 →
  Calls Tryz.prog f #[v, .int .i64 k] w (Says (.int .i64 (k + T.cnt d)) w)
def SzC (f : Nat) (T : Ty) (v : Value) (d : T.D) (w : World) : Prop := ∀ (W : World) (k : Int), Below w.heap.size w W → 0 ≤ k → k ≤ 1048576 → Calls Tryz.prog f #[v, .int .i64 k] W (SzAns T d W)
end Go.Proofs.YtklgjjmcflgjeaaGreatDoor.LK
namespace Go.Proofs.YtklgjjmcflgjeaaGreatDoor.Pods
open Go.ChangeShapes Go.WideShapes Go.ChangeAt Go.RowKit
open LK
abbrev Pd := Int × Int × Int × Int × Int
abbrev PList := List Pd
def z5 : Pd := (0, 0, 0, 0, 0)
def cells5 (p : Pd) : List Value := [.int .i64 p.1, .int .i64 p.2.1, .int .i64 p.2.2.1, .int .i64 p.2.2.2.1, .int .i64 p.2.2.2.2]
def podV (p : Pd) : Value := .agg (cells5 p).toArray
def flat (ps : PList) : List Value := ps.flatMap cells5
theorem cells5_len (p : Pd) : (cells5 p).length = 5 := rfl
theorem flat_cons (p : Pd) (ps : PList) : flat (p :: ps) = cells5 p ++ flat ps := by simp [flat]
theorem flat_len (ps : PList) : (flat ps).length = ps.length * 5 := by
  induction ps with
  | nil => rfl
  | cons x l ih => rw [flat_cons, List.length_append, cells5_len, ih]; simp; omega
theorem flat_app (a b : PList) : flat (a ++ b) = flat a ++ flat b := by simp [flat]
theorem flat_one (p : Pd) : flat [p] = cells5 p := by simp [flat]
theorem flat_at (ps : PList) (j i : Nat) (h : j < ps.length) (hi : i < 5) : (flat ps)[j * 5 + i]? = (cells5 (ps.getD j z5))[i]? := by
  induction ps generalizing j with
  | nil => simp at h
  | cons x l ih =>
    rw [flat_cons]
    cases j with
    | zero =>
      rw [List.getElem?_append_left (by rw [cells5_len]; omega)]
      simp [List.getD]
    | succ j =>
      rw [List.getElem?_append_right (by rw [cells5_len]; omega), cells5_len]
      have e : (j + 1) * 5 + i - 5 = j * 5 + i := by omega
      rw [e, ih j (by simpa using h)]
      simp [List.getD]
def Cell5 (w : World) (b o : Nat) (p : Pd) : Prop :=
  w.cell? ⟨b, o, none⟩ = some (.int .i64 p.1) ∧ w.cell? ⟨b, o + 1, none⟩ = some (.int .i64 p.2.1) ∧ w.cell? ⟨b, o + 2, none⟩ = some (.int .i64 p.2.2.1) ∧ w.cell? ⟨b, o + 3, none⟩ = some (.int .i64 p.2.2.2.1) ∧ w.cell? ⟨b, o + 4, none⟩ = some (.int .i64 p.2.2.2.2)
def IsPods (w : World) (B : Nat) (A : Option Addr) (n : Nat) (ps : PList) : Prop :=
  ps.length = n ∧ (0 < n → ∃ b off, A = some ⟨b, off, none⟩ ∧ b < B ∧ ∀ j, j < n → Cell5 w b (off + j * 5) (ps.getD j z5))
section
variable {w w' : World} {B C : Nat} {A : Option Addr} {n : Nat} {ps : PList}
theorem IsPods.keep (h : IsPods w B A n ps) (hk : ∀ p : Addr, p.block < B → w'.cell? p = w.cell? p) : IsPods w' B A n ps :=
  ⟨h.1, fun hn => by
    obtain ⟨b, off, e, hlt, hc⟩ := h.2 hn
    refine ⟨b, off, e, hlt, fun j hj => ?_⟩
    obtain ⟨h0, h1, h2, h3, h4⟩ := hc j hj
    exact ⟨(hk ⟨b, _, none⟩ hlt).trans h0, (hk ⟨b, _, none⟩ hlt).trans h1, (hk ⟨b, _, none⟩ hlt).trans h2, (hk ⟨b, _, none⟩ hlt).trans h3, (hk ⟨b, _, none⟩ hlt).trans h4⟩⟩
theorem IsPods.below (h : IsPods w B A n ps) (hb : Below C w w') (hC : B ≤ C) : IsPods w' B A n ps := h.keep fun p hp => hb.cell (by omega)
theorem IsPods.more (h : IsPods w B A n ps) (hC : B ≤ C) : IsPods w C A n ps :=
  ⟨h.1, fun hn => by
    obtain ⟨b, off, e, hlt, hc⟩ := h.2 hn
    exact ⟨b, off, e, by omega, hc⟩⟩
theorem IsPods.at_ {k : Nat} (h : IsPods w B A n ps) (hk : k < n) : ∃ b off x0 x1 x2 x3 x4, A = some ⟨b, off, none⟩ ∧ b < B ∧ ps.getD k z5 = (x0, x1, x2, x3, x4) ∧
    w.cell? ⟨b, off + k * 5, none⟩ = some (.int .i64 x0) ∧ w.cell? ⟨b, off + k * 5 + 1, none⟩ = some (.int .i64 x1) ∧ w.cell? ⟨b, off + k * 5 + 2, none⟩ = some (.int .i64 x2) ∧ w.cell? ⟨b, off + k * 5 + 3, none⟩ = some (.int .i64 x3) ∧ w.cell? ⟨b, off + k * 5 + 4, none⟩ = some (.int .i64 x4) := by
  obtain ⟨b, off, e, hlt, hc⟩ := h.2 (by omega)
  obtain ⟨h0, h1, h2, h3, h4⟩ := hc k hk
  exact ⟨b, off, _, _, _, _, _, e, hlt, rfl, h0, h1, h2, h3, h4⟩
theorem IsPods.nil (w : World) (B : Nat) (A : Option Addr) : IsPods w B A 0 [] := ⟨rfl, fun h => absurd h (by omega)⟩
end
def OwnP (w : World) (lo : Nat) (A : Option Addr) (n c : Nat) (ps : PList) : Prop := ps.length = n ∧ w.ownsRow lo 96 5 (.slice A n c) n (flat ps)
section
variable {w w' : World} {lo B : Nat} {A : Option Addr} {n c : Nat} {ps : PList}
theorem OwnP.lt (h : OwnP w lo A n c ps) (k : Nat) (hk : (Value.slice A n c).ownBlock = some k) : lo ≤ k ∧ k < w.heap.size := h.2.lt k hk
theorem OwnP.base {lo' : Nat} (h : OwnP w lo A n c ps) (hb : ∀ k, (Value.slice A n c).ownBlock = some k → lo' ≤ k) : OwnP w lo' A n c ps := by
  refine ⟨h.1, h.2.1, ?_⟩
  rcases h.2.2 with h0 | ⟨g, cap, cur, h3, h4, h5⟩
  · exact .inl h0
  · exact .inr ⟨g, cap, cur, h3, hb g (by rw [h3]; rfl), h5⟩
theorem OwnP.zero (h : OwnP w lo A n c ps) : OwnP w 0 A n c ps := h.base fun _ _ => Nat.zero_le _
theorem OwnP.same (h : OwnP w lo A n c ps) (hs : ∀ k, (Value.slice A n c).ownBlock = some k → w'.heap[k]? = w.heap[k]?) : OwnP w' lo A n c ps := by
  refine ⟨h.1, h.2.1, ?_⟩
  rcases h.2.2 with h0 | ⟨g, cap, cur, h3, h4, h5, h6⟩
  · exact .inl h0
  · refine .inr ⟨g, cap, cur, h3, h4, ?_, h6⟩
    rw [hs g (by rw [h3]; rfl)]; exact h5
theorem OwnP.below (h : OwnP w lo A n c ps) (hb : Below w.heap.size w w') : OwnP w' lo A n c ps := h.same fun k hk => hb.block k (h.lt k hk).2
theorem OwnP.pods (h : OwnP w lo A n c ps) (hs : ∀ k, (Value.slice A n c).ownBlock = some k → k < B) : IsPods w B A n ps := by
  refine ⟨h.1, fun hn => ?_⟩
  obtain ⟨g, cap, hv, _, hlt⟩ := h.2.form hn
  have hA : A = some ⟨g, 0, none⟩ := by injection hv
  subst hA
  refine ⟨g, 0, rfl, hs g rfl, fun j hj => ?_⟩
  have hl := h.1
  have hf := fun i hi => flat_at ps j i (by omega) hi
  refine ⟨?_, ?_, ?_, ?_, ?_⟩
  · rw [Nat.zero_add, h.2.cellAt (j * 5) (by omega)]; exact hf 0 (by omega)
  · rw [Nat.zero_add, h.2.cellAt (j * 5 + 1) (by omega)]; exact hf 1 (by omega)
  · rw [Nat.zero_add, h.2.cellAt (j * 5 + 2) (by omega)]; exact hf 2 (by omega)
  · rw [Nat.zero_add, h.2.cellAt (j * 5 + 3) (by omega)]; exact hf 3 (by omega)
  · rw [Nat.zero_add, h.2.cellAt (j * 5 + 4) (by omega)]; exact hf 4 (by omega)
theorem OwnP.nil (w : World) (lo : Nat) : OwnP w lo none 0 0 [] := ⟨rfl, World.ownsRow_nil _ _ _ _⟩
theorem OwnP.at0 (h : OwnP w lo A n c ps) (hn : 0 < n) : ∃ g, A = some ⟨g, 0, none⟩ ∧ lo ≤ g ∧ g < w.heap.size := by
  obtain ⟨g, cap, hv, hb, hlt⟩ := h.2.form hn
  exact ⟨g, by injection hv, hb, hlt⟩
end
def set5 (w : World) (g o : Nat) (p : Pd) : World := ((((w.setCell ⟨g, o, none⟩ (.int .i64 p.1)).setCell ⟨g, o + 1, none⟩ (.int .i64 p.2.1)).setCell ⟨g, o + 2, none⟩ (.int .i64 p.2.2.1)).setCell ⟨g, o + 3, none⟩ (.int .i64 p.2.2.2.1)).setCell ⟨g, o + 4, none⟩ (.int .i64 p.2.2.2.2)
theorem flat_set (ps : PList) (j : Nat) (p : Pd) : (((((flat ps).set (j * 5) (.int .i64 p.1)).set (j * 5 + 1) (.int .i64 p.2.1)).set (j * 5 + 2) (.int .i64 p.2.2.1)).set (j * 5 + 3) (.int .i64 p.2.2.2.1)).set (j * 5 + 4) (.int .i64 p.2.2.2.2) = flat (ps.set j p) := by
  induction ps generalizing j with
  | nil => simp [flat]
  | cons a l ih =>
    cases j with
    | zero => simp [flat_cons, cells5]
    | succ j =>
      have e0 : (j + 1) * 5 = j * 5 + 1 + 1 + 1 + 1 + 1 := by omega
      have e1 : (j + 1) * 5 + 1 = j * 5 + 1 + 1 + 1 + 1 + 1 + 1 := by omega
      have e2 : (j + 1) * 5 + 2 = j * 5 + 2 + 1 + 1 + 1 + 1 + 1 := by omega
      have e3 : (j + 1) * 5 + 3 = j * 5 + 3 + 1 + 1 + 1 + 1 + 1 := by omega
      have e4 : (j + 1) * 5 + 4 = j * 5 + 4 + 1 + 1 + 1 + 1 + 1 := by omega
      rw [e1, e2, e3, e4, e0, List.set_cons_succ, flat_cons, flat_cons, ← ih j]
      simp only [cells5, List.cons_append, List.nil_append, List.set_cons_succ]
theorem own_cells5 {w : World} {base : Nat} {g n cap k : Nat} {ps : PList} (h : OwnP w base (some ⟨g, 0, none⟩) n cap ps) (hk : k < n) :
    (∃ u, w.cell? ⟨g, k * 5, none⟩ = some u) ∧ (∃ u, w.cell? ⟨g, k * 5 + 1, none⟩ = some u) ∧ (∃ u, w.cell? ⟨g, k * 5 + 2, none⟩ = some u) ∧ (∃ u, w.cell? ⟨g, k * 5 + 3, none⟩ = some u) ∧ (∃ u, w.cell? ⟨g, k * 5 + 4, none⟩ = some u) ∧
    (∀ i, w.frozen? ⟨g, i, none⟩ = false) ∧ ∀ p, OwnP (set5 w g (k * 5) p) base (some ⟨g, 0, none⟩) n cap (ps.set k p) := by
  have hl := h.2.1
  refine ⟨⟨_, (h.2.cellAt (k * 5) (by omega)).trans (List.getElem?_eq_getElem (by omega))⟩, ⟨_, (h.2.cellAt (k * 5 + 1) (by omega)).trans (List.getElem?_eq_getElem (by omega))⟩, ⟨_, (h.2.cellAt (k * 5 + 2) (by omega)).trans (List.getElem?_eq_getElem (by omega))⟩,
    ⟨_, (h.2.cellAt (k * 5 + 3) (by omega)).trans (List.getElem?_eq_getElem (by omega))⟩, ⟨_, (h.2.cellAt (k * 5 + 4) (by omega)).trans (List.getElem?_eq_getElem (by omega))⟩, fun i => h.2.frozenAt _, fun p => ⟨by simpa using h.1, ?_⟩⟩
  rw [← flat_set]
  exact (((((h.2.stored (k * 5) (.int .i64 p.1)).1.stored (k * 5 + 1) (.int .i64 p.2.1)).1.stored (k * 5 + 2) (.int .i64 p.2.2.1)).1.stored (k * 5 + 3) (.int .i64 p.2.2.2.1)).1.stored (k * 5 + 4) (.int .i64 p.2.2.2.2)).1
theorem set5_size (w : World) (g o : Nat) (p : Pd) : (set5 w g o p).heap.size = w.heap.size := by simp [set5, World.setCell]
theorem set5_below {B : Nat} {a w : World} (hb : Below B a w) (g o : Nat) (p : Pd) (h : B ≤ g) : Below B a (set5 w g o p) :=
  ((((hb.setCell (p := ⟨g, o, none⟩) h _).setCell (p := ⟨g, o + 1, none⟩) h _).setCell (p := ⟨g, o + 2, none⟩) h _).setCell (p := ⟨g, o + 3, none⟩) h _).setCell (p := ⟨g, o + 4, none⟩) h _
theorem set5_grown {w : World} (g o : Nat) (p : Pd) {a : World} (h : a.grownBy w (some g)) : a.grownBy (set5 w g o p) (some g) := by
  have one : ∀ {w : World} (i : Nat) (u : Value), a.grownBy w (some g) → a.grownBy (w.setCell ⟨g, i, none⟩ u) (some g) := fun i u h =>
    ⟨h.os, h.tape, h.output, by simpa [World.setCell] using h.size, fun q hq hne => (Below.heap_setCell _ _ _ _ (fun e => hne (by rw [e]))).trans (h.block q hq hne)⟩
  exact one _ _ (one _ _ (one _ _ (one _ _ (one _ _ h))))
def part (ps : PList) (k : Nat) : PList := ps.take k ++ List.replicate (ps.length - k) z5
theorem part_set (ps : PList) (k : Nat) (h : k < ps.length) : (part ps k).set k (ps.getD k z5) = part ps (k + 1) := by
  unfold part
  rw [List.set_append_right _ _ (by simp; omega)]
  have e : k - (ps.take k).length = 0 := by simp; omega
  have e2 : ps.length - k = (ps.length - (k + 1)) + 1 := by omega
  have e3 : ps.getD k z5 = ps[k] := by simp [List.getD, h]
  rw [e, e2, List.replicate_succ, List.set_cons_zero, List.take_succ_eq_append_getElem h, e3, List.append_assoc]
  rfl
theorem part_zero (ps : PList) : part ps 0 = List.replicate ps.length z5 := by simp [part]
theorem part_all (ps : PList) : part ps ps.length = ps := by simp [part]
theorem made_flat (n : Nat) : (madeCells (Value.agg #[.int .i64 0, .int .i64 0, .int .i64 0, .int .i64 0, .int .i64 0]).cells (n * 5)).toList = flat (List.replicate n z5) := by
  apply List.ext_getElem?
  intro j
  have hc : (Value.agg #[.int .i64 0, .int .i64 0, .int .i64 0, .int .i64 0, .int .i64 0]).cells = #[.int .i64 0, .int .i64 0, .int .i64 0, .int .i64 0, .int .i64 0] := rfl
  rw [hc]
  have hl : (flat (List.replicate n z5)).length = n * 5 := by rw [flat_len]; simp
  by_cases hj : j < n * 5
  · have hh : j / 5 < n := by omega
    have hf := flat_at (List.replicate n z5) (j / 5) (j % 5) (by simpa using hh) (by omega)
    have hg : (List.replicate n z5).getD (j / 5) z5 = z5 := by simp [List.getD, hh]
    have he : j / 5 * 5 + j % 5 = j := by omega
    rw [hg, he] at hf
    have hm : (madeCells #[Value.int .i64 0, .int .i64 0, .int .i64 0, .int .i64 0, .int .i64 0] (n * 5)).toList[j]? = some (.int .i64 0) := by
      rcases (by omega : j % 5 = 0 ∨ j % 5 = 1 ∨ j % 5 = 2 ∨ j % 5 = 3 ∨ j % 5 = 4) with h0 | h0 | h0 | h0 | h0 <;> simp [madeCells, hj, h0]
    rw [hm, hf]
    rcases (by omega : j % 5 = 0 ∨ j % 5 = 1 ∨ j % 5 = 2 ∨ j % 5 = 3 ∨ j % 5 = 4) with h0 | h0 | h0 | h0 | h0 <;> rw [h0] <;> rfl
  · rw [List.getElem?_eq_none (l := flat _) (by omega), List.getElem?_eq_none]
    simp [madeCells]; omega
theorem infoP : (Tryz.prog.info? 96).map (fun i => (i.zero, i.size, i.bytes)) = some (some (.agg #[.int .i64 0, .int .i64 0, .int .i64 0, .int .i64 0, .int .i64 0]), 5, 40) := by kernel_rfl
theorem ret_int {k : IntKind} {a b : Int} (h : a = b) : Ending.returned (.int k a) = .returned (.int k b) := by rw [h]
set_option maxHeartbeats 800000 in
theorem toPod_any (x0 x1 x2 x3 x4 : Int) (w : World) :
    Calls Tryz.prog 210 #[.agg #[.int .i64 x0, .int .i64 x1, .int .i64 x2, .int .i64 x3, .int .i64 x4]] w fun e w' => e = .returned (.agg #[.int .i64 x0, .int .i64 x1, .int .i64 x2, .int .i64 x3, .int .i64 x4]) ∧ Below w.heap.size w w' := by
  go_enter Tryz.func210, Tryz.ntmps210
  go_wp2
  exact bodyPost_ret (v := .agg #[.int .i64 x0, .int .i64 x1, .int .i64 x2, .int .i64 x3, .int .i64 x4]) (by simp [results, Tryz.results210, go_sem]) rfl ⟨rfl, bel3 _ _ _ _⟩
set_option maxHeartbeats 800000 in
theorem eqPod_same (x0 x1 x2 x3 x4 : Int) (w : World) :
    Calls Tryz.prog 211 #[.agg #[.int .i64 x0, .int .i64 x1, .int .i64 x2, .int .i64 x3, .int .i64 x4], .agg #[.int .i64 x0, .int .i64 x1, .int .i64 x2, .int .i64 x3, .int .i64 x4]] w (Says (.bool true) w) := by
  go_enter Tryz.func211, Tryz.ntmps211
  go_wp2
  go_ret
  exact ⟨rfl, bel2 _ _ _⟩
set_option maxHeartbeats 1600000 in
theorem toPodS_any (A : Option Addr) (n cap : Nat) (ps : PList) (B : Nat) (w : World) (hr : IsPods w B A n ps) (hB : B ≤ w.heap.size) (hn : n ≤ 1048576) :
    Calls Tryz.prog 171 #[.slice A n cap] w fun e w' => ∃ g, e = .returned (.slice (some ⟨g, 0, none⟩) n n) ∧ OwnP w' w.heap.size (some ⟨g, 0, none⟩) n n ps ∧ Below w.heap.size w w' := by
  obtain ⟨i0, hi, hz0, hz1, hz2⟩ := info_parts infoP
  have HLen : Hid (ps.length = n) := hr.1
  go_enter Tryz.func171, Tryz.ntmps171
  go_wp2_with (at_make; refine wpList_make_full _ rfl _ _ 33 rfl w.heap.size 96 i0 (.agg #[.int .i64 0, .int .i64 0, .int .i64 0, .int .i64 0, .int .i64 0]) 5 Tryz.underlying33 hi hz0 hz1 _ _ _ _ n rfl rfl rfl rfl ?b1 ?b2 ?b3 ?_)
  case b1 => rw [hz2]; omega
  case b2 => unfold maxLen; omega
  case b3 => exact Nat.le_refl _
  intro w1 hown hgrow
  have hbel : Below w.heap.size w w1 := (Below.refl _ _).grown hgrow (Nat.le_refl _) (by intro k h; cases h)
  have hown0 : OwnP w1 w.heap.size (some ⟨w.heap.size, 0, none⟩) n n (part ps 0) := by
    refine ⟨by rw [part_zero, HLen.out]; simp, ?_⟩
    rw [part_zero, HLen.out, ← made_flat]; exact hown
  have hsz : w.heap.size < w1.heap.size := Ints.own_lt hown
  clear hgrow hi hz0 hz1 hz2 hown
  go_wp2_with fail
  go_loopw [4] (fun i wr => ∃ k : Nat, k ≤ n ∧ i = .int .i64 k ∧ Hid (OwnP wr w.heap.size (some ⟨w.heap.size, 0, none⟩) n n (part ps k)) ∧ Below w.heap.size w wr ∧ w.heap.size < wr.heap.size) (fun i _ => n - (RowKit.intOf i).toNat)
  case atStart => exact ⟨0, Nat.zero_le _, rfl, hown0, hbel, hsz⟩
  case round =>
    obtain ⟨k, hk, rfl, HO, hbr, hszr⟩ := hrel
    by_cases hlt : k < n
    · obtain ⟨b, off, x0, x1, x2, x3, x4, rfl, hbB, hz, hc0, hc1, hc2, hc3, hc4⟩ := (hr.below hbr hB).at_ hlt
      have HZ := Lib.hid hz
      clear hz
      go_wp2_with fail
      refine (toPod_any _ _ _ _ _ _).mono ?_
      rintro e w2 ⟨rfl, hb2⟩
      obtain ⟨⟨u0, hu0⟩, ⟨u1, hu1⟩, ⟨u2, hu2⟩, ⟨u3, hu3⟩, ⟨u4, hu4⟩, hf, hst⟩ := own_cells5 (HO.out.below hb2) hlt
      have hf0 := hf (k * 5)
      have hf1 := hf (k * 5 + 1)
      have hf2 := hf (k * 5 + 2)
      have hf3 := hf (k * 5 + 3)
      have hf4 := hf (k * 5 + 4)
      have HST := Lib.hid hst
      clear hst hf
      have hbr2 : Below w.heap.size w w2 := hbr.trans (hb2.mono hbr.size)
      have hszr2 : w.heap.size < w2.heap.size := Nat.lt_of_lt_of_le hszr hb2.size
      go_wp2
      go_roundw
      case rel =>
        have h1 := HST.out (x0, x1, x2, x3, x4)
        rw [← HZ.out, part_set ps k (by rw [HLen.out]; omega), HZ.out] at h1
        have h2 : w.heap.size < (set5 w2 w.heap.size (k * 5) (x0, x1, x2, x3, x4)).heap.size := by rw [set5_size]; exact hszr2
        exact ⟨k + 1, by omega, by go_num, h1, set5_below hbr2 w.heap.size (k * 5) (x0, x1, x2, x3, x4) (Nat.le_refl _), h2⟩
      case measure => simp [RowKit.intOf]; omega
    · have hkn : k = n := by omega
      have HK := Lib.hid hkn
      clear hkn
      go_wp2
      go_ret
      have hl := HLen.out
      refine ⟨w.heap.size, rfl, ?_, hbr⟩
      have h1 := HO.out
      rw [HK.out, ← hl, part_all] at h1
      rw [← hl]
      exact h1
set_option maxHeartbeats 1600000 in
theorem eqPodS_same (A C : Option Addr) (n cap cap' : Nat) (ps : PList) (B B' : Nat) (w : World) (hr : IsPods w B A n ps) (hs : IsPods w B' C n ps) (hB : B ≤ w.heap.size) (hB' : B' ≤ w.heap.size) (hn : n ≤ 1048576) :
    Calls Tryz.prog 172 #[.slice A n cap, .slice C n cap'] w (Says (.bool true) w) := by
  go_enter Tryz.func172, Tryz.ntmps172
  go_wp2_with fail
  go_loopw [5] (fun i wr => ∃ k : Nat, k ≤ n ∧ i = .int .i64 k ∧ Below w.heap.size w wr) (fun i _ => n - (RowKit.intOf i).toNat)
  case atStart => exact ⟨0, Nat.zero_le _, rfl, Below.refl _ _⟩
  case round =>
    obtain ⟨k, hk, rfl, hbr⟩ := hrel
    by_cases hlt : k < n
    · obtain ⟨b, off, x0, x1, x2, x3, x4, rfl, hbB, hz, hc0, hc1, hc2, hc3, hc4⟩ := (hr.below hbr hB).at_ hlt
      obtain ⟨b', off', y0, y1, y2, y3, y4, rfl, hbB', hz', hd0, hd1, hd2, hd3, hd4⟩ := (hs.below hbr hB').at_ hlt
      have he : (x0, x1, x2, x3, x4) = (y0, y1, y2, y3, y4) := hz.symm.trans hz'
      simp only [Prod.mk.injEq] at he
      obtain ⟨rfl, rfl, rfl, rfl, rfl⟩ := he
      clear hz hz' hr hs
      go_wp2_with fail
      go_region_held3 (fun w' => w'.cell? ⟨b, off + k * 5, none⟩ = some (.int .i64 x0) ∧ w'.cell? ⟨b, off + k * 5 + 1, none⟩ = some (.int .i64 x1) ∧ w'.cell? ⟨b, off + k * 5 + 2, none⟩ = some (.int .i64 x2) ∧ w'.cell? ⟨b, off + k * 5 + 3, none⟩ = some (.int .i64 x3) ∧ w'.cell? ⟨b, off + k * 5 + 4, none⟩ = some (.int .i64 x4) ∧ w'.cell? ⟨b', off' + k * 5, none⟩ = some (.int .i64 x0) ∧ w'.cell? ⟨b', off' + k * 5 + 1, none⟩ = some (.int .i64 x1) ∧ w'.cell? ⟨b', off' + k * 5 + 2, none⟩ = some (.int .i64 x2) ∧ w'.cell? ⟨b', off' + k * 5 + 3, none⟩ = some (.int .i64 x3) ∧ w'.cell? ⟨b', off' + k * 5 + 4, none⟩ = some (.int .i64 x4)) (first | go_keep | (refine ⟨cell_keep hb2 ?_, cell_keep hb2 ?_, cell_keep hb2 ?_, cell_keep hb2 ?_, cell_keep hb2 ?_, cell_keep hb2 ?_, cell_keep hb2 ?_, cell_keep hb2 ?_, cell_keep hb2 ?_, cell_keep hb2 ?_⟩ <;> simp only [*]))
        (first | (go_at_call 211; refine (eqPod_same _ _ _ _ _ _).mono ?_; rintro e w2 ⟨rfl, hb2⟩))
      have hbr2 : Below w.heap.size w w2 := hbr.drew.trans (hb2.mono hbr.size)
      go_wp2
      go_roundw
      case rel => exact ⟨k + 1, by omega, by go_num, hbr2⟩
      case measure => simp [RowKit.intOf]; omega
    · go_wp2
      go_ret
      exact ⟨rfl, hbr⟩
theorem szPodS_any (A : Option Addr) (n c : Nat) (k : Int) (w : World) (hn : n ≤ maxLen) (hk0 : 0 ≤ k) (hk1 : k ≤ 1048576) :
    Calls Tryz.prog 164 #[.slice A n c, .int .i64 k] w fun e w' => ∃ r : Int, e = .returned (.int .i64 r) ∧ (r = -1 ∨ (r = k - n ∧ 0 ≤ r)) ∧ w' = w := by
  have hm : (n : Int) ≤ 9223372036854775807 := by unfold maxLen at hn; omega
  by_cases h : k < n
  · have hd : decide (k - (n : Int) < 0) = true := by simp; omega
    go_enter Tryz.func164, Tryz.ntmps164
    go_wp2
    go_ret
    exact ⟨-1, rfl, .inl rfl, rfl⟩
  · have hd : decide (k - (n : Int) < 0) = false := by simp; omega
    have HK : Hid (0 ≤ k - (n : Int)) := (by omega : 0 ≤ k - (n : Int))
    go_enter Tryz.func164, Tryz.ntmps164
    go_wp2
    go_ret
    exact ⟨k - n, rfl, .inr ⟨rfl, HK.out⟩, rfl⟩
def markP (x : Int) : Pd := (x, x + 1, x + 2, x + 3, x + 4)
def marksP (k : Int) (n : Nat) : PList := (List.range n).map fun (i : Nat) => markP (k + 5 * (i : Int))
theorem marksP_len (k : Int) (n : Nat) : (marksP k n).length = n := by simp [marksP]
theorem marksP_at (k : Int) (n j : Nat) (h : j < n) : (marksP k n).getD j z5 = markP (k + 5 * j) := by simp [marksP, List.getD, h]
def partM (ps : PList) (k : Int) (j : Nat) : PList := marksP k j ++ ps.drop j
theorem marksP_succ (k : Int) (j : Nat) : marksP k (j + 1) = marksP k j ++ [markP (k + 5 * j)] := by simp [marksP, List.range_succ]
theorem partM_set (ps : PList) (k : Int) (j : Nat) (h : j < ps.length) : (partM ps k j).set j (markP (k + 5 * j)) = partM ps k (j + 1) := by
  unfold partM
  rw [List.set_append_right _ _ (by simp [marksP_len])]
  have e : j - (marksP k j).length = 0 := by simp [marksP_len]
  rw [e, List.drop_eq_getElem_cons h, List.set_cons_zero, marksP_succ, List.append_assoc]
  rfl
theorem partM_zero (ps : PList) (k : Int) : partM ps k 0 = ps := by simp [partM, marksP]
theorem partM_all (ps : PList) (k : Int) : partM ps k ps.length = marksP k ps.length := by simp [partM]
set_option maxHeartbeats 3200000 in
theorem markPodS_any (A : Option Addr) (n c : Nat) (ps : PList) (lo : Nat) (k : Int) (w : World) (hO : OwnP w lo A n c ps) (hn : n ≤ 1048576) (h0 : 0 ≤ k) (h1 : k ≤ 300000000) :
    Calls Tryz.prog 173 #[.slice A n c, .int .i64 k] w fun e w' => e = .returned (.int .i64 (k + 5 * n)) ∧ OwnP w' lo A n c (marksP k n) ∧ w.grownBy w' (Value.slice A n c).ownBlock := by
  have HLen : Hid (ps.length = n) := hO.1
  by_cases hp : n = 0
  · have HE : Hid (n = 0) := hp
    have HO := Lib.hid hO
    have hz : ¬ (0 : Nat) < n := by omega
    clear hp hO
    go_enter Tryz.func173, Tryz.ntmps173
    go_wp2_with fail
    go_loop [1, 5] (fun q i => q = .int .i64 k ∧ i = .int .i64 (0 : Int)) (fun _ _ => 0)
    case atStart => exact ⟨rfl, rfl⟩
    case round =>
      obtain ⟨rfl, rfl⟩ := hrel
      go_wp2
      go_ret
      have hn0 := HE.out
      subst hn0
      have hts : ps = [] := List.eq_nil_of_length_eq_zero HLen.out
      refine ⟨ret_int (by omega), ?_, World.grownBy.refl _ _⟩
      have h5 := HO.out
      rw [hts] at h5
      exact h5
  · obtain ⟨g, rfl, hg0, hg⟩ := hO.at0 (by omega)
    have hgr : w.grownBy w (some g) := ⟨rfl, rfl, rfl, Nat.le_refl _, fun _ _ _ => rfl⟩
    have hO0 : OwnP w lo (some ⟨g, 0, none⟩) n c (partM ps k 0) := by rw [partM_zero]; exact hO
    have HP := Lib.hid hp
    clear hO hp
    go_enter Tryz.func173, Tryz.ntmps173
    go_wp2_with fail
    go_loopw [1, 5] (fun q i wr => ∃ (j : Nat) (x : Int), j ≤ n ∧ i = .int .i64 j ∧ q = .int .i64 x ∧ 0 ≤ x ∧ x ≤ k + 5 * j ∧ Hid (x = k + 5 * j) ∧ Hid (OwnP wr lo (some ⟨g, 0, none⟩) n c (partM ps k j)) ∧ Hid (w.grownBy wr (some g))) (fun _ i _ => n - (RowKit.intOf i).toNat)
    case atStart => exact ⟨0, k, Nat.zero_le _, rfl, rfl, h0, by omega, by simp [Hid], hO0, hgr⟩
    case round =>
      obtain ⟨j, x, hj, rfl, rfl, hx0, hx1, HX, HO, HG⟩ := hrel
      by_cases hlt : j < n
      · obtain ⟨⟨u0, hu0⟩, ⟨u1, hu1⟩, ⟨u2, hu2⟩, ⟨u3, hu3⟩, ⟨u4, hu4⟩, hf, hst⟩ := own_cells5 HO.out hlt
        have hf0 := hf (j * 5)
        have hf1 := hf (j * 5 + 1)
        have hf2 := hf (j * 5 + 2)
        have hf3 := hf (j * 5 + 3)
        have hf4 := hf (j * 5 + 4)
        have HST := Lib.hid hst
        clear hst hf
        go_wp2
        go_roundw
        case rel =>
          refine ⟨j + 1, x + 1 + 1 + 1 + 1 + 1, by omega, by go_num, rfl, by omega, by omega, by have := HX.out; show _ = _; omega, ?_, ?_⟩
          · have h2 := HST.out (x, x + 1, x + 1 + 1, x + 1 + 1 + 1, x + 1 + 1 + 1 + 1)
            have hm : (x, x + 1, x + 1 + 1, x + 1 + 1 + 1, x + 1 + 1 + 1 + 1) = markP (k + 5 * j) := by rw [← HX.out]; simp [markP]; omega
            have h3 := partM_set ps k j (by rw [HLen.out]; exact hlt)
            rw [← hm] at h3
            rw [h3] at h2
            exact h2
          · exact set5_grown g (j * 5) (x, x + 1, x + 1 + 1, x + 1 + 1 + 1, x + 1 + 1 + 1 + 1) HG.out
        case measure => simp [RowKit.intOf]; omega
      · have HJ : Hid (j = n) := (by omega : j = n)
        go_wp2
        go_ret
        have hx := HX.out
        have hj' := HJ.out
        subst hj'
        refine ⟨ret_int hx, ?_, HG.out⟩
        have h2 := HO.out
        rw [← HLen.out, partM_all] at h2
        rw [← HLen.out]
        exact h2
set_option maxHeartbeats 3200000 in
theorem heldPodS_any (A : Option Addr) (n c : Nat) (k : Int) (B : Nat) (w : World) (hr : IsPods w B A n (marksP k n)) (hn : n ≤ 1048576) (h0 : 0 ≤ k) (h1 : k ≤ 300000000) :
    Calls Tryz.prog 174 #[.slice A n c, .int .i64 k] w fun e w' => e = .returned (.int .i64 (k + 5 * n)) ∧ w' = w := by
  go_enter Tryz.func174, Tryz.ntmps174
  go_wp2_with fail
  go_loop [1, 5] (fun q i => ∃ (j : Nat) (x : Int), j ≤ n ∧ i = .int .i64 j ∧ q = .int .i64 x ∧ 0 ≤ x ∧ x ≤ k + 5 * j ∧ Hid (x = k + 5 * j)) (fun _ i => n - (RowKit.intOf i).toNat)
  case atStart => exact ⟨0, k, Nat.zero_le _, rfl, rfl, h0, by omega, by simp [Hid]⟩
  case round =>
    obtain ⟨j, x, hj, rfl, rfl, hx0, hx1, HX⟩ := hrel
    by_cases hlt : j < n
    · obtain ⟨b, off, x0, x1, x2, x3, x4, rfl, hbB, hz, hc0, hc1, hc2, hc3, hc4⟩ := hr.at_ hlt
      rw [marksP_at k n j hlt, ← HX.out] at hz
      simp only [markP, Prod.mk.injEq] at hz
      obtain ⟨rfl, rfl, rfl, rfl, rfl⟩ := hz
      have e2 : x + 1 + 1 = x + 2 := by omega
      have e3 : x + 2 + 1 = x + 3 := by omega
      have e4 : x + 3 + 1 = x + 4 := by omega
      clear hr
      go_wp2
      go_round
      case rel => exact ⟨j + 1, x + 5, by omega, by go_num, by go_num, by omega, by omega, by have := HX.out; show _ = _; omega⟩
      case measure => simp [RowKit.intOf]; omega
    · have HJ : Hid (j = n) := (by omega : j = n)
      go_wp2
      go_ret
      have hx := HX.out
      have hj' := HJ.out
      subst hj'
      exact ⟨ret_int hx, rfl⟩
end Go.Proofs.YtklgjjmcflgjeaaGreatDoor.Pods
namespace Go.Proofs.YtklgjjmcflgjeaaGreatDoor.FlatOpen
open Go.ChangeShapes Go.WideShapes Go.ChangeAt Go.RowKit Go.Joins Go.Deep
section
variable {H : Type} {enc : TypeId × Value → H} {w : World} {base : Nat} {spare : Nat → Bool} {held : Bool}
theorem trod_flat {t : TypeId} {fs : Array Field} {fuel : Nat} {cs : List Value} {x : DataW H × List MemPlace} (ht : Tryz.prog.underlying t = some (.struct fs)) (hC : Tryz.prog.cellsOf t = fs.size)
    (hall : ∀ (i : Nat) (f : Field), fs[i]? = some f → f.offset = i ∧ f.type = 3) (h : DataW.trod enc Tryz.prog w base spare held fuel t cs = some x) :
    ∃ l : List Int, l.length = fs.size ∧ cs = l.map (Value.int .i64) ∧ ∀ y ∈ l, (Lit.int .i64 y).wf = true := by
  obtain ⟨xs, n, _, _, hl, hlen, hf⟩ := DataW.trod_struct ht h
  rw [hC] at hl
  have hone : ∀ i, i < fs.size → ∃ y : Int, cs[i]? = some (.int .i64 y) ∧ (Lit.int .i64 y).wf = true := by
    intro i hi
    have hg : fs[i]? = some fs[i] := Array.getElem?_eq_getElem hi
    obtain ⟨ho, hty⟩ := hall i _ hg
    have hk := hf i _ hg
    have hc : Tryz.prog.cellsOf 3 = 1 := by kernel_rfl
    have hx : xs[i]? = some xs[i] := List.getElem?_eq_getElem (by omega)
    have hcs : cs[i]? = some cs[i] := List.getElem?_eq_getElem (by omega)
    rw [ho, hty, hc, hx] at hk
    have e1 : (cs.drop i).take 1 = [cs[i]] := by
      rw [List.drop_eq_getElem_cons (by omega)]
      rfl
    rw [e1] at hk
    obtain ⟨y, e, hw⟩ := DataW.trod_int Tryz.underlying3 hk
    injection e with e
    exact ⟨y, by rw [hcs, e], hw.2⟩
  obtain ⟨f, hf2⟩ := choose_lt hone
  refine ⟨(List.range fs.size).map f, by simp, ?_, ?_⟩
  · apply List.ext_getElem?
    intro i
    by_cases hi : i < fs.size
    · rw [(hf2 i hi).1]; simp [hi]
    · rw [List.getElem?_eq_none (by omega), List.getElem?_eq_none (by simp; omega)]
  · intro y hy
    obtain ⟨i, hi, rfl⟩ := List.mem_map.1 hy
    exact (hf2 i (by simpa using hi)).2
theorem add_off (b off i : Nat) : (⟨b, off, none⟩ : Addr).add i = ⟨b, off + i, none⟩ := by
  unfold Addr.add
  split
  · subst_vars; rfl
  · rfl
theorem open_flats {s t : TypeId} {fs : Array Field} {k fuel : Nat} {v : Value} {x : DataW H × List MemPlace} (hs : Tryz.prog.underlying s = some (.slice t)) (ht : Tryz.prog.underlying t = some (.struct fs)) (hC : Tryz.prog.cellsOf t = fs.size) (hk : fs.size = k) (hk0 : 0 < k)
    (hall : ∀ (i : Nat) (f : Field), fs[i]? = some f → f.offset = i ∧ f.type = 3) (h : DataW.trod enc Tryz.prog w base spare held fuel s [v] = some x) :
    ∃ A n c, ∃ f : Nat → List Int, v = .slice A n c ∧ n ≤ maxLen ∧ (0 < n → ∃ b off, A = some ⟨b, off, none⟩ ∧ b < w.heap.size ∧ ∀ j, j < n → (f j).length = k ∧ (∀ y ∈ f j, (Lit.int .i64 y).wf = true) ∧ ∀ i, i < k → w.cell? ⟨b, off + (j * k + i), none⟩ = ((f j)[i]?).map (Value.int .i64)) := by
  rcases open_slice hs h with ⟨hcs, _⟩ | ⟨a, len, cap, m, n, D, Pl, hcs, hb, hl, hm, hmm, hx, hi⟩
  · injection hcs with hcs
    exact ⟨none, 0, 0, fun _ => [], hcs, Nat.zero_le _, fun h => absurd h (by omega)⟩
  · injection hcs with hcs
    have hlm : len ≤ m := by rw [hmm]; split <;> omega
    have hcell : ∀ i, i < len → ∃ l : List Int, l.length = k ∧ (∀ y ∈ l, (Lit.int .i64 y).wf = true) ∧ ∀ q, q < k → w.cell? (a.add (i * k + q)) = (l[q]?).map (Value.int .i64) := by
      intro i hi'
      obtain ⟨cs', hc, ht'⟩ := hi i (by omega)
      rw [hC, hk] at hc
      obtain ⟨_, hcl2, hat⟩ := World.cells?_some hc
      obtain ⟨l, h1, h2, h3⟩ := trod_flat ht hC hall ht'
      refine ⟨l, h1.trans hk, h3, fun q hq => ?_⟩
      have h4 := hat q (by omega)
      rw [add_add] at h4
      rw [h4, h2, List.getElem?_map]
    obtain ⟨f, hf⟩ := choose_lt hcell
    refine ⟨some a, len, cap, f, hcs, by omega, fun hp => ?_⟩
    obtain ⟨b, off, spot⟩ := a
    obtain ⟨h01, _, h02⟩ := hf 0 hp
    have h00 := h02 0 hk0
    rw [List.getElem?_eq_getElem (by omega)] at h00
    have hspot : spot = none := by simpa [Addr.add] using World.cell?_spot h00
    subst hspot
    have hb' : b < w.heap.size := by simpa [Addr.add] using World.block_lt_of_cell? w _ h00
    refine ⟨b, off, rfl, hb', fun j hj => ?_⟩
    obtain ⟨h1, h3, h2⟩ := hf j hj
    refine ⟨h1, h3, fun i hi2 => ?_⟩
    rw [← add_off]
    exact h2 i hi2
end
end Go.Proofs.YtklgjjmcflgjeaaGreatDoor.FlatOpen
