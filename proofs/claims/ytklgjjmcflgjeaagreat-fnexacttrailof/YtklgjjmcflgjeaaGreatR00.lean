import Derived.Below
import Derived.BigQuiet
import Derived.Deep.AppendLies
import Derived.Deep.DeepCutAuto
import Derived.Deep.Draws
import Derived.Deep.QuietTactic
import Derived.Deep.RegionHeld3
import Derived.Deep.Slices
import Derived.Lib.Hide
import Derived.Lib.SlKeysI
import Derived.Lib.SmallJoins
import Derived.Maps.Ext
import Derived.OpenShut
import Derived.ProofKit
import Derived.Test.YtklgjjmcflgjeaaGreatRows
import Derived.WalkKit
set_option linter.unusedVariables false
set_option linter.unusedSimpArgs false
namespace Go.Proofs.YtklgjjmcflgjeaaGreat.Ints
open Go.ChangeShapes Go.WideShapes Go.ChangeAt Go.RowKit
def IsInts (w : World) (B : Nat) (A : Option Addr) (n : Nat) (zs : List Int) : Prop :=
  zs.length = n ∧ (0 < n → ∃ b off, A = some ⟨b, off, none⟩ ∧ b < B ∧ ∀ j, j < n → w.cell? ⟨b, off + j, none⟩ = some (.int .i64 (zs.getD j 0)))
theorem IsInts.below {w w' : World} {B C : Nat} {A : Option Addr} {n : Nat} {zs : List Int} (h : IsInts w B A n zs) (hb : Below C w w') (hC : B ≤ C) : IsInts w' B A n zs :=
  ⟨h.1, fun hn => by
    obtain ⟨b, off, e, hlt, hc⟩ := h.2 hn
    exact ⟨b, off, e, hlt, fun j hj => (hb.cell (p := ⟨b, off + j, none⟩) (by show b < C; omega)).trans (hc j hj)⟩⟩
theorem IsInts.more {w : World} {B C : Nat} {A : Option Addr} {n : Nat} {zs : List Int} (h : IsInts w B A n zs) (hC : B ≤ C) : IsInts w C A n zs :=
  ⟨h.1, fun hn => by
    obtain ⟨b, off, e, hlt, hc⟩ := h.2 hn
    exact ⟨b, off, e, by omega, hc⟩⟩
theorem IsInts.at_ {w : World} {B : Nat} {A : Option Addr} {n k : Nat} {zs : List Int} (h : IsInts w B A n zs) (hk : k < n) :
    ∃ b off z, A = some ⟨b, off, none⟩ ∧ b < B ∧ z = zs.getD k 0 ∧ w.cell? ⟨b, off + k, none⟩ = some (.int .i64 z) := by
  obtain ⟨b, off, e, hlt, hc⟩ := h.2 (by omega)
  exact ⟨b, off, _, e, hlt, rfl, hc k hk⟩
theorem below_drewN {B : Nat} {a w : World} (h : Below B a w) (n : Nat) : Below B a (w.drewN n) := ⟨h.os, h.tape, h.output, h.size, h.block⟩
theorem own_lt {w : World} {base : Nat} {e : TypeId} {size g n cap : Nat} {xs : List Value} (h : w.ownsRow base e size (.slice (some ⟨g, 0, none⟩) n cap) n xs) : g < w.heap.size := by
  rcases h.2 with ⟨h0, _⟩ | ⟨g', cap', cur, hv, _, hh, _⟩
  · cases h0
  · have : g = g' := by injection hv with h1; injection h1 with h1; injection h1
    subst this
    rcases Nat.lt_or_ge g w.heap.size with hl | hl
    · exact hl
    · rw [Array.getElem?_eq_none hl] at hh; cases hh
end Go.Proofs.YtklgjjmcflgjeaaGreat.Ints
namespace Go.Proofs.YtklgjjmcflgjeaaGreat.LK
open Go.ChangeShapes Go.WideShapes Go.ChangeAt Go.RowKit
structure Turned (S : Nat → Prop) (w w' : World) : Prop where
  os : w'.os = w.os
  tape : w'.tape = w.tape
  output : w'.output = w.output
  size : w.heap.size ≤ w'.heap.size
  block : ∀ k, k < w.heap.size → ¬ S k → w'.heap[k]? = w.heap[k]?
theorem Turned.trans {S : Nat → Prop} {a b c : World} (h : Turned S a b) (k : Turned S b c) : Turned S a c :=
  ⟨k.os.trans h.os, k.tape.trans h.tape, k.output.trans h.output, Nat.le_trans h.size k.size, fun i hi hn => (k.block i (Nat.lt_of_lt_of_le hi h.size) hn).trans (h.block i hi hn)⟩
theorem Turned.wide {S S' : Nat → Prop} {a b : World} (h : Turned S a b) (hS : ∀ k, S k → S' k) : Turned S' a b := ⟨h.os, h.tape, h.output, h.size, fun k hk hn => h.block k hk (fun hs => hn (hS k hs))⟩
theorem Turned.of_below {S : Nat → Prop} {a b : World} (h : Below a.heap.size a b) : Turned S a b := ⟨h.os, h.tape, h.output, h.size, fun k hk _ => h.block k hk⟩
theorem Turned.of_grown {S : Nat → Prop} {a b : World} {row : Option Nat} (h : a.grownBy b row) (hS : ∀ k, row = some k → S k) : Turned S a b :=
  ⟨h.os, h.tape, h.output, h.size, fun k hk hn => h.block k hk (fun e => hn (hS k e.symm))⟩
theorem Turned.undrew {S : Nat → Prop} {a b : World} (h : Turned S a.drew b) : Turned S a b := ⟨h.os, h.tape, h.output, h.size, h.block⟩
theorem Turned.low {S : Nat → Prop} {B : Nat} {a b c : World} (h : Below B a b) (ht : Turned S b c) (hS : ∀ k, S k → B ≤ k) (hB : B ≤ b.heap.size) : Below B a c :=
  ⟨ht.os.trans h.os, ht.tape.trans h.tape, ht.output.trans h.output, Nat.le_trans h.size ht.size, fun k hk => (ht.block k (by omega) (fun hs => by have := hS k hs; omega)).trans (h.block k hk)⟩
theorem box_lt {w : World} {b : Nat} {o : Obj} (h : w.heap[b]? = some o) : b < w.heap.size := (Array.getElem?_eq_some_iff.1 h).1
theorem box_below {w w' : World} {b : Nat} {o : Obj} (h : w.heap[b]? = some o) (hb : Below w.heap.size w w') : w'.heap[b]? = some o := (hb.block b (box_lt h)).trans h
theorem box_turned {w w' : World} {S : Nat → Prop} {b : Nat} {o : Obj} (h : w.heap[b]? = some o) (ht : Turned S w w') (hn : ¬ S b) : w'.heap[b]? = some o := (ht.block b (box_lt h) hn).trans h
theorem box_new (w : World) (o : Obj) : (w.alloc o).heap[w.heap.size]? = some o := by
  show (w.heap.push o)[w.heap.size]? = _
  simp
theorem box_alloc {w : World} {b : Nat} {o : Obj} (h : w.heap[b]? = some o) (p : Obj) : (w.alloc p).heap[b]? = some o := (Below.heap_alloc w p b (box_lt h)).trans h
theorem box_cell {w : World} {b : Nat} {cs : Array Value} {t : TypeId} (h : w.heap[b]? = some (.cells cs t (0, 0))) (i : Nat) (v : Value) (hi : cs[i]? = some v) : w.cell? ⟨b, i, none⟩ = some v := by
  simp [World.cell?, h, hi]
theorem box_frozen {w : World} {b : Nat} {cs : Array Value} {t : TypeId} (h : w.heap[b]? = some (.cells cs t (0, 0))) (i : Nat) : w.frozen? ⟨b, i, none⟩ = false := by
  simp [World.frozen?, h]
theorem box2 {w : World} {b : Nat} {x y : Value} {t : TypeId} (h : w.heap[b]? = some (.cells #[x, y] t (0, 0))) :
    w.cell? ⟨b, 0, none⟩ = some x ∧ w.cell? ⟨b, 1, none⟩ = some y ∧ w.frozen? ⟨b, 0, none⟩ = false ∧ w.frozen? ⟨b, 1, none⟩ = false :=
  ⟨box_cell h 0 _ rfl, box_cell h 1 _ rfl, box_frozen h 0, box_frozen h 1⟩
theorem box_set {w : World} {b i : Nat} {cs : Array Value} {t : TypeId} (h : w.heap[b]? = some (.cells cs t (0, 0))) (u : Value) : (w.setCell ⟨b, i, none⟩ u).heap[b]? = some (.cells (cs.setIfInBounds i u) t (0, 0)) := by
  simp [World.setCell, Array.getElem?_modify, h]
theorem box_other {w : World} {b : Nat} {o : Obj} (h : w.heap[b]? = some o) (p : Addr) (u : Value) (hne : b ≠ p.block) : (w.setCell p u).heap[b]? = some o := (Below.heap_setCell w p u b hne).trans h
theorem Turned.set {S : Nat → Prop} (w : World) (p : Addr) (u : Value) (h : S p.block) : Turned S w (w.setCell p u) :=
  ⟨rfl, rfl, rfl, by simp [World.setCell], fun k _ hn => Below.heap_setCell w p u k (fun e => hn (by rw [e]; exact h))⟩
theorem far1 {w : World} {b k i j : Nat} {u v : Value} (hne : k ≠ b) (h : w.cell? ⟨k, i, none⟩ = some v) : (w.setCell ⟨b, j, none⟩ u).cell? ⟨k, i, none⟩ = some v := by
  rw [World.cell?_setCell_other]
  · exact h
  · intro e; injection e with e _ _; exact hne e.symm
theorem cell_keep {w w' : World} {p : Addr} {u : Value} (hb : Below w.heap.size w w') (h : w.cell? p = some u) : w'.cell? p = some u :=
  (hb.cell (World.block_lt_of_cell? w p h)).trans h
theorem undrew {B : Nat} {a w : World} (h : Below B a.drew w) : Below B a w := ⟨h.os, h.tape, h.output, h.size, h.block⟩
theorem bel1 (w : World) (o : Obj) : Below w.heap.size w (w.alloc o) := (Below.refl _ _).alloc (Nat.le_refl _) _
theorem bel2 (w : World) (o p : Obj) : Below w.heap.size w ((w.alloc o).alloc p) := (bel1 w o).alloc (by simp) _
theorem bel3 (w : World) (o p q : Obj) : Below w.heap.size w (((w.alloc o).alloc p).alloc q) := (bel2 w o p).alloc (by simp; omega) _
theorem bel_then {B : Nat} {a b c : World} (h : Below B a b) (k : Below b.heap.size b c) (hB : B ≤ b.heap.size) : Below B a c := h.trans (k.mono hB)
structure Ty where
  D : Type
  Rd : World → Nat → Value → D → Prop
  Own : World → (Nat → Prop) → Value → D → Prop
  Few : D → Prop
  cnt : D → Nat
  mark : Int → D → D
  rd_below : ∀ {w w' : World} {B C : Nat} {v : Value} {d : D}, Rd w B v d → Below C w w' → B ≤ C → Rd w' B v d
  own_rd : ∀ {w : World} {S : Nat → Prop} {v : Value} {d : D} (B : Nat), Own w S v d → (∀ k, S k → k < B) → Rd w B v d
  own_same : ∀ {w w' : World} {S : Nat → Prop} {v : Value} {d : D}, Own w S v d → (∀ k, S k → w'.heap[k]? = w.heap[k]?) → Own w' S v d
  few_cnt : ∀ {d : D}, Few d → cnt d ≤ 20000000
structure Has (T : Ty) (w : World) (lo hi : Nat) (S : Nat → Prop) (v : Value) (d : T.D) : Prop where
  own : T.Own w S v d
  inn : ∀ k, S k → lo ≤ k ∧ k < hi
  hi : hi ≤ w.heap.size
section
variable {T : Ty} {w w' : World} {lo hi : Nat} {S S' : Nat → Prop} {v : Value} {d : T.D}
theorem Has.rd (h : Has T w lo hi S v d) : T.Rd w w.heap.size v d := T.own_rd _ h.own (fun k hk => by have := h.inn k hk; have := h.hi; omega)
theorem Has.below (h : Has T w lo hi S v d) (hb : Below w.heap.size w w') : Has T w' lo hi S v d :=
  ⟨T.own_same h.own (fun k hk => hb.block k (by have := h.inn k hk; have := h.hi; omega)), h.inn, Nat.le_trans h.hi hb.size⟩
theorem Has.turned (h : Has T w lo hi S v d) (ht : Turned S' w w') (hn : ∀ k, S k → ¬ S' k) : Has T w' lo hi S v d :=
  ⟨T.own_same h.own (fun k hk => ht.block k (by have := h.inn k hk; have := h.hi; omega) (hn k hk)), h.inn, Nat.le_trans h.hi ht.size⟩
end
def Made (T : Ty) (d : T.D) (w : World) (e : Ending) (w' : World) : Prop := ∃ v' S, e = .returned v' ∧ Has T w' w.heap.size w'.heap.size S v' d ∧ Below w.heap.size w w'
def Made1 (T : Ty) (d : T.D) (x : Value) (w : World) (e : Ending) (w' : World) : Prop := ∃ v' S, e = .returned (.tuple #[v', x]) ∧ Has T w' w.heap.size w'.heap.size S v' d ∧ Below w.heap.size w w'
def Says (x : Value) (w : World) (e : Ending) (w' : World) : Prop := e = .returned x ∧ Below w.heap.size w w'
def SzAns (T : Ty) (d : T.D) (w : World) (e : Ending) (w' : World) : Prop := ∃ r : Int, e = .returned (.int .i64 r) ∧ Below w.heap.size w w' ∧ (r = -1 ∨ (0 ≤ r ∧ r ≤ 1048576 ∧ T.Few d))
def ToC (f : Nat) (T : Ty) : Prop := ∀ (w : World) (B : Nat) (v : Value) (d : T.D), T.Rd w B v d → B ≤ w.heap.size → T.Few d → Calls Tryz.prog f #[v] w (Made T d w)
def EqC (f : Nat) (T : Ty) : Prop := ∀ (w : World) (B B' : Nat) (v v' : Value) (d : T.D), T.Rd w B v d → T.Rd w B' v' d → B ≤ w.heap.size → B' ≤ w.heap.size → T.Few d → Calls Tryz.prog f #[v, v'] w (Says (.bool true) w)
def MarkC (f : Nat) (T : Ty) : Prop := ∀ (w : World) (lo hi : Nat) (S : Nat → Prop) (v : Value) (d : T.D) (k : Int), Has T w lo hi S v d → T.Few d → 0 ≤ k → k ≤ 200000000 →
  Calls Tryz.prog f #[v, .int .i64 k] w fun e w' => e = .returned (.int .i64 (k + T.cnt d)) ∧ Has T w' lo hi S v (T.mark k d) ∧ Turned S w w'
def HeldC (f : Nat) (T : Ty) : Prop := ∀ (w : World) (B : Nat) (v : Value) (d : T.D) (k : Int), T.Rd w B v (T.mark k d) → B ≤ w.heap.size → T.Few d → 0 ≤ k → k ≤ 200000000 →
  Calls Tryz.prog f #[v, .int .i64 k] w (Says (.int .i64 (k + T.cnt d)) w)
def SzC (f : Nat) (T : Ty) (v : Value) (d : T.D) (w : World) : Prop := ∀ (W : World) (k : Int), Below w.heap.size w W → 0 ≤ k → k ≤ 1048576 → Calls Tryz.prog f #[v, .int .i64 k] W (SzAns T d W)
end Go.Proofs.YtklgjjmcflgjeaaGreat.LK
namespace Go.Proofs.YtklgjjmcflgjeaaGreat.Pods
open Go.ChangeShapes Go.WideShapes Go.ChangeAt Go.RowKit
open LK
abbrev Pd := Int × Int × Int × Int × Int
abbrev PList := List Pd
def z5 : Pd := (0, 0, 0, 0, 0)
def cells5 (p : Pd) : List Value := [.int .i64 p.1, .int .i64 p.2.1, .int .i64 p.2.2.1, .int .i64 p.2.2.2.1, .int .i64 p.2.2.2.2]
def podV (p : Pd) : Value := .agg (cells5 p).toArray
def flat (ps : PList) : List Value := ps.flatMap cells5
theorem cells5_len (p : Pd) : (cells5 p).length = 5 := rfl
theorem flat_cons (p : Pd) (ps : PList) : flat (p :: ps) = cells5 p ++ flat ps := by simp [flat]
theorem flat_len (ps : PList) : (flat ps).length = ps.length * 5 := by
  induction ps with
  | nil => rfl
  | cons x l ih => rw [flat_cons, List.length_append, cells5_len, ih]; simp; omega
theorem flat_app (a b : PList) : flat (a ++ b) = flat a ++ flat b := by simp [flat]
theorem flat_one (p : Pd) : flat [p] = cells5 p := by simp [flat]
theorem flat_at (ps : PList) (j i : Nat) (h : j < ps.length) (hi : i < 5) : (flat ps)[j * 5 + i]? = (cells5 (ps.getD j z5))[i]? := by
  induction ps generalizing j with
  | nil => simp at h
  | cons x l ih =>
    rw [flat_cons]
    cases j with
    | zero =>
      rw [List.getElem?_append_left (by rw [cells5_len]; omega)]
      simp [List.getD]
    | succ j =>
      rw [List.getElem?_append_right (by rw [cells5_len]; omega), cells5_len]
      have e : (j + 1) * 5 + i - 5 = j * 5 + i := by omega
      rw [e, ih j (by simpa using h)]
      simp [List.getD]
def Cell5 (w : World) (b o : Nat) (p : Pd) : Prop :=
  w.cell? ⟨b, o, none⟩ = some (.int .i64 p.1) ∧ w.cell? ⟨b, o + 1, none⟩ = some (.int .i64 p.2.1) ∧ w.cell? ⟨b, o + 2, none⟩ = some (.int .i64 p.2.2.1) ∧ w.cell? ⟨b, o + 3, none⟩ = some (.int .i64 p.2.2.2.1) ∧ w.cell? ⟨b, o + 4, none⟩ = some (.int .i64 p.2.2.2.2)
def IsPods (w : World) (B : Nat) (A : Option Addr) (n : Nat) (ps : PList) : Prop :=
  ps.length = n ∧ (0 < n → ∃ b off, A = some ⟨b, off, none⟩ ∧ b < B ∧ ∀ j, j < n → Cell5 w b (off + j * 5) (ps.getD j z5))
section
variable {w w' : World} {B C : Nat} {A : Option Addr} {n : Nat} {ps : PList}
theorem IsPods.keep (h : IsPods w B A n ps) (hk : ∀ p : Addr, p.block < B → w'.cell? p = w.cell? p) : IsPods w' B A n ps :=
  ⟨h.1, fun hn => by
    obtain ⟨b, off, e, hlt, hc⟩ := h.2 hn
    refine ⟨b, off, e, hlt, fun j hj => ?_⟩
    obtain ⟨h0, h1, h2, h3, h4⟩ := hc j hj
    exact ⟨(hk ⟨b, _, none⟩ hlt).trans h0, (hk ⟨b, _, none⟩ hlt).trans h1, (hk ⟨b, _, none⟩ hlt).trans h2, (hk ⟨b, _, none⟩ hlt).trans h3, (hk ⟨b, _, none⟩ hlt).trans h4⟩⟩
theorem IsPods.below (h : IsPods w B A n ps) (hb : Below C w w') (hC : B ≤ C) : IsPods w' B A n ps := h.keep fun p hp => hb.cell (by omega)
theorem IsPods.more (h : IsPods w B A n ps) (hC : B ≤ C) : IsPods w C A n ps :=
  ⟨h.1, fun hn => by
    obtain ⟨b, off, e, hlt, hc⟩ := h.2 hn
    exact ⟨b, off, e, by omega, hc⟩⟩
theorem IsPods.at_ {k : Nat} (h : IsPods w B A n ps) (hk : k < n) : ∃ b off x0 x1 x2 x3 x4, A = some ⟨b, off, none⟩ ∧ b < B ∧ ps.getD k z5 = (x0, x1, x2, x3, x4) ∧
    w.cell? ⟨b, off + k * 5, none⟩ = some (.int .i64 x0) ∧ w.cell? ⟨b, off + k * 5 + 1, none⟩ = some (.int .i64 x1) ∧ w.cell? ⟨b, off + k * 5 + 2, none⟩ = some (.int .i64 x2) ∧ w.cell? ⟨b, off + k * 5 + 3, none⟩ = some (.int .i64 x3) ∧ w.cell? ⟨b, off + k * 5 + 4, none⟩ = some (.int .i64 x4) := by
  obtain ⟨b, off, e, hlt, hc⟩ := h.2 (by omega)
  obtain ⟨h0, h1, h2, h3, h4⟩ := hc k hk
  exact ⟨b, off, _, _, _, _, _, e, hlt, rfl, h0, h1, h2, h3, h4⟩
end
def OwnP (w : World) (lo : Nat) (A : Option Addr) (n c : Nat) (ps : PList) : Prop := ps.length = n ∧ w.ownsRow lo 85 5 (.slice A n c) n (flat ps)
section
variable {w w' : World} {lo B : Nat} {A : Option Addr} {n c : Nat} {ps : PList}
theorem OwnP.lt (h : OwnP w lo A n c ps) (k : Nat) (hk : (Value.slice A n c).ownBlock = some k) : lo ≤ k ∧ k < w.heap.size := h.2.lt k hk
theorem OwnP.base {lo' : Nat} (h : OwnP w lo A n c ps) (hb : ∀ k, (Value.slice A n c).ownBlock = some k → lo' ≤ k) : OwnP w lo' A n c ps := by
  refine ⟨h.1, h.2.1, ?_⟩
  rcases h.2.2 with h0 | ⟨g, cap, cur, h3, h4, h5⟩
  · exact .inl h0
  · exact .inr ⟨g, cap, cur, h3, hb g (by rw [h3]; rfl), h5⟩
theorem OwnP.zero (h : OwnP w lo A n c ps) : OwnP w 0 A n c ps := h.base fun _ _ => Nat.zero_le _
theorem OwnP.same (h : OwnP w lo A n c ps) (hs : ∀ k, (Value.slice A n c).ownBlock = some k → w'.heap[k]? = w.heap[k]?) : OwnP w' lo A n c ps := by
  refine ⟨h.1, h.2.1, ?_⟩
  rcases h.2.2 with h0 | ⟨g, cap, cur, h3, h4, h5, h6⟩
  · exact .inl h0
  · refine .inr ⟨g, cap, cur, h3, h4, ?_, h6⟩
    rw [hs g (by rw [h3]; rfl)]; exact h5
theorem OwnP.below (h : OwnP w lo A n c ps) (hb : Below w.heap.size w w') : OwnP w' lo A n c ps := h.same fun k hk => hb.block k (h.lt k hk).2
theorem OwnP.pods (h : OwnP w lo A n c ps) (hs : ∀ k, (Value.slice A n c).ownBlock = some k → k < B) : IsPods w B A n ps := by
  refine ⟨h.1, fun hn => ?_⟩
  obtain ⟨g, cap, hv, _, hlt⟩ := h.2.form hn
  have hA : A = some ⟨g, 0, none⟩ := by injection hv
  subst hA
  refine ⟨g, 0, rfl, hs g rfl, fun j hj => ?_⟩
  have hl := h.1
  have hf := fun i hi => flat_at ps j i (by omega) hi
  refine ⟨?_, ?_, ?_, ?_, ?_⟩
  · rw [Nat.zero_add, h.2.cellAt (j * 5) (by omega)]; exact hf 0 (by omega)
  · rw [Nat.zero_add, h.2.cellAt (j * 5 + 1) (by omega)]; exact hf 1 (by omega)
  · rw [Nat.zero_add, h.2.cellAt (j * 5 + 2) (by omega)]; exact hf 2 (by omega)
  · rw [Nat.zero_add, h.2.cellAt (j * 5 + 3) (by omega)]; exact hf 3 (by omega)
  · rw [Nat.zero_add, h.2.cellAt (j * 5 + 4) (by omega)]; exact hf 4 (by omega)
theorem OwnP.podsAll (h : OwnP w lo A n c ps) : IsPods w w.heap.size A n ps := h.pods fun k hk => (h.lt k hk).2
theorem OwnP.nil (w : World) (lo : Nat) : OwnP w lo none 0 0 [] := ⟨rfl, World.ownsRow_nil _ _ _ _⟩
theorem OwnP.at0 (h : OwnP w lo A n c ps) (hn : 0 < n) : ∃ g, A = some ⟨g, 0, none⟩ ∧ lo ≤ g ∧ g < w.heap.size := by
  obtain ⟨g, cap, hv, hb, hlt⟩ := h.2.form hn
  exact ⟨g, by injection hv, hb, hlt⟩
end
def set5 (w : World) (g o : Nat) (p : Pd) : World := ((((w.setCell ⟨g, o, none⟩ (.int .i64 p.1)).setCell ⟨g, o + 1, none⟩ (.int .i64 p.2.1)).setCell ⟨g, o + 2, none⟩ (.int .i64 p.2.2.1)).setCell ⟨g, o + 3, none⟩ (.int .i64 p.2.2.2.1)).setCell ⟨g, o + 4, none⟩ (.int .i64 p.2.2.2.2)
theorem flat_set (ps : PList) (j : Nat) (p : Pd) : (((((flat ps).set (j * 5) (.int .i64 p.1)).set (j * 5 + 1) (.int .i64 p.2.1)).set (j * 5 + 2) (.int .i64 p.2.2.1)).set (j * 5 + 3) (.int .i64 p.2.2.2.1)).set (j * 5 + 4) (.int .i64 p.2.2.2.2) = flat (ps.set j p) := by
  induction ps generalizing j with
  | nil => simp [flat]
  | cons a l ih =>
    cases j with
    | zero => simp [flat_cons, cells5]
    | succ j =>
      have e0 : (j + 1) * 5 = j * 5 + 1 + 1 + 1 + 1 + 1 := by omega
      have e1 : (j + 1) * 5 + 1 = j * 5 + 1 + 1 + 1 + 1 + 1 + 1 := by omega
      have e2 : (j + 1) * 5 + 2 = j * 5 + 2 + 1 + 1 + 1 + 1 + 1 := by omega
      have e3 : (j + 1) * 5 + 3 = j * 5 + 3 + 1 + 1 + 1 + 1 + 1 := by omega
      have e4 : (j + 1) * 5 + 4 = j * 5 + 4 + 1 + 1 + 1 + 1 + 1 := by omega
      rw [e1, e2, e3, e4, e0, List.set_cons_succ, flat_cons, flat_cons, ← ih j]
      simp only [cells5, List.cons_append, List.nil_append, List.set_cons_succ]
theorem own_cells5 {w : World} {base : Nat} {g n cap k : Nat} {ps : PList} (h : OwnP w base (some ⟨g, 0, none⟩) n cap ps) (hk : k < n) :
    (∃ u, w.cell? ⟨g, k * 5, none⟩ = some u) ∧ (∃ u, w.cell? ⟨g, k * 5 + 1, none⟩ = some u) ∧ (∃ u, w.cell? ⟨g, k * 5 + 2, none⟩ = some u) ∧ (∃ u, w.cell? ⟨g, k * 5 + 3, none⟩ = some u) ∧ (∃ u, w.cell? ⟨g, k * 5 + 4, none⟩ = some u) ∧
    (∀ i, w.frozen? ⟨g, i, none⟩ = false) ∧ ∀ p, OwnP (set5 w g (k * 5) p) base (some ⟨g, 0, none⟩) n cap (ps.set k p) := by
  have hl := h.2.1
  refine ⟨⟨_, (h.2.cellAt (k * 5) (by omega)).trans (List.getElem?_eq_getElem (by omega))⟩, ⟨_, (h.2.cellAt (k * 5 + 1) (by omega)).trans (List.getElem?_eq_getElem (by omega))⟩, ⟨_, (h.2.cellAt (k * 5 + 2) (by omega)).trans (List.getElem?_eq_getElem (by omega))⟩,
    ⟨_, (h.2.cellAt (k * 5 + 3) (by omega)).trans (List.getElem?_eq_getElem (by omega))⟩, ⟨_, (h.2.cellAt (k * 5 + 4) (by omega)).trans (List.getElem?_eq_getElem (by omega))⟩, fun i => h.2.frozenAt _, fun p => ⟨by simpa using h.1, ?_⟩⟩
  rw [← flat_set]
  exact (((((h.2.stored (k * 5) (.int .i64 p.1)).1.stored (k * 5 + 1) (.int .i64 p.2.1)).1.stored (k * 5 + 2) (.int .i64 p.2.2.1)).1.stored (k * 5 + 3) (.int .i64 p.2.2.2.1)).1.stored (k * 5 + 4) (.int .i64 p.2.2.2.2)).1
theorem set5_below {B : Nat} {a w : World} (hb : Below B a w) (g o : Nat) (p : Pd) (h : B ≤ g) : Below B a (set5 w g o p) :=
  ((((hb.setCell (p := ⟨g, o, none⟩) h _).setCell (p := ⟨g, o + 1, none⟩) h _).setCell (p := ⟨g, o + 2, none⟩) h _).setCell (p := ⟨g, o + 3, none⟩) h _).setCell (p := ⟨g, o + 4, none⟩) h _
def part (ps : PList) (k : Nat) : PList := ps.take k ++ List.replicate (ps.length - k) z5
theorem infoP : (Tryz.prog.info? 85).map (fun i => (i.zero, i.size, i.bytes)) = some (some (.agg #[.int .i64 0, .int .i64 0, .int .i64 0, .int .i64 0, .int .i64 0]), 5, 40) := by kernel_rfl
def markP (x : Int) : Pd := (x, x + 1, x + 2, x + 3, x + 4)
def marksP (k : Int) (n : Nat) : PList := (List.range n).map fun (i : Nat) => markP (k + 5 * (i : Int))
def partM (ps : PList) (k : Int) (j : Nat) : PList := marksP k j ++ ps.drop j
end Go.Proofs.YtklgjjmcflgjeaaGreat.Pods
namespace Go.Proofs.YtklgjjmcflgjeaaGreat.FleetV
open Pods
def Asc (ps : PList) : Prop := ps.Pairwise fun p q => p.1 < q.1
instance (ps : PList) : Decidable (Asc ps) := by unfold Asc; infer_instance
def ins (p : Pd) : PList → PList
  | [] => [p]
  | q :: r => if p.1 < q.1 then p :: q :: r else q :: ins p r
def offP (k : Int) (ps : PList) : PList := ps.filter fun q => decide (q.1 ≠ k)
def insP (p : Pd) (ps : PList) : PList := ins p (offP p.1 ps)
def buildP (ps : PList) : PList := ps.foldl (fun m p => insP p m) []
theorem asc_nil : Asc [] := List.Pairwise.nil
theorem asc_cons {p : Pd} {ps : PList} : Asc (p :: ps) ↔ (∀ q ∈ ps, p.1 < q.1) ∧ Asc ps := List.pairwise_cons
theorem mem_ins {p q : Pd} {ps : PList} : q ∈ ins p ps ↔ q = p ∨ q ∈ ps := by
  induction ps with
  | nil => simp [ins]
  | cons a l ih =>
    unfold ins
    split
    · simp
    · simp [ih]; grind
theorem mem_off {k : Int} {q : Pd} {ps : PList} : q ∈ offP k ps ↔ q ∈ ps ∧ q.1 ≠ k := by simp [offP]
theorem asc_off {k : Int} {ps : PList} (h : Asc ps) : Asc (offP k ps) := List.Pairwise.filter _ h
theorem asc_ins {p : Pd} {ps : PList} (h : Asc ps) (hp : ∀ q ∈ ps, q.1 ≠ p.1) : Asc (ins p ps) := by
  induction ps with
  | nil => simp [ins, Asc]
  | cons a l ih =>
    obtain ⟨h1, h2⟩ := asc_cons.1 h
    unfold ins
    split
    · rename_i hlt
      refine asc_cons.2 ⟨fun q hq => ?_, h⟩
      rcases List.mem_cons.1 hq with rfl | hq
      · exact hlt
      · have := h1 q hq; omega
    · rename_i hlt
      refine asc_cons.2 ⟨fun q hq => ?_, ih h2 (fun q hq => hp q (by simp [hq]))⟩
      have := hp a (by simp)
      rcases mem_ins.1 hq with rfl | hq
      · omega
      · exact h1 q hq
theorem asc_insP {p : Pd} {ps : PList} (h : Asc ps) : Asc (insP p ps) := asc_ins (asc_off h) (fun q hq => (mem_off.1 hq).2)
theorem asc_fold {ps : PList} : ∀ {m : PList}, Asc m → Asc (ps.foldl (fun m p => insP p m) m) := by
  induction ps with
  | nil => intro m h; exact h
  | cons p ps ih => intro m h; exact ih (asc_insP h)
theorem asc_build (ps : PList) : Asc (buildP ps) := asc_fold asc_nil
theorem off_id {k : Int} {ps : PList} (h : ∀ q ∈ ps, q.1 ≠ k) : offP k ps = ps := by
  unfold offP
  rw [List.filter_eq_self]
  intro q hq
  simpa using h q hq
theorem ins_last {p : Pd} {ps : PList} (h : ∀ q ∈ ps, q.1 < p.1) : ins p ps = ps ++ [p] := by
  induction ps with
  | nil => rfl
  | cons a l ih =>
    have := h a (by simp)
    unfold ins
    rw [if_neg (by omega), ih (fun q hq => h q (by simp [hq]))]
    rfl
theorem insP_last {p : Pd} {ps : PList} (h : ∀ q ∈ ps, q.1 < p.1) : insP p ps = ps ++ [p] := by
  unfold insP
  rw [off_id (fun q hq => by have := h q hq; omega), ins_last h]
theorem fold_asc {ps : PList} : ∀ {m : PList}, Asc ps → (∀ q ∈ m, ∀ p ∈ ps, q.1 < p.1) → ps.foldl (fun m p => insP p m) m = m ++ ps := by
  induction ps with
  | nil => intro m _ _; simp
  | cons p ps ih =>
    intro m h hm
    obtain ⟨h1, h2⟩ := asc_cons.1 h
    rw [List.foldl_cons, insP_last (fun q hq => hm q hq p (by simp)), ih h2 ?_]
    · simp
    · intro q hq r hr
      rcases List.mem_append.1 hq with hq | hq
      · exact hm q hq r (by simp [hr])
      · obtain rfl : q = p := by simpa using hq
        exact h1 r hr
theorem build_asc {ps : PList} (h : Asc ps) : buildP ps = ps := by
  unfold buildP
  rw [fold_asc h (by simp)]
  rfl
theorem build_iff (ps : PList) : buildP ps = ps ↔ Asc ps := ⟨fun h => h ▸ asc_build ps, build_asc⟩
theorem build_take (ps : PList) (k : Nat) (h : k < ps.length) : buildP (ps.take (k + 1)) = insP (ps.getD k z5) (buildP (ps.take k)) := by
  have e : ps.getD k z5 = ps[k] := by simp [List.getD, h]
  unfold buildP
  rw [List.take_succ_eq_append_getElem h, List.foldl_append, e]
  rfl
theorem len_ins (p : Pd) (ps : PList) : (ins p ps).length = ps.length + 1 := by
  induction ps with
  | nil => rfl
  | cons a l ih => unfold ins; split <;> simp [ih]
theorem len_off (k : Int) (ps : PList) : (offP k ps).length ≤ ps.length := List.length_filter_le _ _
theorem len_insP (p : Pd) (ps : PList) : (insP p ps).length ≤ ps.length + 1 := by
  unfold insP
  have := len_off p.1 ps
  rw [len_ins]
  omega
theorem len_build (ps : PList) (k : Nat) : (buildP (ps.take k)).length ≤ k := by
  induction k with
  | zero => simp [buildP]
  | succ k ih =>
    by_cases h : k < ps.length
    · rw [build_take ps k h]
      have := len_insP (ps.getD k z5) (buildP (ps.take k))
      omega
    · have e : ps.take (k + 1) = ps.take k := by rw [List.take_of_length_le (by omega), List.take_of_length_le (by omega)]
      rw [e]
      omega
theorem mem_build {ps : PList} {p : Pd} (h : p ∈ buildP ps) : p ∈ ps := by
  have gen : ∀ (l m : PList), p ∈ l.foldl (fun m p => insP p m) m → p ∈ m ∨ p ∈ l := by
    intro l
    induction l with
    | nil => intro m h; exact .inl h
    | cons a l ih =>
      intro m h
      rcases ih _ h with h | h
      · rcases mem_ins.1 h with rfl | h
        · exact .inr (by simp)
        · exact .inl (mem_off.1 h).1
      · exact .inr (by simp [h])
  rcases gen ps [] h with h | h
  · simp at h
  · exact h
def setP (p : Pd) (ps : PList) : PList := ps.map fun q => if q.1 = p.1 then p else q
theorem ins_first {p : Pd} {ps : PList} (h : ∀ q ∈ ps, p.1 < q.1) : ins p ps = p :: ps := by
  cases ps with
  | nil => rfl
  | cons a l => unfold ins; rw [if_pos (h a (by simp))]
theorem setP_none {p : Pd} {ps : PList} (h : ∀ q ∈ ps, q.1 ≠ p.1) : setP p ps = ps := by
  unfold setP
  rw [List.map_congr_left (g := id) (fun q hq => by rw [if_neg (h q hq)]; rfl)]
  simp
theorem insP_set {p q : Pd} {ps : PList} (h : Asc ps) (hq : q ∈ ps) (he : q.1 = p.1) : insP p ps = setP p ps := by
  induction ps with
  | nil => simp at hq
  | cons a l ih =>
    obtain ⟨h1, h2⟩ := asc_cons.1 h
    by_cases ha : a.1 = p.1
    · have hl : ∀ q ∈ l, q.1 ≠ p.1 := fun q hq => by have := h1 q hq; omega
      have e : offP p.1 (a :: l) = l := by
        have := off_id hl
        unfold offP at this ⊢
        rw [List.filter_cons_of_neg (by simpa using ha)]
        exact this
      unfold insP
      rw [e, ins_first (fun q hq => by have := h1 q hq; omega)]
      have := setP_none hl
      unfold setP at this ⊢
      rw [List.map_cons, if_pos ha, this]
    · have hq' : q ∈ l := by
        rcases List.mem_cons.1 hq with rfl | hq
        · exact absurd he ha
        · exact hq
      have hlt := h1 q hq'
      have := ih h2 hq'
      unfold insP setP at this ⊢
      have e : offP p.1 (a :: l) = a :: offP p.1 l := by
        unfold offP
        rw [List.filter_cons_of_pos (by simpa using ha)]
      rw [e]
      have e2 : ins p (a :: offP p.1 l) = a :: ins p (offP p.1 l) := by
        conv => lhs; unfold ins
        rw [if_neg (by omega)]
      rw [e2, this, List.map_cons, if_neg ha]
theorem len_setP (p : Pd) (ps : PList) : (setP p ps).length = ps.length := by simp [setP]
theorem asc_setP {p : Pd} {ps : PList} (h : Asc ps) : Asc (setP p ps) := by
  unfold setP Asc
  rw [List.pairwise_map]
  refine h.imp ?_
  intro a b hab
  split <;> split <;> rename_i h1 h2 <;> omega
theorem mem_setP {p q : Pd} {ps : PList} (h : q ∈ setP p ps) : q = p ∨ q ∈ ps := by
  obtain ⟨r, hr, rfl⟩ := List.mem_map.1 h
  split
  · exact .inl rfl
  · exact .inr hr
def fndP (ps : PList) (k : Int) : Option Pd := ps.find? fun p => decide (p.1 = k)
theorem fnd_mem {ps : PList} {k : Int} {p : Pd} (h : fndP ps k = some p) : p ∈ ps ∧ p.1 = k := by
  refine ⟨List.mem_of_find?_eq_some h, ?_⟩
  have := List.find?_some h
  simpa using this
theorem fnd_none {ps : PList} {k : Int} (h : fndP ps k = none) : ∀ p ∈ ps, p.1 ≠ k := by
  intro p hp
  have := List.find?_eq_none.1 h p hp
  simpa using this
theorem asc_inj {ps : PList} {p q : Pd} (h : Asc ps) (hp : p ∈ ps) (hq : q ∈ ps) (he : p.1 = q.1) : p = q := by
  induction ps with
  | nil => simp at hp
  | cons a l ih =>
    obtain ⟨h1, h2⟩ := asc_cons.1 h
    rcases List.mem_cons.1 hp with ep | hp' <;> rcases List.mem_cons.1 hq with eq | hq'
    · rw [ep, eq]
    · subst ep; have := h1 q hq'; omega
    · subst eq; have := h1 p hp'; omega
    · exact ih h2 hp' hq'
theorem fnd_of {ps : PList} {p : Pd} (h : Asc ps) (hp : p ∈ ps) : fndP ps p.1 = some p := by
  cases e : fndP ps p.1 with
  | none => exact absurd rfl (fnd_none e p hp)
  | some q =>
    obtain ⟨h1, h2⟩ := fnd_mem e
    rw [asc_inj h h1 hp h2]
def ent (p : Pd) : Lit × DataW Value := (.int .i64 p.1, .held (podV p))
def mapOf (ps : PList) : DataW Value := .map (ps.map ent)
def rdP : Value → Option (DataW Value × List MemPlace) := fun v => some (.held v, [])
theorem same_int (a b : Int) : (Lit.int .i64 a).sameKey (.int .i64 b) = decide (a = b) := by simp [Lit.sameKey]
theorem ent_same (p : Pd) (k : Int) : (ent p).1.sameKey (.int .i64 k) = decide (p.1 = k) := same_int _ _
theorem map_off (ps : PList) (k : Int) : (ps.map ent).filter (fun e => !e.1.sameKey (.int .i64 k)) = (offP k ps).map ent := by
  unfold offP
  rw [List.filter_map]
  congr 1
  apply List.filter_congr
  intro p _
  simp [ent_same]
theorem map_ins (p : Pd) (ps : PList) : DataW.insert (ent p) (ps.map ent) = (ins p ps).map ent := by
  induction ps with
  | nil => rfl
  | cons a l ih =>
    rw [List.map_cons]
    unfold DataW.insert ins
    have e : (ent p).1.before (ent a).1 = decide (p.1 < a.1) := rfl
    rw [e, ih]
    by_cases h : p.1 < a.1 <;> simp [h]
theorem map_put (ps : PList) (p : Pd) : (mapOf ps).put (.int .i64 p.1) (.held (podV p)) = mapOf (insP p ps) := by
  show DataW.map (DataW.insert (ent p) ((ps.map ent).filter (fun e => !e.1.sameKey (.int .i64 p.1)))) = _
  rw [map_off, map_ins]
  rfl
theorem map_del (ps : PList) (k : Int) : (mapOf ps).del (.int .i64 k) = mapOf (offP k ps) := by
  show DataW.map ((ps.map ent).filter (fun e => !e.1.sameKey (.int .i64 k))) = _
  rw [map_off]
  rfl
theorem map_find (ps : PList) (k : Int) : (ps.map ent).find? (fun e => e.1.sameKey (.int .i64 k)) = (fndP ps k).map ent := by
  unfold fndP
  rw [List.find?_map]
  congr 1
  congr 1
  funext p
  exact ent_same p k
theorem map_at (ps : PList) (k : Int) (z : DataW Value) : (mapOf ps).atKey (.int .i64 k) z = match fndP ps k with | some p => .held (podV p) | none => z := by
  unfold DataW.atKey mapOf
  simp only [map_find]
  cases fndP ps k <;> rfl
theorem map_has (ps : PList) (k : Int) : Maps.has (mapOf ps) (.int .i64 k) = (fndP ps k).isSome := by
  show (ps.map ent).any (fun e => e.1.sameKey (.int .i64 k)) = _
  rw [Bool.eq_iff_iff]
  simp [fndP, List.find?_isSome, ent_same]
theorem map_size (ps : PList) : Maps.size (mapOf ps) = ps.length := by simp [mapOf, Maps.size]
def PodOk (p : Pd) : Prop := (1 ≤ p.1 ∧ p.1 ≤ 1000000000) ∧ (1 ≤ p.2.1 ∧ p.2.1 ≤ 1000) ∧ (0 ≤ p.2.2.1 ∧ p.2.2.1 ≤ 4) ∧ (0 ≤ p.2.2.2.1 ∧ p.2.2.2.1 ≤ 1000000000) ∧ 0 ≤ p.2.2.2.2 ∧ p.2.2.2.2 ≤ 1000000000
instance (p : Pd) : Decidable (PodOk p) := by unfold PodOk; infer_instance
def FGood (ps : PList) (nx : Int) : Prop := ps.length ≤ 30 ∧ (1 ≤ nx ∧ nx ≤ 1000000000) ∧ (∀ p ∈ ps, PodOk p ∧ p.1 < nx) ∧ Asc ps
instance (ps : PList) (nx : Int) : Decidable (FGood ps nx) := by unfold FGood; infer_instance
def goodB (d : PList × Int) : Bool := decide (FGood d.1 d.2)
end Go.Proofs.YtklgjjmcflgjeaaGreat.FleetV
namespace Go.Proofs.YtklgjjmcflgjeaaGreat.Tick
open Go.ChangeShapes Go.WideShapes Go.ChangeAt Go.RowKit
def inB (x lo hi : Int) : Bool := decide (lo ≤ x) && decide (x ≤ hi)
def tokB (t : Int) : Bool := decide (0 ≤ t) && decide (t ≤ 1000000000)
def addV (t d : Int) : Int := if tokB t && inB d (-1000000000) 1000000000 then max 0 (min 1000000000 (t + d)) else -1
def sinceV (a b : Int) : Int := if tokB a && tokB b then max 0 (b - a) else -1
theorem tok_t {t : Int} (h : tokB t = true) : 0 ≤ t ∧ t ≤ 1000000000 := by simpa [tokB] using h
theorem in_t {x lo hi : Int} (h : inB x lo hi = true) : lo ≤ x ∧ x ≤ hi := by simpa [inB] using h
theorem in_f {x lo hi : Int} (h : inB x lo hi = false) : x < lo ∨ hi < x := by
  have h' : ¬ (lo ≤ x ∧ x ≤ hi) := by intro c; simp [inB, c] at h
  omega
theorem addV_ok {t d : Int} (h : tokB t = true) (h2 : inB d (-1000000000) 1000000000 = true) : addV t d = max 0 (min 1000000000 (t + d)) := by simp [addV, h, h2]
set_option maxHeartbeats 400000 in
theorem l01In_any (x lo hi : Int) (w : World) :
    Calls Tryz.prog 39 #[.int .i64 x, .int .i64 lo, .int .i64 hi] w fun e w' => e = .returned (.bool (inB x lo hi)) ∧ w = w' := by
  by_cases h0 : lo ≤ x <;> by_cases h1 : x ≤ hi
  all_goals
    go_enter Tryz.func39, Tryz.ntmps39
    go_wp2
    go_ret
    exact ⟨by simp [inB, h0, h1], rfl⟩
theorem specTickOk_any (t : Int) (w : World) :
    Calls Tryz.prog 52 #[.int .i64 t] w fun e w' => e = .returned (.bool (tokB t)) ∧ w = w' := by
  go_enter Tryz.func52, Tryz.ntmps52
  go_wp2_with (go_at_call 39; refine (l01In_any _ _ _ _).mono ?_; rintro e w' ⟨rfl, rfl⟩)
  go_ret
  exact ⟨rfl, rfl⟩
theorem ok_any (t : Int) (w : World) :
    Calls Tryz.prog 137 #[.int .i64 t] w fun e w' => e = .returned (.bool (tokB t)) ∧ w = w' := by
  by_cases h0 : 0 ≤ t <;> by_cases h1 : t ≤ 1000000000
  all_goals
    go_enter Tryz.func137, Tryz.ntmps137
    go_wp2
    go_ret
    exact ⟨by simp [tokB, h0, h1], rfl⟩
theorem tickOk_any (t : Int) (w : World) :
    Calls Tryz.prog 91 #[.int .i64 t] w fun e w' => e = .returned (.bool (tokB t)) ∧ w = w' := by
  go_enter Tryz.func91, Tryz.ntmps91
  go_wp2_with (go_at_call 137; refine (ok_any _ _).mono ?_; rintro e w' ⟨rfl, rfl⟩)
  go_ret
  exact ⟨rfl, rfl⟩
theorem ret_int {k : IntKind} {a b : Int} (h : a = b) : Ending.returned (.int k a) = .returned (.int k b) := by rw [h]
set_option maxHeartbeats 800000 in
theorem plus_any (t d : Int) (w : World) :
    Calls Tryz.prog 226 #[.int .i64 t, .int .i64 d] w fun e w' => e = .returned (.int .i64 (addV t d)) ∧ w = w' := by
  cases h0 : tokB t
  · go_enter Tryz.func226, Tryz.ntmps226
    go_wp2_with (go_at_call 137; refine (ok_any _ _).mono ?_; rintro e w' ⟨rfl, rfl⟩)
    go_ret
    exact ⟨ret_int (by simp [addV, h0]), rfl⟩
  · have b0 := tok_t h0
    by_cases h1 : d < -1000000000
    · have hv : addV t d = -1 := by simp [addV, h0, inB]; omega
      have HV : Hid (addV t d = -1) := hv; clear hv
      go_enter Tryz.func226, Tryz.ntmps226
      go_wp2_with (go_at_call 137; refine (ok_any _ _).mono ?_; rintro e w' ⟨rfl, rfl⟩)
      go_ret
      exact ⟨ret_int HV.out.symm, rfl⟩
    · by_cases h2 : 1000000000 < d
      · have hv : addV t d = -1 := by simp [addV, h0, inB]; omega
        have HV : Hid (addV t d = -1) := hv; clear hv
        go_enter Tryz.func226, Tryz.ntmps226
        go_wp2_with (go_at_call 137; refine (ok_any _ _).mono ?_; rintro e w' ⟨rfl, rfl⟩)
        go_ret
        exact ⟨ret_int HV.out.symm, rfl⟩
      · have hi : inB d (-1000000000) 1000000000 = true := by simp [inB]; omega
        have HV : Hid (addV t d = max 0 (min 1000000000 (t + d))) := addV_ok h0 hi
        clear hi
        go_enter Tryz.func226, Tryz.ntmps226
        go_wp2_with (go_at_call 137; refine (ok_any _ _).mono ?_; rintro e w' ⟨rfl, rfl⟩)
        all_goals
          go_ret
          exact ⟨ret_int (by rw [HV.out]; omega), rfl⟩
theorem addTick_any (t d : Int) (w : World) :
    Calls Tryz.prog 204 #[.int .i64 t, .int .i64 d] w fun e w' => e = .returned (.int .i64 (addV t d)) ∧ w = w' := by
  go_enter Tryz.func204, Tryz.ntmps204
  go_wp2_with (go_at_call 226; refine (plus_any _ _ _).mono ?_; rintro e w' ⟨rfl, rfl⟩)
  go_ret
  exact ⟨rfl, rfl⟩
set_option maxHeartbeats 800000 in
theorem specAddTick_any (t d : Int) (w : World) :
    Calls Tryz.prog 101 #[.int .i64 t, .int .i64 d] w fun e w' => e = .returned (.int .i64 (addV t d)) ∧ w = w' := by
  cases h0 : tokB t
  · go_enter Tryz.func101, Tryz.ntmps101
    go_wp2_with (first | (go_at_call 52; refine (specTickOk_any _ _).mono ?_; rintro e w' ⟨rfl, rfl⟩) | (go_at_call 39; refine (l01In_any _ _ _ _).mono ?_; rintro e w' ⟨rfl, rfl⟩))
    go_ret
    exact ⟨ret_int (by simp [addV, h0]), rfl⟩
  · have b0 := tok_t h0
    cases h1 : inB d (-1000000000) 1000000000
    · have HV : Hid (addV t d = -1) := (by simp [addV, h1] : addV t d = -1)
      go_enter Tryz.func101, Tryz.ntmps101
      go_wp2_with (first | (go_at_call 52; refine (specTickOk_any _ _).mono ?_; rintro e w' ⟨rfl, rfl⟩) | (go_at_call 39; refine (l01In_any _ _ _ _).mono ?_; rintro e w' ⟨rfl, rfl⟩))
      go_ret
      exact ⟨ret_int HV.out.symm, rfl⟩
    · have b1 := in_t h1
      have HV : Hid (addV t d = max 0 (min 1000000000 (t + d))) := addV_ok h0 h1
      by_cases c1 : 1000000000 < t + d <;> by_cases c2 : t + d < 0
      all_goals try omega
      all_goals
        go_enter Tryz.func101, Tryz.ntmps101
        go_wp2_with (first | (go_at_call 52; refine (specTickOk_any _ _).mono ?_; rintro e w' ⟨rfl, rfl⟩) | (go_at_call 39; refine (l01In_any _ _ _ _).mono ?_; rintro e w' ⟨rfl, rfl⟩))
        go_ret
        exact ⟨ret_int (by rw [HV.out]; omega), rfl⟩
set_option maxHeartbeats 800000 in
theorem since_any (t from0 : Int) (w : World) :
    Calls Tryz.prog 240 #[.int .i64 t, .int .i64 from0] w fun e w' => e = .returned (.int .i64 (sinceV from0 t)) ∧ w = w' := by
  cases h0 : tokB t <;> cases h1 : tokB from0
  · have HV : Hid (sinceV from0 t = -1) := (by simp [sinceV, h1] : sinceV from0 t = -1)
    go_enter Tryz.func240, Tryz.ntmps240
    go_wp2_with (go_at_call 137; refine (ok_any _ _).mono ?_; rintro e w' ⟨rfl, rfl⟩)
    go_ret
    exact ⟨ret_int HV.out.symm, rfl⟩
  · have HV : Hid (sinceV from0 t = -1) := (by simp [sinceV, h0] : sinceV from0 t = -1)
    go_enter Tryz.func240, Tryz.ntmps240
    go_wp2_with (go_at_call 137; refine (ok_any _ _).mono ?_; rintro e w' ⟨rfl, rfl⟩)
    go_ret
    exact ⟨ret_int HV.out.symm, rfl⟩
  · have HV : Hid (sinceV from0 t = -1) := (by simp [sinceV, h1] : sinceV from0 t = -1)
    go_enter Tryz.func240, Tryz.ntmps240
    go_wp2_with (go_at_call 137; refine (ok_any _ _).mono ?_; rintro e w' ⟨rfl, rfl⟩)
    go_ret
    exact ⟨ret_int HV.out.symm, rfl⟩
  · have HV : Hid (sinceV from0 t = max 0 (t - from0)) := (by simp [sinceV, h0, h1] : sinceV from0 t = max 0 (t - from0))
    have b0 := tok_t h0
    have b1 := tok_t h1
    go_enter Tryz.func240, Tryz.ntmps240
    go_wp2_with (go_at_call 137; refine (ok_any _ _).mono ?_; rintro e w' ⟨rfl, rfl⟩)
    all_goals
      go_ret
      exact ⟨ret_int (by rw [HV.out]; omega), rfl⟩
theorem sinceI_any (a b : Int) (w : World) :
    Calls Tryz.prog 223 #[.int .i64 a, .int .i64 b] w fun e w' => e = .returned (.int .i64 (sinceV a b)) ∧ w = w' := by
  go_enter Tryz.func223, Tryz.ntmps223
  go_wp2_with (go_at_call 240; refine (since_any _ _ _).mono ?_; rintro e w' ⟨rfl, rfl⟩)
  go_ret
  exact ⟨rfl, rfl⟩
end Go.Proofs.YtklgjjmcflgjeaaGreat.Tick
namespace Go.Proofs.YtklgjjmcflgjeaaGreat.FlatOpen
open Go.ChangeShapes Go.WideShapes Go.ChangeAt Go.RowKit Go.Joins Go.Deep
section
variable {H : Type} {enc : TypeId × Value → H} {w : World} {base : Nat} {spare : Nat → Bool} {held : Bool}
theorem trod_flat {t : TypeId} {fs : Array Field} {fuel : Nat} {cs : List Value} {x : DataW H × List MemPlace} (ht : Tryz.prog.underlying t = some (.struct fs)) (hC : Tryz.prog.cellsOf t = fs.size)
    (hall : ∀ (i : Nat) (f : Field), fs[i]? = some f → f.offset = i ∧ f.type = 3) (h : DataW.trod enc Tryz.prog w base spare held fuel t cs = some x) :
    ∃ l : List Int, l.length = fs.size ∧ cs = l.map (Value.int .i64) ∧ ∀ y ∈ l, (Lit.int .i64 y).wf = true := by
  obtain ⟨xs, n, _, _, hl, hlen, hf⟩ := DataW.trod_struct ht h
  rw [hC] at hl
  have hone : ∀ i, i < fs.size → ∃ y : Int, cs[i]? = some (.int .i64 y) ∧ (Lit.int .i64 y).wf = true := by
    intro i hi
    have hg : fs[i]? = some fs[i] := Array.getElem?_eq_getElem hi
    obtain ⟨ho, hty⟩ := hall i _ hg
    have hk := hf i _ hg
    have hc : Tryz.prog.cellsOf 3 = 1 := by kernel_rfl
    have hx : xs[i]? = some xs[i] := List.getElem?_eq_getElem (by omega)
    have hcs : cs[i]? = some cs[i] := List.getElem?_eq_getElem (by omega)
    rw [ho, hty, hc, hx] at hk
    have e1 : (cs.drop i).take 1 = [cs[i]] := by
      rw [List.drop_eq_getElem_cons (by omega)]
      rfl
    rw [e1] at hk
    obtain ⟨y, e, hw⟩ := DataW.trod_int Tryz.underlying3 hk
    injection e with e
    exact ⟨y, by rw [hcs, e], hw.2⟩
  obtain ⟨f, hf2⟩ := choose_lt hone
  refine ⟨(List.range fs.size).map f, by simp, ?_, ?_⟩
  · apply List.ext_getElem?
    intro i
    by_cases hi : i < fs.size
    · rw [(hf2 i hi).1]; simp [hi]
    · rw [List.getElem?_eq_none (by omega), List.getElem?_eq_none (by simp; omega)]
  · intro y hy
    obtain ⟨i, hi, rfl⟩ := List.mem_map.1 hy
    exact (hf2 i (by simpa using hi)).2
theorem add_off (b off i : Nat) : (⟨b, off, none⟩ : Addr).add i = ⟨b, off + i, none⟩ := by
  unfold Addr.add
  split
  · subst_vars; rfl
  · rfl
set_option maxRecDepth 100000 in
theorem open_flat {r : Reach} {b0 : Nat} {t : TypeId} {fs : Array Field} {v : Value} {d : DataW H} {p : List MemPlace} (ht : Tryz.prog.underlying t = some (.struct fs)) (hC : Tryz.prog.cellsOf t = fs.size)
    (hall : ∀ (i : Nat) (f : Field), fs[i]? = some f → f.offset = i ∧ f.type = 3) (hv : Value.okWide Tryz.prog w r b0 t v) (h : DataW.Trod enc Tryz.prog w base spare held t v d p) :
    ∃ l : List Int, l.length = fs.size ∧ v = .agg (l.map (Value.int .i64)).toArray ∧ ∀ y ∈ l, (Lit.int .i64 y).wf = true := by
  obtain ⟨cs, rfl, hsz⟩ := okWide_struct ht hv
  obtain ⟨fuel, hf⟩ := h
  obtain ⟨l, h1, h2, h3⟩ := trod_flat ht hC hall hf
  refine ⟨l, h1, ?_, h3⟩
  have e : (Value.agg cs).cells.toList = cs.toList := by simp [Value.cells]
  rw [← h2, e]
theorem open_flats {s t : TypeId} {fs : Array Field} {k fuel : Nat} {v : Value} {x : DataW H × List MemPlace} (hs : Tryz.prog.underlying s = some (.slice t)) (ht : Tryz.prog.underlying t = some (.struct fs)) (hC : Tryz.prog.cellsOf t = fs.size) (hk : fs.size = k) (hk0 : 0 < k)
    (hall : ∀ (i : Nat) (f : Field), fs[i]? = some f → f.offset = i ∧ f.type = 3) (h : DataW.trod enc Tryz.prog w base spare held fuel s [v] = some x) :
    ∃ A n c, ∃ f : Nat → List Int, v = .slice A n c ∧ n ≤ maxLen ∧ (0 < n → ∃ b off, A = some ⟨b, off, none⟩ ∧ b < w.heap.size ∧ ∀ j, j < n → (f j).length = k ∧ (∀ y ∈ f j, (Lit.int .i64 y).wf = true) ∧ ∀ i, i < k → w.cell? ⟨b, off + (j * k + i), none⟩ = ((f j)[i]?).map (Value.int .i64)) := by
  rcases open_slice hs h with ⟨hcs, _⟩ | ⟨a, len, cap, m, n, D, Pl, hcs, hb, hl, hm, hmm, hx, hi⟩
  · injection hcs with hcs
    exact ⟨none, 0, 0, fun _ => [], hcs, Nat.zero_le _, fun h => absurd h (by omega)⟩
  · injection hcs with hcs
    have hlm : len ≤ m := by rw [hmm]; split <;> omega
    have hcell : ∀ i, i < len → ∃ l : List Int, l.length = k ∧ (∀ y ∈ l, (Lit.int .i64 y).wf = true) ∧ ∀ q, q < k → w.cell? (a.add (i * k + q)) = (l[q]?).map (Value.int .i64) := by
      intro i hi'
      obtain ⟨cs', hc, ht'⟩ := hi i (by omega)
      rw [hC, hk] at hc
      obtain ⟨_, hcl2, hat⟩ := World.cells?_some hc
      obtain ⟨l, h1, h2, h3⟩ := trod_flat ht hC hall ht'
      refine ⟨l, h1.trans hk, h3, fun q hq => ?_⟩
      have h4 := hat q (by omega)
      rw [add_add] at h4
      rw [h4, h2, List.getElem?_map]
    obtain ⟨f, hf⟩ := choose_lt hcell
    refine ⟨some a, len, cap, f, hcs, by omega, fun hp => ?_⟩
    obtain ⟨b, off, spot⟩ := a
    obtain ⟨h01, _, h02⟩ := hf 0 hp
    have h00 := h02 0 hk0
    rw [List.getElem?_eq_getElem (by omega)] at h00
    have hspot : spot = none := by simpa [Addr.add] using World.cell?_spot h00
    subst hspot
    have hb' : b < w.heap.size := by simpa [Addr.add] using World.block_lt_of_cell? w _ h00
    refine ⟨b, off, rfl, hb', fun j hj => ?_⟩
    obtain ⟨h1, h3, h2⟩ := hf j hj
    refine ⟨h1, h3, fun i hi2 => ?_⟩
    rw [← add_off]
    exact h2 i hi2
end
end Go.Proofs.YtklgjjmcflgjeaaGreat.FlatOpen
