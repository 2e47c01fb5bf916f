import Derived.Below
import Derived.BigQuiet
import Derived.Deep.AppendLies
import Derived.Deep.Draws
import Derived.Deep.QuietTactic
import Derived.Deep.RegionHeld3
import Derived.Deep.Slices
import Derived.LaidMore
import Derived.Laws.BitsLemmas
import Derived.Lib.Hide
import Derived.Lib.SmallJoins
import Derived.Maps.Range
import Derived.OpenShut
import Derived.ProofKit
import Derived.Stop.IfaceNil
import Derived.Stop.LaidErr
import Derived.Stop.LaidTwo
import Derived.Test.YtklgjjmcflgjeaaGreatDoorRows
import Derived.WalkKit
set_option linter.unusedVariables false
set_option linter.unusedSimpArgs false
namespace Go.Proofs.YtklgjjmcflgjeaaGreatDoor.Ints
open Go.ChangeShapes Go.WideShapes Go.ChangeAt Go.RowKit
def IsInts (w : World) (B : Nat) (A : Option Addr) (n : Nat) (zs : List Int) : Prop :=
  zs.length = n ∧ (0 < n → ∃ b off, A = some ⟨b, off, none⟩ ∧ b < B ∧ ∀ j, j < n → w.cell? ⟨b, off + j, none⟩ = some (.int .i64 (zs.getD j 0)))
theorem IsInts.below {w w' : World} {B C : Nat} {A : Option Addr} {n : Nat} {zs : List Int} (h : IsInts w B A n zs) (hb : Below C w w') (hC : B ≤ C) : IsInts w' B A n zs :=
  ⟨h.1, fun hn => by
    obtain ⟨b, off, e, hlt, hc⟩ := h.2 hn
    exact ⟨b, off, e, hlt, fun j hj => (hb.cell (p := ⟨b, off + j, none⟩) (by show b < C; omega)).trans (hc j hj)⟩⟩
theorem IsInts.more {w : World} {B C : Nat} {A : Option Addr} {n : Nat} {zs : List Int} (h : IsInts w B A n zs) (hC : B ≤ C) : IsInts w C A n zs :=
  ⟨h.1, fun hn => by
    obtain ⟨b, off, e, hlt, hc⟩ := h.2 hn
    exact ⟨b, off, e, by omega, hc⟩⟩
theorem IsInts.drewN {w : World} {B : Nat} {A : Option Addr} {n : Nat} {zs : List Int} (h : IsInts w B A n zs) (k : Nat) : IsInts (w.drewN k) B A n zs := h
theorem IsInts.at_ {w : World} {B : Nat} {A : Option Addr} {n k : Nat} {zs : List Int} (h : IsInts w B A n zs) (hk : k < n) :
    ∃ b off z, A = some ⟨b, off, none⟩ ∧ b < B ∧ z = zs.getD k 0 ∧ w.cell? ⟨b, off + k, none⟩ = some (.int .i64 z) := by
  obtain ⟨b, off, e, hlt, hc⟩ := h.2 (by omega)
  exact ⟨b, off, _, e, hlt, rfl, hc k hk⟩
theorem below_drewN {B : Nat} {a w : World} (h : Below B a w) (n : Nat) : Below B a (w.drewN n) := ⟨h.os, h.tape, h.output, h.size, h.block⟩
theorem own_lt {w : World} {base : Nat} {e : TypeId} {size g n cap : Nat} {xs : List Value} (h : w.ownsRow base e size (.slice (some ⟨g, 0, none⟩) n cap) n xs) : g < w.heap.size := by
  rcases h.2 with ⟨h0, _⟩ | ⟨g', cap', cur, hv, _, hh, _⟩
  · cases h0
  · have : g = g' := by injection hv with h1; injection h1 with h1; injection h1
    subst this
    rcases Nat.lt_or_ge g w.heap.size with hl | hl
    · exact hl
    · rw [Array.getElem?_eq_none hl] at hh; cases hh
end Go.Proofs.YtklgjjmcflgjeaaGreatDoor.Ints
namespace Go.Proofs.YtklgjjmcflgjeaaGreatDoor.Has
open Go.ChangeShapes Go.WideShapes Go.ChangeAt Go.RowKit
open Ints
def OwnI (w : World) (base : Nat) (A : Option Addr) (n c : Nat) (zs : List Int) : Prop := zs.length = n ∧ w.ownsRow base 3 1 (.slice A n c) n (zs.map (Value.int .i64))
theorem OwnI.ints {w : World} {base : Nat} {A : Option Addr} {n c : Nat} {zs : List Int} (h : OwnI w base A n c zs) : IsInts w w.heap.size A n zs := by
  refine ⟨h.1, fun hn => ?_⟩
  obtain ⟨g, cap, hv, _, hlt⟩ := h.2.form hn
  have hA : A = some ⟨g, 0, none⟩ := by injection hv
  subst hA
  refine ⟨g, 0, rfl, hlt, fun j hj => ?_⟩
  rw [Nat.zero_add, h.2.cellAt j (by omega)]
  have hl : j < zs.length := by rw [h.1]; exact hj
  simp [List.getD, hl]
theorem OwnI.grown {w w' : World} {base : Nat} {A : Option Addr} {n c : Nat} {zs : List Int} (h : OwnI w base A n c zs) {row : Option Nat} (hg : w.grownBy w' row) (hne : (Value.slice A n c).ownBlock = none ∨ (Value.slice A n c).ownBlock ≠ row) : OwnI w' base A n c zs := ⟨h.1, h.2.kept hg hne⟩
theorem OwnI.alloc {w : World} {base : Nat} {A : Option Addr} {n c : Nat} {zs : List Int} (h : OwnI w base A n c zs) (o : Obj) : OwnI (w.alloc o) base A n c zs := ⟨h.1, h.2.alloc o⟩
theorem OwnI.below {w w' : World} {base : Nat} {A : Option Addr} {n c : Nat} {zs : List Int} (h : OwnI w base A n c zs) (hb : Below w.heap.size w w') : OwnI w' base A n c zs :=
  ⟨h.1, h.2.kept ⟨hb.os, hb.tape, hb.output, hb.size, fun i hi _ => hb.block i hi⟩ (row := none) (by cases hv : (Value.slice A n c).ownBlock <;> simp)⟩
theorem OwnI.lt {w : World} {base : Nat} {A : Option Addr} {n c : Nat} {zs : List Int} (h : OwnI w base A n c zs) : ∀ k, (Value.slice A n c).ownBlock = some k → base ≤ k ∧ k < w.heap.size := h.2.lt
theorem OwnI.of_append {w' : World} {base n : Nat} {v' : Value} {zs : List Int} {x : Int} (hl : zs.length = n) (h : w'.ownsRow base 3 1 v' (n + 1) (zs.map (Value.int .i64) ++ [.int .i64 x])) : ∃ A c, v' = .slice A (n + 1) c ∧ OwnI w' base A (n + 1) c (zs ++ [x]) := by
  obtain ⟨g, cap, rfl, _⟩ := h.form (by omega)
  exact ⟨_, _, rfl, by simp [hl], by simpa using h⟩
end Go.Proofs.YtklgjjmcflgjeaaGreatDoor.Has
namespace Go.Proofs.YtklgjjmcflgjeaaGreatDoor.Ints
open Go.ChangeShapes Go.WideShapes Go.ChangeAt Go.RowKit
theorem info3 : (Tryz.prog.info? 3).map (fun i => (i.zero, i.size, i.bytes)) = some (some (.int .i64 0), 1, 8) := by kernel_rfl
end Go.Proofs.YtklgjjmcflgjeaaGreatDoor.Ints
namespace Go.Proofs.YtklgjjmcflgjeaaGreatDoor.Rec
open Go.ChangeShapes Go.WideShapes Go.ChangeAt Go.RowKit Go.Joins Go.Deep
open Ints Has
theorem below_a1 (w : World) (o : Obj) : Below w.heap.size w (w.alloc o) := (Below.refl _ _).alloc (Nat.le_refl _) _
theorem below_a2 (w : World) (o p : Obj) : Below w.heap.size w ((w.alloc o).alloc p) := (below_a1 w o).alloc (by simp) _
theorem below_a3 (w : World) (o p q : Obj) : Below w.heap.size w (((w.alloc o).alloc p).alloc q) := (below_a2 w o p).alloc (by simp; omega) _
theorem below_alloc3 {w w4 : World} {o p q : Obj} (h : Below (((w.alloc o).alloc p).alloc q).heap.size (((w.alloc o).alloc p).alloc q) w4) : Below w.heap.size w w4 :=
  (below_a3 w o p q).trans (h.mono (by simp; omega))
theorem below_alloc1 {w w4 : World} {o : Obj} (h : Below (w.alloc o).heap.size (w.alloc o) w4) : Below w.heap.size w w4 :=
  (below_a1 w o).trans (h.mono (by simp))
theorem heap_new (w : World) (o : Obj) : (w.alloc o).heap[w.heap.size]? = some o := heap_alloc_new w o
theorem blk2 {w : World} {g : Nat} {a b : Value} {t : TypeId} (h : w.heap[g]? = some (.cells #[a, b] t (0, 0))) :
    w.cell? ⟨g, 0, none⟩ = some a ∧ w.cell? ⟨g, 1, none⟩ = some b ∧ w.frozen? ⟨g, 0, none⟩ = false ∧ w.frozen? ⟨g, 1, none⟩ = false := by
  refine ⟨?_, ?_, ?_, ?_⟩ <;> simp [World.cell?, World.frozen?, h]
theorem old3 {w w4 : World} {o p q : Obj} (h : Below (((w.alloc o).alloc p).alloc q).heap.size (((w.alloc o).alloc p).alloc q) w4) :
    w4.heap[w.heap.size]? = some o ∧ w4.heap[w.heap.size + 1]? = some p ∧ w4.heap[w.heap.size + 1 + 1]? = some q := by
  have h1 : (w.alloc o).heap[w.heap.size]? = some o := heap_new w o
  have h2 : ((w.alloc o).alloc p).heap[w.heap.size + 1]? = some p := by have := heap_new (w.alloc o) p; simpa using this
  have h3 : (((w.alloc o).alloc p).alloc q).heap[w.heap.size + 1 + 1]? = some q := by have := heap_new ((w.alloc o).alloc p) q; simpa using this
  refine ⟨?_, ?_, ?_⟩
  · rw [h.block _ (by simp; omega), Below.heap_alloc _ _ _ (by simp; omega), Below.heap_alloc _ _ _ (by simp), h1]
  · rw [h.block _ (by simp), Below.heap_alloc _ _ _ (by simp), h2]
  · rw [h.block _ (by simp), h3]
theorem own_base {w : World} {b b' : Nat} {e : TypeId} {size : Nat} {v : Value} {n : Nat} {xs : List Value} (h : w.ownsRow b e size v n xs) (hb : b' ≤ b) : w.ownsRow b' e size v n xs := by
  refine ⟨h.1, ?_⟩
  rcases h.2 with h2 | ⟨g, cap, cur, h3, h4, h5⟩
  · exact .inl h2
  · exact .inr ⟨g, cap, cur, h3, by omega, h5⟩
theorem ownI_base {w : World} {b b' : Nat} {A : Option Addr} {n c : Nat} {zs : List Int} (h : OwnI w b A n c zs) (hb : b' ≤ b) : OwnI w b' A n c zs := ⟨h.1, own_base h.2 hb⟩
theorem grown_set (w : World) (p : Addr) (u : Value) : w.grownBy (w.setCell p u) (some p.block) :=
  ⟨rfl, rfl, rfl, by simp [World.setCell], fun k _ ho => Below.heap_setCell w p u k (by intro e; exact ho (by rw [e]))⟩
theorem ownI_setLow {w : World} {lo : Nat} {A : Option Addr} {n c : Nat} {zs : List Int} (h : OwnI w lo A n c zs) {p : Addr} (hp : p.block < lo) (u : Value) : OwnI (w.setCell p u) lo A n c zs := by
  refine h.grown (grown_set w p u) ?_
  cases hb : (Value.slice A n c).ownBlock with
  | none => exact .inl rfl
  | some q =>
    refine .inr fun e => ?_
    injection e with e
    have := (h.lt q hb).1
    omega
def marksI (k : Int) (n : Nat) : List Int := (List.range n).map fun (i : Nat) => k + (i : Int)
end Go.Proofs.YtklgjjmcflgjeaaGreatDoor.Rec
namespace Go.Proofs.YtklgjjmcflgjeaaGreatDoor.Rec
open Go.ChangeShapes Go.WideShapes Go.ChangeAt Go.RowKit
open Ints Has
theorem below_keep {w w' : World} {p : Addr} {u : Value} (hb : Below w.heap.size w w') (h : w.cell? p = some u) : w'.cell? p = some u :=
  (hb.cell (World.block_lt_of_cell? w p h)).trans h
def Box (w : World) (b : Nat) (kd : Int) (A : Option Addr) (n c : Nat) : Prop := w.cell? ⟨b, 0, none⟩ = some (.int .i64 kd) ∧ w.cell? ⟨b, 1, none⟩ = some (.slice A n c)
section
variable {w w' : World} {b : Nat} {kd : Int} {A : Option Addr} {n c : Nat}
theorem Box.lt (h : Box w b kd A n c) : b < w.heap.size := World.block_lt_of_cell? w _ h.1
theorem Box.below (h : Box w b kd A n c) (hb : Below w.heap.size w w') : Box w' b kd A n c := ⟨below_keep hb h.1, below_keep hb h.2⟩
theorem Box.low {C : Nat} (h : Box w b kd A n c) (hb : Below C w w') (hC : b < C) : Box w' b kd A n c := ⟨(hb.cell (p := ⟨b, 0, none⟩) hC).trans h.1, (hb.cell (p := ⟨b, 1, none⟩) hC).trans h.2⟩
theorem Box.alloc (h : Box w b kd A n c) (o : Obj) : Box (w.alloc o) b kd A n c := h.below (below_a1 w o)
theorem Box.new (w : World) (kd : Int) (A : Option Addr) (n c : Nat) (t : TypeId) : Box (w.alloc (.cells #[.int .i64 kd, .slice A n c] t)) w.heap.size kd A n c := by
  obtain ⟨h0, h1, _⟩ := blk2 (heap_alloc_new w (.cells #[.int .i64 kd, .slice A n c] t))
  exact ⟨h0, h1⟩
theorem Box.grown {row : Option Nat} (h : Box w b kd A n c) (hg : w.grownBy w' row) (hne : row ≠ some b) : Box w' b kd A n c := by
  have hl := h.lt
  have e : w'.heap[b]? = w.heap[b]? := hg.block b hl (fun e => hne e.symm)
  exact ⟨(World.cell?_of_block e).trans h.1, (World.cell?_of_block e).trans h.2⟩
end
end Go.Proofs.YtklgjjmcflgjeaaGreatDoor.Rec
namespace Go.Proofs.YtklgjjmcflgjeaaGreatDoor.Bytes
open Go.ChangeShapes Go.WideShapes Go.ChangeAt Go.RowKit
open Ints (own_lt below_drewN)
def IsBytes (w : World) (B : Nat) (A : Option Addr) (n : Nat) (bs : List Int) : Prop :=
  bs.length = n ∧ (∀ x ∈ bs, 0 ≤ x ∧ x < 256) ∧ (0 < n → ∃ b off, A = some ⟨b, off, none⟩ ∧ b < B ∧ ∀ j, j < n → w.cell? ⟨b, off + j, none⟩ = some (.int .u8 (bs.getD j 0)))
theorem IsBytes.below {w w' : World} {B C : Nat} {A : Option Addr} {n : Nat} {bs : List Int} (h : IsBytes w B A n bs) (hb : Below C w w') (hC : B ≤ C) : IsBytes w' B A n bs :=
  ⟨h.1, h.2.1, fun hn => by
    obtain ⟨b, off, e, hlt, hc⟩ := h.2.2 hn
    exact ⟨b, off, e, hlt, fun j hj => (hb.cell (p := ⟨b, off + j, none⟩) (by show b < C; omega)).trans (hc j hj)⟩⟩
theorem IsBytes.more {w : World} {B C : Nat} {A : Option Addr} {n : Nat} {bs : List Int} (h : IsBytes w B A n bs) (hC : B ≤ C) : IsBytes w C A n bs :=
  ⟨h.1, h.2.1, fun hn => by
    obtain ⟨b, off, e, hlt, hc⟩ := h.2.2 hn
    exact ⟨b, off, e, by omega, hc⟩⟩
theorem IsBytes.at_ {w : World} {B : Nat} {A : Option Addr} {n k : Nat} {bs : List Int} (h : IsBytes w B A n bs) (hk : k < n) :
    ∃ b off z, A = some ⟨b, off, none⟩ ∧ b < B ∧ z = bs.getD k 0 ∧ w.cell? ⟨b, off + k, none⟩ = some (.int .u8 z) ∧ 0 ≤ z ∧ z < 256 := by
  obtain ⟨b, off, e, hlt, hc⟩ := h.2.2 (by omega)
  have hl : k < bs.length := by rw [h.1]; exact hk
  have hm := h.2.1 (bs.getD k 0) (by simp [List.getD, hl])
  exact ⟨b, off, _, e, hlt, rfl, hc k hk, hm.1, hm.2⟩
def OwnB (w : World) (base : Nat) (A : Option Addr) (n c : Nat) (bs : List Int) : Prop := bs.length = n ∧ (∀ x ∈ bs, 0 ≤ x ∧ x < 256) ∧ w.ownsRow base 5 1 (.slice A n c) n (bs.map (Value.int .u8))
theorem OwnB.bytes {w : World} {base : Nat} {A : Option Addr} {n c : Nat} {bs : List Int} (h : OwnB w base A n c bs) : IsBytes w w.heap.size A n bs := by
  refine ⟨h.1, h.2.1, fun hn => ?_⟩
  obtain ⟨g, cap, hv, _, hlt⟩ := h.2.2.form hn
  have hA : A = some ⟨g, 0, none⟩ := by injection hv
  subst hA
  refine ⟨g, 0, rfl, hlt, fun j hj => ?_⟩
  rw [Nat.zero_add, h.2.2.cellAt j (by omega)]
  have hl : j < bs.length := by rw [h.1]; exact hj
  simp [List.getD, hl]
theorem OwnB.grown {w w' : World} {base : Nat} {A : Option Addr} {n c : Nat} {bs : List Int} (h : OwnB w base A n c bs) {row : Option Nat} (hg : w.grownBy w' row) (hne : (Value.slice A n c).ownBlock = none ∨ (Value.slice A n c).ownBlock ≠ row) : OwnB w' base A n c bs := ⟨h.1, h.2.1, h.2.2.kept hg hne⟩
theorem OwnB.alloc {w : World} {base : Nat} {A : Option Addr} {n c : Nat} {bs : List Int} (h : OwnB w base A n c bs) (o : Obj) : OwnB (w.alloc o) base A n c bs := ⟨h.1, h.2.1, h.2.2.alloc o⟩
theorem OwnB.below {w w' : World} {base : Nat} {A : Option Addr} {n c : Nat} {bs : List Int} (h : OwnB w base A n c bs) (hb : Below w.heap.size w w') : OwnB w' base A n c bs :=
  ⟨h.1, h.2.1, h.2.2.kept ⟨hb.os, hb.tape, hb.output, hb.size, fun i hi _ => hb.block i hi⟩ (row := none) (by cases hv : (Value.slice A n c).ownBlock <;> simp)⟩
theorem OwnB.lt {w : World} {base : Nat} {A : Option Addr} {n c : Nat} {bs : List Int} (h : OwnB w base A n c bs) : ∀ k, (Value.slice A n c).ownBlock = some k → base ≤ k ∧ k < w.heap.size := h.2.2.lt
theorem OwnB.of_append {w' : World} {base n : Nat} {v' : Value} {bs : List Int} {x : Int} (hl : bs.length = n) (hbs : ∀ y ∈ bs, 0 ≤ y ∧ y < 256) (hx : 0 ≤ x ∧ x < 256) (h : w'.ownsRow base 5 1 v' (n + 1) (bs.map (Value.int .u8) ++ [.int .u8 x])) : ∃ A c, v' = .slice A (n + 1) c ∧ OwnB w' base A (n + 1) c (bs ++ [x]) := by
  obtain ⟨g, cap, rfl, _⟩ := h.form (by omega)
  refine ⟨_, _, rfl, by simp [hl], ?_, by simpa using h⟩
  intro y hy
  rcases List.mem_append.mp hy with hy | hy
  · exact hbs y hy
  · obtain rfl : y = x := by simpa using hy
    exact hx
def CopiedB (w : World) (bs : List Int) (e : Ending) (w' : World) : Prop :=
  ∃ g, e = .returned (.slice (some ⟨g, 0, none⟩) bs.length bs.length) ∧ w.heap.size ≤ g ∧ OwnB w' w.heap.size (some ⟨g, 0, none⟩) bs.length bs.length bs ∧ Below w.heap.size w w'
theorem infoByte : (Tryz.prog.info? 5).map (fun i => (i.zero, i.size, i.bytes)) = some (some (.int .u8 0), 1, 1) := by kernel_rfl
def PartB (zs : List Int) (k : Nat) : List Value := (zs.take k).map (Value.int .u8) ++ List.replicate (zs.length - k) (.int .u8 0)
theorem PartB_zero (zs : List Int) : PartB zs 0 = List.replicate zs.length (.int .u8 0) := by simp [PartB]
theorem PartB_len (zs : List Int) (k : Nat) (h : k ≤ zs.length) : (PartB zs k).length = zs.length := by simp [PartB]; omega
theorem PartB_set (zs : List Int) (k : Nat) (h : k < zs.length) : (PartB zs k).set k (.int .u8 (zs.getD k 0)) = PartB zs (k + 1) := by
  unfold PartB
  apply List.ext_getElem?
  intro j
  have hl : ((zs.take k).map (Value.int .u8)).length = k := by simp; omega
  rw [List.getElem?_set]
  by_cases hj : k = j
  · subst hj
    rw [if_pos rfl]
    simp only [List.getElem?_append, List.length_map, List.length_take, List.length_append, List.length_replicate]
    rw [if_pos (by omega), if_pos (by omega)]
    simp [h]
  · rw [if_neg hj]
    simp only [List.getElem?_append, List.length_map, List.length_take]
    by_cases h1 : j < k
    · rw [if_pos (by omega), if_pos (by omega)]
      simp [h1, show j < k + 1 by omega]
    · rw [if_neg (by omega), if_neg (by omega)]
      simp only [List.getElem?_replicate]
      by_cases h2 : j < zs.length
      · rw [if_pos (by omega), if_pos (by omega)]
      · rw [if_neg (by omega), if_neg (by omega)]
theorem PartB_all (zs : List Int) : PartB zs zs.length = zs.map (Value.int .u8) := by simp [PartB]
set_option maxHeartbeats 1600000 in
theorem toByteS_any (A : Option Addr) (n cap : Nat) (zs : List Int) (B : Nat) (w : World) (hr : IsBytes w B A n zs) (hB : B ≤ w.heap.size) (hn : n ≤ 1048576) :
    Calls Tryz.prog 76 #[.slice A n cap] w (CopiedB w zs) := by
  obtain ⟨i0, hi, hz0, hz1, hz2⟩ := info_parts infoByte
  have HLen : Hid (zs.length = n) := hr.1
  have HBY := Lib.hid hr.2.1
  go_enter Tryz.func76, Tryz.ntmps76
  go_wp2_with (at_make; refine wpList_make_full _ rfl _ _ 22 rfl w.heap.size 5 i0 (.int .u8 0) 1 Tryz.underlying22 hi hz0 hz1 _ _ _ _ n rfl rfl rfl rfl ?b1 ?b2 ?b3 ?_)
  case b1 => rw [hz2]; omega
  case b2 => unfold maxLen; omega
  case b3 => exact Nat.le_refl _
  intro w1 hown hgrow
  have hbel : Below w.heap.size w w1 := (Below.refl _ _).grown hgrow (Nat.le_refl _) (by intro k h; cases h)
  have hP0 : (madeCells #[Value.int IntKind.u8 0] n).toList = PartB zs 0 := by rw [PartB_zero, toList_madeCells_one, HLen.out]
  rw [hP0] at hown
  have hsz : w.heap.size < w1.heap.size := own_lt hown
  clear hP0 hgrow hi hz0 hz1 hz2
  go_wp2_with fail
  go_loopw [4] (fun i wr => ∃ k : Nat, k ≤ n ∧ i = .int .i64 k ∧ wr.ownsRow w.heap.size 5 1 (.slice (some ⟨w.heap.size, 0, none⟩) n n) n (PartB zs k) ∧ Below w.heap.size w wr ∧ w.heap.size < wr.heap.size) (fun i _ => n - (RowKit.intOf i).toNat)
  case atStart => exact ⟨0, Nat.zero_le _, rfl, hown, hbel, hsz⟩
  case round =>
    obtain ⟨k, hk, rfl, hownr, hbr, hszr⟩ := hrel
    by_cases hlt : k < n
    · obtain ⟨b, off, z, rfl, hbB, hz, hc, hz0, hz1⟩ := (hr.below hbr hB).at_ hlt
      have hcell := (hownr.cellAt k (by omega)).trans (List.getElem?_eq_getElem (by rw [PartB_len _ _ (by rw [HLen.out]; omega), HLen.out]; omega))
      have hfr := hownr.frozenAt k
      have hst := hownr.stored k (.int .u8 z)
      have HZ : Hid (z = zs.getD k 0) := hz
      clear hz
      have HS := hst
      clear hst
      go_wp2
      go_roundw
      case rel =>
        refine ⟨k + 1, by omega, by go_num, ?_, hbr.setCell (p := ⟨w.heap.size, k, none⟩) (Nat.le_refl _) _, by simpa [World.setCell] using hszr⟩
        have h1 := HS.1
        rw [HZ.out, PartB_set zs k (by rw [HLen.out]; omega)] at h1
        rw [HZ.out]
        exact h1
      case measure => simp [RowKit.intOf]; omega
    · have hkn : k = n := by omega
      have HK : Hid (k = n) := hkn
      clear hkn
      go_wp2
      go_ret
      have hl := HLen.out
      refine ⟨w.heap.size, by rw [hl]; rfl, Nat.le_refl _, ⟨rfl, HBY.out, ?_⟩, hbr⟩
      have h1 := hownr
      rw [HK.out, ← hl, PartB_all] at h1
      exact h1
set_option maxHeartbeats 800000 in
theorem eqByteS_same (A C : Option Addr) (n cap cap' : Nat) (zs : List Int) (B B' : Nat) (w : World) (hr : IsBytes w B A n zs) (hs : IsBytes w B' C n zs) (hn : n ≤ 1048576) :
    Calls Tryz.prog 77 #[.slice A n cap, .slice C n cap'] w fun e w' => e = .returned (.bool true) ∧ ∃ m, w' = w.drewN m := by
  go_enter Tryz.func77, Tryz.ntmps77
  go_wp2_with fail
  go_loopw [5] (fun i wr => ∃ k m : Nat, k ≤ n ∧ i = .int .i64 k ∧ wr = w.drewN m) (fun i _ => n - (RowKit.intOf i).toNat)
  case atStart => exact ⟨0, 0, Nat.zero_le _, rfl, rfl⟩
  case round =>
    obtain ⟨k, m, hk, rfl, rfl⟩ := hrel
    by_cases hlt : k < n
    · obtain ⟨b, off, z, rfl, hbB, hz, hc, hz0, hz1⟩ := hr.at_ hlt
      obtain ⟨b2, off2, z2, rfl, hbB2, hz2, hc2, hz3, hz4⟩ := hs.at_ hlt
      obtain rfl : z = z2 := by rw [hz, hz2]
      clear hz hz2 hr hs
      go_wp2
      go_quiet (fail)
      go_wp2
      go_roundw
      case rel => exact ⟨k + 1, _, by omega, by go_num, rfl⟩
      case measure => simp [RowKit.intOf]; omega
    · go_wp2
      go_ret
      exact ⟨rfl, m, rfl⟩
def marksB (k : Int) (n : Nat) : List Int := (List.range n).map fun (i : Nat) => (k + (i : Int)) % 256
theorem marksB_len (k : Int) (n : Nat) : (marksB k n).length = n := by simp [marksB]
theorem marksB_at (k : Int) (n j : Nat) (h : j < n) : (marksB k n).getD j 0 = (k + (j : Int)) % 256 := by simp [marksB, List.getD, h]
theorem marksB_step (k : Int) (n j : Nat) (zs : List Int) (h : j < n) (hl : zs.length = n) : ((marksB k n).take j ++ zs.drop j).set j ((k + (j : Int)) % 256) = (marksB k n).take (j + 1) ++ zs.drop (j + 1) := by
  have hj : ((marksB k n).take j).length = j := by rw [List.length_take, marksB_len]; omega
  rw [List.set_append_right _ _ (by omega), hj, Nat.sub_self, List.drop_eq_getElem_cons (by omega), List.set_cons_zero, List.take_succ_eq_append_getElem (by rw [marksB_len]; exact h), List.append_assoc]
  congr 1
  simp [marksB]
set_option maxHeartbeats 800000 in
theorem markByteS_any (A : Option Addr) (n c : Nat) (zs : List Int) (k : Int) (base : Nat) (w : World) (hO : OwnB w base A n c zs) (hn : n ≤ 1048576) (hk0 : 0 ≤ k) (hk1 : k ≤ 300000000) :
    Calls Tryz.prog 78 #[.slice A n c, .int .i64 k] w fun e w' => e = .returned (.int .i64 (k + n)) ∧ OwnB w' base A n c (marksB k n) ∧ w.grownBy w' (Value.slice A n c).ownBlock := by
  have HL : Hid (zs.length = n) := hO.1
  have HO := Lib.hid hO
  clear hO
  rcases Nat.eq_zero_or_pos n with h0 | h0
  · subst h0
    have HZ : Hid (zs = []) := List.eq_nil_of_length_eq_zero HL.out
    go_enter Tryz.func78, Tryz.ntmps78
    go_wp2_with fail
    go_loop [1, 5] (fun a i => a = .int .i64 k ∧ i = .int .i64 (0 : Int)) (fun _ _ => 0)
    case atStart => exact ⟨rfl, rfl⟩
    case round =>
      obtain ⟨rfl, rfl⟩ := hrel
      go_wp2
      go_ret
      refine ⟨by simp, ?_, World.grownBy.refl _ _⟩
      have h5 := HO.out
      rw [HZ.out] at h5
      exact h5
  · obtain ⟨g, cap, hv, hbg, hgl⟩ := HO.out.2.2.form h0
    obtain rfl : A = some ⟨g, 0, none⟩ := by injection hv
    clear hv
    have HZR : Hid (∀ (j : Nat), (zs.drop j).length = n - j) := fun j => by rw [List.length_drop, HL.out]
    go_enter Tryz.func78, Tryz.ntmps78
    go_wp2_with fail
    go_loopw [1, 5] (fun a i wr => ∃ j : Nat, j ≤ n ∧ a = .int .i64 (k + j) ∧ i = .int .i64 j ∧ Hid (OwnB wr base (some ⟨g, 0, none⟩) n c ((marksB k n).take j ++ zs.drop j)) ∧ Hid (w.grownBy wr (some g))) (fun _ i _ => n - (RowKit.intOf i).toNat)
    case atStart => exact ⟨0, Nat.zero_le _, by simp, rfl, by simpa using HO, World.grownBy.refl _ _⟩
    case round =>
      obtain ⟨j, hj, rfl, rfl, HI, HG⟩ := hrel
      by_cases hlt : j < n
      · have hc : ∃ u, wr.cell? ⟨g, j, none⟩ = some u := by
          have h5 := HI.out.2.2.1
          exact ⟨_, (HI.out.2.2.cellAt j (by omega)).trans (List.getElem?_eq_getElem (by omega))⟩
        obtain ⟨u, hu⟩ := hc
        have hf := HI.out.2.2.frozenAt j
        obtain ⟨m, hm⟩ : ∃ m : Int, m = (k + (j : Int)) % 256 := ⟨_, rfl⟩
        have hwm : IntKind.u8.wrap (k + (j : Int)) = m := by rw [IntKind.wrap_u8, hm]
        obtain ⟨hs1, hs2⟩ := HI.out.2.2.stored j (.int .u8 m)
        have HN : Hid (OwnB (wr.setCell ⟨g, j, none⟩ (.int .u8 m)) base (some ⟨g, 0, none⟩) n c ((marksB k n).take (j + 1) ++ zs.drop (j + 1))) := by
          rw [← marksB_step k n j zs hlt HL.out, ← hm]
          refine ⟨by rw [List.length_set]; exact HI.out.1, ?_, ?_⟩
          · intro x hx
            rcases List.mem_or_eq_of_mem_set hx with h | h
            · exact HI.out.2.1 x h
            · rw [h, hm]; omega
          · rw [List.map_set]
            exact hs1
        have HG2 : Hid (w.grownBy (wr.setCell ⟨g, j, none⟩ (.int .u8 m)) (some g)) := HG.out.andThen hs2 (fun q hq => by cases hq; exact Or.inr rfl)
        clear hs1 hs2 hm
        go_wp2
        go_roundw
        case rel => exact ⟨j + 1, by omega, by go_num, by go_num, HN, HG2⟩
        case measure => simp [RowKit.intOf]; omega
      · have HJ : Hid (j = n) := (by omega : j = n)
        go_wp2
        go_ret
        refine ⟨by rw [HJ.out]; rfl, ?_, HG.out⟩
        have h5 := HI.out
        rw [HJ.out, List.take_of_length_le (by rw [marksB_len]; exact Nat.le_refl _), List.drop_eq_nil_of_le (by rw [HL.out]; exact Nat.le_refl _), List.append_nil] at h5
        exact h5
set_option maxHeartbeats 800000 in
theorem heldByteS_any (A : Option Addr) (n c : Nat) (k : Int) (B : Nat) (w : World) (hr : IsBytes w B A n (marksB k n)) (hn : n ≤ 1048576) (hk0 : 0 ≤ k) (hk1 : k ≤ 300000000) :
    Calls Tryz.prog 126 #[.slice A n c, .int .i64 k] w fun e w' => e = .returned (.int .i64 (k + n)) ∧ w' = w := by
  have HR := Lib.hid hr
  clear hr
  go_enter Tryz.func126, Tryz.ntmps126
  go_wp2_with fail
  go_loop [1, 5] (fun a i => ∃ j : Nat, j ≤ n ∧ a = .int .i64 (k + j) ∧ i = .int .i64 j) (fun _ i => n - (RowKit.intOf i).toNat)
  case atStart => exact ⟨0, Nat.zero_le _, by simp, rfl⟩
  case round =>
    obtain ⟨j, hj, rfl, rfl⟩ := hrel
    by_cases hlt : j < n
    · obtain ⟨b, off, z, rfl, hbB, hz, hc, hz0, hz1⟩ := HR.out.at_ hlt
      have hwm : IntKind.u8.wrap (k + (j : Int)) = z := by rw [IntKind.wrap_u8, hz, marksB_at k n j hlt]
      clear hz
      go_wp2
      go_round
      case rel => exact ⟨j + 1, by omega, by go_num, by go_num⟩
      case measure => simp [RowKit.intOf]; omega
    · have HJ : Hid (j = n) := (by omega : j = n)
      go_wp2
      go_ret
      exact ⟨by rw [HJ.out]; rfl, rfl⟩
end Go.Proofs.YtklgjjmcflgjeaaGreatDoor.Bytes
namespace Go.Proofs.YtklgjjmcflgjeaaGreatDoor.Rd
open Go.ChangeShapes Go.WideShapes Go.ChangeAt Go.RowKit
open Ints (below_drewN)
open Bytes (IsBytes)
open Rec (grown_set below_a1)
structure Errs (B : Nat) (w : World) (aT aB aO : Addr) : Prop where
  lt : 2 < B ∧ 3 < B ∧ 1 < B
  cT : w.cell? ⟨2, 0, none⟩ = some (.iface 408 (.pointer (some aT)))
  cB : w.cell? ⟨3, 0, none⟩ = some (.iface 408 (.pointer (some aB)))
  cO : w.cell? ⟨1, 0, none⟩ = some (.iface 408 (.pointer (some aO)))
theorem Errs.below {B C : Nat} {w w' : World} {aT aB aO : Addr} (h : Errs B w aT aB aO) (hb : Below C w w') (hC : B ≤ C) : Errs B w' aT aB aO :=
  ⟨h.lt, (hb.cell (p := ⟨2, 0, none⟩) (Nat.lt_of_lt_of_le h.lt.1 hC)).trans h.cT, (hb.cell (p := ⟨3, 0, none⟩) (Nat.lt_of_lt_of_le h.lt.2.1 hC)).trans h.cB, (hb.cell (p := ⟨1, 0, none⟩) (Nat.lt_of_lt_of_le h.lt.2.2 hC)).trans h.cO⟩
structure Rd (w : World) (R : Nat) (A : Option Addr) (n c : Nat) (p : Int) (f : Value) : Prop where
  c0 : w.cell? ⟨R, 0, none⟩ = some (.slice A n c)
  c1 : w.cell? ⟨R, 1, none⟩ = some (.int .i64 p)
  c2 : w.cell? ⟨R, 2, none⟩ = some f
  f1 : w.frozen? ⟨R, 1, none⟩ = false
  f2 : w.frozen? ⟨R, 2, none⟩ = false
section
variable {w w' : World} {R : Nat} {A : Option Addr} {n c : Nat} {p : Int} {f : Value}
theorem Rd.lt (h : Rd w R A n c p f) : R < w.heap.size := World.block_lt_of_cell? w _ h.c0
theorem Rd.grown {row : Option Nat} (h : Rd w R A n c p f) (hg : w.grownBy w' row) (hne : row ≠ some R) : Rd w' R A n c p f := by
  have e : w'.heap[R]? = w.heap[R]? := hg.block R h.lt (fun e => hne e.symm)
  exact ⟨(World.cell?_of_block e).trans h.c0, (World.cell?_of_block e).trans h.c1, (World.cell?_of_block e).trans h.c2, (World.frozen?_of_block (a := ⟨R, 1, none⟩) e).trans h.f1, (World.frozen?_of_block (a := ⟨R, 2, none⟩) e).trans h.f2⟩
theorem Rd.below (h : Rd w R A n c p f) (hb : Below w.heap.size w w') : Rd w' R A n c p f :=
  h.grown (row := none) ⟨hb.os, hb.tape, hb.output, hb.size, fun i hi _ => hb.block i hi⟩ (by simp)
theorem Rd.drewN (h : Rd w R A n c p f) (m : Nat) : Rd (w.drewN m) R A n c p f := ⟨h.c0, h.c1, h.c2, h.f1, h.f2⟩
theorem Rd.set1 (h : Rd w R A n c p f) (q : Int) : Rd (w.setCell ⟨R, 1, none⟩ (.int .i64 q)) R A n c q f :=
  ⟨(World.cell?_setCell_other _ _ _ _ (by simp)).trans h.c0, World.cell?_setCell_same _ _ _ h.c1, (World.cell?_setCell_other _ _ _ _ (by simp)).trans h.c2, by rw [World.frozen?_setCell]; exact h.f1, by rw [World.frozen?_setCell]; exact h.f2⟩
theorem Rd.set2 (h : Rd w R A n c p f) (g : Value) : Rd (w.setCell ⟨R, 2, none⟩ g) R A n c p g :=
  ⟨(World.cell?_setCell_other _ _ _ _ (by simp)).trans h.c0, (World.cell?_setCell_other _ _ _ _ (by simp)).trans h.c1, World.cell?_setCell_same _ _ _ h.c2, by rw [World.frozen?_setCell]; exact h.f1, by rw [World.frozen?_setCell]; exact h.f2⟩
end
theorem grown_drewN (w : World) (m : Nat) (row : Option Nat) : w.grownBy (w.drewN m) row := ⟨rfl, rfl, rfl, Nat.le_refl _, fun _ _ _ => rfl⟩
theorem grown_undrew {w w' : World} {m : Nat} {row : Option Nat} (h : (w.drewN m).grownBy w' row) : w.grownBy w' row := ⟨h.os, h.tape, h.output, h.size, h.block⟩
theorem grown_todrew {w w' : World} {row : Option Nat} (h : w.grownBy w' row) (m : Nat) : w.grownBy (w'.drewN m) row := ⟨h.os, h.tape, h.output, h.size, h.block⟩
theorem below_of {w w' : World} {R B : Nat} (h : w.grownBy w' (some R)) (hB : B ≤ R) (hs : B ≤ w.heap.size) : Below B w w' :=
  (Below.refl B w).grown h hs (fun q hq => by cases hq; exact hB)
def Left (w : World) (R : Nat) (A : Option Addr) (n c : Nat) (r : Value) (p : Int) (f : Value) (e : Ending) (w' : World) : Prop :=
  e = .returned r ∧ Rd w' R A n c p f ∧ w.grownBy w' (some R)
theorem eqNil (w : World) : (binOp .eql 163 .nilIface .nilIface).run Tryz.prog w = .ok (.bool true) w := run_eql_nil_nil_at w _ (by kernel_rfl)
theorem neNil (w : World) : (binOp .neq 163 .nilIface .nilIface).run Tryz.prog w = .ok (.bool false) w := run_neq_nil_nil_at w _ (by kernel_rfl)
theorem eqIf (w : World) (u : TypeId) (x : Value) : (binOp .eql 163 (.iface u x) .nilIface).run Tryz.prog w = .ok (.bool false) w := run_eql_iface_nil w _ (by kernel_rfl) u x
theorem neIf (w : World) (u : TypeId) (x : Value) : (binOp .neq 163 (.iface u x) .nilIface).run Tryz.prog w = .ok (.bool true) w := run_neq_iface_nil w _ (by kernel_rfl) u x
set_option maxHeartbeats 400000 in
theorem fail_live (w : World) (R : Nat) (A : Option Addr) (n c : Nat) (p : Int) (a : Addr) (h : Rd w R A n c p .nilIface) :
    Calls Tryz.prog 247 #[.pointer (some ⟨R, 0, none⟩), .iface 408 (.pointer (some a))] w fun e w' => e = .returned (.tuple #[]) ∧ w' = w.setCell ⟨R, 2, none⟩ (.iface 408 (.pointer (some a))) := by
  obtain ⟨c0, c1, c2, f1, f2⟩ := h
  have h1 := eqNil
  go_enter Tryz.func247, Tryz.ntmps247
  go_wp2
  go_end0
  exact ⟨rfl, rfl⟩
set_option maxHeartbeats 400000 in
theorem fail_dead (w : World) (R : Nat) (A : Option Addr) (n c : Nat) (p : Int) (g : Value) (u : TypeId) (x : Value) (h : Rd w R A n c p (.iface u x)) :
    Calls Tryz.prog 247 #[.pointer (some ⟨R, 0, none⟩), g] w fun e w' => e = .returned (.tuple #[]) ∧ w' = w := by
  obtain ⟨c0, c1, c2, f1, f2⟩ := h
  have h1 := eqIf
  go_enter Tryz.func247, Tryz.ntmps247
  go_wp2
  go_end0
  exact ⟨rfl, rfl⟩
theorem blk3 {w : World} {g : Nat} {a b c : Value} {t : TypeId} (h : w.heap[g]? = some (.cells #[a, b, c] t (0, 0))) :
    w.cell? ⟨g, 0, none⟩ = some a ∧ w.cell? ⟨g, 1, none⟩ = some b ∧ w.cell? ⟨g, 2, none⟩ = some c ∧ w.frozen? ⟨g, 1, none⟩ = false ∧ w.frozen? ⟨g, 2, none⟩ = false := by
  refine ⟨?_, ?_, ?_, ?_, ?_⟩ <;> simp [World.cell?, World.frozen?, h]
theorem Rd.new (w : World) (A : Option Addr) (n c : Nat) (p : Int) (f : Value) (t : TypeId) : Rd (w.alloc (.cells #[.slice A n c, .int .i64 p, f] t)) w.heap.size A n c p f := by
  obtain ⟨h0, h1, h2, h3, h4⟩ := blk3 (heap_alloc_new w (.cells #[.slice A n c, .int .i64 p, f] t))
  exact ⟨h0, h1, h2, h3, h4⟩
set_option maxHeartbeats 800000 in
theorem readFrom_in (w : World) (A : Option Addr) (n c : Nat) (p : Int) (h0 : 0 ≤ p) (h1 : p ≤ n) :
    Calls Tryz.prog 160 #[.slice A n c, .int .i64 p] w fun e w' => e = .returned (.pointer (some ⟨w.heap.size, 0, none⟩)) ∧ Rd w' w.heap.size A n c p .nilIface ∧ Below w.heap.size w w' := by
  have hd0 : decide (p < 0) = false := by simp; omega
  have hd1 : decide ((n : Int) < p) = false := by simp; omega
  go_enter Tryz.func160, Tryz.ntmps160
  go_wp2
  go_ret
  exact ⟨rfl, Rd.new _ _ _ _ _ _ _, below_a1 _ _⟩
set_option maxHeartbeats 1600000 in
theorem next_dead (w : World) (R : Nat) (A : Option Addr) (n c : Nat) (p : Int) (u : TypeId) (x : Value) (h : Rd w R A n c p (.iface u x)) :
    Calls Tryz.prog 246 #[.pointer (some ⟨R, 0, none⟩)] w (Left w R A n c (.int .i64 0) p (.iface u x)) := by
  have H := Lib.hid h
  obtain ⟨c0, c1, c2, f1, f2⟩ := h
  have h1 := eqIf
  have h2 := neIf
  go_enter Tryz.func246, Tryz.ntmps246
  go_wp2
  go_quiet (fail)
  go_wp2
  go_ret
  exact ⟨rfl, H.out.drewN _, grown_drewN _ _ _⟩
set_option maxHeartbeats 1600000 in
theorem next_end (w : World) (R : Nat) (A : Option Addr) (n c : Nat) (B : Nat) (aT aB aO : Addr) (hE : Errs B w aT aB aO) (h : Rd w R A n c n .nilIface) :
    Calls Tryz.prog 246 #[.pointer (some ⟨R, 0, none⟩)] w (Left w R A n c (.int .i64 0) n (.iface 408 (.pointer (some aT)))) := by
  have H := Lib.hid h
  have HN := Lib.hid ((h.set2 (.iface 408 (.pointer (some aT)))))
  obtain ⟨k0, k1, k2, _, _⟩ := HN.out
  obtain ⟨_, cT, cB, cO⟩ := hE
  obtain ⟨c0, c1, c2, f1, f2⟩ := h
  have h1 := eqNil
  have h2 := neIf
  go_enter Tryz.func246, Tryz.ntmps246
  go_wp2
  go_quiet (fail)
  go_wp2_with (go_at_call 247; refine (fail_live _ R A n c n _ (H.out.drewN _)).mono ?_; rintro e w' ⟨rfl, rfl⟩)
  go_ret
  exact ⟨rfl, HN.out.drewN _, grown_todrew (grown_set _ _ _) _⟩
set_option maxHeartbeats 1600000 in
theorem next_live (w : World) (R : Nat) (A : Option Addr) (n c : Nat) (p : Nat) (bs : List Int) (B : Nat) (hB : IsBytes w B A n bs) (hBR : B ≤ R) (hn : n ≤ 1048576) (h : Rd w R A n c p .nilIface) (hp : p < n) :
    Calls Tryz.prog 246 #[.pointer (some ⟨R, 0, none⟩)] w (Left w R A n c (.int .i64 (bs.getD p 0)) ((p + 1 : Nat) : Int) .nilIface) := by
  obtain ⟨b, off, z, rfl, hbB, hz, hc, hz0, hz1⟩ := hB.at_ hp
  rw [← hz, show ((p + 1 : Nat) : Int) = (p : Int) + 1 by omega]
  clear hz
  have H := Lib.hid h
  obtain ⟨k0, k1, k2, _, _⟩ := h.set1 ((p : Int) + 1)
  have k3 : (w.setCell ⟨R, 1, none⟩ (.int .i64 ((p : Int) + 1))).cell? ⟨b, off + p, none⟩ = some (.int .u8 z) := (World.cell?_setCell_other _ _ _ _ (by simp <;> omega)).trans hc
  obtain ⟨c0, c1, c2, f1, f2⟩ := h
  have h1 := eqNil
  have h2 := neNil
  have hne : ((p : Int) == (n : Int)) = false := by simp; omega
  go_enter Tryz.func246, Tryz.ntmps246
  go_wp2
  go_quiet (fail)
  go_wp2
  go_quiet (fail)
  go_wp2
  go_ret
  exact ⟨rfl, ((H.out.drewN _).set1 _).drewN _, grown_todrew (grown_undrew (grown_set _ _ _)) _⟩
end Go.Proofs.YtklgjjmcflgjeaaGreatDoor.Rd
namespace Go.Proofs.YtklgjjmcflgjeaaGreatDoor.Rd
open Go.RowKit
theorem gT : Tryz.prog.globalNamed "loop.example/g00734/impl.errTorn" = some 2 := by kernel_rfl
theorem gTt : (Tryz.prog.globals[2]?).map (·.type) = some 163 := by kernel_rfl
theorem gB : Tryz.prog.globalNamed "loop.example/g00734/impl.errBent" = some 3 := by kernel_rfl
theorem gBt : (Tryz.prog.globals[3]?).map (·.type) = some 163 := by kernel_rfl
theorem gO : Tryz.prog.globalNamed "loop.example/g00734/impl.errOutside" = some 1 := by kernel_rfl
theorem gOt : (Tryz.prog.globals[1]?).map (·.type) = some 163 := by kernel_rfl
theorem cellsE : Tryz.prog.cellsOf 428 = 1 := by kernel_rfl
theorem cellsS : Tryz.prog.cellsOf 9 = 1 := by kernel_rfl
theorem star : "*" ++ "errors.errorString" = "*errors.errorString" := by decide
theorem rowE (u : TypeId) (h : Tryz.prog.typeName? 3 u = some "*errors.errorString") : u = 408 :=
  typeName_ptr_named (nm := "errors.errorString") (by rw [star]; kernel_rfl) (by kernel_rfl) (by decide) u (by rw [star]; exact h)
theorem cell_of_var {W : World} {n : String} {g : Nat} {v : Value} (hg : Tryz.prog.globalNamed n = some g) (h : W.var? Tryz.prog n = some #[v]) : W.cell? ⟨g, 0, none⟩ = some v := by
  have h1 := World.var?_cell hg h 0
  simpa using h1
theorem errs_laid2 {W : World} (h : laidMetH Tryz.prog Rows.fnExactStoreCompactRow.laid W) : ∃ aT aB aO, Errs W.heap.size W aT aB aO ∧ (aT.block < W.heap.size ∧ aB.block < W.heap.size) ∧ aB ≠ aT ∧ (∃ c t, W.heap[aT.block]? = some (.cells c t (0, 0))) ∧ (∃ c t, W.heap[aB.block]? = some (.cells c t (0, 0))) := by
  rw [MakeChecks.laidMetH_plain _ _ _ (by kernel_rfl)] at h
  obtain ⟨aT, aB, sT, sB, cT, cB, tT, tB, hvT, hvB, hcT, -, -, hcB, -, -, hne, hbT, hbB⟩ := laid_sentinels2 h gT gTt gB gBt Tryz.underlying163 rowE Tryz.underlying408 Tryz.underlying428 rfl rfl Tryz.underlying9 cellsE cellsS
  obtain ⟨aO, sO, hvO, hcO, htO, -⟩ := laid_sentinel h.tail.tail gO gOt Tryz.underlying163 rowE Tryz.underlying408 Tryz.underlying428 rfl rfl Tryz.underlying9 cellsE cellsS
  have c1 := cell_of_var gT hvT
  have c2 := cell_of_var gB hvB
  have c3 := cell_of_var gO hvO
  exact ⟨aT, aB, aO, ⟨⟨World.block_lt_of_cell? W _ c1, World.block_lt_of_cell? W _ c2, World.block_lt_of_cell? W _ c3⟩, c1, c2, c3⟩, ⟨World.block_lt_of_cell? W _ hcT, World.block_lt_of_cell? W _ hcB⟩, Ne.symm hne, ⟨cT, tT, hbT⟩, ⟨cB, tB, hbB⟩⟩
end Go.Proofs.YtklgjjmcflgjeaaGreatDoor.Rd
