/-
  LISTS OF TIMERS AND SLOTS: what it is that a slice of timers (two ints each) reads as a list of pairs, and a slice of such slices as a list of lists; how that is kept.
-/
import Derived.Test.YtpghccbknlokcaaInts
import Derived.Deep.AppendLies
import Derived.Lib.Hide
namespace Go.Proofs.Ytpghccbknlokcaa.Timers
open Go.ChangeShapes Go.WideShapes Go.ChangeAt Go.RowKit
set_option linter.unusedVariables false

abbrev TList := List (Int × Int)

/-- The slice at A of length n holds the pairs ts, in a block below B. -/
def IsTimers (w : World) (B : Nat) (A : Option Addr) (n : Nat) (ts : TList) : Prop :=
  ts.length = n ∧ (0 < n → ∃ b off, A = some ⟨b, off, none⟩ ∧ b < B ∧ ∀ j, j < n → w.cell? ⟨b, off + j * 2, none⟩ = some (.int .i64 (ts.getD j (0, 0)).1) ∧ w.cell? ⟨b, off + j * 2 + 1, none⟩ = some (.int .i64 (ts.getD j (0, 0)).2))

theorem IsTimers.keep {w w' : World} {B : Nat} {A : Option Addr} {n : Nat} {ts : TList} (h : IsTimers w B A n ts) (hk : ∀ p : Addr, p.block < B → w'.cell? p = w.cell? p) : IsTimers w' B A n ts :=
  ⟨h.1, fun hn => by
    obtain ⟨b, off, e, hlt, hc⟩ := h.2 hn
    exact ⟨b, off, e, hlt, fun j hj => ⟨(hk ⟨b, _, none⟩ hlt).trans (hc j hj).1, (hk ⟨b, _, none⟩ hlt).trans (hc j hj).2⟩⟩⟩
theorem IsTimers.below {w w' : World} {B C : Nat} {A : Option Addr} {n : Nat} {ts : TList} (h : IsTimers w B A n ts) (hb : Below C w w') (hC : B ≤ C) : IsTimers w' B A n ts :=
  h.keep fun p hp => hb.cell (by omega)
theorem IsTimers.more {w : World} {B C : Nat} {A : Option Addr} {n : Nat} {ts : TList} (h : IsTimers w B A n ts) (hC : B ≤ C) : IsTimers w C A n ts :=
  ⟨h.1, fun hn => by
    obtain ⟨b, off, e, hlt, hc⟩ := h.2 hn
    exact ⟨b, off, e, by omega, hc⟩⟩
theorem IsTimers.at_ {w : World} {B : Nat} {A : Option Addr} {n k : Nat} {ts : TList} (h : IsTimers w B A n ts) (hk : k < n) :
    ∃ b off x y, A = some ⟨b, off, none⟩ ∧ b < B ∧ ts.getD k (0, 0) = (x, y) ∧ w.cell? ⟨b, off + k * 2, none⟩ = some (.int .i64 x) ∧ w.cell? ⟨b, off + k * 2 + 1, none⟩ = some (.int .i64 y) := by
  obtain ⟨b, off, e, hlt, hc⟩ := h.2 (by omega)
  exact ⟨b, off, _, _, e, hlt, rfl, (hc k hk).1, (hc k hk).2⟩

/-- The slice at A of length n holds slices that read as the lists ss, all in blocks below B. -/
def IsSlots (w : World) (B : Nat) (A : Option Addr) (n : Nat) (ss : List TList) : Prop :=
  ss.length = n ∧ (0 < n → ∃ b off, A = some ⟨b, off, none⟩ ∧ b < B ∧ ∀ j, j < n → ∃ A' n' c', w.cell? ⟨b, off + j, none⟩ = some (.slice A' n' c') ∧ IsTimers w B A' n' (ss.getD j []))
theorem IsSlots.keep {w w' : World} {B : Nat} {A : Option Addr} {n : Nat} {ss : List TList} (h : IsSlots w B A n ss) (hk : ∀ p : Addr, p.block < B → w'.cell? p = w.cell? p) : IsSlots w' B A n ss :=
  ⟨h.1, fun hn => by
    obtain ⟨b, off, e, hlt, hc⟩ := h.2 hn
    refine ⟨b, off, e, hlt, fun j hj => ?_⟩
    obtain ⟨A', n', c', h1, h2⟩ := hc j hj
    exact ⟨A', n', c', (hk ⟨b, _, none⟩ hlt).trans h1, h2.keep hk⟩⟩
theorem IsSlots.below {w w' : World} {B C : Nat} {A : Option Addr} {n : Nat} {ss : List TList} (h : IsSlots w B A n ss) (hb : Below C w w') (hC : B ≤ C) : IsSlots w' B A n ss :=
  h.keep fun p hp => hb.cell (by omega)
theorem IsSlots.more {w : World} {B C : Nat} {A : Option Addr} {n : Nat} {ss : List TList} (h : IsSlots w B A n ss) (hC : B ≤ C) : IsSlots w C A n ss :=
  ⟨h.1, fun hn => by
    obtain ⟨b, off, e, hlt, hc⟩ := h.2 hn
    refine ⟨b, off, e, by omega, fun j hj => ?_⟩
    obtain ⟨A', n', c', h1, h2⟩ := hc j hj
    exact ⟨A', n', c', h1, h2.more hC⟩⟩
theorem IsSlots.at_ {w : World} {B : Nat} {A : Option Addr} {n k : Nat} {ss : List TList} (h : IsSlots w B A n ss) (hk : k < n) :
    ∃ b off A' n' c', A = some ⟨b, off, none⟩ ∧ b < B ∧ w.cell? ⟨b, off + k, none⟩ = some (.slice A' n' c') ∧ IsTimers w B A' n' (ss.getD k []) := by
  obtain ⟨b, off, e, hlt, hc⟩ := h.2 (by omega)
  obtain ⟨A', n', c', h1, h2⟩ := hc k hk
  exact ⟨b, off, A', n', c', e, hlt, h1, h2⟩

/-- A list of pairs as the cells of a row. -/
def flat (ts : TList) : List Value := ts.flatMap fun t => [.int .i64 t.1, .int .i64 t.2]
theorem flat_len (ts : TList) : (flat ts).length = ts.length * 2 := by
  induction ts with
  | nil => rfl
  | cons x l ih => simp [flat] at ih ⊢; omega
theorem flat_app (a b : TList) : flat (a ++ b) = flat a ++ flat b := by simp [flat]
theorem flat_at (ts : TList) (j : Nat) (h : j < ts.length) : (flat ts)[j * 2]? = some (.int .i64 (ts.getD j (0, 0)).1) ∧ (flat ts)[j * 2 + 1]? = some (.int .i64 (ts.getD j (0, 0)).2) := by
  induction ts generalizing j with
  | nil => simp at h
  | cons x l ih =>
    cases j with
    | zero => exact ⟨rfl, rfl⟩
    | succ j =>
      have h' : j < l.length := by simpa using h
      have := ih j h'
      constructor
      · have e : (j + 1) * 2 = j * 2 + 1 + 1 := by omega
        rw [e]; simpa [flat] using this.1
      · have e : (j + 1) * 2 + 1 = j * 2 + 1 + 1 + 1 := by omega
        rw [e]; simpa [flat] using this.2

theorem own_timers {w : World} {base : Nat} {e : TypeId} {A : Option Addr} {n c : Nat} {ts : TList} (h : w.ownsRow base e 2 (.slice A n c) n (flat ts)) : IsTimers w w.heap.size A n ts := by
  have hl : ts.length = n := by have := h.1; rw [flat_len] at this; omega
  refine ⟨hl, fun hn => ?_⟩
  obtain ⟨g, cap, hv, _, hlt⟩ := h.form hn
  have hA : A = some ⟨g, 0, none⟩ := by injection hv
  subst hA
  refine ⟨g, 0, rfl, hlt, fun j hj => ?_⟩
  have hf := flat_at ts j (by omega)
  exact ⟨by rw [Nat.zero_add, h.cellAt (j * 2) (by omega)]; exact hf.1, by rw [Nat.zero_add, h.cellAt (j * 2 + 1) (by omega)]; exact hf.2⟩

theorem below_a1 (w : World) (o : Obj) : Below w.heap.size w (w.alloc o) := (Below.refl _ _).alloc (Nat.le_refl _) _
theorem below_a2 (w : World) (o p : Obj) : Below w.heap.size w ((w.alloc o).alloc p) := (below_a1 w o).alloc (by simp) _
theorem below_a3 (w : World) (o p q : Obj) : Below w.heap.size w (((w.alloc o).alloc p).alloc q) := (below_a2 w o p).alloc (by simp; omega) _

/-- k pairs of ts written over a row of noughts. -/
def Part (ts : TList) (k : Nat) : List Value := flat (ts.take k) ++ flat (List.replicate (ts.length - k) (0, 0))
theorem Part_eq (ts : TList) (k : Nat) : Part ts k = flat (ts.take k ++ List.replicate (ts.length - k) (0, 0)) := by rw [flat_app]; rfl
theorem Part_len (ts : TList) (k : Nat) (h : k ≤ ts.length) : (Part ts k).length = ts.length * 2 := by rw [Part_eq, flat_len]; simp; omega
theorem flat_set (ts : TList) (j : Nat) (x y : Int) : ((flat ts).set (j * 2) (.int .i64 x)).set (j * 2 + 1) (.int .i64 y) = flat (ts.set j (x, y)) := by
  induction ts generalizing j with
  | nil => simp [flat]
  | cons a l ih =>
    cases j with
    | zero => rfl
    | succ j =>
      have e : (j + 1) * 2 = j * 2 + 1 + 1 := by omega
      have e2 : (j + 1) * 2 + 1 = j * 2 + 1 + 1 + 1 := by omega
      rw [e2, e]
      simpa [flat] using ih j
theorem take_set_rep (ts : TList) (k : Nat) (h : k < ts.length) : (ts.take k ++ List.replicate (ts.length - k) (0, 0)).set k (ts.getD k (0, 0)) = ts.take (k + 1) ++ List.replicate (ts.length - (k + 1)) (0, 0) := by
  rw [List.set_append_right _ _ (by simp; omega)]
  have e : k - (ts.take k).length = 0 := by simp; omega
  have e2 : ts.length - k = (ts.length - (k + 1)) + 1 := by omega
  have e3 : ts.getD k (0, 0) = ts[k] := by simp [List.getD, h]
  rw [e, e2, List.replicate_succ, List.set_cons_zero, List.take_succ_eq_append_getElem h, e3, List.append_assoc]
  rfl
theorem Part_set (ts : TList) (k : Nat) (x y : Int) (h : k < ts.length) (hz : ts.getD k (0, 0) = (x, y)) : ((Part ts k).set (k * 2) (.int .i64 x)).set (k * 2 + 1) (.int .i64 y) = Part ts (k + 1) := by
  rw [Part_eq, flat_set, Part_eq, ← hz, take_set_rep ts k h]
theorem Part_zero (ts : TList) : Part ts 0 = flat (List.replicate ts.length (0, 0)) := by simp [Part, flat]
theorem Part_all (ts : TList) : Part ts ts.length = flat ts := by simp [Part, flat]

theorem made_flat (n : Nat) : (madeCells (Value.agg #[.int .i64 0, .int .i64 0]).cells (n * 2)).toList = flat (List.replicate n (0, 0)) := by
  apply List.ext_getElem?
  intro j
  have hc : (Value.agg #[.int .i64 0, .int .i64 0]).cells = #[.int .i64 0, .int .i64 0] := rfl
  rw [hc]
  have hl : (flat (List.replicate n (0, 0))).length = n * 2 := by rw [flat_len]; simp
  by_cases hj : j < n * 2
  · have hh : j / 2 < n := by omega
    have hf := flat_at (List.replicate n (0, 0)) (j / 2) (by simpa using hh)
    have hg : (List.replicate n ((0 : Int), (0 : Int))).getD (j / 2) (0, 0) = (0, 0) := by simp [List.getD, hh]
    rw [hg] at hf
    have hm : (madeCells #[Value.int .i64 0, .int .i64 0] (n * 2)).toList[j]? = some (.int .i64 0) := by
      rcases Nat.mod_two_eq_zero_or_one j with h0 | h0 <;> simp [madeCells, hj, h0]
    rw [hm]
    rcases Nat.mod_two_eq_zero_or_one j with h0 | h0
    · have e : j / 2 * 2 = j := by omega
      rw [e] at hf; exact hf.1.symm
    · have e : j / 2 * 2 + 1 = j := by omega
      rw [e] at hf; exact hf.2.symm
  · rw [List.getElem?_eq_none (l := flat _) (by omega), List.getElem?_eq_none]
    simp [madeCells]; omega

theorem grown_of_below {a w : World} (h : Below a.heap.size a w) (row : Option Nat) : a.grownBy w row := ⟨h.os, h.tape, h.output, h.size, fun i hi _ => h.block i hi⟩
theorem own_below {w w' : World} {base : Nat} {e : TypeId} {size n : Nat} {v : Value} {xs : List Value} (h : w.ownsRow base e size v n xs) (hb : Below w.heap.size w w') : w'.ownsRow base e size v n xs :=
  h.kept (grown_of_below hb none) (by cases hv : v.ownBlock <;> simp)
/-- Two cells of an own row, next to each other, and what a store of both leaves. -/
theorem own_cells2 {w : World} {base : Nat} {e : TypeId} {g n cap k : Nat} {xs : List Value} (h : w.ownsRow base e 2 (.slice (some ⟨g, 0, none⟩) n cap) n xs) (hk : k < n) :
    (∃ u, w.cell? ⟨g, k * 2, none⟩ = some u) ∧ (∃ u, w.cell? ⟨g, k * 2 + 1, none⟩ = some u) ∧ w.frozen? ⟨g, k * 2, none⟩ = false ∧ w.frozen? ⟨g, k * 2 + 1, none⟩ = false ∧
    ∀ u v, ((w.setCell ⟨g, k * 2, none⟩ u).setCell ⟨g, k * 2 + 1, none⟩ v).ownsRow base e 2 (.slice (some ⟨g, 0, none⟩) n cap) n ((xs.set (k * 2) u).set (k * 2 + 1) v) := by
  have hl := h.1
  refine ⟨⟨_, (h.cellAt (k * 2) (by omega)).trans (List.getElem?_eq_getElem (by omega))⟩, ⟨_, (h.cellAt (k * 2 + 1) (by omega)).trans (List.getElem?_eq_getElem (by omega))⟩, h.frozenAt _, h.frozenAt _, fun u v => ?_⟩
  exact ((h.stored (k * 2) u).1.stored (k * 2 + 1) v).1

theorem below_keep {w w' : World} (hb : Below w.heap.size w w') {p : Addr} {v : Value} (h : w.cell? p = some v) : w'.cell? p = some v :=
  (hb.cell (World.block_lt_of_cell? w p h)).trans h

theorem ret_int {k : IntKind} {a b : Int} (h : a = b) : Ending.returned (.int k a) = .returned (.int k b) := by rw [h]
theorem ret_bool {a b : Bool} (h : a = b) : Ending.returned (.bool a) = .returned (.bool b) := by rw [h]

theorem info68 : (Try.prog.info? 98).map (fun i => (i.zero, i.size, i.bytes)) = some (some (.agg #[.int .i64 0, .int .i64 0]), 2, 16) := by kernel_rfl
theorem info66 : (Try.prog.info? 96).map (fun i => (i.zero, i.size, i.bytes)) = some (some (.slice none 0 0), 1, 24) := by kernel_rfl
end Go.Proofs.Ytpghccbknlokcaa.Timers
