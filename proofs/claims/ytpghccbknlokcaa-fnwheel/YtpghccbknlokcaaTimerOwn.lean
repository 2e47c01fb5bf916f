/-
  A WHEEL'S OWN MEMORY: slots whose lists lie in blocks of their own, from lo on and below hi, no two in one block; how that is kept.
-/
import Derived.Test.YtpghccbknlokcaaTimers
namespace Go.Proofs.Ytpghccbknlokcaa.Timers
open Go.ChangeShapes Go.WideShapes Go.ChangeAt Go.RowKit
set_option linter.unusedVariables false

/-- A list of timers of one's own: a row in a block from lo on and below hi, or nil. -/
def OwnT (w : World) (lo hi : Nat) (A : Option Addr) (n c : Nat) (ts : TList) : Prop :=
  ts.length = n ∧ w.ownsRow lo 98 2 (.slice A n c) n (flat ts) ∧ ∀ p, A = some p → p.block < hi

/-- Only blocks from lo on and below hi, and what is new, have turned. -/
structure Turned (lo hi : Nat) (w w' : World) : Prop where
  os : w'.os = w.os
  tape : w'.tape = w.tape
  output : w'.output = w.output
  size : w.heap.size ≤ w'.heap.size
  block : ∀ k, k < w.heap.size → (k < lo ∨ hi ≤ k) → w'.heap[k]? = w.heap[k]?

theorem Turned.refl (lo hi : Nat) (w : World) : Turned lo hi w w := ⟨rfl, rfl, rfl, Nat.le_refl _, fun _ _ _ => rfl⟩
theorem Turned.trans {lo hi : Nat} {a b c : World} (h : Turned lo hi a b) (k : Turned lo hi b c) : Turned lo hi a c :=
  ⟨k.os.trans h.os, k.tape.trans h.tape, k.output.trans h.output, Nat.le_trans h.size k.size, fun i hi ho => (k.block i (Nat.lt_of_lt_of_le hi h.size) ho).trans (h.block i hi ho)⟩
theorem Turned.of_grown {lo hi : Nat} {w w' : World} {row : Option Nat} (h : w.grownBy w' row) (hr : ∀ k, row = some k → lo ≤ k ∧ k < hi) : Turned lo hi w w' :=
  ⟨h.os, h.tape, h.output, h.size, fun k hk ho => h.block k hk (fun e => by have := hr k e.symm; omega)⟩
theorem Turned.of_below {lo hi : Nat} {w w' : World} (h : Below w.heap.size w w') : Turned lo hi w w' := ⟨h.os, h.tape, h.output, h.size, fun k hk _ => h.block k hk⟩
theorem Turned.below {lo hi B : Nat} {a w w' : World} (h : Turned lo hi w w') (hb : Below B a w) (h1 : B ≤ lo) (h2 : B ≤ w.heap.size) : Below B a w' :=
  hb.trans ⟨h.os, h.tape, h.output, h.size, fun k hk => h.block k (by omega) (.inl (by omega))⟩
theorem Turned.wide {lo hi lo' hi' : Nat} {w w' : World} (h : Turned lo hi w w') (h1 : lo' ≤ lo) (h2 : hi ≤ hi') : Turned lo' hi' w w' :=
  ⟨h.os, h.tape, h.output, h.size, fun k hk ho => h.block k hk (by omega)⟩

section
variable {w w' : World} {lo hi : Nat} {A : Option Addr} {n c : Nat} {ts : TList}
theorem OwnT.nil (w : World) (lo hi : Nat) : OwnT w lo hi none 0 0 [] := ⟨rfl, World.ownsRow_nil _ _ _ _, fun p e => by cases e⟩
theorem OwnT.at0 (h : OwnT w lo hi A n c ts) (hn : 0 < n) : ∃ g, A = some ⟨g, 0, none⟩ ∧ lo ≤ g ∧ g < hi ∧ g < w.heap.size := by
  obtain ⟨g, cap, hv, hb, hlt⟩ := h.2.1.form hn
  have hA : A = some ⟨g, 0, none⟩ := by injection hv
  exact ⟨g, hA, hb, h.2.2 _ hA, hlt⟩
theorem OwnT.reads (h : OwnT w lo hi A n c ts) : IsTimers w hi A n ts := by
  refine ⟨h.1, fun hn => ?_⟩
  obtain ⟨g, rfl, _, hg, _⟩ := h.at0 hn
  obtain ⟨b, off, e, _, hc⟩ := (own_timers h.2.1).2 hn
  have : b = g ∧ off = 0 := by injection e with e; injection e with e1 e2; exact ⟨e1.symm, e2.symm⟩
  obtain ⟨rfl, rfl⟩ := this
  exact ⟨b, 0, rfl, hg, hc⟩
theorem OwnT.grown {row : Option Nat} (h : OwnT w lo hi A n c ts) (hg : w.grownBy w' row) (hne : (Value.slice A n c).ownBlock = none ∨ (Value.slice A n c).ownBlock ≠ row) : OwnT w' lo hi A n c ts :=
  ⟨h.1, h.2.1.kept hg hne, h.2.2⟩
theorem OwnT.below (h : OwnT w lo hi A n c ts) (hb : Below w.heap.size w w') : OwnT w' lo hi A n c ts := ⟨h.1, own_below h.2.1 hb, h.2.2⟩
theorem OwnT.more {hi' : Nat} (h : OwnT w lo hi A n c ts) (hh : hi ≤ hi') : OwnT w lo hi' A n c ts := ⟨h.1, h.2.1, fun p e => by have := h.2.2 p e; omega⟩
theorem OwnT.blk (h : OwnT w lo hi A n c ts) (q : Nat) (e : (Value.slice A n c).ownBlock = some q) : lo ≤ q ∧ q < hi ∧ q < w.heap.size := by
  have h1 := h.2.1.lt q e
  cases A with
  | none => simp [Value.ownBlock] at e
  | some p =>
    have h2 := h.2.2 p rfl
    have h3 : p.block = q := by simpa [Value.ownBlock] using e
    omega
theorem own_turned {base : Nat} {e : TypeId} {size : Nat} {v : Value} {xs : List Value} {lo' hi' : Nat} (h : w.ownsRow base e size v n xs) (ht : Turned lo' hi' w w') (ho : ∀ g, v.ownBlock = some g → g < lo' ∨ hi' ≤ g) : w'.ownsRow base e size v n xs := by
  refine ⟨h.1, ?_⟩
  rcases h.2 with hn | ⟨g, cap, cur, rfl, hb, hgg, rest⟩
  · exact .inl hn
  · refine .inr ⟨g, cap, cur, rfl, hb, ?_, rest⟩
    rw [ht.block g (Array.getElem?_eq_some_iff.1 hgg).1 (ho g rfl)]
    exact hgg
theorem own_base {base base' : Nat} {e : TypeId} {size : Nat} {v : Value} {xs : List Value} (h : w.ownsRow base e size v n xs) (hl : base' ≤ base) : w.ownsRow base' e size v n xs := by
  refine ⟨h.1, ?_⟩
  rcases h.2 with h0 | ⟨g', cap', cur, h1, h2, h3⟩
  · exact .inl h0
  · exact .inr ⟨g', cap', cur, h1, by omega, h3⟩
theorem OwnT.base {lo' : Nat} (h : OwnT w lo hi A n c ts) (hl : lo' ≤ lo) : OwnT w lo' hi A n c ts := ⟨h.1, own_base h.2.1 hl, h.2.2⟩
end

/-- Slots of one's own. -/
def OwnS (w : World) (lo hi : Nat) (A : Option Addr) (n c : Nat) (ss : List TList) : Prop :=
  ss.length = n ∧ (0 < n → ∃ (g : Nat) (vs : List Value), A = some ⟨g, 0, none⟩ ∧ g < hi ∧ w.ownsRow lo 96 1 (.slice A n c) n vs ∧
    (∀ j, j < n → ∃ A' c', vs[j]? = some (.slice A' (ss.getD j []).length c') ∧ OwnT w lo hi A' (ss.getD j []).length c' (ss.getD j [])) ∧
    (∀ (i j : Nat) (u v : Value), i < j → vs[i]? = some u → vs[j]? = some v → u.ownBlock = none ∨ u.ownBlock ≠ v.ownBlock))

theorem row_ne {w : World} {base base' : Nat} {e e' : TypeId} {size size' n n' : Nat} {u v : Value} {xs ys : List Value} {g : Nat} (h : w.ownsRow base e size u n xs) (h' : w.ownsRow base' e' size' v n' ys) (hne : e ≠ e') (hu : u.ownBlock = some g) : v.ownBlock ≠ some g := by
  intro hv
  rcases h.2 with ⟨rfl, _⟩ | ⟨g1, cap1, cur1, rfl, _, hh1, _⟩
  · simp [Value.ownBlock] at hu
  · rcases h'.2 with ⟨rfl, _⟩ | ⟨g2, cap2, cur2, rfl, _, hh2, _⟩
    · simp [Value.ownBlock] at hv
    · simp [Value.ownBlock] at hu hv
      subst hu hv
      rw [hh1] at hh2
      injection hh2 with h3
      injection h3 with _ h4
      exact hne h4

section
variable {w w' : World} {lo hi : Nat} {A : Option Addr} {n c : Nat} {ss : List TList}
theorem OwnS.reads (h : OwnS w lo hi A n c ss) : IsSlots w hi A n ss := by
  refine ⟨h.1, fun hn => ?_⟩
  obtain ⟨g, vs, rfl, hg, hrow, hj, _⟩ := h.2 hn
  refine ⟨g, 0, rfl, hg, fun j hjn => ?_⟩
  obtain ⟨A', c', hv, hT⟩ := hj j hjn
  refine ⟨A', _, c', ?_, hT.reads⟩
  rw [Nat.zero_add, hrow.cellAt j (by omega)]
  exact hv
theorem OwnS.below (h : OwnS w lo hi A n c ss) (hb : Below w.heap.size w w') : OwnS w' lo hi A n c ss := by
  refine ⟨h.1, fun hn => ?_⟩
  obtain ⟨g, vs, e, hg, hrow, hj, hd⟩ := h.2 hn
  refine ⟨g, vs, e, hg, own_below hrow hb, fun j hjn => ?_, hd⟩
  obtain ⟨A', c', hv, hT⟩ := hj j hjn
  exact ⟨A', c', hv, hT.below hb⟩
theorem OwnS.more {hi' : Nat} (h : OwnS w lo hi A n c ss) (hh : hi ≤ hi') : OwnS w lo hi' A n c ss := by
  refine ⟨h.1, fun hn => ?_⟩
  obtain ⟨g, vs, e, hg, hrow, hj, hd⟩ := h.2 hn
  refine ⟨g, vs, e, by omega, hrow, fun j hjn => ?_, hd⟩
  obtain ⟨A', c', hv, hT⟩ := hj j hjn
  exact ⟨A', c', hv, hT.more hh⟩
/-- Slots whose blocks all lie beyond what has turned. -/
theorem OwnS.turned {lo' hi' : Nat} (h : OwnS w lo hi A n c ss) (ht : Turned lo' hi' w w') (hh : hi' ≤ lo) : OwnS w' lo hi A n c ss := by
  refine ⟨h.1, fun hn => ?_⟩
  obtain ⟨g, vs, e, hg, hrow, hj, hd⟩ := h.2 hn
  refine ⟨g, vs, e, hg, own_turned hrow ht (fun k hk => .inr (by have := hrow.lt k hk; omega)), fun j hjn => ?_, hd⟩
  obtain ⟨A', c', hv, hT⟩ := hj j hjn
  exact ⟨A', c', hv, hT.1, own_turned hT.2.1 ht (fun k hk => .inr (by have := hT.2.1.lt k hk; omega)), hT.2.2⟩
theorem IsSlots.turned {lo' hi' B : Nat} (h : IsSlots w B A n ss) (ht : Turned lo' hi' w w') (hh : B ≤ lo') (hw : B ≤ w.heap.size) : IsSlots w' B A n ss :=
  h.keep fun p hp => World.cell?_of_block (ht.block p.block (by omega) (.inl (by omega)))

theorem OwnS.cell {g j : Nat} (h : OwnS w lo hi (some ⟨g, 0, none⟩) n c ss) (hj : j < n) :
    ∃ A' c', w.cell? ⟨g, j, none⟩ = some (.slice A' (ss.getD j []).length c') ∧ w.frozen? ⟨g, j, none⟩ = false ∧ OwnT w lo hi A' (ss.getD j []).length c' (ss.getD j []) := by
  obtain ⟨g', vs, e, hg, hrow, hjj, _⟩ := h.2 (by omega)
  obtain rfl : g' = g := by injection e with e; injection e with e; exact e.symm
  obtain ⟨A', c', hv, hT⟩ := hjj j hj
  exact ⟨A', c', (hrow.cellAt j (by omega)).trans hv, hrow.frozenAt j, hT⟩
theorem OwnS.at_ (h : OwnS w lo hi A n c ss) (hn : 0 < n) : ∃ g, A = some ⟨g, 0, none⟩ ∧ lo ≤ g ∧ g < hi := by
  obtain ⟨g, vs, rfl, hg, hrow, _⟩ := h.2 hn
  exact ⟨g, rfl, (hrow.lt g rfl).1, hg⟩
theorem getD_rep (n j : Nat) : (List.replicate n ([] : TList)).getD j [] = [] := by
  simp only [List.getD, List.getElem?_replicate]
  split <;> rfl
theorem getD_set_eq (ss : List TList) (j : Nat) (ts : TList) (h : j < ss.length) : (ss.set j ts).getD j [] = ts := by simp [List.getD, h]
theorem getD_set_ne (ss : List TList) (i j : Nat) (ts : TList) (h : i ≠ j) : (ss.set j ts).getD i [] = ss.getD i [] := by simp [List.getD, Ne.symm h]

/-- A new list is put into a slot. -/
theorem OwnS.put {g j hi' : Nat} {A' : Option Addr} {m c' : Nat} {ts : TList} (h : OwnS w lo hi (some ⟨g, 0, none⟩) n c ss) (hj : j < n) (hT : OwnT w lo hi' A' m c' ts) (hf : ∀ p, A' = some p → hi ≤ p.block) (hh : hi ≤ hi') :
    OwnS (w.setCell ⟨g, j, none⟩ (.slice A' m c')) lo hi' (some ⟨g, 0, none⟩) n c (ss.set j ts) := by
  refine ⟨by simpa using h.1, fun hn => ?_⟩
  obtain ⟨g', vs, e, hg, hrow, hjj, hd⟩ := h.2 hn
  obtain rfl : g' = g := by injection e with e; injection e with e; exact e.symm
  have hst := (hrow.stored j (.slice A' m c')).1
  have hlen : ss.length = n := h.1
  have hvl : vs.length = n := by have := hrow.1; omega
  have hgr : w.grownBy (w.setCell ⟨g', j, none⟩ (.slice A' m c')) (some g') := ⟨rfl, rfl, rfl, by simp [World.setCell], fun k _ hne => Below.heap_setCell w ⟨g', j, none⟩ _ k (fun e => hne (by rw [e]))⟩
  have hkeep : ∀ {hi0 : Nat} {A0 : Option Addr} {n0 c0 : Nat} {t0 : TList}, OwnT w lo hi0 A0 n0 c0 t0 → OwnT (w.setCell ⟨g', j, none⟩ (.slice A' m c')) lo hi0 A0 n0 c0 t0 := by
    intro hi0 A0 n0 c0 t0 hO
    exact hO.grown hgr (.inr (row_ne hrow hO.2.1 (by decide) (show (Value.slice (some ⟨g', 0, none⟩) n c).ownBlock = some g' from rfl)))
  have far : ∀ (q : Nat) (x : Value), q ≠ j → q < n → vs[q]? = some x → x.ownBlock = none ∨ x.ownBlock ≠ (Value.slice A' m c').ownBlock := by
    intro q x hq hqn hx
    obtain ⟨A1, c1, hv1, hO⟩ := hjj q hqn
    rw [hx] at hv1
    injection hv1 with hv1
    subst hv1
    cases hb : (Value.slice A1 (ss.getD q []).length c1).ownBlock with
    | none => exact .inl rfl
    | some b1 =>
      refine .inr fun e => ?_
      have h1 := hO.blk b1 hb
      cases A' with
      | none => simp [Value.ownBlock] at e
      | some p =>
        have h2 := hf p rfl
        have h3 : p.block = b1 := by simpa [Value.ownBlock] using e.symm
        omega
  refine ⟨g', vs.set j (.slice A' m c'), rfl, by omega, hst, fun i hi => ?_, fun i k u v hik hu hv => ?_⟩
  · by_cases hij : i = j
    · subst hij
      rw [getD_set_eq ss i ts (by omega)]
      refine ⟨A', c', ?_, ?_⟩
      · rw [List.getElem?_set_self (by omega), hT.1]
      · rw [hT.1]; exact hkeep hT
    · rw [getD_set_ne ss i j ts hij]
      obtain ⟨A1, c1, hv, hO⟩ := hjj i hi
      exact ⟨A1, c1, by rw [List.getElem?_set_ne (Ne.symm hij)]; exact hv, hkeep (hO.more hh)⟩
  · have hil : i < n := by
      rcases Nat.lt_or_ge i n with h1 | h1
      · exact h1
      · rw [List.getElem?_eq_none (by simp; omega)] at hu; cases hu
    have hkl : k < n := by
      rcases Nat.lt_or_ge k n with h1 | h1
      · exact h1
      · rw [List.getElem?_eq_none (by simp; omega)] at hv; cases hv
    by_cases h1 : i = j
    · have h2 : k ≠ j := by omega
      subst h1
      rw [List.getElem?_set_self (by omega)] at hu
      rw [List.getElem?_set_ne (Ne.symm h2)] at hv
      injection hu with hu
      subst hu
      rcases far k v h2 hkl hv with h3 | h3
      · rw [h3]
        cases (Value.slice A' m c').ownBlock <;> simp
      · exact .inr (Ne.symm h3)
    · by_cases h2 : k = j
      · subst h2
        rw [List.getElem?_set_self (by omega)] at hv
        rw [List.getElem?_set_ne (Ne.symm h1)] at hu
        injection hv with hv
        subst hv
        exact far i u h1 hil hu
      · rw [List.getElem?_set_ne (Ne.symm h1)] at hu
        rw [List.getElem?_set_ne (Ne.symm h2)] at hv
        exact hd i k u v hik hu hv
end

theorem below_undrew {B : Nat} {w w' : World} (h : Below B w.drew w') : Below B w w' := ⟨h.os, h.tape, h.output, h.size, h.block⟩
/-- How many timers there are in all. -/
def tot (ss : List TList) : Nat := (ss.map List.length).sum
theorem tot_nil : tot [] = 0 := rfl
theorem tot_cons (s : TList) (ss : List TList) : tot (s :: ss) = s.length + tot ss := by simp [tot]
theorem tot_get (ss : List TList) (j : Nat) : (ss.getD j []).length ≤ tot ss := by
  induction ss generalizing j with
  | nil => simp [List.getD, tot]
  | cons s ss ih =>
    rw [tot_cons]
    cases j with
    | zero => simp
    | succ j => have := ih j; simp [List.getD] at this ⊢; omega
theorem tot_take (ss : List TList) (k : Nat) (h : k < ss.length) : tot (ss.take (k + 1)) = tot (ss.take k) + (ss.getD k []).length := by
  have e : ss.getD k [] = ss[k] := by simp [List.getD, h]
  rw [List.take_succ_eq_append_getElem h, e]
  simp only [tot, List.map_append, List.sum_append, List.map_cons, List.map_nil, List.sum_cons, List.sum_nil, Nat.add_zero]
theorem tot_take_le (ss : List TList) (k : Nat) : tot (ss.take k) ≤ tot ss := by
  conv => rhs; rw [← List.take_append_drop k ss]
  simp only [tot, List.map_append, List.sum_append]
  omega
end Go.Proofs.Ytpghccbknlokcaa.Timers
