/-
  LISTS OF PODS (five ints each): what it is that a slice reads as a list of them, and to own one; the contracts of the laws' toPod, toPodS, eqPod, eqPodS, szPodS, markPodS, heldPodS over this seat's translation.
-/
import Derived.Test.YtlghdmakaocokaaGreatDoorInts
import Derived.Test.YtlghdmakaocokaaGreatDoorLawKit
import Derived.Deep.AppendLies
import Derived.Lib.Hide
namespace Go.Proofs.YtlghdmakaocokaaGreatDoor.Pods
open Go.ChangeShapes Go.WideShapes Go.ChangeAt Go.RowKit
open Go.Proofs.YtlghdmakaocokaaGreatDoor.LK
set_option linter.unusedVariables false

/-- Id, Rev, State, Gen, Since. -/
abbrev Pd := Int × Int × Int × Int × Int
abbrev PList := List Pd
def z5 : Pd := (0, 0, 0, 0, 0)
def cells5 (p : Pd) : List Value := [.int .i64 p.1, .int .i64 p.2.1, .int .i64 p.2.2.1, .int .i64 p.2.2.2.1, .int .i64 p.2.2.2.2]
def podV (p : Pd) : Value := .agg (cells5 p).toArray
def flat (ps : PList) : List Value := ps.flatMap cells5
theorem cells5_len (p : Pd) : (cells5 p).length = 5 := rfl
theorem flat_nil : flat [] = [] := rfl
theorem flat_cons (p : Pd) (ps : PList) : flat (p :: ps) = cells5 p ++ flat ps := by simp [flat]
theorem flat_len (ps : PList) : (flat ps).length = ps.length * 5 := by
  induction ps with
  | nil => rfl
  | cons x l ih => rw [flat_cons, List.length_append, cells5_len, ih]; simp; omega
theorem flat_app (a b : PList) : flat (a ++ b) = flat a ++ flat b := by simp [flat]
theorem flat_one (p : Pd) : flat [p] = cells5 p := by simp [flat]
theorem flat_at (ps : PList) (j i : Nat) (h : j < ps.length) (hi : i < 5) : (flat ps)[j * 5 + i]? = (cells5 (ps.getD j z5))[i]? := by
  induction ps generalizing j with
  | nil => simp at h
  | cons x l ih =>
    rw [flat_cons]
    cases j with
    | zero =>
      rw [List.getElem?_append_left (by rw [cells5_len]; omega)]
      simp [List.getD]
    | succ j =>
      rw [List.getElem?_append_right (by rw [cells5_len]; omega), cells5_len]
      have e : (j + 1) * 5 + i - 5 = j * 5 + i := by omega
      rw [e, ih j (by simpa using h)]
      simp [List.getD]
theorem flat_inj {a b : PList} (h : flat a = flat b) : a = b := by
  induction a generalizing b with
  | nil =>
    cases b with
    | nil => rfl
    | cons x l => have := congrArg List.length h; simp [flat_len] at this
  | cons x l ih =>
    cases b with
    | nil => have := congrArg List.length h; simp [flat_len] at this
    | cons y m =>
      rw [flat_cons, flat_cons] at h
      obtain ⟨h1, h2⟩ := List.append_inj h (by simp [cells5_len])
      rw [ih h2]
      obtain ⟨a, b, c, d, e⟩ := x
      obtain ⟨a', b', c', d', e'⟩ := y
      simp [cells5] at h1
      obtain ⟨rfl, rfl, rfl, rfl, rfl⟩ := h1
      rfl

/-- The five cells of a pod. -/
def Cell5 (w : World) (b o : Nat) (p : Pd) : Prop :=
  w.cell? ⟨b, o, none⟩ = some (.int .i64 p.1) ∧ w.cell? ⟨b, o + 1, none⟩ = some (.int .i64 p.2.1) ∧ w.cell? ⟨b, o + 2, none⟩ = some (.int .i64 p.2.2.1) ∧ w.cell? ⟨b, o + 3, none⟩ = some (.int .i64 p.2.2.2.1) ∧ w.cell? ⟨b, o + 4, none⟩ = some (.int .i64 p.2.2.2.2)
/-- The slice at A of length n holds the pods ps, in a block below B. -/
def IsPods (w : World) (B : Nat) (A : Option Addr) (n : Nat) (ps : PList) : Prop :=
  ps.length = n ∧ (0 < n → ∃ b off, A = some ⟨b, off, none⟩ ∧ b < B ∧ ∀ j, j < n → Cell5 w b (off + j * 5) (ps.getD j z5))
section
variable {w w' : World} {B C : Nat} {A : Option Addr} {n : Nat} {ps : PList}
theorem IsPods.keep (h : IsPods w B A n ps) (hk : ∀ p : Addr, p.block < B → w'.cell? p = w.cell? p) : IsPods w' B A n ps :=
  ⟨h.1, fun hn => by
    obtain ⟨b, off, e, hlt, hc⟩ := h.2 hn
    refine ⟨b, off, e, hlt, fun j hj => ?_⟩
    obtain ⟨h0, h1, h2, h3, h4⟩ := hc j hj
    exact ⟨(hk ⟨b, _, none⟩ hlt).trans h0, (hk ⟨b, _, none⟩ hlt).trans h1, (hk ⟨b, _, none⟩ hlt).trans h2, (hk ⟨b, _, none⟩ hlt).trans h3, (hk ⟨b, _, none⟩ hlt).trans h4⟩⟩
theorem IsPods.below (h : IsPods w B A n ps) (hb : Below C w w') (hC : B ≤ C) : IsPods w' B A n ps := h.keep fun p hp => hb.cell (by omega)
theorem IsPods.more (h : IsPods w B A n ps) (hC : B ≤ C) : IsPods w C A n ps :=
  ⟨h.1, fun hn => by
    obtain ⟨b, off, e, hlt, hc⟩ := h.2 hn
    exact ⟨b, off, e, by omega, hc⟩⟩
theorem IsPods.at_ {k : Nat} (h : IsPods w B A n ps) (hk : k < n) : ∃ b off x0 x1 x2 x3 x4, A = some ⟨b, off, none⟩ ∧ b < B ∧ ps.getD k z5 = (x0, x1, x2, x3, x4) ∧
    w.cell? ⟨b, off + k * 5, none⟩ = some (.int .i64 x0) ∧ w.cell? ⟨b, off + k * 5 + 1, none⟩ = some (.int .i64 x1) ∧ w.cell? ⟨b, off + k * 5 + 2, none⟩ = some (.int .i64 x2) ∧ w.cell? ⟨b, off + k * 5 + 3, none⟩ = some (.int .i64 x3) ∧ w.cell? ⟨b, off + k * 5 + 4, none⟩ = some (.int .i64 x4) := by
  obtain ⟨b, off, e, hlt, hc⟩ := h.2 (by omega)
  obtain ⟨h0, h1, h2, h3, h4⟩ := hc k hk
  exact ⟨b, off, _, _, _, _, _, e, hlt, rfl, h0, h1, h2, h3, h4⟩
theorem IsPods.nil (w : World) (B : Nat) (A : Option Addr) : IsPods w B A 0 [] := ⟨rfl, fun h => absurd h (by omega)⟩
end

/-- A list of pods of one's own. -/
def OwnP (w : World) (lo : Nat) (A : Option Addr) (n c : Nat) (ps : PList) : Prop := ps.length = n ∧ w.ownsRow lo 51 5 (.slice A n c) n (flat ps)
section
variable {w w' : World} {lo B : Nat} {A : Option Addr} {n c : Nat} {ps : PList}
theorem OwnP.lt (h : OwnP w lo A n c ps) (k : Nat) (hk : (Value.slice A n c).ownBlock = some k) : lo ≤ k ∧ k < w.heap.size := h.2.lt k hk
theorem OwnP.base {lo' : Nat} (h : OwnP w lo A n c ps) (hb : ∀ k, (Value.slice A n c).ownBlock = some k → lo' ≤ k) : OwnP w lo' A n c ps := by
  refine ⟨h.1, h.2.1, ?_⟩
  rcases h.2.2 with h0 | ⟨g, cap, cur, h3, h4, h5⟩
  · exact .inl h0
  · exact .inr ⟨g, cap, cur, h3, hb g (by rw [h3]; rfl), h5⟩
theorem OwnP.zero (h : OwnP w lo A n c ps) : OwnP w 0 A n c ps := h.base fun _ _ => Nat.zero_le _
theorem OwnP.down {lo' : Nat} (h : OwnP w lo A n c ps) (hl : lo' ≤ lo) : OwnP w lo' A n c ps := h.base fun k hk => Nat.le_trans hl (h.lt k hk).1
theorem OwnP.same (h : OwnP w lo A n c ps) (hs : ∀ k, (Value.slice A n c).ownBlock = some k → w'.heap[k]? = w.heap[k]?) : OwnP w' lo A n c ps := by
  refine ⟨h.1, h.2.1, ?_⟩
  rcases h.2.2 with h0 | ⟨g, cap, cur, h3, h4, h5, h6⟩
  · exact .inl h0
  · refine .inr ⟨g, cap, cur, h3, h4, ?_, h6⟩
    rw [hs g (by rw [h3]; rfl)]; exact h5
theorem OwnP.below (h : OwnP w lo A n c ps) (hb : Below w.heap.size w w') : OwnP w' lo A n c ps := h.same fun k hk => hb.block k (h.lt k hk).2
theorem OwnP.pods (h : OwnP w lo A n c ps) (hs : ∀ k, (Value.slice A n c).ownBlock = some k → k < B) : IsPods w B A n ps := by
  refine ⟨h.1, fun hn => ?_⟩
  obtain ⟨g, cap, hv, _, hlt⟩ := h.2.form hn
  have hA : A = some ⟨g, 0, none⟩ := by injection hv
  subst hA
  refine ⟨g, 0, rfl, hs g rfl, fun j hj => ?_⟩
  have hl := h.1
  have hf := fun i hi => flat_at ps j i (by omega) hi
  refine ⟨?_, ?_, ?_, ?_, ?_⟩
  · rw [Nat.zero_add, h.2.cellAt (j * 5) (by omega)]; exact hf 0 (by omega)
  · rw [Nat.zero_add, h.2.cellAt (j * 5 + 1) (by omega)]; exact hf 1 (by omega)
  · rw [Nat.zero_add, h.2.cellAt (j * 5 + 2) (by omega)]; exact hf 2 (by omega)
  · rw [Nat.zero_add, h.2.cellAt (j * 5 + 3) (by omega)]; exact hf 3 (by omega)
  · rw [Nat.zero_add, h.2.cellAt (j * 5 + 4) (by omega)]; exact hf 4 (by omega)
theorem OwnP.podsAll (h : OwnP w lo A n c ps) : IsPods w w.heap.size A n ps := h.pods fun k hk => (h.lt k hk).2
theorem OwnP.nil (w : World) (lo : Nat) : OwnP w lo none 0 0 [] := ⟨rfl, World.ownsRow_nil _ _ _ _⟩
theorem OwnP.at0 (h : OwnP w lo A n c ps) (hn : 0 < n) : ∃ g, A = some ⟨g, 0, none⟩ ∧ lo ≤ g ∧ g < w.heap.size := by
  obtain ⟨g, cap, hv, hb, hlt⟩ := h.2.form hn
  exact ⟨g, by injection hv, hb, hlt⟩
end
def set5 (w : World) (g o : Nat) (p : Pd) : World := ((((w.setCell ⟨g, o, none⟩ (.int .i64 p.1)).setCell ⟨g, o + 1, none⟩ (.int .i64 p.2.1)).setCell ⟨g, o + 2, none⟩ (.int .i64 p.2.2.1)).setCell ⟨g, o + 3, none⟩ (.int .i64 p.2.2.2.1)).setCell ⟨g, o + 4, none⟩ (.int .i64 p.2.2.2.2)
theorem flat_set (ps : PList) (j : Nat) (p : Pd) : (((((flat ps).set (j * 5) (.int .i64 p.1)).set (j * 5 + 1) (.int .i64 p.2.1)).set (j * 5 + 2) (.int .i64 p.2.2.1)).set (j * 5 + 3) (.int .i64 p.2.2.2.1)).set (j * 5 + 4) (.int .i64 p.2.2.2.2) = flat (ps.set j p) := by
  induction ps generalizing j with
  | nil => simp [flat]
  | cons a l ih =>
    cases j with
    | zero => simp [flat_cons, cells5]
    | succ j =>
      have e0 : (j + 1) * 5 = j * 5 + 1 + 1 + 1 + 1 + 1 := by omega
      have e1 : (j + 1) * 5 + 1 = j * 5 + 1 + 1 + 1 + 1 + 1 + 1 := by omega
      have e2 : (j + 1) * 5 + 2 = j * 5 + 2 + 1 + 1 + 1 + 1 + 1 := by omega
      have e3 : (j + 1) * 5 + 3 = j * 5 + 3 + 1 + 1 + 1 + 1 + 1 := by omega
      have e4 : (j + 1) * 5 + 4 = j * 5 + 4 + 1 + 1 + 1 + 1 + 1 := by omega
      rw [e1, e2, e3, e4, e0, List.set_cons_succ, flat_cons, flat_cons, ← ih j]
      simp only [cells5, List.cons_append, List.nil_append, List.set_cons_succ]
theorem own_cells5 {w : World} {base : Nat} {g n cap k : Nat} {ps : PList} (h : OwnP w base (some ⟨g, 0, none⟩) n cap ps) (hk : k < n) :
    (∃ u, w.cell? ⟨g, k * 5, none⟩ = some u) ∧ (∃ u, w.cell? ⟨g, k * 5 + 1, none⟩ = some u) ∧ (∃ u, w.cell? ⟨g, k * 5 + 2, none⟩ = some u) ∧ (∃ u, w.cell? ⟨g, k * 5 + 3, none⟩ = some u) ∧ (∃ u, w.cell? ⟨g, k * 5 + 4, none⟩ = some u) ∧
    (∀ i, w.frozen? ⟨g, i, none⟩ = false) ∧ ∀ p, OwnP (set5 w g (k * 5) p) base (some ⟨g, 0, none⟩) n cap (ps.set k p) := by
  have hl := h.2.1
  refine ⟨⟨_, (h.2.cellAt (k * 5) (by omega)).trans (List.getElem?_eq_getElem (by omega))⟩, ⟨_, (h.2.cellAt (k * 5 + 1) (by omega)).trans (List.getElem?_eq_getElem (by omega))⟩, ⟨_, (h.2.cellAt (k * 5 + 2) (by omega)).trans (List.getElem?_eq_getElem (by omega))⟩,
    ⟨_, (h.2.cellAt (k * 5 + 3) (by omega)).trans (List.getElem?_eq_getElem (by omega))⟩, ⟨_, (h.2.cellAt (k * 5 + 4) (by omega)).trans (List.getElem?_eq_getElem (by omega))⟩, fun i => h.2.frozenAt _, fun p => ⟨by simpa using h.1, ?_⟩⟩
  rw [← flat_set]
  exact (((((h.2.stored (k * 5) (.int .i64 p.1)).1.stored (k * 5 + 1) (.int .i64 p.2.1)).1.stored (k * 5 + 2) (.int .i64 p.2.2.1)).1.stored (k * 5 + 3) (.int .i64 p.2.2.2.1)).1.stored (k * 5 + 4) (.int .i64 p.2.2.2.2)).1
theorem set5_block (w : World) (g o : Nat) (p : Pd) (k : Nat) (h : k ≠ g) : (set5 w g o p).heap[k]? = w.heap[k]? := by
  unfold set5
  rw [Below.heap_setCell _ _ _ _ h, Below.heap_setCell _ _ _ _ h, Below.heap_setCell _ _ _ _ h, Below.heap_setCell _ _ _ _ h, Below.heap_setCell _ _ _ _ h]
theorem set5_size (w : World) (g o : Nat) (p : Pd) : (set5 w g o p).heap.size = w.heap.size := by simp [set5, World.setCell]
theorem set5_below {B : Nat} {a w : World} (hb : Below B a w) (g o : Nat) (p : Pd) (h : B ≤ g) : Below B a (set5 w g o p) :=
  ((((hb.setCell (p := ⟨g, o, none⟩) h _).setCell (p := ⟨g, o + 1, none⟩) h _).setCell (p := ⟨g, o + 2, none⟩) h _).setCell (p := ⟨g, o + 3, none⟩) h _).setCell (p := ⟨g, o + 4, none⟩) h _
theorem set5_grown {w : World} (g o : Nat) (p : Pd) {a : World} (h : a.grownBy w (some g)) : a.grownBy (set5 w g o p) (some g) := by
  have one : ∀ {w : World} (i : Nat) (u : Value), a.grownBy w (some g) → a.grownBy (w.setCell ⟨g, i, none⟩ u) (some g) := fun i u h =>
    ⟨h.os, h.tape, h.output, by simpa [World.setCell] using h.size, fun q hq hne => (Below.heap_setCell _ _ _ _ (fun e => hne (by rw [e]))).trans (h.block q hq hne)⟩
  exact one _ _ (one _ _ (one _ _ (one _ _ (one _ _ h))))

/-- k pods of ps written over a row of noughts. -/
def part (ps : PList) (k : Nat) : PList := ps.take k ++ List.replicate (ps.length - k) z5
theorem part_len (ps : PList) (k : Nat) (h : k ≤ ps.length) : (part ps k).length = ps.length := by simp [part]; omega
theorem part_set (ps : PList) (k : Nat) (h : k < ps.length) : (part ps k).set k (ps.getD k z5) = part ps (k + 1) := by
  unfold part
  rw [List.set_append_right _ _ (by simp; omega)]
  have e : k - (ps.take k).length = 0 := by simp; omega
  have e2 : ps.length - k = (ps.length - (k + 1)) + 1 := by omega
  have e3 : ps.getD k z5 = ps[k] := by simp [List.getD, h]
  rw [e, e2, List.replicate_succ, List.set_cons_zero, List.take_succ_eq_append_getElem h, e3, List.append_assoc]
  rfl
theorem part_zero (ps : PList) : part ps 0 = List.replicate ps.length z5 := by simp [part]
theorem part_all (ps : PList) : part ps ps.length = ps := by simp [part]
theorem made_flat (n : Nat) : (madeCells (Value.agg #[.int .i64 0, .int .i64 0, .int .i64 0, .int .i64 0, .int .i64 0]).cells (n * 5)).toList = flat (List.replicate n z5) := by
  apply List.ext_getElem?
  intro j
  have hc : (Value.agg #[.int .i64 0, .int .i64 0, .int .i64 0, .int .i64 0, .int .i64 0]).cells = #[.int .i64 0, .int .i64 0, .int .i64 0, .int .i64 0, .int .i64 0] := rfl
  rw [hc]
  have hl : (flat (List.replicate n z5)).length = n * 5 := by rw [flat_len]; simp
  by_cases hj : j < n * 5
  · have hh : j / 5 < n := by omega
    have hf := flat_at (List.replicate n z5) (j / 5) (j % 5) (by simpa using hh) (by omega)
    have hg : (List.replicate n z5).getD (j / 5) z5 = z5 := by simp [List.getD, hh]
    have he : j / 5 * 5 + j % 5 = j := by omega
    rw [hg, he] at hf
    have hm : (madeCells #[Value.int .i64 0, .int .i64 0, .int .i64 0, .int .i64 0, .int .i64 0] (n * 5)).toList[j]? = some (.int .i64 0) := by
      rcases (by omega : j % 5 = 0 ∨ j % 5 = 1 ∨ j % 5 = 2 ∨ j % 5 = 3 ∨ j % 5 = 4) with h0 | h0 | h0 | h0 | h0 <;> simp [madeCells, hj, h0]
    rw [hm, hf]
    rcases (by omega : j % 5 = 0 ∨ j % 5 = 1 ∨ j % 5 = 2 ∨ j % 5 = 3 ∨ j % 5 = 4) with h0 | h0 | h0 | h0 | h0 <;> rw [h0] <;> rfl
  · rw [List.getElem?_eq_none (l := flat _) (by omega), List.getElem?_eq_none]
    simp [madeCells]; omega
theorem infoP : (Tryz.prog.info? 51).map (fun i => (i.zero, i.size, i.bytes)) = some (some (.agg #[.int .i64 0, .int .i64 0, .int .i64 0, .int .i64 0, .int .i64 0]), 5, 40) := by kernel_rfl
theorem ret_int {k : IntKind} {a b : Int} (h : a = b) : Ending.returned (.int k a) = .returned (.int k b) := by rw [h]

set_option maxHeartbeats 800000 in
theorem toPod_any (x0 x1 x2 x3 x4 : Int) (w : World) :
    Calls Tryz.prog 51 #[.agg #[.int .i64 x0, .int .i64 x1, .int .i64 x2, .int .i64 x3, .int .i64 x4]] w fun e w' => e = .returned (.agg #[.int .i64 x0, .int .i64 x1, .int .i64 x2, .int .i64 x3, .int .i64 x4]) ∧ Below w.heap.size w w' := by
  go_enter Tryz.func51, Tryz.ntmps51
  go_wp2
  exact bodyPost_ret (v := .agg #[.int .i64 x0, .int .i64 x1, .int .i64 x2, .int .i64 x3, .int .i64 x4]) (by simp [results, Tryz.results51, go_sem]) rfl ⟨rfl, bel3 _ _ _ _⟩
set_option maxHeartbeats 800000 in
theorem eqPod_same (x0 x1 x2 x3 x4 : Int) (w : World) :
    Calls Tryz.prog 56 #[.agg #[.int .i64 x0, .int .i64 x1, .int .i64 x2, .int .i64 x3, .int .i64 x4], .agg #[.int .i64 x0, .int .i64 x1, .int .i64 x2, .int .i64 x3, .int .i64 x4]] w (Says (.bool true) w) := by
  go_enter Tryz.func56, Tryz.ntmps56
  go_wp2
  go_ret
  exact ⟨rfl, bel2 _ _ _⟩
set_option maxHeartbeats 1600000 in
theorem toPodS_any (A : Option Addr) (n cap : Nat) (ps : PList) (B : Nat) (w : World) (hr : IsPods w B A n ps) (hB : B ≤ w.heap.size) (hn : n ≤ 1048576) :
    Calls Tryz.prog 40 #[.slice A n cap] w fun e w' => ∃ g, e = .returned (.slice (some ⟨g, 0, none⟩) n n) ∧ OwnP w' w.heap.size (some ⟨g, 0, none⟩) n n ps ∧ Below w.heap.size w w' := by
  obtain ⟨i0, hi, hz0, hz1, hz2⟩ := info_parts infoP
  have HLen : Hid (ps.length = n) := hr.1
  go_enter Tryz.func40, Tryz.ntmps40
  go_wp2_with (at_make; refine wpList_make_full _ rfl _ _ 38 rfl w.heap.size 51 i0 (.agg #[.int .i64 0, .int .i64 0, .int .i64 0, .int .i64 0, .int .i64 0]) 5 Tryz.underlying38 hi hz0 hz1 _ _ _ _ n rfl rfl rfl rfl ?b1 ?b2 ?b3 ?_)
  case b1 => rw [hz2]; omega
  case b2 => unfold maxLen; omega
  case b3 => exact Nat.le_refl _
  intro w1 hown hgrow
  have hbel : Below w.heap.size w w1 := (Below.refl _ _).grown hgrow (Nat.le_refl _) (by intro k h; cases h)
  have hown0 : OwnP w1 w.heap.size (some ⟨w.heap.size, 0, none⟩) n n (part ps 0) := by
    refine ⟨by rw [part_zero, HLen.out]; simp, ?_⟩
    rw [part_zero, HLen.out, ← made_flat]; exact hown
  have hsz : w.heap.size < w1.heap.size := Ints.own_lt hown
  clear hgrow hi hz0 hz1 hz2 hown
  go_wp2_with fail
  go_loopw [4] (fun i wr => ∃ k : Nat, k ≤ n ∧ i = .int .i64 k ∧ Hid (OwnP wr w.heap.size (some ⟨w.heap.size, 0, none⟩) n n (part ps k)) ∧ Below w.heap.size w wr ∧ w.heap.size < wr.heap.size) (fun i _ => n - (intOf i).toNat)
  case atStart => exact ⟨0, Nat.zero_le _, rfl, hown0, hbel, hsz⟩
  case round =>
    obtain ⟨k, hk, rfl, HO, hbr, hszr⟩ := hrel
    by_cases hlt : k < n
    · obtain ⟨b, off, x0, x1, x2, x3, x4, rfl, hbB, hz, hc0, hc1, hc2, hc3, hc4⟩ := (hr.below hbr hB).at_ hlt
      have HZ := Lib.hid hz
      clear hz
      go_wp2_with fail
      refine (toPod_any _ _ _ _ _ _).mono ?_
      rintro e w2 ⟨rfl, hb2⟩
      obtain ⟨⟨u0, hu0⟩, ⟨u1, hu1⟩, ⟨u2, hu2⟩, ⟨u3, hu3⟩, ⟨u4, hu4⟩, hf, hst⟩ := own_cells5 (HO.out.below hb2) hlt
      have hf0 := hf (k * 5)
      have hf1 := hf (k * 5 + 1)
      have hf2 := hf (k * 5 + 2)
      have hf3 := hf (k * 5 + 3)
      have hf4 := hf (k * 5 + 4)
      have HST := Lib.hid hst
      clear hst hf
      have hbr2 : Below w.heap.size w w2 := hbr.trans (hb2.mono hbr.size)
      have hszr2 : w.heap.size < w2.heap.size := Nat.lt_of_lt_of_le hszr hb2.size
      go_wp2
      go_roundw
      case rel =>
        have h1 := HST.out (x0, x1, x2, x3, x4)
        rw [← HZ.out, part_set ps k (by rw [HLen.out]; omega), HZ.out] at h1
        have h2 : w.heap.size < (set5 w2 w.heap.size (k * 5) (x0, x1, x2, x3, x4)).heap.size := by rw [set5_size]; exact hszr2
        exact ⟨k + 1, by omega, by go_num, h1, set5_below hbr2 w.heap.size (k * 5) (x0, x1, x2, x3, x4) (Nat.le_refl _), h2⟩
      case measure => simp [intOf]; omega
    · have hkn : k = n := by omega
      have HK := Lib.hid hkn
      clear hkn
      go_wp2
      go_ret
      have hl := HLen.out
      refine ⟨w.heap.size, rfl, ?_, hbr⟩
      have h1 := HO.out
      rw [HK.out, ← hl, part_all] at h1
      rw [← hl]
      exact h1
set_option maxHeartbeats 1600000 in
theorem eqPodS_same (A C : Option Addr) (n cap cap' : Nat) (ps : PList) (B B' : Nat) (w : World) (hr : IsPods w B A n ps) (hs : IsPods w B' C n ps) (hB : B ≤ w.heap.size) (hB' : B' ≤ w.heap.size) (hn : n ≤ 1048576) :
    Calls Tryz.prog 49 #[.slice A n cap, .slice C n cap'] w (Says (.bool true) w) := by
  go_enter Tryz.func49, Tryz.ntmps49
  go_wp2_with fail
  go_loopw [5] (fun i wr => ∃ k : Nat, k ≤ n ∧ i = .int .i64 k ∧ Below w.heap.size w wr) (fun i _ => n - (intOf i).toNat)
  case atStart => exact ⟨0, Nat.zero_le _, rfl, Below.refl _ _⟩
  case round =>
    obtain ⟨k, hk, rfl, hbr⟩ := hrel
    by_cases hlt : k < n
    · obtain ⟨b, off, x0, x1, x2, x3, x4, rfl, hbB, hz, hc0, hc1, hc2, hc3, hc4⟩ := (hr.below hbr hB).at_ hlt
      obtain ⟨b', off', y0, y1, y2, y3, y4, rfl, hbB', hz', hd0, hd1, hd2, hd3, hd4⟩ := (hs.below hbr hB').at_ hlt
      have he : (x0, x1, x2, x3, x4) = (y0, y1, y2, y3, y4) := hz.symm.trans hz'
      simp only [Prod.mk.injEq] at he
      obtain ⟨rfl, rfl, rfl, rfl, rfl⟩ := he
      clear hz hz' hr hs
      go_wp2_with fail
      go_region_held3 (fun w' => w'.cell? ⟨b, off + k * 5, none⟩ = some (.int .i64 x0) ∧ w'.cell? ⟨b, off + k * 5 + 1, none⟩ = some (.int .i64 x1) ∧ w'.cell? ⟨b, off + k * 5 + 2, none⟩ = some (.int .i64 x2) ∧ w'.cell? ⟨b, off + k * 5 + 3, none⟩ = some (.int .i64 x3) ∧ w'.cell? ⟨b, off + k * 5 + 4, none⟩ = some (.int .i64 x4) ∧ w'.cell? ⟨b', off' + k * 5, none⟩ = some (.int .i64 x0) ∧ w'.cell? ⟨b', off' + k * 5 + 1, none⟩ = some (.int .i64 x1) ∧ w'.cell? ⟨b', off' + k * 5 + 2, none⟩ = some (.int .i64 x2) ∧ w'.cell? ⟨b', off' + k * 5 + 3, none⟩ = some (.int .i64 x3) ∧ w'.cell? ⟨b', off' + k * 5 + 4, none⟩ = some (.int .i64 x4)) (first | go_keep | (refine ⟨cell_keep hb2 ?_, cell_keep hb2 ?_, cell_keep hb2 ?_, cell_keep hb2 ?_, cell_keep hb2 ?_, cell_keep hb2 ?_, cell_keep hb2 ?_, cell_keep hb2 ?_, cell_keep hb2 ?_, cell_keep hb2 ?_⟩ <;> simp only [*]))
        (first | (go_at_call 56; refine (eqPod_same _ _ _ _ _ _).mono ?_; rintro e w2 ⟨rfl, hb2⟩))
      have hbr2 : Below w.heap.size w w2 := hbr.drew.trans (hb2.mono hbr.size)
      go_wp2
      go_roundw
      case rel => exact ⟨k + 1, by omega, by go_num, hbr2⟩
      case measure => simp [intOf]; omega
    · go_wp2
      go_ret
      exact ⟨rfl, hbr⟩
theorem szPodS_any (A : Option Addr) (n c : Nat) (k : Int) (w : World) (hn : n ≤ maxLen) (hk0 : 0 ≤ k) (hk1 : k ≤ 1048576) :
    Calls Tryz.prog 34 #[.slice A n c, .int .i64 k] w fun e w' => ∃ r : Int, e = .returned (.int .i64 r) ∧ (r = -1 ∨ (r = k - n ∧ 0 ≤ r)) ∧ w' = w := by
  have hm : (n : Int) ≤ 9223372036854775807 := by unfold maxLen at hn; omega
  by_cases h : k < n
  · have hd : decide (k - (n : Int) < 0) = true := by simp; omega
    go_enter Tryz.func34, Tryz.ntmps34
    go_wp2
    go_ret
    exact ⟨-1, rfl, .inl rfl, rfl⟩
  · have hd : decide (k - (n : Int) < 0) = false := by simp; omega
    have HK : Hid (0 ≤ k - (n : Int)) := (by omega : 0 ≤ k - (n : Int))
    go_enter Tryz.func34, Tryz.ntmps34
    go_wp2
    go_ret
    exact ⟨k - n, rfl, .inr ⟨rfl, HK.out⟩, rfl⟩
/-- The marks from k on in a list of n pods. -/
def markP (x : Int) : Pd := (x, x + 1, x + 2, x + 3, x + 4)
def marksP (k : Int) (n : Nat) : PList := (List.range n).map fun (i : Nat) => markP (k + 5 * (i : Int))
theorem marksP_len (k : Int) (n : Nat) : (marksP k n).length = n := by simp [marksP]
theorem marksP_at (k : Int) (n j : Nat) (h : j < n) : (marksP k n).getD j z5 = markP (k + 5 * j) := by simp [marksP, List.getD, h]
def partM (ps : PList) (k : Int) (j : Nat) : PList := marksP k j ++ ps.drop j
theorem marksP_succ (k : Int) (j : Nat) : marksP k (j + 1) = marksP k j ++ [markP (k + 5 * j)] := by simp [marksP, List.range_succ]
theorem partM_set (ps : PList) (k : Int) (j : Nat) (h : j < ps.length) : (partM ps k j).set j (markP (k + 5 * j)) = partM ps k (j + 1) := by
  unfold partM
  rw [List.set_append_right _ _ (by simp [marksP_len])]
  have e : j - (marksP k j).length = 0 := by simp [marksP_len]
  rw [e, List.drop_eq_getElem_cons h, List.set_cons_zero, marksP_succ, List.append_assoc]
  rfl
theorem partM_zero (ps : PList) (k : Int) : partM ps k 0 = ps := by simp [partM, marksP]
theorem partM_all (ps : PList) (k : Int) : partM ps k ps.length = marksP k ps.length := by simp [partM]
end Go.Proofs.YtlghdmakaocokaaGreatDoor.Pods
