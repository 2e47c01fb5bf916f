/-
  LISTS OF PODS (five ints each): what it is that a slice reads as a list of them, and to own one; the contracts of the laws' toPod, toPodS, eqPod, eqPodS, szPodS, markPodS, heldPodS over this seat's translation.
-/
import Derived.Test.YtklgjjmcflgjeaaInts
import Derived.Test.YtklgjjmcflgjeaaLawKit
import Derived.Deep.AppendLies
import Derived.Lib.Hide
namespace Go.Proofs.Ytklgjjmcflgjeaa.Pods
open Go.ChangeShapes Go.WideShapes Go.ChangeAt Go.RowKit
open Go.Proofs.Ytklgjjmcflgjeaa.LK
set_option linter.unusedVariables false

/-- Id, Rev, State, Gen, Since. -/
abbrev Pd := Int × Int × Int × Int × Int
abbrev PList := List Pd
def z5 : Pd := (0, 0, 0, 0, 0)
def cells5 (p : Pd) : List Value := [.int .i64 p.1, .int .i64 p.2.1, .int .i64 p.2.2.1, .int .i64 p.2.2.2.1, .int .i64 p.2.2.2.2]
def podV (p : Pd) : Value := .agg (cells5 p).toArray
def flat (ps : PList) : List Value := ps.flatMap cells5
theorem cells5_len (p : Pd) : (cells5 p).length = 5 := rfl
theorem flat_nil : flat [] = [] := rfl
theorem flat_cons (p : Pd) (ps : PList) : flat (p :: ps) = cells5 p ++ flat ps := by simp [flat]
theorem flat_len (ps : PList) : (flat ps).length = ps.length * 5 := by
  induction ps with
  | nil => rfl
  | cons x l ih => rw [flat_cons, List.length_append, cells5_len, ih]; simp; omega
theorem flat_app (a b : PList) : flat (a ++ b) = flat a ++ flat b := by simp [flat]
theorem flat_one (p : Pd) : flat [p] = cells5 p := by simp [flat]
theorem flat_at (ps : PList) (j i : Nat) (h : j < ps.length) (hi : i < 5) : (flat ps)[j * 5 + i]? = (cells5 (ps.getD j z5))[i]? := by
  induction ps generalizing j with
  | nil => simp at h
  | cons x l ih =>
    rw [flat_cons]
    cases j with
    | zero =>
      rw [List.getElem?_append_left (by rw [cells5_len]; omega)]
      simp [List.getD]
    | succ j =>
      rw [List.getElem?_append_right (by rw [cells5_len]; omega), cells5_len]
      have e : (j + 1) * 5 + i - 5 = j * 5 + i := by omega
      rw [e, ih j (by simpa using h)]
      simp [List.getD]
theorem flat_inj {a b : PList} (h : flat a = flat b) : a = b := by
  induction a generalizing b with
  | nil =>
    cases b with
    | nil => rfl
    | cons x l => have := congrArg List.length h; simp [flat_len] at this
  | cons x l ih =>
    cases b with
    | nil => have := congrArg List.length h; simp [flat_len] at this
    | cons y m =>
      rw [flat_cons, flat_cons] at h
      obtain ⟨h1, h2⟩ := List.append_inj h (by simp [cells5_len])
      rw [ih h2]
      obtain ⟨a, b, c, d, e⟩ := x
      obtain ⟨a', b', c', d', e'⟩ := y
      simp [cells5] at h1
      obtain ⟨rfl, rfl, rfl, rfl, rfl⟩ := h1
      rfl

/-- The five cells of a pod. -/
def Cell5 (w : World) (b o : Nat) (p : Pd) : Prop :=
  w.cell? ⟨b, o, none⟩ = some (.int .i64 p.1) ∧ w.cell? ⟨b, o + 1, none⟩ = some (.int .i64 p.2.1) ∧ w.cell? ⟨b, o + 2, none⟩ = some (.int .i64 p.2.2.1) ∧ w.cell? ⟨b, o + 3, none⟩ = some (.int .i64 p.2.2.2.1) ∧ w.cell? ⟨b, o + 4, none⟩ = some (.int .i64 p.2.2.2.2)
/-- The slice at A of length n holds the pods ps, in a block below B. -/
def IsPods (w : World) (B : Nat) (A : Option Addr) (n : Nat) (ps : PList) : Prop :=
  ps.length = n ∧ (0 < n → ∃ b off, A = some ⟨b, off, none⟩ ∧ b < B ∧ ∀ j, j < n → Cell5 w b (off + j * 5) (ps.getD j z5))
section
variable {w w' : World} {B C : Nat} {A : Option Addr} {n : Nat} {ps : PList}
theorem IsPods.keep (h : IsPods w B A n ps) (hk : ∀ p : Addr, p.block < B → w'.cell? p = w.cell? p) : IsPods w' B A n ps :=
  ⟨h.1, fun hn => by
    obtain ⟨b, off, e, hlt, hc⟩ := h.2 hn
    refine ⟨b, off, e, hlt, fun j hj => ?_⟩
    obtain ⟨h0, h1, h2, h3, h4⟩ := hc j hj
    exact ⟨(hk ⟨b, _, none⟩ hlt).trans h0, (hk ⟨b, _, none⟩ hlt).trans h1, (hk ⟨b, _, none⟩ hlt).trans h2, (hk ⟨b, _, none⟩ hlt).trans h3, (hk ⟨b, _, none⟩ hlt).trans h4⟩⟩
theorem IsPods.below (h : IsPods w B A n ps) (hb : Below C w w') (hC : B ≤ C) : IsPods w' B A n ps := h.keep fun p hp => hb.cell (by omega)
theorem IsPods.more (h : IsPods w B A n ps) (hC : B ≤ C) : IsPods w C A n ps :=
  ⟨h.1, fun hn => by
    obtain ⟨b, off, e, hlt, hc⟩ := h.2 hn
    exact ⟨b, off, e, by omega, hc⟩⟩
theorem IsPods.at_ {k : Nat} (h : IsPods w B A n ps) (hk : k < n) : ∃ b off x0 x1 x2 x3 x4, A = some ⟨b, off, none⟩ ∧ b < B ∧ ps.getD k z5 = (x0, x1, x2, x3, x4) ∧
    w.cell? ⟨b, off + k * 5, none⟩ = some (.int .i64 x0) ∧ w.cell? ⟨b, off + k * 5 + 1, none⟩ = some (.int .i64 x1) ∧ w.cell? ⟨b, off + k * 5 + 2, none⟩ = some (.int .i64 x2) ∧ w.cell? ⟨b, off + k * 5 + 3, none⟩ = some (.int .i64 x3) ∧ w.cell? ⟨b, off + k * 5 + 4, none⟩ = some (.int .i64 x4) := by
  obtain ⟨b, off, e, hlt, hc⟩ := h.2 (by omega)
  obtain ⟨h0, h1, h2, h3, h4⟩ := hc k hk
  exact ⟨b, off, _, _, _, _, _, e, hlt, rfl, h0, h1, h2, h3, h4⟩
theorem IsPods.nil (w : World) (B : Nat) (A : Option Addr) : IsPods w B A 0 [] := ⟨rfl, fun h => absurd h (by omega)⟩
end

/-- A list of pods of one's own. -/
def OwnP (w : World) (lo : Nat) (A : Option Addr) (n c : Nat) (ps : PList) : Prop := ps.length = n ∧ w.ownsRow lo 84 5 (.slice A n c) n (flat ps)
section
variable {w w' : World} {lo B : Nat} {A : Option Addr} {n c : Nat} {ps : PList}
theorem OwnP.lt (h : OwnP w lo A n c ps) (k : Nat) (hk : (Value.slice A n c).ownBlock = some k) : lo ≤ k ∧ k < w.heap.size := h.2.lt k hk
theorem OwnP.base {lo' : Nat} (h : OwnP w lo A n c ps) (hb : ∀ k, (Value.slice A n c).ownBlock = some k → lo' ≤ k) : OwnP w lo' A n c ps := by
  refine ⟨h.1, h.2.1, ?_⟩
  rcases h.2.2 with h0 | ⟨g, cap, cur, h3, h4, h5⟩
  · exact .inl h0
  · exact .inr ⟨g, cap, cur, h3, hb g (by rw [h3]; rfl), h5⟩
theorem OwnP.zero (h : OwnP w lo A n c ps) : OwnP w 0 A n c ps := h.base fun _ _ => Nat.zero_le _
theorem OwnP.down {lo' : Nat} (h : OwnP w lo A n c ps) (hl : lo' ≤ lo) : OwnP w lo' A n c ps := h.base fun k hk => Nat.le_trans hl (h.lt k hk).1
theorem OwnP.same (h : OwnP w lo A n c ps) (hs : ∀ k, (Value.slice A n c).ownBlock = some k → w'.heap[k]? = w.heap[k]?) : OwnP w' lo A n c ps := by
  refine ⟨h.1, h.2.1, ?_⟩
  rcases h.2.2 with h0 | ⟨g, cap, cur, h3, h4, h5, h6⟩
  · exact .inl h0
  · refine .inr ⟨g, cap, cur, h3, h4, ?_, h6⟩
    rw [hs g (by rw [h3]; rfl)]; exact h5
theorem OwnP.below (h : OwnP w lo A n c ps) (hb : Below w.heap.size w w') : OwnP w' lo A n c ps := h.same fun k hk => hb.block k (h.lt k hk).2
theorem OwnP.pods (h : OwnP w lo A n c ps) (hs : ∀ k, (Value.slice A n c).ownBlock = some k → k < B) : IsPods w B A n ps := by
  refine ⟨h.1, fun hn => ?_⟩
  obtain ⟨g, cap, hv, _, hlt⟩ := h.2.form hn
  have hA : A = some ⟨g, 0, none⟩ := by injection hv
  subst hA
  refine ⟨g, 0, rfl, hs g rfl, fun j hj => ?_⟩
  have hl := h.1
  have hf := fun i hi => flat_at ps j i (by omega) hi
  refine ⟨?_, ?_, ?_, ?_, ?_⟩
  · rw [Nat.zero_add, h.2.cellAt (j * 5) (by omega)]; exact hf 0 (by omega)
  · rw [Nat.zero_add, h.2.cellAt (j * 5 + 1) (by omega)]; exact hf 1 (by omega)
  · rw [Nat.zero_add, h.2.cellAt (j * 5 + 2) (by omega)]; exact hf 2 (by omega)
  · rw [Nat.zero_add, h.2.cellAt (j * 5 + 3) (by omega)]; exact hf 3 (by omega)
  · rw [Nat.zero_add, h.2.cellAt (j * 5 + 4) (by omega)]; exact hf 4 (by omega)
theorem OwnP.podsAll (h : OwnP w lo A n c ps) : IsPods w w.heap.size A n ps := h.pods fun k hk => (h.lt k hk).2
theorem OwnP.nil (w : World) (lo : Nat) : OwnP w lo none 0 0 [] := ⟨rfl, World.ownsRow_nil _ _ _ _⟩
theorem OwnP.at0 (h : OwnP w lo A n c ps) (hn : 0 < n) : ∃ g, A = some ⟨g, 0, none⟩ ∧ lo ≤ g ∧ g < w.heap.size := by
  obtain ⟨g, cap, hv, hb, hlt⟩ := h.2.form hn
  exact ⟨g, by injection hv, hb, hlt⟩
end
def set5 (w : World) (g o : Nat) (p : Pd) : World := ((((w.setCell ⟨g, o, none⟩ (.int .i64 p.1)).setCell ⟨g, o + 1, none⟩ (.int .i64 p.2.1)).setCell ⟨g, o + 2, none⟩ (.int .i64 p.2.2.1)).setCell ⟨g, o + 3, none⟩ (.int .i64 p.2.2.2.1)).setCell ⟨g, o + 4, none⟩ (.int .i64 p.2.2.2.2)
theorem flat_set (ps : PList) (j : Nat) (p : Pd) : (((((flat ps).set (j * 5) (.int .i64 p.1)).set (j * 5 + 1) (.int .i64 p.2.1)).set (j * 5 + 2) (.int .i64 p.2.2.1)).set (j * 5 + 3) (.int .i64 p.2.2.2.1)).set (j * 5 + 4) (.int .i64 p.2.2.2.2) = flat (ps.set j p) := by
  induction ps generalizing j with
  | nil => simp [flat]
  | cons a l ih =>
    cases j with
    | zero => simp [flat_cons, cells5]
    | succ j =>
      have e0 : (j + 1) * 5 = j * 5 + 1 + 1 + 1 + 1 + 1 := by omega
      have e1 : (j + 1) * 5 + 1 = j * 5 + 1 + 1 + 1 + 1 + 1 + 1 := by omega
      have e2 : (j + 1) * 5 + 2 = j * 5 + 2 + 1 + 1 + 1 + 1 + 1 := by omega
      have e3 : (j + 1) * 5 + 3 = j * 5 + 3 + 1 + 1 + 1 + 1 + 1 := by omega
      have e4 : (j + 1) * 5 + 4 = j * 5 + 4 + 1 + 1 + 1 + 1 + 1 := by omega
      rw [e1, e2, e3, e4, e0, List.set_cons_succ, flat_cons, flat_cons, ← ih j]
      simp only [cells5, List.cons_append, List.nil_append, List.set_cons_succ]
theorem own_cells5 {w : World} {base : Nat} {g n cap k : Nat} {ps : PList} (h : OwnP w base (some ⟨g, 0, none⟩) n cap ps) (hk : k < n) :
    (∃ u, w.cell? ⟨g, k * 5, none⟩ = some u) ∧ (∃ u, w.cell? ⟨g, k * 5 + 1, none⟩ = some u) ∧ (∃ u, w.cell? ⟨g, k * 5 + 2, none⟩ = some u) ∧ (∃ u, w.cell? ⟨g, k * 5 + 3, none⟩ = some u) ∧ (∃ u, w.cell? ⟨g, k * 5 + 4, none⟩ = some u) ∧
    (∀ i, w.frozen? ⟨g, i, none⟩ = false) ∧ ∀ p, OwnP (set5 w g (k * 5) p) base (some ⟨g, 0, none⟩) n cap (ps.set k p) := by
  have hl := h.2.1
  refine ⟨⟨_, (h.2.cellAt (k * 5) (by omega)).trans (List.getElem?_eq_getElem (by omega))⟩, ⟨_, (h.2.cellAt (k * 5 + 1) (by omega)).trans (List.getElem?_eq_getElem (by omega))⟩, ⟨_, (h.2.cellAt (k * 5 + 2) (by omega)).trans (List.getElem?_eq_getElem (by omega))⟩,
    ⟨_, (h.2.cellAt (k * 5 + 3) (by omega)).trans (List.getElem?_eq_getElem (by omega))⟩, ⟨_, (h.2.cellAt (k * 5 + 4) (by omega)).trans (List.getElem?_eq_getElem (by omega))⟩, fun i => h.2.frozenAt _, fun p => ⟨by simpa using h.1, ?_⟩⟩
  rw [← flat_set]
  exact (((((h.2.stored (k * 5) (.int .i64 p.1)).1.stored (k * 5 + 1) (.int .i64 p.2.1)).1.stored (k * 5 + 2) (.int .i64 p.2.2.1)).1.stored (k * 5 + 3) (.int .i64 p.2.2.2.1)).1.stored (k * 5 + 4) (.int .i64 p.2.2.2.2)).1
theorem set5_block (w : World) (g o : Nat) (p : Pd) (k : Nat) (h : k ≠ g) : (set5 w g o p).heap[k]? = w.heap[k]? := by
  unfold set5
  rw [Below.heap_setCell _ _ _ _ h, Below.heap_setCell _ _ _ _ h, Below.heap_setCell _ _ _ _ h, Below.heap_setCell _ _ _ _ h, Below.heap_setCell _ _ _ _ h]
theorem set5_size (w : World) (g o : Nat) (p : Pd) : (set5 w g o p).heap.size = w.heap.size := by simp [set5, World.setCell]
theorem set5_below {B : Nat} {a w : World} (hb : Below B a w) (g o : Nat) (p : Pd) (h : B ≤ g) : Below B a (set5 w g o p) :=
  ((((hb.setCell (p := ⟨g, o, none⟩) h _).setCell (p := ⟨g, o + 1, none⟩) h _).setCell (p := ⟨g, o + 2, none⟩) h _).setCell (p := ⟨g, o + 3, none⟩) h _).setCell (p := ⟨g, o + 4, none⟩) h _
theorem set5_grown {w : World} (g o : Nat) (p : Pd) {a : World} (h : a.grownBy w (some g)) : a.grownBy (set5 w g o p) (some g) := by
  have one : ∀ {w : World} (i : Nat) (u : Value), a.grownBy w (some g) → a.grownBy (w.setCell ⟨g, i, none⟩ u) (some g) := fun i u h =>
    ⟨h.os, h.tape, h.output, by simpa [World.setCell] using h.size, fun q hq hne => (Below.heap_setCell _ _ _ _ (fun e => hne (by rw [e]))).trans (h.block q hq hne)⟩
  exact one _ _ (one _ _ (one _ _ (one _ _ (one _ _ h))))

/-- k pods of ps written over a row of noughts. -/
def part (ps : PList) (k : Nat) : PList := ps.take k ++ List.replicate (ps.length - k) z5
theorem part_len (ps : PList) (k : Nat) (h : k ≤ ps.length) : (part ps k).length = ps.length := by simp [part]; omega
theorem part_set (ps : PList) (k : Nat) (h : k < ps.length) : (part ps k).set k (ps.getD k z5) = part ps (k + 1) := by
  unfold part
  rw [List.set_append_right _ _ (by simp; omega)]
  have e : k - (ps.take k).length = 0 := by simp; omega
  have e2 : ps.length - k = (ps.length - (k + 1)) + 1 := by omega
  have e3 : ps.getD k z5 = ps[k] := by simp [List.getD, h]
  rw [e, e2, List.replicate_succ, List.set_cons_zero, List.take_succ_eq_append_getElem h, e3, List.append_assoc]
  rfl
theorem part_zero (ps : PList) : part ps 0 = List.replicate ps.length z5 := by simp [part]
theorem part_all (ps : PList) : part ps ps.length = ps := by simp [part]
theorem made_flat (n : Nat) : (madeCells (Value.agg #[.int .i64 0, .int .i64 0, .int .i64 0, .int .i64 0, .int .i64 0]).cells (n * 5)).toList = flat (List.replicate n z5) := by
  apply List.ext_getElem?
  intro j
  have hc : (Value.agg #[.int .i64 0, .int .i64 0, .int .i64 0, .int .i64 0, .int .i64 0]).cells = #[.int .i64 0, .int .i64 0, .int .i64 0, .int .i64 0, .int .i64 0] := rfl
  rw [hc]
  have hl : (flat (List.replicate n z5)).length = n * 5 := by rw [flat_len]; simp
  by_cases hj : j < n * 5
  · have hh : j / 5 < n := by omega
    have hf := flat_at (List.replicate n z5) (j / 5) (j % 5) (by simpa using hh) (by omega)
    have hg : (List.replicate n z5).getD (j / 5) z5 = z5 := by simp [List.getD, hh]
    have he : j / 5 * 5 + j % 5 = j := by omega
    rw [hg, he] at hf
    have hm : (madeCells #[Value.int .i64 0, .int .i64 0, .int .i64 0, .int .i64 0, .int .i64 0] (n * 5)).toList[j]? = some (.int .i64 0) := by
      rcases (by omega : j % 5 = 0 ∨ j % 5 = 1 ∨ j % 5 = 2 ∨ j % 5 = 3 ∨ j % 5 = 4) with h0 | h0 | h0 | h0 | h0 <;> simp [madeCells, hj, h0]
    rw [hm, hf]
    rcases (by omega : j % 5 = 0 ∨ j % 5 = 1 ∨ j % 5 = 2 ∨ j % 5 = 3 ∨ j % 5 = 4) with h0 | h0 | h0 | h0 | h0 <;> rw [h0] <;> rfl
  · rw [List.getElem?_eq_none (l := flat _) (by omega), List.getElem?_eq_none]
    simp [madeCells]; omega
theorem infoP : (Try.prog.info? 84).map (fun i => (i.zero, i.size, i.bytes)) = some (some (.agg #[.int .i64 0, .int .i64 0, .int .i64 0, .int .i64 0, .int .i64 0]), 5, 40) := by kernel_rfl
theorem ret_int {k : IntKind} {a b : Int} (h : a = b) : Ending.returned (.int k a) = .returned (.int k b) := by rw [h]

set_option maxHeartbeats 800000 in
theorem eqPod_same (x0 x1 x2 x3 x4 : Int) (w : World) :
    Calls Try.prog 57 #[.agg #[.int .i64 x0, .int .i64 x1, .int .i64 x2, .int .i64 x3, .int .i64 x4], .agg #[.int .i64 x0, .int .i64 x1, .int .i64 x2, .int .i64 x3, .int .i64 x4]] w (Says (.bool true) w) := by
  go_enter Try.func57, Try.ntmps57
  go_wp2
  go_ret
  exact ⟨rfl, bel2 _ _ _⟩
set_option maxHeartbeats 1600000 in
theorem eqPodS_same (A C : Option Addr) (n cap cap' : Nat) (ps : PList) (B B' : Nat) (w : World) (hr : IsPods w B A n ps) (hs : IsPods w B' C n ps) (hB : B ≤ w.heap.size) (hB' : B' ≤ w.heap.size) (hn : n ≤ 1048576) :
    Calls Try.prog 54 #[.slice A n cap, .slice C n cap'] w (Says (.bool true) w) := by
  go_enter Try.func54, Try.ntmps54
  go_wp2_with fail
  go_loopw [5] (fun i wr => ∃ k : Nat, k ≤ n ∧ i = .int .i64 k ∧ Below w.heap.size w wr) (fun i _ => n - (intOf i).toNat)
  case atStart => exact ⟨0, Nat.zero_le _, rfl, Below.refl _ _⟩
  case round =>
    obtain ⟨k, hk, rfl, hbr⟩ := hrel
    by_cases hlt : k < n
    · obtain ⟨b, off, x0, x1, x2, x3, x4, rfl, hbB, hz, hc0, hc1, hc2, hc3, hc4⟩ := (hr.below hbr hB).at_ hlt
      obtain ⟨b', off', y0, y1, y2, y3, y4, rfl, hbB', hz', hd0, hd1, hd2, hd3, hd4⟩ := (hs.below hbr hB').at_ hlt
      have he : (x0, x1, x2, x3, x4) = (y0, y1, y2, y3, y4) := hz.symm.trans hz'
      simp only [Prod.mk.injEq] at he
      obtain ⟨rfl, rfl, rfl, rfl, rfl⟩ := he
      clear hz hz' hr hs
      go_wp2_with fail
      go_region_held3 (fun w' => w'.cell? ⟨b, off + k * 5, none⟩ = some (.int .i64 x0) ∧ w'.cell? ⟨b, off + k * 5 + 1, none⟩ = some (.int .i64 x1) ∧ w'.cell? ⟨b, off + k * 5 + 2, none⟩ = some (.int .i64 x2) ∧ w'.cell? ⟨b, off + k * 5 + 3, none⟩ = some (.int .i64 x3) ∧ w'.cell? ⟨b, off + k * 5 + 4, none⟩ = some (.int .i64 x4) ∧ w'.cell? ⟨b', off' + k * 5, none⟩ = some (.int .i64 x0) ∧ w'.cell? ⟨b', off' + k * 5 + 1, none⟩ = some (.int .i64 x1) ∧ w'.cell? ⟨b', off' + k * 5 + 2, none⟩ = some (.int .i64 x2) ∧ w'.cell? ⟨b', off' + k * 5 + 3, none⟩ = some (.int .i64 x3) ∧ w'.cell? ⟨b', off' + k * 5 + 4, none⟩ = some (.int .i64 x4)) (first | go_keep | (refine ⟨cell_keep hb2 ?_, cell_keep hb2 ?_, cell_keep hb2 ?_, cell_keep hb2 ?_, cell_keep hb2 ?_, cell_keep hb2 ?_, cell_keep hb2 ?_, cell_keep hb2 ?_, cell_keep hb2 ?_, cell_keep hb2 ?_⟩ <;> simp only [*]))
        (first | (go_at_call 57; refine (eqPod_same _ _ _ _ _ _).mono ?_; rintro e w2 ⟨rfl, hb2⟩))
      have hbr2 : Below w.heap.size w w2 := hbr.drew.trans (hb2.mono hbr.size)
      go_wp2
      go_roundw
      case rel => exact ⟨k + 1, by omega, by go_num, hbr2⟩
      case measure => simp [intOf]; omega
    · go_wp2
      go_ret
      exact ⟨rfl, hbr⟩
/-- The marks from k on in a list of n pods. -/
def markP (x : Int) : Pd := (x, x + 1, x + 2, x + 3, x + 4)
def marksP (k : Int) (n : Nat) : PList := (List.range n).map fun (i : Nat) => markP (k + 5 * (i : Int))
theorem marksP_len (k : Int) (n : Nat) : (marksP k n).length = n := by simp [marksP]
theorem marksP_at (k : Int) (n j : Nat) (h : j < n) : (marksP k n).getD j z5 = markP (k + 5 * j) := by simp [marksP, List.getD, h]
def partM (ps : PList) (k : Int) (j : Nat) : PList := marksP k j ++ ps.drop j
theorem marksP_succ (k : Int) (j : Nat) : marksP k (j + 1) = marksP k j ++ [markP (k + 5 * j)] := by simp [marksP, List.range_succ]
theorem partM_set (ps : PList) (k : Int) (j : Nat) (h : j < ps.length) : (partM ps k j).set j (markP (k + 5 * j)) = partM ps k (j + 1) := by
  unfold partM
  rw [List.set_append_right _ _ (by simp [marksP_len])]
  have e : j - (marksP k j).length = 0 := by simp [marksP_len]
  rw [e, List.drop_eq_getElem_cons h, List.set_cons_zero, marksP_succ, List.append_assoc]
  rfl
theorem partM_zero (ps : PList) (k : Int) : partM ps k 0 = ps := by simp [partM, marksP]
theorem partM_all (ps : PList) (k : Int) : partM ps k ps.length = marksP k ps.length := by simp [partM]
set_option maxHeartbeats 3200000 in
theorem markPodS_any (A : Option Addr) (n c : Nat) (ps : PList) (lo : Nat) (k : Int) (w : World) (hO : OwnP w lo A n c ps) (hn : n ≤ 1048576) (h0 : 0 ≤ k) (h1 : k ≤ 300000000) :
    Calls Try.prog 55 #[.slice A n c, .int .i64 k] w fun e w' => e = .returned (.int .i64 (k + 5 * n)) ∧ OwnP w' lo A n c (marksP k n) ∧ w.grownBy w' (Value.slice A n c).ownBlock := by
  have HLen : Hid (ps.length = n) := hO.1
  by_cases hp : n = 0
  · have HE : Hid (n = 0) := hp
    have HO := Lib.hid hO
    have hz : ¬ (0 : Nat) < n := by omega
    clear hp hO
    go_enter Try.func55, Try.ntmps55
    go_wp2_with fail
    go_loop [1, 5] (fun q i => q = .int .i64 k ∧ i = .int .i64 (0 : Int)) (fun _ _ => 0)
    case atStart => exact ⟨rfl, rfl⟩
    case round =>
      obtain ⟨rfl, rfl⟩ := hrel
      go_wp2
      go_ret
      have hn0 := HE.out
      subst hn0
      have hts : ps = [] := List.eq_nil_of_length_eq_zero HLen.out
      refine ⟨ret_int (by omega), ?_, World.grownBy.refl _ _⟩
      have h5 := HO.out
      rw [hts] at h5
      exact h5
  · obtain ⟨g, rfl, hg0, hg⟩ := hO.at0 (by omega)
    have hgr : w.grownBy w (some g) := ⟨rfl, rfl, rfl, Nat.le_refl _, fun _ _ _ => rfl⟩
    have hO0 : OwnP w lo (some ⟨g, 0, none⟩) n c (partM ps k 0) := by rw [partM_zero]; exact hO
    have HP := Lib.hid hp
    clear hO hp
    go_enter Try.func55, Try.ntmps55
    go_wp2_with fail
    go_loopw [1, 5] (fun q i wr => ∃ (j : Nat) (x : Int), j ≤ n ∧ i = .int .i64 j ∧ q = .int .i64 x ∧ 0 ≤ x ∧ x ≤ k + 5 * j ∧ Hid (x = k + 5 * j) ∧ Hid (OwnP wr lo (some ⟨g, 0, none⟩) n c (partM ps k j)) ∧ Hid (w.grownBy wr (some g))) (fun _ i _ => n - (intOf i).toNat)
    case atStart => exact ⟨0, k, Nat.zero_le _, rfl, rfl, h0, by omega, by simp [Hid], hO0, hgr⟩
    case round =>
      obtain ⟨j, x, hj, rfl, rfl, hx0, hx1, HX, HO, HG⟩ := hrel
      by_cases hlt : j < n
      · obtain ⟨⟨u0, hu0⟩, ⟨u1, hu1⟩, ⟨u2, hu2⟩, ⟨u3, hu3⟩, ⟨u4, hu4⟩, hf, hst⟩ := own_cells5 HO.out hlt
        have hf0 := hf (j * 5)
        have hf1 := hf (j * 5 + 1)
        have hf2 := hf (j * 5 + 2)
        have hf3 := hf (j * 5 + 3)
        have hf4 := hf (j * 5 + 4)
        have HST := Lib.hid hst
        clear hst hf
        go_wp2
        go_roundw
        case rel =>
          refine ⟨j + 1, x + 1 + 1 + 1 + 1 + 1, by omega, by go_num, rfl, by omega, by omega, by have := HX.out; show _ = _; omega, ?_, ?_⟩
          · have h2 := HST.out (x, x + 1, x + 1 + 1, x + 1 + 1 + 1, x + 1 + 1 + 1 + 1)
            have hm : (x, x + 1, x + 1 + 1, x + 1 + 1 + 1, x + 1 + 1 + 1 + 1) = markP (k + 5 * j) := by rw [← HX.out]; simp [markP]; omega
            have h3 := partM_set ps k j (by rw [HLen.out]; exact hlt)
            rw [← hm] at h3
            rw [h3] at h2
            exact h2
          · exact set5_grown g (j * 5) (x, x + 1, x + 1 + 1, x + 1 + 1 + 1, x + 1 + 1 + 1 + 1) HG.out
        case measure => simp [intOf]; omega
      · have HJ : Hid (j = n) := (by omega : j = n)
        go_wp2
        go_ret
        have hx := HX.out
        have hj' := HJ.out
        subst hj'
        refine ⟨ret_int hx, ?_, HG.out⟩
        have h2 := HO.out
        rw [← HLen.out, partM_all] at h2
        rw [← HLen.out]
        exact h2
set_option maxHeartbeats 3200000 in
theorem heldPodS_any (A : Option Addr) (n c : Nat) (k : Int) (B : Nat) (w : World) (hr : IsPods w B A n (marksP k n)) (hn : n ≤ 1048576) (h0 : 0 ≤ k) (h1 : k ≤ 300000000) :
    Calls Try.prog 56 #[.slice A n c, .int .i64 k] w fun e w' => e = .returned (.int .i64 (k + 5 * n)) ∧ w' = w := by
  go_enter Try.func56, Try.ntmps56
  go_wp2_with fail
  go_loop [1, 5] (fun q i => ∃ (j : Nat) (x : Int), j ≤ n ∧ i = .int .i64 j ∧ q = .int .i64 x ∧ 0 ≤ x ∧ x ≤ k + 5 * j ∧ Hid (x = k + 5 * j)) (fun _ i => n - (intOf i).toNat)
  case atStart => exact ⟨0, k, Nat.zero_le _, rfl, rfl, h0, by omega, by simp [Hid]⟩
  case round =>
    obtain ⟨j, x, hj, rfl, rfl, hx0, hx1, HX⟩ := hrel
    by_cases hlt : j < n
    · obtain ⟨b, off, x0, x1, x2, x3, x4, rfl, hbB, hz, hc0, hc1, hc2, hc3, hc4⟩ := hr.at_ hlt
      rw [marksP_at k n j hlt, ← HX.out] at hz
      simp only [markP, Prod.mk.injEq] at hz
      obtain ⟨rfl, rfl, rfl, rfl, rfl⟩ := hz
      have e2 : x + 1 + 1 = x + 2 := by omega
      have e3 : x + 2 + 1 = x + 3 := by omega
      have e4 : x + 3 + 1 = x + 4 := by omega
      clear hr
      go_wp2
      go_round
      case rel => exact ⟨j + 1, x + 5, by omega, by go_num, by go_num, by omega, by omega, by have := HX.out; show _ = _; omega⟩
      case measure => simp [intOf]; omega
    · have HJ : Hid (j = n) := (by omega : j = n)
      go_wp2
      go_ret
      have hx := HX.out
      have hj' := HJ.out
      subst hj'
      exact ⟨ret_int hx, rfl⟩
end Go.Proofs.Ytklgjjmcflgjeaa.Pods
