import Derived.Deep.AppendLies
import Derived.Lib.Hide
import Derived.Test.YtklgjjmcflgjeaaGreatR00
import Derived.Test.YtklgjjmcflgjeaaGreatR30
import Derived.Test.YtklgjjmcflgjeaaGreatR31
set_option linter.unusedVariables false
set_option linter.unusedSimpArgs false
namespace Go.Proofs.YtklgjjmcflgjeaaGreat.Mks
open Go.ChangeShapes Go.WideShapes Go.ChangeAt Go.RowKit Go.Joins Go.Deep
open LK
abbrev X := Int × Int × Int × Int × Int × Int × Int × Int
abbrev L := List X
def z : X := (0, 0, 0, 0, 0, 0, 0, 0)
def cells (p : X) : List Value := [.int .i64 p.1, .int .i64 p.2.1, .int .i64 p.2.2.1, .int .i64 p.2.2.2.1, .int .i64 p.2.2.2.2.1, .int .i64 p.2.2.2.2.2.1, .int .i64 p.2.2.2.2.2.2.1, .int .i64 p.2.2.2.2.2.2.2]
def flat (ps : L) : List Value := ps.flatMap cells
theorem cells_len (p : X) : (cells p).length = 8 := rfl
theorem flat_cons (p : X) (ps : L) : flat (p :: ps) = cells p ++ flat ps := by simp [flat]
theorem flat_app (a b : L) : flat (a ++ b) = flat a ++ flat b := by simp [flat]
theorem flat_one (p : X) : flat [p] = cells p := by simp [flat]
theorem flat_at (ps : L) (j i : Nat) (h : j < ps.length) (hi : i < 8) : (flat ps)[j * 8 + i]? = (cells (ps.getD j z))[i]? := by
  induction ps generalizing j with
  | nil => simp at h
  | cons x l ih =>
    rw [flat_cons]
    cases j with
    | zero =>
      rw [List.getElem?_append_left (by rw [cells_len]; omega)]
      simp [List.getD]
    | succ j =>
      rw [List.getElem?_append_right (by rw [cells_len]; omega), cells_len]
      have e : (j + 1) * 8 + i - 8 = j * 8 + i := by omega
      rw [e, ih j (by simpa using h)]
      simp [List.getD]
def CellK (w : World) (b o : Nat) (p : X) : Prop :=
  w.cell? ⟨b, o, none⟩ = some (.int .i64 p.1) ∧ w.cell? ⟨b, o + 1, none⟩ = some (.int .i64 p.2.1) ∧ w.cell? ⟨b, o + 2, none⟩ = some (.int .i64 p.2.2.1) ∧ w.cell? ⟨b, o + 3, none⟩ = some (.int .i64 p.2.2.2.1) ∧ w.cell? ⟨b, o + 4, none⟩ = some (.int .i64 p.2.2.2.2.1) ∧ w.cell? ⟨b, o + 5, none⟩ = some (.int .i64 p.2.2.2.2.2.1) ∧ w.cell? ⟨b, o + 6, none⟩ = some (.int .i64 p.2.2.2.2.2.2.1) ∧ w.cell? ⟨b, o + 7, none⟩ = some (.int .i64 p.2.2.2.2.2.2.2)
def IsL (w : World) (B : Nat) (A : Option Addr) (n : Nat) (ps : L) : Prop :=
  ps.length = n ∧ (0 < n → ∃ b off, A = some ⟨b, off, none⟩ ∧ b < B ∧ ∀ j, j < n → CellK w b (off + j * 8) (ps.getD j z))
section
variable {w w' : World} {B C : Nat} {A : Option Addr} {n : Nat} {ps : L}
theorem IsL.keep (h : IsL w B A n ps) (hk : ∀ p : Addr, p.block < B → w'.cell? p = w.cell? p) : IsL w' B A n ps :=
  ⟨h.1, fun hn => by
    obtain ⟨b, off, e, hlt, hc⟩ := h.2 hn
    refine ⟨b, off, e, hlt, fun j hj => ?_⟩
    obtain ⟨h0, h1, h2, h3, h4, h5, h6, h7⟩ := hc j hj
    exact ⟨(hk ⟨b, _, none⟩ hlt).trans h0, (hk ⟨b, _, none⟩ hlt).trans h1, (hk ⟨b, _, none⟩ hlt).trans h2, (hk ⟨b, _, none⟩ hlt).trans h3, (hk ⟨b, _, none⟩ hlt).trans h4, (hk ⟨b, _, none⟩ hlt).trans h5, (hk ⟨b, _, none⟩ hlt).trans h6, (hk ⟨b, _, none⟩ hlt).trans h7⟩⟩
theorem IsL.below (h : IsL w B A n ps) (hb : Below C w w') (hC : B ≤ C) : IsL w' B A n ps := h.keep fun p hp => hb.cell (by omega)
theorem IsL.at_ {k : Nat} (h : IsL w B A n ps) (hk : k < n) : ∃ b off x0 x1 x2 x3 x4 x5 x6 x7, A = some ⟨b, off, none⟩ ∧ b < B ∧ ps.getD k z = (x0, x1, x2, x3, x4, x5, x6, x7) ∧
    w.cell? ⟨b, off + k * 8, none⟩ = some (.int .i64 x0) ∧ w.cell? ⟨b, off + k * 8 + 1, none⟩ = some (.int .i64 x1) ∧ w.cell? ⟨b, off + k * 8 + 2, none⟩ = some (.int .i64 x2) ∧ w.cell? ⟨b, off + k * 8 + 3, none⟩ = some (.int .i64 x3) ∧ w.cell? ⟨b, off + k * 8 + 4, none⟩ = some (.int .i64 x4) ∧ w.cell? ⟨b, off + k * 8 + 5, none⟩ = some (.int .i64 x5) ∧ w.cell? ⟨b, off + k * 8 + 6, none⟩ = some (.int .i64 x6) ∧ w.cell? ⟨b, off + k * 8 + 7, none⟩ = some (.int .i64 x7) := by
  obtain ⟨b, off, e, hlt, hc⟩ := h.2 (by omega)
  obtain ⟨h0, h1, h2, h3, h4, h5, h6, h7⟩ := hc k hk
  exact ⟨b, off, _, _, _, _, _, _, _, _, e, hlt, rfl, h0, h1, h2, h3, h4, h5, h6, h7⟩
end
def OwnL (w : World) (lo : Nat) (A : Option Addr) (n c : Nat) (ps : L) : Prop := ps.length = n ∧ w.ownsRow lo 97 8 (.slice A n c) n (flat ps)
section
variable {w w' : World} {lo B : Nat} {A : Option Addr} {n c : Nat} {ps : L}
theorem OwnL.lt (h : OwnL w lo A n c ps) (k : Nat) (hk : (Value.slice A n c).ownBlock = some k) : lo ≤ k ∧ k < w.heap.size := h.2.lt k hk
theorem OwnL.base {lo' : Nat} (h : OwnL w lo A n c ps) (hb : ∀ k, (Value.slice A n c).ownBlock = some k → lo' ≤ k) : OwnL w lo' A n c ps := by
  refine ⟨h.1, h.2.1, ?_⟩
  rcases h.2.2 with h0 | ⟨g, cap, cur, h3, h4, h5⟩
  · exact .inl h0
  · exact .inr ⟨g, cap, cur, h3, hb g (by rw [h3]; rfl), h5⟩
theorem OwnL.zero (h : OwnL w lo A n c ps) : OwnL w 0 A n c ps := h.base fun _ _ => Nat.zero_le _
theorem OwnL.same (h : OwnL w lo A n c ps) (hs : ∀ k, (Value.slice A n c).ownBlock = some k → w'.heap[k]? = w.heap[k]?) : OwnL w' lo A n c ps := by
  refine ⟨h.1, h.2.1, ?_⟩
  rcases h.2.2 with h0 | ⟨g, cap, cur, h3, h4, h5, h6⟩
  · exact .inl h0
  · refine .inr ⟨g, cap, cur, h3, h4, ?_, h6⟩
    rw [hs g (by rw [h3]; rfl)]; exact h5
theorem OwnL.below (h : OwnL w lo A n c ps) (hb : Below w.heap.size w w') : OwnL w' lo A n c ps := h.same fun k hk => hb.block k (h.lt k hk).2
theorem OwnL.reads (h : OwnL w lo A n c ps) (hs : ∀ k, (Value.slice A n c).ownBlock = some k → k < B) : IsL w B A n ps := by
  refine ⟨h.1, fun hn => ?_⟩
  obtain ⟨g, cap, hv, _, hlt⟩ := h.2.form hn
  have hA : A = some ⟨g, 0, none⟩ := by injection hv
  subst hA
  refine ⟨g, 0, rfl, hs g rfl, fun j hj => ?_⟩
  have hl := h.1
  have hf := fun i hi => flat_at ps j i (by omega) hi
  refine ⟨?_, ?_, ?_, ?_, ?_, ?_, ?_, ?_⟩
  · rw [Nat.zero_add, h.2.cellAt (j * 8) (by omega)]; exact hf 0 (by omega)
  · rw [Nat.zero_add, h.2.cellAt (j * 8 + 1) (by omega)]; exact hf 1 (by omega)
  · rw [Nat.zero_add, h.2.cellAt (j * 8 + 2) (by omega)]; exact hf 2 (by omega)
  · rw [Nat.zero_add, h.2.cellAt (j * 8 + 3) (by omega)]; exact hf 3 (by omega)
  · rw [Nat.zero_add, h.2.cellAt (j * 8 + 4) (by omega)]; exact hf 4 (by omega)
  · rw [Nat.zero_add, h.2.cellAt (j * 8 + 5) (by omega)]; exact hf 5 (by omega)
  · rw [Nat.zero_add, h.2.cellAt (j * 8 + 6) (by omega)]; exact hf 6 (by omega)
  · rw [Nat.zero_add, h.2.cellAt (j * 8 + 7) (by omega)]; exact hf 7 (by omega)
theorem OwnL.nil (w : World) (lo : Nat) : OwnL w lo none 0 0 [] := ⟨rfl, World.ownsRow_nil _ _ _ _⟩
theorem OwnL.at0 (h : OwnL w lo A n c ps) (hn : 0 < n) : ∃ g, A = some ⟨g, 0, none⟩ ∧ lo ≤ g ∧ g < w.heap.size := by
  obtain ⟨g, cap, hv, hb, hlt⟩ := h.2.form hn
  exact ⟨g, by injection hv, hb, hlt⟩
end
theorem own_app {w' : World} {base n : Nat} {v' : Value} {ps : L} {p : X} (hl : ps.length = n) (h : w'.ownsRow base 97 8 v' (n + 1) (flat ps ++ cells p)) : ∃ A c, v' = .slice A (n + 1) c ∧ OwnL w' base A (n + 1) c (ps ++ [p]) := by
  obtain ⟨g, cap, rfl, _⟩ := h.form (by omega)
  exact ⟨_, _, rfl, by simp [hl], by rw [flat_app, flat_one]; exact h⟩
def setK (w : World) (g o : Nat) (p : X) : World := ((((((((w.setCell ⟨g, o, none⟩ (.int .i64 p.1)).setCell ⟨g, o + 1, none⟩ (.int .i64 p.2.1)).setCell ⟨g, o + 2, none⟩ (.int .i64 p.2.2.1)).setCell ⟨g, o + 3, none⟩ (.int .i64 p.2.2.2.1)).setCell ⟨g, o + 4, none⟩ (.int .i64 p.2.2.2.2.1)).setCell ⟨g, o + 5, none⟩ (.int .i64 p.2.2.2.2.2.1)).setCell ⟨g, o + 6, none⟩ (.int .i64 p.2.2.2.2.2.2.1)).setCell ⟨g, o + 7, none⟩ (.int .i64 p.2.2.2.2.2.2.2))
theorem flat_set (ps : L) (j : Nat) (p : X) : (((((((((flat ps).set (j * 8) (.int .i64 p.1)).set (j * 8 + 1) (.int .i64 p.2.1)).set (j * 8 + 2) (.int .i64 p.2.2.1)).set (j * 8 + 3) (.int .i64 p.2.2.2.1)).set (j * 8 + 4) (.int .i64 p.2.2.2.2.1)).set (j * 8 + 5) (.int .i64 p.2.2.2.2.2.1)).set (j * 8 + 6) (.int .i64 p.2.2.2.2.2.2.1)).set (j * 8 + 7) (.int .i64 p.2.2.2.2.2.2.2)) = flat (ps.set j p) := by
  induction ps generalizing j with
  | nil => simp [flat]
  | cons a l ih =>
    cases j with
    | zero => simp [flat_cons, cells]
    | succ j =>
      have e0 : (j + 1) * 8 = j * 8 + 1 + 1 + 1 + 1 + 1 + 1 + 1 + 1 := by omega
      have e1 : (j + 1) * 8 + 1 = j * 8 + 1 + 1 + 1 + 1 + 1 + 1 + 1 + 1 + 1 := by omega
      have e2 : (j + 1) * 8 + 2 = j * 8 + 2 + 1 + 1 + 1 + 1 + 1 + 1 + 1 + 1 := by omega
      have e3 : (j + 1) * 8 + 3 = j * 8 + 3 + 1 + 1 + 1 + 1 + 1 + 1 + 1 + 1 := by omega
      have e4 : (j + 1) * 8 + 4 = j * 8 + 4 + 1 + 1 + 1 + 1 + 1 + 1 + 1 + 1 := by omega
      have e5 : (j + 1) * 8 + 5 = j * 8 + 5 + 1 + 1 + 1 + 1 + 1 + 1 + 1 + 1 := by omega
      have e6 : (j + 1) * 8 + 6 = j * 8 + 6 + 1 + 1 + 1 + 1 + 1 + 1 + 1 + 1 := by omega
      have e7 : (j + 1) * 8 + 7 = j * 8 + 7 + 1 + 1 + 1 + 1 + 1 + 1 + 1 + 1 := by omega
      rw [e1, e2, e3, e4, e5, e6, e7, e0, List.set_cons_succ, flat_cons, flat_cons, ← ih j]
      simp only [cells, List.cons_append, List.nil_append, List.set_cons_succ]
theorem own_cells {w : World} {base : Nat} {g n cap k : Nat} {ps : L} (h : OwnL w base (some ⟨g, 0, none⟩) n cap ps) (hk : k < n) :
    (∃ u, w.cell? ⟨g, k * 8, none⟩ = some u) ∧ (∃ u, w.cell? ⟨g, k * 8 + 1, none⟩ = some u) ∧ (∃ u, w.cell? ⟨g, k * 8 + 2, none⟩ = some u) ∧ (∃ u, w.cell? ⟨g, k * 8 + 3, none⟩ = some u) ∧ (∃ u, w.cell? ⟨g, k * 8 + 4, none⟩ = some u) ∧ (∃ u, w.cell? ⟨g, k * 8 + 5, none⟩ = some u) ∧ (∃ u, w.cell? ⟨g, k * 8 + 6, none⟩ = some u) ∧ (∃ u, w.cell? ⟨g, k * 8 + 7, none⟩ = some u) ∧
    (∀ i, w.frozen? ⟨g, i, none⟩ = false) ∧ ∀ p, OwnL (setK w g (k * 8) p) base (some ⟨g, 0, none⟩) n cap (ps.set k p) := by
  have hl := h.2.1
  refine ⟨⟨_, (h.2.cellAt (k * 8) (by omega)).trans (List.getElem?_eq_getElem (by omega))⟩, ⟨_, (h.2.cellAt (k * 8 + 1) (by omega)).trans (List.getElem?_eq_getElem (by omega))⟩, ⟨_, (h.2.cellAt (k * 8 + 2) (by omega)).trans (List.getElem?_eq_getElem (by omega))⟩, ⟨_, (h.2.cellAt (k * 8 + 3) (by omega)).trans (List.getElem?_eq_getElem (by omega))⟩, ⟨_, (h.2.cellAt (k * 8 + 4) (by omega)).trans (List.getElem?_eq_getElem (by omega))⟩, ⟨_, (h.2.cellAt (k * 8 + 5) (by omega)).trans (List.getElem?_eq_getElem (by omega))⟩, ⟨_, (h.2.cellAt (k * 8 + 6) (by omega)).trans (List.getElem?_eq_getElem (by omega))⟩, ⟨_, (h.2.cellAt (k * 8 + 7) (by omega)).trans (List.getElem?_eq_getElem (by omega))⟩, fun i => h.2.frozenAt _, fun p => ⟨by simpa using h.1, ?_⟩⟩
  rw [← flat_set]
  exact ((((((((h.2.stored (k * 8) (.int .i64 p.1)).1.stored (k * 8 + 1) (.int .i64 p.2.1)).1.stored (k * 8 + 2) (.int .i64 p.2.2.1)).1.stored (k * 8 + 3) (.int .i64 p.2.2.2.1)).1.stored (k * 8 + 4) (.int .i64 p.2.2.2.2.1)).1.stored (k * 8 + 5) (.int .i64 p.2.2.2.2.2.1)).1.stored (k * 8 + 6) (.int .i64 p.2.2.2.2.2.2.1)).1.stored (k * 8 + 7) (.int .i64 p.2.2.2.2.2.2.2)).1
theorem setK_grown {w : World} (g o : Nat) (p : X) {a : World} (h : a.grownBy w (some g)) : a.grownBy (setK w g o p) (some g) := by
  have one : ∀ {w : World} (i : Nat) (u : Value), a.grownBy w (some g) → a.grownBy (w.setCell ⟨g, i, none⟩ u) (some g) := fun i u h =>
    ⟨h.os, h.tape, h.output, by simpa [World.setCell] using h.size, fun q hq hne => (Below.heap_setCell _ _ _ _ (fun e => hne (by rw [e]))).trans (h.block q hq hne)⟩
  exact one _ _ (one _ _ (one _ _ (one _ _ (one _ _ (one _ _ (one _ _ (one _ _ h)))))))
def part (ps : L) (k : Nat) : L := ps.take k ++ List.replicate (ps.length - k) z
theorem infoX : (Tryz.prog.info? 97).map (fun i => (i.zero, i.size, i.bytes)) = some (some (.agg #[.int .i64 0, .int .i64 0, .int .i64 0, .int .i64 0, .int .i64 0, .int .i64 0, .int .i64 0, .int .i64 0]), 8, 64) := by kernel_rfl
theorem ret_int {k : IntKind} {a b : Int} (h : a = b) : Ending.returned (.int k a) = .returned (.int k b) := by rw [h]
set_option maxHeartbeats 1600000 in
theorem eq_same (x0 x1 x2 x3 x4 x5 x6 x7 : Int) (w : World) :
    Calls Tryz.prog 61 #[.agg #[.int .i64 x0, .int .i64 x1, .int .i64 x2, .int .i64 x3, .int .i64 x4, .int .i64 x5, .int .i64 x6, .int .i64 x7], .agg #[.int .i64 x0, .int .i64 x1, .int .i64 x2, .int .i64 x3, .int .i64 x4, .int .i64 x5, .int .i64 x6, .int .i64 x7]] w (Says (.bool true) w) := by
  go_enter Tryz.func61, Tryz.ntmps61
  go_wp2
  go_ret
  exact ⟨rfl, bel2 _ _ _⟩
set_option maxRecDepth 100000 in
set_option maxHeartbeats 3200000 in
theorem eqS_same (A C : Option Addr) (n cap cap' : Nat) (ps : L) (B B' : Nat) (w : World) (hr : IsL w B A n ps) (hs : IsL w B' C n ps) (hB : B ≤ w.heap.size) (hB' : B' ≤ w.heap.size) (hn : n ≤ 1048576) :
    Calls Tryz.prog 18 #[.slice A n cap, .slice C n cap'] w (Says (.bool true) w) := by
  go_enter Tryz.func18, Tryz.ntmps18
  go_wp2_with fail
  go_loopw [5] (fun i wr => ∃ k : Nat, k ≤ n ∧ i = .int .i64 k ∧ Below w.heap.size w wr) (fun i _ => n - (RowKit.intOf i).toNat)
  case atStart => exact ⟨0, Nat.zero_le _, rfl, Below.refl _ _⟩
  case round =>
    obtain ⟨k, hk, rfl, hbr⟩ := hrel
    by_cases hlt : k < n
    · obtain ⟨b, off, x0, x1, x2, x3, x4, x5, x6, x7, rfl, hbB, hz, hc0, hc1, hc2, hc3, hc4, hc5, hc6, hc7⟩ := (hr.below hbr hB).at_ hlt
      obtain ⟨b', off', y0, y1, y2, y3, y4, y5, y6, y7, rfl, hbB', hz', hd0, hd1, hd2, hd3, hd4, hd5, hd6, hd7⟩ := (hs.below hbr hB').at_ hlt
      have he : (x0, x1, x2, x3, x4, x5, x6, x7) = (y0, y1, y2, y3, y4, y5, y6, y7) := hz.symm.trans hz'
      simp only [Prod.mk.injEq] at he
      obtain ⟨rfl, rfl, rfl, rfl, rfl, rfl, rfl, rfl⟩ := he
      clear hz hz' hr hs
      go_wp2_with fail
      go_region_held3 (fun w' => w'.cell? ⟨b, off + k * 8, none⟩ = some (.int .i64 x0) ∧ w'.cell? ⟨b, off + k * 8 + 1, none⟩ = some (.int .i64 x1) ∧ w'.cell? ⟨b, off + k * 8 + 2, none⟩ = some (.int .i64 x2) ∧ w'.cell? ⟨b, off + k * 8 + 3, none⟩ = some (.int .i64 x3) ∧ w'.cell? ⟨b, off + k * 8 + 4, none⟩ = some (.int .i64 x4) ∧ w'.cell? ⟨b, off + k * 8 + 5, none⟩ = some (.int .i64 x5) ∧ w'.cell? ⟨b, off + k * 8 + 6, none⟩ = some (.int .i64 x6) ∧ w'.cell? ⟨b, off + k * 8 + 7, none⟩ = some (.int .i64 x7) ∧ w'.cell? ⟨b', off' + k * 8, none⟩ = some (.int .i64 x0) ∧ w'.cell? ⟨b', off' + k * 8 + 1, none⟩ = some (.int .i64 x1) ∧ w'.cell? ⟨b', off' + k * 8 + 2, none⟩ = some (.int .i64 x2) ∧ w'.cell? ⟨b', off' + k * 8 + 3, none⟩ = some (.int .i64 x3) ∧ w'.cell? ⟨b', off' + k * 8 + 4, none⟩ = some (.int .i64 x4) ∧ w'.cell? ⟨b', off' + k * 8 + 5, none⟩ = some (.int .i64 x5) ∧ w'.cell? ⟨b', off' + k * 8 + 6, none⟩ = some (.int .i64 x6) ∧ w'.cell? ⟨b', off' + k * 8 + 7, none⟩ = some (.int .i64 x7)) (first | go_keep | (refine ⟨cell_keep hb2 ?_, cell_keep hb2 ?_, cell_keep hb2 ?_, cell_keep hb2 ?_, cell_keep hb2 ?_, cell_keep hb2 ?_, cell_keep hb2 ?_, cell_keep hb2 ?_, cell_keep hb2 ?_, cell_keep hb2 ?_, cell_keep hb2 ?_, cell_keep hb2 ?_, cell_keep hb2 ?_, cell_keep hb2 ?_, cell_keep hb2 ?_, cell_keep hb2 ?_⟩ <;> simp only [*]))
        (first | (go_at_call 61; refine (eq_same _ _ _ _ _ _ _ _ _).mono ?_; rintro e w2 ⟨rfl, hb2⟩))
      have hbr2 : Below w.heap.size w w2 := hbr.drew.trans (hb2.mono hbr.size)
      go_wp2
      go_roundw
      case rel => exact ⟨k + 1, by omega, by go_num, hbr2⟩
      case measure => simp [RowKit.intOf]; omega
    · go_wp2
      go_ret
      exact ⟨rfl, hbr⟩
def markX (x : Int) : X := (x, x + 1, x + 2, x + 3, x + 4, x + 5, x + 6, x + 7)
def marks (k : Int) (n : Nat) : L := (List.range n).map fun (i : Nat) => markX (k + 8 * (i : Int))
theorem marks_len (k : Int) (n : Nat) : (marks k n).length = n := by simp [marks]
theorem marks_at (k : Int) (n j : Nat) (h : j < n) : (marks k n).getD j z = markX (k + 8 * j) := by simp [marks, List.getD, h]
def partM (ps : L) (k : Int) (j : Nat) : L := marks k j ++ ps.drop j
theorem marks_succ (k : Int) (j : Nat) : marks k (j + 1) = marks k j ++ [markX (k + 8 * j)] := by simp [marks, List.range_succ]
theorem partM_set (ps : L) (k : Int) (j : Nat) (h : j < ps.length) : (partM ps k j).set j (markX (k + 8 * j)) = partM ps k (j + 1) := by
  unfold partM
  rw [List.set_append_right _ _ (by simp [marks_len])]
  have e : j - (marks k j).length = 0 := by simp [marks_len]
  rw [e, List.drop_eq_getElem_cons h, List.set_cons_zero, marks_succ, List.append_assoc]
  rfl
theorem partM_zero (ps : L) (k : Int) : partM ps k 0 = ps := by simp [partM, marks]
theorem partM_all (ps : L) (k : Int) : partM ps k ps.length = marks k ps.length := by simp [partM]
set_option maxRecDepth 100000 in
set_option maxHeartbeats 6400000 in
theorem markS_any (A : Option Addr) (n c : Nat) (ps : L) (lo : Nat) (k : Int) (w : World) (hO : OwnL w lo A n c ps) (hn : n ≤ 1048576) (h0 : 0 ≤ k) (h1 : k ≤ 300000000) :
    Calls Tryz.prog 21 #[.slice A n c, .int .i64 k] w fun e w' => e = .returned (.int .i64 (k + 8 * n)) ∧ OwnL w' lo A n c (marks k n) ∧ w.grownBy w' (Value.slice A n c).ownBlock := by
  have HLen : Hid (ps.length = n) := hO.1
  by_cases hp : n = 0
  · have HE : Hid (n = 0) := hp
    have HO := Lib.hid hO
    have hz : ¬ (0 : Nat) < n := by omega
    clear hp hO
    go_enter Tryz.func21, Tryz.ntmps21
    go_wp2_with fail
    go_loop [1, 5] (fun q i => q = .int .i64 k ∧ i = .int .i64 (0 : Int)) (fun _ _ => 0)
    case atStart => exact ⟨rfl, rfl⟩
    case round =>
      obtain ⟨rfl, rfl⟩ := hrel
      go_wp2
      go_ret
      have hn0 := HE.out
      subst hn0
      have hts : ps = [] := List.eq_nil_of_length_eq_zero HLen.out
      refine ⟨ret_int (by omega), ?_, World.grownBy.refl _ _⟩
      have h5 := HO.out
      rw [hts] at h5
      exact h5
  · obtain ⟨g, rfl, hg0, hg⟩ := hO.at0 (by omega)
    have hgr : w.grownBy w (some g) := ⟨rfl, rfl, rfl, Nat.le_refl _, fun _ _ _ => rfl⟩
    have hO0 : OwnL w lo (some ⟨g, 0, none⟩) n c (partM ps k 0) := by rw [partM_zero]; exact hO
    have HP := Lib.hid hp
    clear hO hp
    go_enter Tryz.func21, Tryz.ntmps21
    go_wp2_with fail
    go_loopw [1, 5] (fun q i wr => ∃ (j : Nat) (x : Int), j ≤ n ∧ i = .int .i64 j ∧ q = .int .i64 x ∧ 0 ≤ x ∧ x ≤ k + 8 * j ∧ Hid (x = k + 8 * j) ∧ Hid (OwnL wr lo (some ⟨g, 0, none⟩) n c (partM ps k j)) ∧ Hid (w.grownBy wr (some g))) (fun _ i _ => n - (RowKit.intOf i).toNat)
    case atStart => exact ⟨0, k, Nat.zero_le _, rfl, rfl, h0, by omega, by simp [Hid], hO0, hgr⟩
    case round =>
      obtain ⟨j, x, hj, rfl, rfl, hx0, hx1, HX, HO, HG⟩ := hrel
      by_cases hlt : j < n
      · obtain ⟨⟨u0, hu0⟩, ⟨u1, hu1⟩, ⟨u2, hu2⟩, ⟨u3, hu3⟩, ⟨u4, hu4⟩, ⟨u5, hu5⟩, ⟨u6, hu6⟩, ⟨u7, hu7⟩, hf, hst⟩ := own_cells HO.out hlt
        have hf0 := hf (j * 8)
        have hf1 := hf (j * 8 + 1)
        have hf2 := hf (j * 8 + 2)
        have hf3 := hf (j * 8 + 3)
        have hf4 := hf (j * 8 + 4)
        have hf5 := hf (j * 8 + 5)
        have hf6 := hf (j * 8 + 6)
        have hf7 := hf (j * 8 + 7)
        have HST := Lib.hid hst
        clear hst hf
        go_wp2
        go_roundw
        case rel =>
          refine ⟨j + 1, x + 1 + 1 + 1 + 1 + 1 + 1 + 1 + 1, by omega, by go_num, rfl, by omega, by omega, by have := HX.out; show _ = _; omega, ?_, ?_⟩
          · have h2 := HST.out (x, x + 1, x + 1 + 1, x + 1 + 1 + 1, x + 1 + 1 + 1 + 1, x + 1 + 1 + 1 + 1 + 1, x + 1 + 1 + 1 + 1 + 1 + 1, x + 1 + 1 + 1 + 1 + 1 + 1 + 1)
            have hm : (x, x + 1, x + 1 + 1, x + 1 + 1 + 1, x + 1 + 1 + 1 + 1, x + 1 + 1 + 1 + 1 + 1, x + 1 + 1 + 1 + 1 + 1 + 1, x + 1 + 1 + 1 + 1 + 1 + 1 + 1) = markX (k + 8 * j) := by rw [← HX.out]; simp [markX]; omega
            have h3 := partM_set ps k j (by rw [HLen.out]; exact hlt)
            rw [← hm] at h3
            rw [h3] at h2
            exact h2
          · exact setK_grown g (j * 8) (x, x + 1, x + 1 + 1, x + 1 + 1 + 1, x + 1 + 1 + 1 + 1, x + 1 + 1 + 1 + 1 + 1, x + 1 + 1 + 1 + 1 + 1 + 1, x + 1 + 1 + 1 + 1 + 1 + 1 + 1) HG.out
        case measure => simp [RowKit.intOf]; omega
      · have HJ : Hid (j = n) := (by omega : j = n)
        go_wp2
        go_ret
        have hx := HX.out
        have hj' := HJ.out
        subst hj'
        refine ⟨ret_int hx, ?_, HG.out⟩
        have h2 := HO.out
        rw [← HLen.out, partM_all] at h2
        rw [← HLen.out]
        exact h2
set_option maxRecDepth 100000 in
set_option maxHeartbeats 6400000 in
theorem heldS_any (A : Option Addr) (n c : Nat) (k : Int) (B : Nat) (w : World) (hr : IsL w B A n (marks k n)) (hn : n ≤ 1048576) (h0 : 0 ≤ k) (h1 : k ≤ 300000000) :
    Calls Tryz.prog 22 #[.slice A n c, .int .i64 k] w fun e w' => e = .returned (.int .i64 (k + 8 * n)) ∧ w' = w := by
  go_enter Tryz.func22, Tryz.ntmps22
  go_wp2_with fail
  go_loop [1, 5] (fun q i => ∃ (j : Nat) (x : Int), j ≤ n ∧ i = .int .i64 j ∧ q = .int .i64 x ∧ 0 ≤ x ∧ x ≤ k + 8 * j ∧ Hid (x = k + 8 * j)) (fun _ i => n - (RowKit.intOf i).toNat)
  case atStart => exact ⟨0, k, Nat.zero_le _, rfl, rfl, h0, by omega, by simp [Hid]⟩
  case round =>
    obtain ⟨j, x, hj, rfl, rfl, hx0, hx1, HX⟩ := hrel
    by_cases hlt : j < n
    · obtain ⟨b, off, x0, x1, x2, x3, x4, x5, x6, x7, rfl, hbB, hz, hc0, hc1, hc2, hc3, hc4, hc5, hc6, hc7⟩ := hr.at_ hlt
      rw [marks_at k n j hlt, ← HX.out] at hz
      simp only [markX, Prod.mk.injEq] at hz
      obtain ⟨rfl, rfl, rfl, rfl, rfl, rfl, rfl, rfl⟩ := hz
      have e2 : x + 1 + 1 = x + 2 := by omega
      have e3 : x + 2 + 1 = x + 3 := by omega
      have e4 : x + 3 + 1 = x + 4 := by omega
      have e5 : x + 4 + 1 = x + 5 := by omega
      have e6 : x + 5 + 1 = x + 6 := by omega
      have e7 : x + 6 + 1 = x + 7 := by omega
      clear hr
      go_wp2
      go_round
      case rel => exact ⟨j + 1, x + 8, by omega, by go_num, by go_num, by omega, by omega, by have := HX.out; show _ = _; omega⟩
      case measure => simp [RowKit.intOf]; omega
    · have HJ : Hid (j = n) := (by omega : j = n)
      go_wp2
      go_ret
      have hx := HX.out
      have hj' := HJ.out
      subst hj'
      exact ⟨ret_int hx, rfl⟩
def LRd (w : World) (B : Nat) (v : Value) (d : L) : Prop := ∃ A c, v = .slice A d.length c ∧ IsL w B A d.length d
def LOwn (w : World) (S : Nat → Prop) (v : Value) (d : L) : Prop := ∃ A c, v = .slice A d.length c ∧ OwnL w 0 A d.length c d ∧ (∀ k, (Value.slice A d.length c).ownBlock = some k → S k)
def lty : Ty where
  D := L
  Rd := LRd
  Own := LOwn
  Few := fun d => d.length ≤ 1048576
  cnt := fun d => 8 * d.length
  mark := fun k d => marks k d.length
  rd_below := by
    rintro w w' B C v d ⟨A, c, rfl, h1⟩ hb hC
    exact ⟨A, c, rfl, h1.below hb hC⟩
  own_rd := by
    rintro w S v d B ⟨A, c, rfl, h1, s1⟩ hB
    exact ⟨A, c, rfl, h1.reads (fun k hk => hB k (s1 k hk))⟩
  own_same := by
    rintro w w' S v d ⟨A, c, rfl, h1, s1⟩ hs
    exact ⟨A, c, rfl, h1.same (fun k hk => hs k (s1 k hk)), s1⟩
  few_cnt := by intro d h; omega
theorem eqMarkS_any : EqC 18 lty := by
  intro w B B' v v' (zs : L)
  rintro ⟨A, c, rfl, h1⟩ ⟨C, e, rfl, h2⟩ hB hB' hf
  exact eqS_same A C zs.length c e zs B B' w h1 h2 hB hB' hf
theorem markMarkS_any : MarkC 21 lty := by
  intro w lo hi S v (zs : L) k
  rintro ⟨⟨A, c, rfl, h1, s1⟩, hin, hhi⟩ hf hk0 hk1
  refine (markS_any A zs.length c zs 0 k w h1 hf hk0 (by omega)).mono ?_
  rintro e w' ⟨rfl, h2, hg⟩
  have hl : (marks k zs.length).length = zs.length := marks_len _ _
  have hT : Turned S w w' := Turned.of_grown hg s1
  refine ⟨?_, ⟨⟨A, c, ?_, ?_, ?_⟩, hin, Nat.le_trans hhi hT.size⟩, hT⟩
  · show Ending.returned (.int .i64 (k + 8 * (zs.length : Int))) = Ending.returned (.int .i64 (k + ((8 * zs.length : Nat) : Int)))
    congr 2
  · show _ = Value.slice A (marks k zs.length).length c
    rw [hl]
  · show OwnL w' 0 A (marks k zs.length).length c (marks k zs.length)
    rw [hl]; exact h2
  · show ∀ q, (Value.slice A (marks k zs.length).length c).ownBlock = some q → S q
    rw [hl]; exact s1
theorem heldMarkS_any : HeldC 22 lty := by
  intro w B v (zs : L) k
  rintro ⟨A, c, rfl, h1⟩ hB hf hk0 hk1
  have h1 : IsL w B A (marks k zs.length).length (marks k zs.length) := h1
  show Calls Tryz.prog 22 #[.slice A (marks k zs.length).length c, .int .i64 k] w (Says (.int .i64 (k + ((8 * zs.length : Nat) : Int))) w)
  rw [marks_len] at h1 ⊢
  refine (heldS_any A zs.length c k B w h1 hf hk0 (by omega)).mono ?_
  rintro e w' ⟨rfl, rfl⟩
  refine ⟨?_, Below.refl _ _⟩
  show Ending.returned (.int .i64 (k + 8 * (zs.length : Int))) = _
  congr 2
end Go.Proofs.YtklgjjmcflgjeaaGreat.Mks
namespace Go.Proofs.YtklgjjmcflgjeaaGreat.LawTrailOf
open Go.ChangeShapes Go.WideShapes Go.ChangeAt Go.RowKit
open LK EngV Seg
set_option maxRecDepth 100000 in
set_option maxHeartbeats 12800000 in
theorem walk (s : Spc) (rev : Int) (a2 : Value) (d2 : Ops.L) (D0 : Mks.L) (b : Bool) (w : World) (hr : Ops.lty.Rd w w.heap.size a2 d2) (hz : SzC 13 Ops.lty a2 d2 w) (hD : Mks.lty.Few D0)
    (hS : ∀ (W : World) (v : Value), Ops.lty.Rd W W.heap.size v d2 → Ops.lty.Few d2 → Calls Tryz.prog 14 #[.agg (spL s).toArray, .int .i64 rev, v] W (Made1 Mks.lty D0 (.bool b) W)) (hI : ∀ (W : World) (v : Value), Ops.lty.Rd W W.heap.size v d2 → Ops.lty.Few d2 → Calls Tryz.prog 17 #[.agg (spL s).toArray, .int .i64 rev, v] W (Made1 Mks.lty D0 (.bool b) W)) :
    Calls Tryz.prog 4 #[.agg (spL s).toArray, .int .i64 rev, a2] w fun e w' => e = .returned (.bool true) ∧ Below w.heap.size w w' := by
  have HS := Lib.hid hS
  have HI := Lib.hid hI
  have HD := Lib.hid hD
  have HR := Lib.hid hr
  have HZ := Lib.hid hz
  clear hS hI hD hr hz
  have hbb : (b != b) = false := by simp
  obtain ⟨V, hV⟩ : ∃ V, V = w.alloc (.cells (spL s).toArray 42) := ⟨_, rfl⟩
  have HB0 : Hid (Below w.heap.size w V) := by rw [hV]; exact bel1 _ _
  have KS0 : Hid (V.heap[w.heap.size]? = some (.cells (spL s).toArray 42 (0, 0))) := by rw [hV]; exact box_new w _
  have HL0 : Hid (w.heap.size < V.heap.size) := box_lt KS0.out
  go_enter Tryz.func4, Tryz.ntmps4
  go_upto_region 1 with fail
  rw [← hV]
  clear hV
  go_wp2_with fail
  refine (HZ.out _ 1048576 HB0.out (by omega) (by omega)).mono ?_
  rintro e w1 ⟨z, rfl, hb, hz⟩
  have KS1 := Lib.hid (box_below KS0.out hb)
  have HL1 := Lib.hid (Nat.lt_of_lt_of_le HL0.out hb.size)
  have HB1 := Lib.hid (bel_then HB0.out hb HB0.out.size)
  clear KS0 HL0 HB0 hb
  rcases hz with rfl | ⟨hz1, hz2, hf⟩
  · go_wp2
    go_ret
    exact ⟨rfl, HB1.out⟩
  have HF := Lib.hid hf
  have hzd : decide (z < 0) = false := by simp; omega
  clear hf
  go_wp2_with (refine wpList_get rfl 42 _ rfl w.heap.size 0 rfl KS1.out (spL s) List.take_length Tryz.underlying42 rfl (by kernel_rfl) ?_)
  refine (Sp.toSpec_any s.x0 s.x1 s.x2 s.x3 s.x4 s.x5 s.x6 s.x7 s.x8 s.x9 s.x10 _).mono ?_
  rintro e w2 ⟨rfl, hb⟩
  have KS2 := Lib.hid (box_below KS1.out hb)
  have HL2 := Lib.hid (Nat.lt_of_lt_of_le HL1.out hb.size)
  have HB2 := Lib.hid (bel_then HB1.out hb HB1.out.size)
  clear KS1 HL1 HB1 hb
  go_wp2_with fail
  refine (Ops.toOpS_any _ w.heap.size _ d2 (Ops.lty.rd_below HR.out HB2.out (Nat.le_refl _)) HB2.out.size HF.out).mono ?_
  rintro e w3 ⟨vO, SO, rfl, hO, hb⟩
  have h8 := hb.size
  clear h8
  have KS3 := Lib.hid (box_below KS2.out hb)
  have HL3 := Lib.hid (Nat.lt_of_lt_of_le HL2.out hb.size)
  have HB3 := Lib.hid (bel_then HB2.out hb HB2.out.size)
  clear KS2 HL2 HB2 hb
  have HO3 := Lib.hid hO
  clear hO
  go_wp2_with fail
  have HLW := HL3
  refine (HS.out _ _ (Ops.lty.rd_below HO3.out.rd (Below.refl _ _) (Nat.le_refl _)) HF.out).mono ?_
  rintro e w4 ⟨W0, SW0, rfl, hO, hb⟩
  have h8 := hb.size
  have INW : Hid ((∀ k, SW0 k → w3.heap.size ≤ k ∧ k < w4.heap.size) ∧ w3.heap.size ≤ w4.heap.size) := ⟨fun k hk => hO.inn k hk, h8⟩
  clear h8
  have KS4 := Lib.hid (box_below KS3.out hb)
  have HO4 := Lib.hid (HO3.out.below hb)
  have HL4 := Lib.hid (Nat.lt_of_lt_of_le HL3.out hb.size)
  have HB4 := Lib.hid (bel_then HB3.out hb HB3.out.size)
  clear KS3 HO3 HL3 HB3 hb
  have HW0_4 := Lib.hid hO
  clear hO
  clear HO4
  have hlW : Hid (w.heap.size < w4.heap.size) := HL4.out
  clear HL4
  have HL4 : Hid (w4.heap.size - 1 < w4.heap.size) := by show _ < _; have := hlW.out; omega
  have HQ0 := Lib.hid (Nat.le_refl w4.heap.size)
  go_wp2_with fail
  refine (Ops.toOpS_any _ w.heap.size _ d2 (Ops.lty.rd_below HR.out HB4.out (Nat.le_refl _)) HB4.out.size HF.out).mono ?_
  rintro e w5 ⟨vX, SX, rfl, hO, hb⟩
  have h8 := hb.size
  have INX : Hid ((∀ k, SX k → w4.heap.size ≤ k ∧ k < w5.heap.size) ∧ w4.heap.size ≤ w5.heap.size) := ⟨fun k hk => hO.inn k hk, h8⟩
  clear h8
  have KS5 := Lib.hid (box_below KS4.out hb)
  have HW0_5 := Lib.hid (HW0_4.out.below hb)
  have HL5 := Lib.hid (Nat.lt_of_lt_of_le HL4.out hb.size)
  have HB5 := Lib.hid (bel_then HB4.out hb HB4.out.size)
  clear KS4 HW0_4 HL4 HB4 hb
  have HX5 := Lib.hid hO
  clear hO
  have HWX : Hid (w4.heap.size - 1 < w5.heap.size) := HL5.out
  clear HL5
  have HL5 : Hid (w5.heap.size - 1 < w5.heap.size) := by show _ < _; have := HWX.out; have := hlW.out; have := HB5.out.size; have := box_lt KS5.out; omega
  go_wp2_with (refine wpList_get rfl 42 _ rfl w.heap.size 0 rfl KS5.out (spL s) List.take_length Tryz.underlying42 rfl (by kernel_rfl) ?_)
  refine (Sp.toSpec_any s.x0 s.x1 s.x2 s.x3 s.x4 s.x5 s.x6 s.x7 s.x8 s.x9 s.x10 _).mono ?_
  rintro e w6 ⟨rfl, hb⟩
  have KS6 := Lib.hid (box_below KS5.out hb)
  have HW0_6 := Lib.hid (HW0_5.out.below hb)
  have HX6 := Lib.hid (HX5.out.below hb)
  have HL6 := Lib.hid (Nat.lt_of_lt_of_le HL5.out hb.size)
  have HB6 := Lib.hid (bel_then HB5.out hb HB5.out.size)
  clear KS5 HW0_5 HX5 HL5 HB5 hb
  go_wp2_with fail
  have HXG : Hid (w5.heap.size - 1 < w6.heap.size) := HL6.out
  refine (HI.out _ _ (Ops.lty.rd_below HX6.out.rd (Below.refl _ _) (Nat.le_refl _)) HF.out).mono ?_
  rintro e w7 ⟨G0, SG0, rfl, hO, hb⟩
  have h8 := hb.size
  have ING : Hid ((∀ k, SG0 k → w6.heap.size ≤ k ∧ k < w7.heap.size) ∧ w6.heap.size ≤ w7.heap.size) := ⟨fun k hk => hO.inn k hk, h8⟩
  clear h8
  have KS7 := Lib.hid (box_below KS6.out hb)
  have HW0_7 := Lib.hid (HW0_6.out.below hb)
  have HX7 := Lib.hid (HX6.out.below hb)
  have HL7 := Lib.hid (Nat.lt_of_lt_of_le HL6.out hb.size)
  have HB7 := Lib.hid (bel_then HB6.out hb HB6.out.size)
  clear KS6 HW0_6 HX6 HL6 HB6 hb
  have HG0_7 := Lib.hid hO
  clear hO
  go_wp2_with fail
  refine (Mks.eqMarkS_any _ _ _ _ _ D0 HG0_7.out.rd HW0_7.out.rd (Nat.le_refl _) (Nat.le_refl _) HD.out).mono ?_
  rintro e w8 ⟨rfl, hb⟩
  have KS8 := Lib.hid (box_below KS7.out hb)
  have HW0_8 := Lib.hid (HW0_7.out.below hb)
  have HX8 := Lib.hid (HX7.out.below hb)
  have HG0_8 := Lib.hid (HG0_7.out.below hb)
  have HL8 := Lib.hid (Nat.lt_of_lt_of_le HL7.out hb.size)
  have HB8 := Lib.hid (bel_then HB7.out hb HB7.out.size)
  clear KS7 HW0_7 HX7 HG0_7 HL7 HB7 hb
  go_wp2_with fail
  refine (Ops.toOpS_any _ w.heap.size _ d2 (Ops.lty.rd_below HR.out HB8.out (Nat.le_refl _)) HB8.out.size HF.out).mono ?_
  rintro e w9 ⟨vO, SO, rfl, hO, hb⟩
  have h8 := hb.size
  clear h8
  have KS9 := Lib.hid (box_below KS8.out hb)
  have HW0_9 := Lib.hid (HW0_8.out.below hb)
  have HX9 := Lib.hid (HX8.out.below hb)
  have HG0_9 := Lib.hid (HG0_8.out.below hb)
  have HL9 := Lib.hid (Nat.lt_of_lt_of_le HL8.out hb.size)
  have HB9 := Lib.hid (bel_then HB8.out hb HB8.out.size)
  clear KS8 HW0_8 HX8 HG0_8 HL8 HB8 hb
  have HO9 := Lib.hid hO
  clear hO
  go_wp2_with fail
  refine (Ops.eqOpS_any _ _ _ _ _ d2 HX9.out.rd HO9.out.rd (Nat.le_refl _) (Nat.le_refl _) HF.out).mono ?_
  rintro e w10 ⟨rfl, hb⟩
  have KS10 := Lib.hid (box_below KS9.out hb)
  have HW0_10 := Lib.hid (HW0_9.out.below hb)
  have HX10 := Lib.hid (HX9.out.below hb)
  have HG0_10 := Lib.hid (HG0_9.out.below hb)
  have HO10 := Lib.hid (HO9.out.below hb)
  have HL10 := Lib.hid (Nat.lt_of_lt_of_le HL9.out hb.size)
  have HB10 := Lib.hid (bel_then HB9.out hb HB9.out.size)
  clear KS9 HW0_9 HX9 HG0_9 HO9 HL9 HB9 hb
  clear HO10
  have HBW : Hid (w.heap.size < w3.heap.size) := HLW.out
  go_wp2_with fail
  refine (Ops.markOpS_any _ _ _ _ _ d2 1 HX10.out HF.out (by omega) (by omega)).mono ?_
  obtain ⟨mx, hmx⟩ : ∃ m : Int, m = 1 + (Ops.lty.cnt d2 : Int) := ⟨_, rfl⟩
  rw [← hmx]
  have hmx0 : decide (mx < 0) = false := by simp; omega
  clear hmx
  rintro e w11 ⟨rfl, hO, ht⟩
  have HX11 := Lib.hid hO
  clear hO
  have KS11 := Lib.hid (box_turned KS10.out ht (fun h => by have hx := INX.out.1 _ h; have := INW.out.2; have := HWX.out; have := INX.out.2; have := HXG.out; have := ING.out.2; have := hlW.out; have := HBW.out; omega))
  have HW0_11 := Lib.hid (HW0_10.out.turned ht (fun k h h' => by have hx := INX.out.1 _ h'; have h9 := INW.out.1 _ h; have := INW.out.2; have := HWX.out; have := INX.out.2; have := HXG.out; have := ING.out.2; have := hlW.out; have := HBW.out; omega))
  have HG0_11 := Lib.hid (HG0_10.out.turned ht (fun k h h' => by have hx := INX.out.1 _ h'; have h9 := ING.out.1 _ h; have := INW.out.2; have := HWX.out; have := INX.out.2; have := HXG.out; have := ING.out.2; have := hlW.out; have := HBW.out; omega))
  have HB11 := Lib.hid (Turned.low HB10.out ht (fun k h => by have hx := INX.out.1 _ h; have := INW.out.2; have := HWX.out; have := INX.out.2; have := HXG.out; have := ING.out.2; have := hlW.out; have := HBW.out; omega) HB10.out.size)
  have HL11 := Lib.hid (Nat.lt_of_lt_of_le HL10.out ht.size)
  clear ht HL10 HB10 KS10 HW0_10 HX10 HG0_10
  go_wp2_with fail
  refine (Mks.eqMarkS_any _ _ _ _ _ D0 HG0_11.out.rd HW0_11.out.rd (Nat.le_refl _) (Nat.le_refl _) HD.out).mono ?_
  rintro e w12 ⟨rfl, hb⟩
  have KS12 := Lib.hid (box_below KS11.out hb)
  have HW0_12 := Lib.hid (HW0_11.out.below hb)
  have HX12 := Lib.hid (HX11.out.below hb)
  have HG0_12 := Lib.hid (HG0_11.out.below hb)
  have HL12 := Lib.hid (Nat.lt_of_lt_of_le HL11.out hb.size)
  have HB12 := Lib.hid (bel_then HB11.out hb HB11.out.size)
  clear KS11 HW0_11 HX11 HG0_11 HL11 HB11 hb
  clear HX12
  have hc0 : ((Mks.lty.cnt D0 : Nat) : Int) ≤ 20000000 := by have := Mks.lty.few_cnt HD.out; omega
  obtain ⟨m1, hm1⟩ : ∃ m : Int, m = 1 + (Mks.lty.cnt D0 : Int) := ⟨_, rfl⟩
  have HM : Hid (m1 = 1 + (Mks.lty.cnt D0 : Int)) := hm1
  have hn1 : decide (m1 < 0) = false := by simp; omega
  have hmm : (m1 != m1) = false := by simp
  clear hm1 hc0
  go_wp2_with fail
  refine (Mks.markMarkS_any _ _ _ _ _ D0 1 HG0_12.out HD.out (by omega) (by omega)).mono ?_
  rw [← HM.out]
  rintro e w13 ⟨rfl, hO, ht⟩
  have HG0_13 := Lib.hid hO
  clear hO
  have KS13 := Lib.hid (box_turned KS12.out ht (fun h => by have hx := ING.out.1 _ h; have := INW.out.2; have := HWX.out; have := INX.out.2; have := HXG.out; have := ING.out.2; have := hlW.out; have := HBW.out; omega))
  have HW0_13 := Lib.hid (HW0_12.out.turned ht (fun k h h' => by have hx := ING.out.1 _ h'; have h9 := INW.out.1 _ h; have := INW.out.2; have := HWX.out; have := INX.out.2; have := HXG.out; have := ING.out.2; have := hlW.out; have := HBW.out; omega))
  have HB13 := Lib.hid (Turned.low HB12.out ht (fun k h => by have hx := ING.out.1 _ h; have := INW.out.2; have := HWX.out; have := INX.out.2; have := HXG.out; have := ING.out.2; have := hlW.out; have := HBW.out; omega) HB12.out.size)
  have HL13 := Lib.hid (Nat.lt_of_lt_of_le HL12.out ht.size)
  clear ht HL12 HB12 KS12 HW0_12 HG0_12
  go_wp2_with fail
  refine (Mks.heldMarkS_any _ _ _ D0 1 HG0_13.out.rd (Nat.le_refl _) HD.out (by omega) (by omega)).mono ?_
  rw [← HM.out]
  rintro e w14 ⟨rfl, hb⟩
  have KS14 := Lib.hid (box_below KS13.out hb)
  have HW0_14 := Lib.hid (HW0_13.out.below hb)
  have HG0_14 := Lib.hid (HG0_13.out.below hb)
  have HL14 := Lib.hid (Nat.lt_of_lt_of_le HL13.out hb.size)
  have HB14 := Lib.hid (bel_then HB13.out hb HB13.out.size)
  clear KS13 HW0_13 HG0_13 HL13 HB13 hb
  go_wp2_with (refine wpList_get rfl 42 _ rfl w.heap.size 0 rfl KS14.out (spL s) List.take_length Tryz.underlying42 rfl (by kernel_rfl) ?_)
  refine (Sp.toSpec_any s.x0 s.x1 s.x2 s.x3 s.x4 s.x5 s.x6 s.x7 s.x8 s.x9 s.x10 _).mono ?_
  rintro e w15 ⟨rfl, hb⟩
  have KS15 := Lib.hid (box_below KS14.out hb)
  have HW0_15 := Lib.hid (HW0_14.out.below hb)
  have HG0_15 := Lib.hid (HG0_14.out.below hb)
  have HL15 := Lib.hid (Nat.lt_of_lt_of_le HL14.out hb.size)
  have HB15 := Lib.hid (bel_then HB14.out hb HB14.out.size)
  clear KS14 HW0_14 HG0_14 HL14 HB14 hb
  go_wp2_with fail
  refine (Ops.toOpS_any _ w.heap.size _ d2 (Ops.lty.rd_below HR.out HB15.out (Nat.le_refl _)) HB15.out.size HF.out).mono ?_
  rintro e w16 ⟨vO, SO, rfl, hO, hb⟩
  have h8 := hb.size
  clear h8
  have KS16 := Lib.hid (box_below KS15.out hb)
  have HW0_16 := Lib.hid (HW0_15.out.below hb)
  have HG0_16 := Lib.hid (HG0_15.out.below hb)
  have HL16 := Lib.hid (Nat.lt_of_lt_of_le HL15.out hb.size)
  have HB16 := Lib.hid (bel_then HB15.out hb HB15.out.size)
  clear KS15 HW0_15 HG0_15 HL15 HB15 hb
  have HO16 := Lib.hid hO
  clear hO
  go_wp2_with fail
  refine (HI.out _ _ (Ops.lty.rd_below HO16.out.rd (Below.refl _ _) (Nat.le_refl _)) HF.out).mono ?_
  rintro e w17 ⟨Q0, SQ0, rfl, hO, hb⟩
  have h8 := hb.size
  have INQ : Hid ((∀ k, SQ0 k → w16.heap.size ≤ k ∧ k < w17.heap.size) ∧ w16.heap.size ≤ w17.heap.size) := ⟨fun k hk => hO.inn k hk, h8⟩
  clear h8
  have KS17 := Lib.hid (box_below KS16.out hb)
  have HW0_17 := Lib.hid (HW0_16.out.below hb)
  have HG0_17 := Lib.hid (HG0_16.out.below hb)
  have HO17 := Lib.hid (HO16.out.below hb)
  have HL17 := Lib.hid (Nat.lt_of_lt_of_le HL16.out hb.size)
  have HB17 := Lib.hid (bel_then HB16.out hb HB16.out.size)
  clear KS16 HW0_16 HG0_16 HO16 HL16 HB16 hb
  have HQ0_17 := Lib.hid hO
  clear hO
  clear HO17
  go_wp2_with fail
  refine (Mks.eqMarkS_any _ _ _ _ _ D0 HQ0_17.out.rd HW0_17.out.rd (Nat.le_refl _) (Nat.le_refl _) HD.out).mono ?_
  rintro e w18 ⟨rfl, hb⟩
  have KS18 := Lib.hid (box_below KS17.out hb)
  have HW0_18 := Lib.hid (HW0_17.out.below hb)
  have HG0_18 := Lib.hid (HG0_17.out.below hb)
  have HQ0_18 := Lib.hid (HQ0_17.out.below hb)
  have HL18 := Lib.hid (Nat.lt_of_lt_of_le HL17.out hb.size)
  have HB18 := Lib.hid (bel_then HB17.out hb HB17.out.size)
  clear KS17 HW0_17 HG0_17 HQ0_17 HL17 HB17 hb
  go_wp2_with fail
  refine (Mks.heldMarkS_any _ _ _ D0 1 HG0_18.out.rd (Nat.le_refl _) HD.out (by omega) (by omega)).mono ?_
  rw [← HM.out]
  rintro e w19 ⟨rfl, hb⟩
  have KS19 := Lib.hid (box_below KS18.out hb)
  have HW0_19 := Lib.hid (HW0_18.out.below hb)
  have HG0_19 := Lib.hid (HG0_18.out.below hb)
  have HQ0_19 := Lib.hid (HQ0_18.out.below hb)
  have HL19 := Lib.hid (Nat.lt_of_lt_of_le HL18.out hb.size)
  have HB19 := Lib.hid (bel_then HB18.out hb HB18.out.size)
  clear KS18 HW0_18 HG0_18 HQ0_18 HL18 HB18 hb
  go_wp2
  go_ret
  exact ⟨rfl, HB19.out⟩
end Go.Proofs.YtklgjjmcflgjeaaGreat.LawTrailOf
namespace Go.Proofs.YtklgjjmcflgjeaaGreat.Ops
open Go.ChangeShapes Go.WideShapes Go.ChangeAt Go.RowKit Go.Joins Go.Deep
open LK
section
variable {H : Type} {enc : TypeId × Value → H} {w : World} {base : Nat} {spare : Nat → Bool} {held : Bool}
set_option maxRecDepth 100000 in
theorem list_read2 {fuel : Nat} {v : Value} {x : DataW H × List MemPlace} (h : DataW.trod enc Tryz.prog w base spare held fuel 43 [v] = some x) : ∃ A n c ps, v = .slice A n c ∧ IsL w w.heap.size A n ps ∧ n ≤ maxLen ∧ ∀ p ∈ ps, (Lit.int .i64 p.2.1).wf = true := by
  obtain ⟨A, n, c, f, rfl, hn, hc⟩ := FlatOpen.open_flats (k := 4) Tryz.underlying43 Tryz.underlying99 (by kernel_rfl) rfl (by omega) (fun i f hf => flat_fields (by kernel_rfl) hf) h
  refine ⟨A, n, c, (List.range n).map (fun j => tupK (f j)), rfl, ⟨by simp, fun hp => ?_⟩, hn, fun p hp => ?_⟩
  · obtain ⟨b, off, rfl, hb, hj⟩ := hc hp
    refine ⟨b, off, rfl, hb, fun j hjn => ?_⟩
    obtain ⟨hl, _, hcell⟩ := hj j hjn
    have e : ((List.range n).map (fun j => tupK (f j))).getD j z = tupK (f j) := by simp [List.getD, hjn]
    rw [e]
    have hg : ∀ i, i < 4 → w.cell? ⟨b, off + (j * 4 + i), none⟩ = some (.int .i64 ((f j).getD i 0)) := by
      intro i hi
      rw [hcell i hi]
      simp [List.getD, show i < (f j).length by omega]
    exact ⟨hg 0 (by omega), hg 1 (by omega), hg 2 (by omega), hg 3 (by omega)⟩
  · obtain ⟨j, hj, rfl⟩ := List.mem_map.1 hp
    have hjn : j < n := by simpa using hj
    obtain ⟨b, off, rfl, hb, hjj⟩ := hc (by omega)
    obtain ⟨hl, hw, _⟩ := hjj j hjn
    have hlt : 1 < (f j).length := by omega
    have e : (tupK (f j)).2.1 = (f j)[1] := by simp [tupK, List.getD, hlt]
    rw [e]
    exact hw _ (List.getElem_mem _)
set_option maxRecDepth 100000 in
theorem open_list2 {r : Reach} {b0 : Nat} {v : Value} {d : DataW H} {p : List MemPlace} (hv : Value.okWide Tryz.prog w r b0 43 v) (h : DataW.Trod enc Tryz.prog w base spare held 43 v d p) :
    ∃ A n c dd, v = .slice A n c ∧ lty.Rd w w.heap.size (.slice A n c) dd ∧ SzC 13 lty (.slice A n c) dd w ∧ ∀ p : X, List.Mem p dd → (Lit.int .i64 p.2.1).wf = true := by
  obtain ⟨A, n, c, rfl⟩ := okWide_slice Tryz.underlying43 hv
  obtain ⟨fuel, hf⟩ := h
  have hf : DataW.trod enc Tryz.prog w base spare held fuel 43 [.slice A n c] = some (d, p) := hf
  obtain ⟨A', n', c', rs, e, h1, h2, h3⟩ := list_read2 hf
  injection e with e1 e2 e3
  subst e1 e2 e3
  obtain rfl : rs.length = n := h1.1
  exact ⟨A, _, c, rs, rfl, ⟨A, c, rfl, h1⟩, szL_any A c rs w h2, h3⟩
end
end Go.Proofs.YtklgjjmcflgjeaaGreat.Ops
