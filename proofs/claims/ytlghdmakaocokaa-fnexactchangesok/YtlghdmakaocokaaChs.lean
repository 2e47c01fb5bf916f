/-
  LISTS OF Changes (3 ints each): what it is that a slice reads as a list of them, and to own one; the contracts of the laws' helpers over this seat's translation; lists of them as a kind of data.
-/
import Derived.Test.YtlghdmakaocokaaInts
import Derived.Test.YtlghdmakaocokaaLawKit
import Derived.Test.YtlghdmakaocokaaFlatOpen
import Derived.Deep.AppendLies
import Derived.Lib.Hide
namespace Go.Proofs.Ytlghdmakaocokaa.Chs
open Go.ChangeShapes Go.WideShapes Go.ChangeAt Go.RowKit Go.Joins Go.Deep
open Go.Proofs.Ytlghdmakaocokaa.LK
set_option linter.unusedVariables false

abbrev X := Int × Int × Int
abbrev L := List X
def z : X := (0, 0, 0)
def cells (p : X) : List Value := [.int .i64 p.1, .int .i64 p.2.1, .int .i64 p.2.2]
def aggV (p : X) : Value := .agg (cells p).toArray
def flat (ps : L) : List Value := ps.flatMap cells
theorem cells_len (p : X) : (cells p).length = 3 := rfl
theorem flat_nil : flat [] = [] := rfl
theorem flat_cons (p : X) (ps : L) : flat (p :: ps) = cells p ++ flat ps := by simp [flat]
theorem flat_len (ps : L) : (flat ps).length = ps.length * 3 := by
  induction ps with
  | nil => rfl
  | cons x l ih => rw [flat_cons, List.length_append, cells_len, ih]; simp; omega
theorem flat_app (a b : L) : flat (a ++ b) = flat a ++ flat b := by simp [flat]
theorem flat_one (p : X) : flat [p] = cells p := by simp [flat]
theorem flat_at (ps : L) (j i : Nat) (h : j < ps.length) (hi : i < 3) : (flat ps)[j * 3 + i]? = (cells (ps.getD j z))[i]? := by
  induction ps generalizing j with
  | nil => simp at h
  | cons x l ih =>
    rw [flat_cons]
    cases j with
    | zero =>
      rw [List.getElem?_append_left (by rw [cells_len]; omega)]
      simp [List.getD]
    | succ j =>
      rw [List.getElem?_append_right (by rw [cells_len]; omega), cells_len]
      have e : (j + 1) * 3 + i - 3 = j * 3 + i := by omega
      rw [e, ih j (by simpa using h)]
      simp [List.getD]
/-- The 3 cells of one. -/
def CellK (w : World) (b o : Nat) (p : X) : Prop :=
  w.cell? ⟨b, o, none⟩ = some (.int .i64 p.1) ∧ w.cell? ⟨b, o + 1, none⟩ = some (.int .i64 p.2.1) ∧ w.cell? ⟨b, o + 2, none⟩ = some (.int .i64 p.2.2)
/-- The slice at A of length n holds ps, in a block below B. -/
def IsL (w : World) (B : Nat) (A : Option Addr) (n : Nat) (ps : L) : Prop :=
  ps.length = n ∧ (0 < n → ∃ b off, A = some ⟨b, off, none⟩ ∧ b < B ∧ ∀ j, j < n → CellK w b (off + j * 3) (ps.getD j z))
section
variable {w w' : World} {B C : Nat} {A : Option Addr} {n : Nat} {ps : L}
theorem IsL.keep (h : IsL w B A n ps) (hk : ∀ p : Addr, p.block < B → w'.cell? p = w.cell? p) : IsL w' B A n ps :=
  ⟨h.1, fun hn => by
    obtain ⟨b, off, e, hlt, hc⟩ := h.2 hn
    refine ⟨b, off, e, hlt, fun j hj => ?_⟩
    obtain ⟨h0, h1, h2⟩ := hc j hj
    exact ⟨(hk ⟨b, _, none⟩ hlt).trans h0, (hk ⟨b, _, none⟩ hlt).trans h1, (hk ⟨b, _, none⟩ hlt).trans h2⟩⟩
theorem IsL.below (h : IsL w B A n ps) (hb : Below C w w') (hC : B ≤ C) : IsL w' B A n ps := h.keep fun p hp => hb.cell (by omega)
theorem IsL.more (h : IsL w B A n ps) (hC : B ≤ C) : IsL w C A n ps :=
  ⟨h.1, fun hn => by
    obtain ⟨b, off, e, hlt, hc⟩ := h.2 hn
    exact ⟨b, off, e, by omega, hc⟩⟩
theorem IsL.at_ {k : Nat} (h : IsL w B A n ps) (hk : k < n) : ∃ b off x0 x1 x2, A = some ⟨b, off, none⟩ ∧ b < B ∧ ps.getD k z = (x0, x1, x2) ∧
    w.cell? ⟨b, off + k * 3, none⟩ = some (.int .i64 x0) ∧ w.cell? ⟨b, off + k * 3 + 1, none⟩ = some (.int .i64 x1) ∧ w.cell? ⟨b, off + k * 3 + 2, none⟩ = some (.int .i64 x2) := by
  obtain ⟨b, off, e, hlt, hc⟩ := h.2 (by omega)
  obtain ⟨h0, h1, h2⟩ := hc k hk
  exact ⟨b, off, _, _, _, e, hlt, rfl, h0, h1, h2⟩
theorem IsL.nil (w : World) (B : Nat) (A : Option Addr) : IsL w B A 0 [] := ⟨rfl, fun h => absurd h (by omega)⟩
end

/-- A list of one's own. -/
def OwnL (w : World) (lo : Nat) (A : Option Addr) (n c : Nat) (ps : L) : Prop := ps.length = n ∧ w.ownsRow lo 43 3 (.slice A n c) n (flat ps)
section
variable {w w' : World} {lo B : Nat} {A : Option Addr} {n c : Nat} {ps : L}
theorem OwnL.lt (h : OwnL w lo A n c ps) (k : Nat) (hk : (Value.slice A n c).ownBlock = some k) : lo ≤ k ∧ k < w.heap.size := h.2.lt k hk
theorem OwnL.base {lo' : Nat} (h : OwnL w lo A n c ps) (hb : ∀ k, (Value.slice A n c).ownBlock = some k → lo' ≤ k) : OwnL w lo' A n c ps := by
  refine ⟨h.1, h.2.1, ?_⟩
  rcases h.2.2 with h0 | ⟨g, cap, cur, h3, h4, h5⟩
  · exact .inl h0
  · exact .inr ⟨g, cap, cur, h3, hb g (by rw [h3]; rfl), h5⟩
theorem OwnL.zero (h : OwnL w lo A n c ps) : OwnL w 0 A n c ps := h.base fun _ _ => Nat.zero_le _
theorem OwnL.down {lo' : Nat} (h : OwnL w lo A n c ps) (hl : lo' ≤ lo) : OwnL w lo' A n c ps := h.base fun k hk => Nat.le_trans hl (h.lt k hk).1
theorem OwnL.same (h : OwnL w lo A n c ps) (hs : ∀ k, (Value.slice A n c).ownBlock = some k → w'.heap[k]? = w.heap[k]?) : OwnL w' lo A n c ps := by
  refine ⟨h.1, h.2.1, ?_⟩
  rcases h.2.2 with h0 | ⟨g, cap, cur, h3, h4, h5, h6⟩
  · exact .inl h0
  · refine .inr ⟨g, cap, cur, h3, h4, ?_, h6⟩
    rw [hs g (by rw [h3]; rfl)]; exact h5
theorem OwnL.below (h : OwnL w lo A n c ps) (hb : Below w.heap.size w w') : OwnL w' lo A n c ps := h.same fun k hk => hb.block k (h.lt k hk).2
theorem OwnL.reads (h : OwnL w lo A n c ps) (hs : ∀ k, (Value.slice A n c).ownBlock = some k → k < B) : IsL w B A n ps := by
  refine ⟨h.1, fun hn => ?_⟩
  obtain ⟨g, cap, hv, _, hlt⟩ := h.2.form hn
  have hA : A = some ⟨g, 0, none⟩ := by injection hv
  subst hA
  refine ⟨g, 0, rfl, hs g rfl, fun j hj => ?_⟩
  have hl := h.1
  have hf := fun i hi => flat_at ps j i (by omega) hi
  refine ⟨?_, ?_, ?_⟩
  · rw [Nat.zero_add, h.2.cellAt (j * 3) (by omega)]; exact hf 0 (by omega)
  · rw [Nat.zero_add, h.2.cellAt (j * 3 + 1) (by omega)]; exact hf 1 (by omega)
  · rw [Nat.zero_add, h.2.cellAt (j * 3 + 2) (by omega)]; exact hf 2 (by omega)
theorem OwnL.readsAll (h : OwnL w lo A n c ps) : IsL w w.heap.size A n ps := h.reads fun k hk => (h.lt k hk).2
theorem OwnL.nil (w : World) (lo : Nat) : OwnL w lo none 0 0 [] := ⟨rfl, World.ownsRow_nil _ _ _ _⟩
theorem OwnL.at0 (h : OwnL w lo A n c ps) (hn : 0 < n) : ∃ g, A = some ⟨g, 0, none⟩ ∧ lo ≤ g ∧ g < w.heap.size := by
  obtain ⟨g, cap, hv, hb, hlt⟩ := h.2.form hn
  exact ⟨g, by injection hv, hb, hlt⟩
end
theorem own_app {w' : World} {base n : Nat} {v' : Value} {ps : L} {p : X} (hl : ps.length = n) (h : w'.ownsRow base 43 3 v' (n + 1) (flat ps ++ cells p)) : ∃ A c, v' = .slice A (n + 1) c ∧ OwnL w' base A (n + 1) c (ps ++ [p]) := by
  obtain ⟨g, cap, rfl, _⟩ := h.form (by omega)
  exact ⟨_, _, rfl, by simp [hl], by rw [flat_app, flat_one]; exact h⟩
def setK (w : World) (g o : Nat) (p : X) : World := (((w.setCell ⟨g, o, none⟩ (.int .i64 p.1)).setCell ⟨g, o + 1, none⟩ (.int .i64 p.2.1)).setCell ⟨g, o + 2, none⟩ (.int .i64 p.2.2))
theorem flat_set (ps : L) (j : Nat) (p : X) : ((((flat ps).set (j * 3) (.int .i64 p.1)).set (j * 3 + 1) (.int .i64 p.2.1)).set (j * 3 + 2) (.int .i64 p.2.2)) = flat (ps.set j p) := by
  induction ps generalizing j with
  | nil => simp [flat]
  | cons a l ih =>
    cases j with
    | zero => simp [flat_cons, cells]
    | succ j =>
      have e0 : (j + 1) * 3 = j * 3 + 1 + 1 + 1 := by omega
      have e1 : (j + 1) * 3 + 1 = j * 3 + 1 + 1 + 1 + 1 := by omega
      have e2 : (j + 1) * 3 + 2 = j * 3 + 2 + 1 + 1 + 1 := by omega
      rw [e1, e2, e0, List.set_cons_succ, flat_cons, flat_cons, ← ih j]
      simp only [cells, List.cons_append, List.nil_append, List.set_cons_succ]
theorem own_cells {w : World} {base : Nat} {g n cap k : Nat} {ps : L} (h : OwnL w base (some ⟨g, 0, none⟩) n cap ps) (hk : k < n) :
    (∃ u, w.cell? ⟨g, k * 3, none⟩ = some u) ∧ (∃ u, w.cell? ⟨g, k * 3 + 1, none⟩ = some u) ∧ (∃ u, w.cell? ⟨g, k * 3 + 2, none⟩ = some u) ∧
    (∀ i, w.frozen? ⟨g, i, none⟩ = false) ∧ ∀ p, OwnL (setK w g (k * 3) p) base (some ⟨g, 0, none⟩) n cap (ps.set k p) := by
  have hl := h.2.1
  refine ⟨⟨_, (h.2.cellAt (k * 3) (by omega)).trans (List.getElem?_eq_getElem (by omega))⟩, ⟨_, (h.2.cellAt (k * 3 + 1) (by omega)).trans (List.getElem?_eq_getElem (by omega))⟩, ⟨_, (h.2.cellAt (k * 3 + 2) (by omega)).trans (List.getElem?_eq_getElem (by omega))⟩, fun i => h.2.frozenAt _, fun p => ⟨by simpa using h.1, ?_⟩⟩
  rw [← flat_set]
  exact (((h.2.stored (k * 3) (.int .i64 p.1)).1.stored (k * 3 + 1) (.int .i64 p.2.1)).1.stored (k * 3 + 2) (.int .i64 p.2.2)).1
theorem setK_block (w : World) (g o : Nat) (p : X) (k : Nat) (h : k ≠ g) : (setK w g o p).heap[k]? = w.heap[k]? := by
  unfold setK
  rw [Below.heap_setCell _ _ _ _ h, Below.heap_setCell _ _ _ _ h, Below.heap_setCell _ _ _ _ h]
theorem setK_size (w : World) (g o : Nat) (p : X) : (setK w g o p).heap.size = w.heap.size := by simp [setK, World.setCell]
theorem setK_below {B : Nat} {a w : World} (hb : Below B a w) (g o : Nat) (p : X) (h : B ≤ g) : Below B a (setK w g o p) :=
  (((hb.setCell (p := ⟨g, o, none⟩) h _).setCell (p := ⟨g, o + 1, none⟩) h _).setCell (p := ⟨g, o + 2, none⟩) h _)
theorem setK_grown {w : World} (g o : Nat) (p : X) {a : World} (h : a.grownBy w (some g)) : a.grownBy (setK w g o p) (some g) := by
  have one : ∀ {w : World} (i : Nat) (u : Value), a.grownBy w (some g) → a.grownBy (w.setCell ⟨g, i, none⟩ u) (some g) := fun i u h =>
    ⟨h.os, h.tape, h.output, by simpa [World.setCell] using h.size, fun q hq hne => (Below.heap_setCell _ _ _ _ (fun e => hne (by rw [e]))).trans (h.block q hq hne)⟩
  exact one _ _ (one _ _ (one _ _ h))

/-- k of ps written over a row of noughts. -/
def part (ps : L) (k : Nat) : L := ps.take k ++ List.replicate (ps.length - k) z
theorem part_len (ps : L) (k : Nat) (h : k ≤ ps.length) : (part ps k).length = ps.length := by simp [part]; omega
theorem part_set (ps : L) (k : Nat) (h : k < ps.length) : (part ps k).set k (ps.getD k z) = part ps (k + 1) := by
  unfold part
  rw [List.set_append_right _ _ (by simp; omega)]
  have e : k - (ps.take k).length = 0 := by simp; omega
  have e2 : ps.length - k = (ps.length - (k + 1)) + 1 := by omega
  have e3 : ps.getD k z = ps[k] := by simp [List.getD, h]
  rw [e, e2, List.replicate_succ, List.set_cons_zero, List.take_succ_eq_append_getElem h, e3, List.append_assoc]
  rfl
theorem part_zero (ps : L) : part ps 0 = List.replicate ps.length z := by simp [part]
theorem part_all (ps : L) : part ps ps.length = ps := by simp [part]
theorem made_flat (n : Nat) : (madeCells (Value.agg #[.int .i64 0, .int .i64 0, .int .i64 0]).cells (n * 3)).toList = flat (List.replicate n z) := by
  apply List.ext_getElem?
  intro j
  have hc : (Value.agg #[.int .i64 0, .int .i64 0, .int .i64 0]).cells = #[.int .i64 0, .int .i64 0, .int .i64 0] := rfl
  rw [hc]
  have hl : (flat (List.replicate n z)).length = n * 3 := by rw [flat_len]; simp
  by_cases hj : j < n * 3
  · have hh : j / 3 < n := by omega
    have hf := flat_at (List.replicate n z) (j / 3) (j % 3) (by simpa using hh) (by omega)
    have hg : (List.replicate n z).getD (j / 3) z = z := by simp [List.getD, hh]
    have he : j / 3 * 3 + j % 3 = j := by omega
    rw [hg, he] at hf
    have hm : (madeCells #[Value.int .i64 0, .int .i64 0, .int .i64 0] (n * 3)).toList[j]? = some (.int .i64 0) := by
      rcases (by omega : j % 3 = 0 ∨ j % 3 = 1 ∨ j % 3 = 2) with h0 | h0 | h0 <;> simp [madeCells, hj, h0]
    rw [hm, hf]
    rcases (by omega : j % 3 = 0 ∨ j % 3 = 1 ∨ j % 3 = 2) with h0 | h0 | h0 <;> rw [h0] <;> rfl
  · rw [List.getElem?_eq_none (l := flat _) (by omega), List.getElem?_eq_none]
    simp [madeCells]; omega
theorem infoX : (Try.prog.info? 43).map (fun i => (i.zero, i.size, i.bytes)) = some (some (.agg #[.int .i64 0, .int .i64 0, .int .i64 0]), 3, 24) := by kernel_rfl
theorem ret_int {k : IntKind} {a b : Int} (h : a = b) : Ending.returned (.int k a) = .returned (.int k b) := by rw [h]

set_option maxHeartbeats 1600000 in
theorem to_any (x0 x1 x2 : Int) (w : World) :
    Calls Try.prog 19 #[.agg #[.int .i64 x0, .int .i64 x1, .int .i64 x2]] w fun e w' => e = .returned (.agg #[.int .i64 x0, .int .i64 x1, .int .i64 x2]) ∧ Below w.heap.size w w' := by
  go_enter Try.func19, Try.ntmps19
  go_wp2
  exact bodyPost_ret (v := .agg #[.int .i64 x0, .int .i64 x1, .int .i64 x2]) (by simp [results, Try.results19, go_sem]) rfl ⟨rfl, bel3 _ _ _ _⟩
set_option maxHeartbeats 1600000 in
theorem eq_same (x0 x1 x2 : Int) (w : World) :
    Calls Try.prog 21 #[.agg #[.int .i64 x0, .int .i64 x1, .int .i64 x2], .agg #[.int .i64 x0, .int .i64 x1, .int .i64 x2]] w (Says (.bool true) w) := by
  go_enter Try.func21, Try.ntmps21
  go_wp2
  go_ret
  exact ⟨rfl, bel2 _ _ _⟩
set_option maxHeartbeats 3200000 in
theorem toS_any (A : Option Addr) (n cap : Nat) (ps : L) (B : Nat) (w : World) (hr : IsL w B A n ps) (hB : B ≤ w.heap.size) (hn : n ≤ 1048576) :
    Calls Try.prog 11 #[.slice A n cap] w fun e w' => ∃ g, e = .returned (.slice (some ⟨g, 0, none⟩) n n) ∧ OwnL w' w.heap.size (some ⟨g, 0, none⟩) n n ps ∧ Below w.heap.size w w' := by
  obtain ⟨i0, hi, hz0, hz1, hz2⟩ := info_parts infoX
  have HLen : Hid (ps.length = n) := hr.1
  go_enter Try.func11, Try.ntmps11
  go_wp2_with (at_make; refine wpList_make_full _ rfl _ _ 31 rfl w.heap.size 43 i0 (.agg #[.int .i64 0, .int .i64 0, .int .i64 0]) 3 Try.underlying31 hi hz0 hz1 _ _ _ _ n rfl rfl rfl rfl ?b1 ?b2 ?b3 ?_)
  case b1 => rw [hz2]; omega
  case b2 => unfold maxLen; omega
  case b3 => exact Nat.le_refl _
  intro w1 hown hgrow
  have hbel : Below w.heap.size w w1 := (Below.refl _ _).grown hgrow (Nat.le_refl _) (by intro k h; cases h)
  have hown0 : OwnL w1 w.heap.size (some ⟨w.heap.size, 0, none⟩) n n (part ps 0) := by
    refine ⟨by rw [part_zero, HLen.out]; simp, ?_⟩
    rw [part_zero, HLen.out, ← made_flat]; exact hown
  have hsz : w.heap.size < w1.heap.size := Ints.own_lt hown
  clear hgrow hi hz0 hz1 hz2 hown
  go_wp2_with fail
  go_loopw [4] (fun i wr => ∃ k : Nat, k ≤ n ∧ i = .int .i64 k ∧ Hid (OwnL wr w.heap.size (some ⟨w.heap.size, 0, none⟩) n n (part ps k)) ∧ Below w.heap.size w wr ∧ w.heap.size < wr.heap.size) (fun i _ => n - (intOf i).toNat)
  case atStart => exact ⟨0, Nat.zero_le _, rfl, hown0, hbel, hsz⟩
  case round =>
    obtain ⟨k, hk, rfl, HO, hbr, hszr⟩ := hrel
    by_cases hlt : k < n
    · obtain ⟨b, off, x0, x1, x2, rfl, hbB, hz, hc0, hc1, hc2⟩ := (hr.below hbr hB).at_ hlt
      have HZ := Lib.hid hz
      clear hz
      go_wp2_with fail
      refine (to_any _ _ _ _).mono ?_
      rintro e w2 ⟨rfl, hb2⟩
      obtain ⟨⟨u0, hu0⟩, ⟨u1, hu1⟩, ⟨u2, hu2⟩, hf, hst⟩ := own_cells (HO.out.below hb2) hlt
      have hf0 := hf (k * 3)
      have hf1 := hf (k * 3 + 1)
      have hf2 := hf (k * 3 + 2)
      have HST := Lib.hid hst
      clear hst hf
      have hbr2 : Below w.heap.size w w2 := hbr.trans (hb2.mono hbr.size)
      have hszr2 : w.heap.size < w2.heap.size := Nat.lt_of_lt_of_le hszr hb2.size
      go_wp2
      go_roundw
      case rel =>
        have h1 := HST.out (x0, x1, x2)
        rw [← HZ.out, part_set ps k (by rw [HLen.out]; omega), HZ.out] at h1
        have h2 : w.heap.size < (setK w2 w.heap.size (k * 3) (x0, x1, x2)).heap.size := by rw [setK_size]; exact hszr2
        exact ⟨k + 1, by omega, by go_num, h1, setK_below hbr2 w.heap.size (k * 3) (x0, x1, x2) (Nat.le_refl _), h2⟩
      case measure => simp [intOf]; omega
    · have hkn : k = n := by omega
      have HK := Lib.hid hkn
      clear hkn
      go_wp2
      go_ret
      have hl := HLen.out
      refine ⟨w.heap.size, rfl, ?_, hbr⟩
      have h1 := HO.out
      rw [HK.out, ← hl, part_all] at h1
      rw [← hl]
      exact h1
set_option maxRecDepth 100000 in
set_option maxHeartbeats 3200000 in
theorem eqS_same (A C : Option Addr) (n cap cap' : Nat) (ps : L) (B B' : Nat) (w : World) (hr : IsL w B A n ps) (hs : IsL w B' C n ps) (hB : B ≤ w.heap.size) (hB' : B' ≤ w.heap.size) (hn : n ≤ 1048576) :
    Calls Try.prog 13 #[.slice A n cap, .slice C n cap'] w (Says (.bool true) w) := by
  go_enter Try.func13, Try.ntmps13
  go_wp2_with fail
  go_loopw [5] (fun i wr => ∃ k : Nat, k ≤ n ∧ i = .int .i64 k ∧ Below w.heap.size w wr) (fun i _ => n - (intOf i).toNat)
  case atStart => exact ⟨0, Nat.zero_le _, rfl, Below.refl _ _⟩
  case round =>
    obtain ⟨k, hk, rfl, hbr⟩ := hrel
    by_cases hlt : k < n
    · obtain ⟨b, off, x0, x1, x2, rfl, hbB, hz, hc0, hc1, hc2⟩ := (hr.below hbr hB).at_ hlt
      obtain ⟨b', off', y0, y1, y2, rfl, hbB', hz', hd0, hd1, hd2⟩ := (hs.below hbr hB').at_ hlt
      have he : (x0, x1, x2) = (y0, y1, y2) := hz.symm.trans hz'
      simp only [Prod.mk.injEq] at he
      obtain ⟨rfl, rfl, rfl⟩ := he
      clear hz hz' hr hs
      go_wp2_with fail
      go_region_held3 (fun w' => w'.cell? ⟨b, off + k * 3, none⟩ = some (.int .i64 x0) ∧ w'.cell? ⟨b, off + k * 3 + 1, none⟩ = some (.int .i64 x1) ∧ w'.cell? ⟨b, off + k * 3 + 2, none⟩ = some (.int .i64 x2) ∧ w'.cell? ⟨b', off' + k * 3, none⟩ = some (.int .i64 x0) ∧ w'.cell? ⟨b', off' + k * 3 + 1, none⟩ = some (.int .i64 x1) ∧ w'.cell? ⟨b', off' + k * 3 + 2, none⟩ = some (.int .i64 x2)) (first | go_keep | (refine ⟨cell_keep hb2 ?_, cell_keep hb2 ?_, cell_keep hb2 ?_, cell_keep hb2 ?_, cell_keep hb2 ?_, cell_keep hb2 ?_⟩ <;> simp only [*]))
        (first | (go_at_call 21; refine (eq_same _ _ _ _).mono ?_; rintro e w2 ⟨rfl, hb2⟩))
      have hbr2 : Below w.heap.size w w2 := hbr.drew.trans (hb2.mono hbr.size)
      go_wp2
      go_roundw
      case rel => exact ⟨k + 1, by omega, by go_num, hbr2⟩
      case measure => simp [intOf]; omega
    · go_wp2
      go_ret
      exact ⟨rfl, hbr⟩
theorem szS_any (A : Option Addr) (n c : Nat) (k : Int) (w : World) (hn : n ≤ maxLen) (hk0 : 0 ≤ k) (hk1 : k ≤ 1048576) :
    Calls Try.prog 9 #[.slice A n c, .int .i64 k] w fun e w' => ∃ r : Int, e = .returned (.int .i64 r) ∧ (r = -1 ∨ (r = k - n ∧ 0 ≤ r)) ∧ w' = w := by
  have hm : (n : Int) ≤ 9223372036854775807 := by unfold maxLen at hn; omega
  by_cases h : k < n
  · have hd : decide (k - (n : Int) < 0) = true := by simp; omega
    go_enter Try.func9, Try.ntmps9
    go_wp2
    go_ret
    exact ⟨-1, rfl, .inl rfl, rfl⟩
  · have hd : decide (k - (n : Int) < 0) = false := by simp; omega
    have HK : Hid (0 ≤ k - (n : Int)) := (by omega : 0 ≤ k - (n : Int))
    go_enter Try.func9, Try.ntmps9
    go_wp2
    go_ret
    exact ⟨k - n, rfl, .inr ⟨rfl, HK.out⟩, rfl⟩
/-- The marks from k on in a list of n. -/
def markX (x : Int) : X := (x, x + 1, x + 2)
def marks (k : Int) (n : Nat) : L := (List.range n).map fun (i : Nat) => markX (k + 3 * (i : Int))
theorem marks_len (k : Int) (n : Nat) : (marks k n).length = n := by simp [marks]
theorem marks_at (k : Int) (n j : Nat) (h : j < n) : (marks k n).getD j z = markX (k + 3 * j) := by simp [marks, List.getD, h]
def partM (ps : L) (k : Int) (j : Nat) : L := marks k j ++ ps.drop j
theorem marks_succ (k : Int) (j : Nat) : marks k (j + 1) = marks k j ++ [markX (k + 3 * j)] := by simp [marks, List.range_succ]
theorem partM_set (ps : L) (k : Int) (j : Nat) (h : j < ps.length) : (partM ps k j).set j (markX (k + 3 * j)) = partM ps k (j + 1) := by
  unfold partM
  rw [List.set_append_right _ _ (by simp [marks_len])]
  have e : j - (marks k j).length = 0 := by simp [marks_len]
  rw [e, List.drop_eq_getElem_cons h, List.set_cons_zero, marks_succ, List.append_assoc]
  rfl
theorem partM_zero (ps : L) (k : Int) : partM ps k 0 = ps := by simp [partM, marks]
theorem partM_all (ps : L) (k : Int) : partM ps k ps.length = marks k ps.length := by simp [partM]
def LRd (w : World) (B : Nat) (v : Value) (d : L) : Prop := ∃ A c, v = .slice A d.length c ∧ IsL w B A d.length d
def LOwn (w : World) (S : Nat → Prop) (v : Value) (d : L) : Prop := ∃ A c, v = .slice A d.length c ∧ OwnL w 0 A d.length c d ∧ (∀ k, (Value.slice A d.length c).ownBlock = some k → S k)
def lty : Ty where
  D := L
  Rd := LRd
  Own := LOwn
  Few := fun d => d.length ≤ 1048576
  cnt := fun d => 3 * d.length
  mark := fun k d => marks k d.length
  rd_below := by
    rintro w w' B C v d ⟨A, c, rfl, h1⟩ hb hC
    exact ⟨A, c, rfl, h1.below hb hC⟩
  own_rd := by
    rintro w S v d B ⟨A, c, rfl, h1, s1⟩ hB
    exact ⟨A, c, rfl, h1.reads (fun k hk => hB k (s1 k hk))⟩
  own_same := by
    rintro w w' S v d ⟨A, c, rfl, h1, s1⟩ hs
    exact ⟨A, c, rfl, h1.same (fun k hk => hs k (s1 k hk)), s1⟩
  few_cnt := by intro d h; omega
/-- A list of one's own in new memory, answered. -/
theorem made_of {w w' : World} {lo : Nat} {A : Option Addr} {n c : Nat} {zs : L} (hb : Below w.heap.size w w') (hO : OwnL w' lo A n c zs) (hlo : w.heap.size ≤ lo) : Made lty zs w (.returned (.slice A n c)) w' := by
  have hl := hO.1
  subst hl
  exact ⟨_, fun k => w.heap.size ≤ k ∧ k < w'.heap.size, rfl, ⟨⟨A, c, rfl, hO.zero, fun k hk => by have := hO.lt k hk; exact ⟨by omega, this.2⟩⟩, fun k hk => hk, Nat.le_refl _⟩, hb⟩
theorem toChangeS_any : ToC 11 lty := by
  intro w B v (zs : L)
  rintro ⟨A, c, rfl, h1⟩ hB hf
  refine (toS_any A zs.length c zs B w h1 hB hf).mono ?_
  rintro e w' ⟨g, rfl, hO, hb⟩
  exact made_of hb hO (Nat.le_refl _)
theorem eqChangeS_any : EqC 13 lty := by
  intro w B B' v v' (zs : L)
  rintro ⟨A, c, rfl, h1⟩ ⟨C, e, rfl, h2⟩ hB hB' hf
  exact eqS_same A C zs.length c e zs B B' w h1 h2 hB hB' hf
set_option maxRecDepth 100000 in
theorem szL_any (A : Option Addr) (c : Nat) (d : L) (w : World) (h : d.length ≤ maxLen) : SzC 9 lty (.slice A d.length c) d w := by
  intro W k _ hk0 hk1
  refine (szS_any A d.length c k W h hk0 hk1).mono ?_
  rintro e w1 ⟨r, rfl, hr, rfl⟩
  refine ⟨r, rfl, Below.refl _ _, ?_⟩
  rcases hr with h | ⟨h1, h2⟩
  · exact .inl h
  · right
    refine ⟨h2, by omega, ?_⟩
    show d.length ≤ 1048576
    omega
section
variable {H : Type} {enc : TypeId × Value → H} {w : World} {base : Nat} {spare : Nat → Bool} {held : Bool}
def tupK (l : List Int) : X := (l.getD 0 0, l.getD 1 0, l.getD 2 0)
theorem flat_fields {i : Nat} {f : Field} {fs : Array Field} (h : fs.toList.zipIdx.all (fun q => q.1.offset == q.2 && q.1.type == 3) = true) (hf : fs[i]? = some f) : f.offset = i ∧ f.type = 3 := by
  have h1 : (f, i) ∈ fs.toList.zipIdx := List.mem_zipIdx_iff_getElem?.2 (by simpa using hf)
  have h2 := List.all_eq_true.1 h _ h1
  simpa using h2
set_option maxRecDepth 100000 in
theorem list_read {fuel : Nat} {v : Value} {x : DataW H × List MemPlace} (h : DataW.trod enc Try.prog w base spare held fuel 28 [v] = some x) : ∃ A n c ps, v = .slice A n c ∧ IsL w w.heap.size A n ps ∧ n ≤ maxLen := by
  obtain ⟨A, n, c, f, rfl, hn, hc⟩ := FlatOpen.open_flats (k := 3) Try.underlying28 Try.underlying45 (by kernel_rfl) rfl (by omega) (fun i f hf => flat_fields (by kernel_rfl) hf) h
  refine ⟨A, n, c, (List.range n).map (fun j => tupK (f j)), rfl, ⟨by simp, fun hp => ?_⟩, hn⟩
  obtain ⟨b, off, rfl, hb, hj⟩ := hc hp
  refine ⟨b, off, rfl, hb, fun j hjn => ?_⟩
  obtain ⟨hl, _, hcell⟩ := hj j hjn
  have e : ((List.range n).map (fun j => tupK (f j))).getD j z = tupK (f j) := by simp [List.getD, hjn]
  rw [e]
  have hg : ∀ i, i < 3 → w.cell? ⟨b, off + (j * 3 + i), none⟩ = some (.int .i64 ((f j).getD i 0)) := by
    intro i hi
    rw [hcell i hi]
    simp [List.getD, show i < (f j).length by omega]
  exact ⟨hg 0 (by omega), hg 1 (by omega), hg 2 (by omega)⟩
set_option maxRecDepth 100000 in
theorem open_list {r : Reach} {b0 : Nat} {v : Value} {d : DataW H} {p : List MemPlace} (hv : Value.okWide Try.prog w r b0 28 v) (h : DataW.Trod enc Try.prog w base spare held 28 v d p) :
    ∃ A n c dd, v = .slice A n c ∧ lty.Rd w w.heap.size (.slice A n c) dd ∧ SzC 9 lty (.slice A n c) dd w := by
  obtain ⟨A, n, c, rfl⟩ := okWide_slice Try.underlying28 hv
  obtain ⟨fuel, hf⟩ := h
  have hf : DataW.trod enc Try.prog w base spare held fuel 28 [.slice A n c] = some (d, p) := hf
  obtain ⟨A', n', c', rs, e, h1, h2⟩ := list_read hf
  injection e with e1 e2 e3
  subst e1 e2 e3
  obtain rfl : rs.length = n := h1.1
  exact ⟨A, _, c, rs, rfl, ⟨A, c, rfl, h1⟩, szL_any A c rs w h2⟩
end
end Go.Proofs.Ytlghdmakaocokaa.Chs
