/-
  THE RING AT WORK, in memory: a block that holds the tick and eight lists; each list a row of its own, no two in one block; how that is kept.
-/
import Derived.Test.YtpghccbknlokcaaWheelOk
namespace Go.Proofs.Ytpghccbknlokcaa.Ring
open Go.ChangeShapes Go.WideShapes Go.ChangeAt Go.RowKit
open Go.Proofs.Ytpghccbknlokcaa.Timers
set_option linter.unusedVariables false

theorem getD_lt {α : Type} (l : List α) (i : Nat) (d : α) (h : i < l.length) : l.getD i d = l[i] := by simp [List.getD, h]

theorem getD_mem {α : Type} (l : List α) (i : Nat) (d : α) (h : i < l.length) : l.getD i d ∈ l := by rw [getD_lt l i d h]; exact List.getElem_mem _

/-- A list of timers as the cells of an armed row: the tick first. -/
def flatA (ts : TList) : List Value := flat (ts.map fun p => (p.2, p.1))
theorem flatA_len (ts : TList) : (flatA ts).length = ts.length * 2 := by simp [flatA, flat_len]
theorem flatA_app (a b : TList) : flatA (a ++ b) = flatA a ++ flatA b := by simp [flatA, flat_app]
theorem flatA_at (ts : TList) (j : Nat) (h : j < ts.length) : (flatA ts)[j * 2]? = some (.int .i64 (ts.getD j (0, 0)).2) ∧ (flatA ts)[j * 2 + 1]? = some (.int .i64 (ts.getD j (0, 0)).1) := by
  have hf := flat_at (ts.map fun p => (p.2, p.1)) j (by simpa using h)
  have e : (ts.map fun p : Int × Int => (p.2, p.1)).getD j (0, 0) = ((ts.getD j (0, 0)).2, (ts.getD j (0, 0)).1) := by simp [List.getD, h]
  rw [e] at hf
  exact hf

/-- The ring at block g, all of it from lo on. -/
def OwnR (w : World) (lo g : Nat) (now : Int) (rs : List TList) : Prop :=
  ∃ vs : List Value, vs.length = 8 ∧ rs.length = 8 ∧ lo ≤ g ∧ w.heap[g]? = some (.cells (Value.int .i64 now :: vs).toArray 94 (0, 0)) ∧
    (∀ j v, vs[j]? = some v → w.ownsRow lo 150 2 v (rs.getD j []).length (flatA (rs.getD j []))) ∧
    (∀ (i j : Nat) (u v : Value), i < j → vs[i]? = some u → vs[j]? = some v → u.ownBlock = none ∨ u.ownBlock ≠ v.ownBlock)

theorem own_slice {w : World} {base : Nat} {e : TypeId} {size : Nat} {v : Value} {n : Nat} {xs : List Value} (h : w.ownsRow base e size v n xs) : ∃ A c, v = .slice A n c := by
  rcases h.2 with ⟨rfl, rfl⟩ | ⟨g, cap, cur, rfl, _⟩
  · exact ⟨none, 0, rfl⟩
  · exact ⟨_, cap, rfl⟩

section
variable {w w' : World} {lo g : Nat} {now : Int} {rs : List TList}
theorem OwnR.lt (h : OwnR w lo g now rs) : g < w.heap.size := by
  obtain ⟨vs, _, _, _, hg, _⟩ := h
  exact (Array.getElem?_eq_some_iff.1 hg).1
theorem OwnR.lo_le (h : OwnR w lo g now rs) : lo ≤ g := by obtain ⟨vs, _, _, hl, _⟩ := h; exact hl
theorem OwnR.below (h : OwnR w lo g now rs) (hb : Below w.heap.size w w') : OwnR w' lo g now rs := by
  obtain ⟨vs, h1, h2, h3, hg, hr, hd⟩ := h
  exact ⟨vs, h1, h2, h3, (hb.block g (Array.getElem?_eq_some_iff.1 hg).1).trans hg, fun j v hv => own_below (hr j v hv) hb, hd⟩
theorem OwnR.now_cell (h : OwnR w lo g now rs) : w.cell? ⟨g, 0, none⟩ = some (.int .i64 now) ∧ w.frozen? ⟨g, 0, none⟩ = false := by
  obtain ⟨vs, _, _, _, hg, _⟩ := h
  constructor <;> simp [World.cell?, World.frozen?, hg]
theorem OwnR.cell (h : OwnR w lo g now rs) {j : Nat} (hj : j < 8) :
    ∃ A c, w.cell? ⟨g, 1 + j, none⟩ = some (.slice A (rs.getD j []).length c) ∧ w.frozen? ⟨g, 1 + j, none⟩ = false ∧ w.ownsRow lo 150 2 (.slice A (rs.getD j []).length c) (rs.getD j []).length (flatA (rs.getD j [])) := by
  obtain ⟨vs, h1, _, _, hg, hr, _⟩ := h
  have hv : vs[j]? = some vs[j] := List.getElem?_eq_getElem (by omega)
  have hrow := hr j _ hv
  obtain ⟨A, c, e⟩ := own_slice hrow
  rw [e] at hrow hv
  refine ⟨A, c, ?_, ?_, hrow⟩
  · rw [cell_of_row w g (1 + j) _ _ (0, 0) hg, Nat.add_comm 1 j]
    simpa using hv
  · simp [World.frozen?, hg]

/-- List j has become a new row (the old one's block, or a new one), and its slice is stored. -/
theorem OwnR.put {w1 : World} {j : Nat} {A : Option Addr} {c : Nat} {v' : Value} {ts : TList} (h : OwnR w lo g now rs) (hj : j < 8) (hcell : w.cell? ⟨g, 1 + j, none⟩ = some (.slice A (rs.getD j []).length c))
    (hgr : w.grownBy w1 (Value.slice A (rs.getD j []).length c).ownBlock) (hrow : w1.ownsRow lo 150 2 v' ts.length (flatA ts))
    (hat : v'.ownBlock = (Value.slice A (rs.getD j []).length c).ownBlock ∨ ∀ q, v'.ownBlock = some q → w.heap.size ≤ q) :
    OwnR (w1.setCell ⟨g, 1 + j, none⟩ v') lo g now (rs.set j ts) ∧ w1.frozen? ⟨g, 1 + j, none⟩ = false ∧ ∃ u, w1.cell? ⟨g, 1 + j, none⟩ = some u := by
  have hlt := h.lt
  obtain ⟨vs, h1, h2, h3, hg, hr, hd⟩ := h
  have hvj : vs[j]? = some (.slice A (rs.getD j []).length c) := by
    rw [cell_of_row w g (1 + j) _ _ (0, 0) hg, Nat.add_comm 1 j] at hcell
    simpa using hcell
  have hrj := hr j _ hvj
  have hgne : (Value.slice A (rs.getD j []).length c).ownBlock ≠ some g := by
    intro he
    rcases hrj.2 with ⟨e, _⟩ | ⟨g1, cap1, cur1, e, _, hh1, _⟩
    · rw [e] at he; simp [Value.ownBlock] at he
    · rw [e] at he
      have : g1 = g := by simpa [Value.ownBlock] using he
      subst this
      rw [hg] at hh1
      injection hh1 with h5
      injection h5 with _ h6
      exact absurd h6 (by decide)
  have hg1 : w1.heap[g]? = some (.cells (Value.int .i64 now :: vs).toArray 94 (0, 0)) := (hgr.block g hlt (fun e => hgne e.symm)).trans hg
  have hgne' : v'.ownBlock ≠ some g := by
    intro he
    rcases hrow.2 with ⟨e, _⟩ | ⟨g1, cap1, cur1, e, _, hh1, _⟩
    · rw [e] at he; simp [Value.ownBlock] at he
    · rw [e] at he
      have : g1 = g := by simpa [Value.ownBlock] using he
      subst this
      rw [hg1] at hh1
      injection hh1 with h5
      injection h5 with _ h6
      exact absurd h6 (by decide)
  refine ⟨⟨vs.set j v', by simpa using h1, by simpa using h2, h3, ?_, fun i v hv => ?_, fun i k u v hik hu hv => ?_⟩, by simp [World.frozen?, hg1], ⟨_, (cell_of_row w1 g (1 + j) _ _ (0, 0) hg1).trans (by rw [Nat.add_comm 1 j]; simpa using hvj)⟩⟩
  · have := heap_setCell_same w1 g (1 + j) _ _ v' hg1
    rw [this]
    congr 2
    apply Array.ext'
    simp [Nat.add_comm 1 j]
  · have hset : (w1.setCell ⟨g, 1 + j, none⟩ v').grownBy (w1.setCell ⟨g, 1 + j, none⟩ v') none := ⟨rfl, rfl, rfl, Nat.le_refl _, fun _ _ _ => rfl⟩
    have hgs : w1.grownBy (w1.setCell ⟨g, 1 + j, none⟩ v') (some g) := ⟨rfl, rfl, rfl, by simp [World.setCell], fun k _ hne => Below.heap_setCell w1 ⟨g, 1 + j, none⟩ _ k (fun e => hne (by rw [e]))⟩
    by_cases hij : i = j
    · subst hij
      rw [List.getElem?_set_self (by omega)] at hv
      injection hv with hv
      subst hv
      rw [Timers.getD_set_eq rs i ts (by omega)]
      exact hrow.kept hgs (.inr hgne')
    · rw [List.getElem?_set_ne (Ne.symm hij)] at hv
      rw [Timers.getD_set_ne rs i j ts hij]
      have hri := hr i v hv
      have hvne : v.ownBlock ≠ some g := by
        intro he
        rcases hri.2 with ⟨e, _⟩ | ⟨g1, cap1, cur1, e, _, hh1, _⟩
        · rw [e] at he; simp [Value.ownBlock] at he
        · rw [e] at he
          have : g1 = g := by simpa [Value.ownBlock] using he
          subst this
          rw [hg] at hh1
          injection hh1 with h5
          injection h5 with _ h6
          exact absurd h6 (by decide)
      refine (hri.kept hgr ?_).kept hgs (.inr hvne)
      rcases Nat.lt_or_gt_of_ne hij with hl | hl
      · exact hd i j v _ hl hv hvj
      · rcases hd j i _ v hl hvj hv with h0 | h0
        · rw [h0]
          cases v.ownBlock <;> simp
        · exact .inr (Ne.symm h0)
  · have old : ∀ q x, q ≠ j → vs[q]? = some x → x.ownBlock = none ∨ x.ownBlock ≠ v'.ownBlock := by
      intro q x hq hx
      rcases hat with h0 | h0
      · rw [h0]
        rcases Nat.lt_or_gt_of_ne hq with hl | hl
        · exact hd q j x _ hl hx hvj
        · rcases hd j q _ x hl hvj hx with h5 | h5
          · rw [h5]
            cases x.ownBlock <;> simp
          · exact .inr (Ne.symm h5)
      · cases hb : x.ownBlock with
        | none => exact .inl rfl
        | some q1 =>
          refine .inr fun e => ?_
          have h5 := h0 q1 e.symm
          have h6 := (hr q x hx).lt q1 hb
          omega
    by_cases h5 : i = j
    · have h6 : k ≠ j := by omega
      subst h5
      rw [List.getElem?_set_self (by omega)] at hu
      rw [List.getElem?_set_ne (Ne.symm h6)] at hv
      injection hu with hu
      subst hu
      rcases old k v h6 hv with h7 | h7
      · rw [h7]
        cases v'.ownBlock <;> simp
      · exact .inr (Ne.symm h7)
    · by_cases h6 : k = j
      · subst h6
        rw [List.getElem?_set_self (by omega)] at hv
        rw [List.getElem?_set_ne (Ne.symm h5)] at hu
        injection hv with hv
        subst hv
        exact old i u h5 hu
      · rw [List.getElem?_set_ne (Ne.symm h5)] at hu
        rw [List.getElem?_set_ne (Ne.symm h6)] at hv
        exact hd i k u v hik hu hv
end

theorem info85 : (Try.prog.info? 150).map (fun i => (i.zero, i.size, i.bytes)) = some (some (.agg #[.int .i64 0, .int .i64 0]), 2, 16) := by kernel_rfl
end Go.Proofs.Ytpghccbknlokcaa.Ring
