/-
  MORE ON A WHEEL'S OWN MEMORY: a list that has grown is stored again; a list is put behind the others; slots that are copied list by list.
-/
import Derived.Test.YtpghccbknlokcaaTimerMark
namespace Go.Proofs.Ytpghccbknlokcaa.Timers
open Go.ChangeShapes Go.WideShapes Go.ChangeAt Go.RowKit
set_option linter.unusedVariables false

theorem flip_ne {u v : Value} (h : u.ownBlock = none ∨ u.ownBlock ≠ v.ownBlock) : v.ownBlock = none ∨ v.ownBlock ≠ u.ownBlock := by
  rcases h with h | h
  · rw [h]
    cases v.ownBlock <;> simp
  · exact .inr (Ne.symm h)

section
variable {w w1 : World} {lo hi : Nat} {n c : Nat} {ss : List TList}

/-- List j has become a new row (in the old one's block, or a new one), and its slice is stored. -/
theorem OwnS.put2 {g j hi' : Nat} {A A' : Option Addr} {c0 m c' : Nat} {ts : TList} (h : OwnS w lo hi (some ⟨g, 0, none⟩) n c ss) (hj : j < n) (hcell : w.cell? ⟨g, j, none⟩ = some (.slice A (ss.getD j []).length c0))
    (hgr : w.grownBy w1 (Value.slice A (ss.getD j []).length c0).ownBlock) (hT : OwnT w1 lo hi' A' m c' ts) (hw : hi ≤ w.heap.size)
    (hat : (Value.slice A' m c').ownBlock = (Value.slice A (ss.getD j []).length c0).ownBlock ∨ ∀ q, (Value.slice A' m c').ownBlock = some q → w.heap.size ≤ q) (hh : hi ≤ hi') :
    OwnS (w1.setCell ⟨g, j, none⟩ (.slice A' m c')) lo hi' (some ⟨g, 0, none⟩) n c (ss.set j ts) ∧ w1.frozen? ⟨g, j, none⟩ = false ∧ ∃ u, w1.cell? ⟨g, j, none⟩ = some u := by
  obtain ⟨g', vs, e, hg, hrow, hjj, hd⟩ := h.2 (by omega)
  obtain rfl : g' = g := by injection e with e; injection e with e; exact e.symm
  obtain ⟨A1, c1, hv1, hT1⟩ := hjj j hj
  have hcv : vs[j]? = some (.slice A (ss.getD j []).length c0) := (hrow.cellAt j (by omega)).symm.trans hcell
  obtain ⟨rfl, rfl⟩ : A1 = A ∧ c1 = c0 := by
    rw [hv1] at hcv
    injection hcv with hcv
    injection hcv with h1 h2 h3
    exact ⟨h1, h3⟩
  have hsl : ss.length = n := h.1
  have hvl : vs.length = n := by have := hrow.1; omega
  have hrow1 : w1.ownsRow lo 96 1 (.slice (some ⟨g', 0, none⟩) n c) n vs := by
    refine hrow.kept hgr (.inr fun e => ?_)
    exact row_ne hrow hT1.2.1 (by decide) (show (Value.slice (some ⟨g', 0, none⟩) n c).ownBlock = some g' from rfl) (e.symm.trans rfl)
  have hst := (hrow1.stored j (.slice A' m c')).1
  have hgs : w1.grownBy (w1.setCell ⟨g', j, none⟩ (.slice A' m c')) (some g') := ⟨rfl, rfl, rfl, by simp [World.setCell], fun k _ hne => Below.heap_setCell w1 ⟨g', j, none⟩ _ k (fun e => hne (by rw [e]))⟩
  have hkeep : ∀ {hi0 : Nat} {A0 : Option Addr} {n0 c0 : Nat} {t0 : TList}, OwnT w1 lo hi0 A0 n0 c0 t0 → OwnT (w1.setCell ⟨g', j, none⟩ (.slice A' m c')) lo hi0 A0 n0 c0 t0 := by
    intro hi0 A0 n0 c0 t0 hO
    exact hO.grown hgs (.inr (row_ne hrow1 hO.2.1 (by decide) (show (Value.slice (some ⟨g', 0, none⟩) n c).ownBlock = some g' from rfl)))
  have hne : ∀ q x, q ≠ j → vs[q]? = some x → x.ownBlock = none ∨ x.ownBlock ≠ (Value.slice A1 (ss.getD j []).length c1).ownBlock := by
    intro q x hq hx
    rcases Nat.lt_or_gt_of_ne hq with h1 | h1
    · exact hd q j _ _ h1 hx hv1
    · exact flip_ne (hd j q _ _ h1 hv1 hx)
  have old : ∀ q x, q ≠ j → q < n → vs[q]? = some x → x.ownBlock = none ∨ x.ownBlock ≠ (Value.slice A' m c').ownBlock := by
    intro q x hq hqn hx
    rcases hat with h0 | h0
    · rw [h0]; exact hne q x hq hx
    · cases hb : x.ownBlock with
      | none => exact .inl rfl
      | some q1 =>
        refine .inr fun e => ?_
        have h5 := h0 q1 e.symm
        obtain ⟨A2, c2, hv2, hT2⟩ := hjj q hqn
        rw [hx] at hv2
        injection hv2 with hv2
        subst hv2
        have h6 := hT2.blk q1 hb
        omega
  refine ⟨⟨by simpa using hsl, fun _ => ⟨g', vs.set j (.slice A' m c'), rfl, by omega, hst, fun i hi => ?_, fun i k u v hik hu hv => ?_⟩⟩, hrow1.frozenAt j, ⟨_, (hrow1.cellAt j (by omega)).trans hv1⟩⟩
  · by_cases hij : i = j
    · subst hij
      rw [Timers.getD_set_eq ss i ts (by omega)]
      refine ⟨A', c', ?_, ?_⟩
      · rw [List.getElem?_set_self (by omega), hT.1]
      · rw [hT.1]; exact hkeep hT
    · rw [Timers.getD_set_ne ss i j ts hij]
      obtain ⟨A2, c2, hv2, hT2⟩ := hjj i hi
      exact ⟨A2, c2, by rw [List.getElem?_set_ne (Ne.symm hij)]; exact hv2, hkeep ((hT2.grown hgr (hne i _ hij hv2)).more hh)⟩
  · have hil : i < n := by
      rcases Nat.lt_or_ge i n with h1 | h1
      · exact h1
      · rw [List.getElem?_eq_none (by simp; omega)] at hu; cases hu
    have hkl : k < n := by
      rcases Nat.lt_or_ge k n with h1 | h1
      · exact h1
      · rw [List.getElem?_eq_none (by simp; omega)] at hv; cases hv
    by_cases h1 : i = j
    · have h2 : k ≠ j := by omega
      subst h1
      rw [List.getElem?_set_self (by omega)] at hu
      rw [List.getElem?_set_ne (Ne.symm h2)] at hv
      injection hu with hu
      subst hu
      exact flip_ne (old k v h2 hkl hv)
    · by_cases h2 : k = j
      · subst h2
        rw [List.getElem?_set_self (by omega)] at hv
        rw [List.getElem?_set_ne (Ne.symm h1)] at hu
        injection hv with hv
        subst hv
        exact old i u h1 hil hu
      · rw [List.getElem?_set_ne (Ne.symm h1)] at hu
        rw [List.getElem?_set_ne (Ne.symm h2)] at hv
        exact hd i k u v hik hu hv
end

/-- Slots of which the first k lists are one's own already; the others' slices stand as H says. -/
def OwnP (w : World) (lo hi g n c : Nat) (ss : List TList) (H : Nat → Value) (k : Nat) : Prop :=
  ss.length = n ∧ g < hi ∧ ∃ vs : List Value, w.ownsRow lo 96 1 (.slice (some ⟨g, 0, none⟩) n c) n vs ∧
    (∀ j, j < k → ∃ A' c', vs[j]? = some (.slice A' (ss.getD j []).length c') ∧ OwnT w lo hi A' (ss.getD j []).length c' (ss.getD j [])) ∧
    (∀ j, k ≤ j → j < n → vs[j]? = some (H j)) ∧
    (∀ (i j : Nat) (u v : Value), i < j → j < k → vs[i]? = some u → vs[j]? = some v → u.ownBlock = none ∨ u.ownBlock ≠ v.ownBlock)
theorem OwnP.all {w : World} {lo hi g n c : Nat} {ss : List TList} {H : Nat → Value} (h : OwnP w lo hi g n c ss H n) : OwnS w lo hi (some ⟨g, 0, none⟩) n c ss := by
  obtain ⟨h1, h2, vs, hrow, hj, _, hd⟩ := h
  refine ⟨h1, fun hn => ⟨g, vs, rfl, h2, hrow, hj, fun i j u v hij hu hv => ?_⟩⟩
  have hjl : j < n := by
    have hvl : vs.length = n := by have := hrow.1; omega
    rcases Nat.lt_or_ge j n with h5 | h5
    · exact h5
    · rw [List.getElem?_eq_none (by omega)] at hv; cases hv
  exact hd i j u v hij hjl hu hv
theorem OwnP.below {w w' : World} {lo hi g n c : Nat} {ss : List TList} {H : Nat → Value} {k : Nat} (h : OwnP w lo hi g n c ss H k) (hb : Below w.heap.size w w') : OwnP w' lo hi g n c ss H k := by
  obtain ⟨h1, h2, vs, hrow, hj, hr, hd⟩ := h
  refine ⟨h1, h2, vs, own_below hrow hb, fun j hjk => ?_, hr, hd⟩
  obtain ⟨A', c', hv, hT⟩ := hj j hjk
  exact ⟨A', c', hv, hT.below hb⟩
theorem OwnP.cell {w : World} {lo hi g n c : Nat} {ss : List TList} {H : Nat → Value} {k : Nat} (h : OwnP w lo hi g n c ss H k) (hk : k < n) : w.cell? ⟨g, k, none⟩ = some (H k) ∧ w.frozen? ⟨g, k, none⟩ = false := by
  obtain ⟨h1, h2, vs, hrow, hj, hr, hd⟩ := h
  exact ⟨(hrow.cellAt k (by omega)).trans (hr k (Nat.le_refl _) hk), hrow.frozenAt k⟩
/-- The next list is a copy of its own. -/
theorem OwnP.next {w : World} {lo hi hi' g n c : Nat} {ss : List TList} {H : Nat → Value} {k : Nat} {A' : Option Addr} {m c' : Nat} (h : OwnP w lo hi g n c ss H k) (hk : k < n) (hT : OwnT w lo hi' A' m c' (ss.getD k [])) (hf : ∀ p, A' = some p → hi ≤ p.block) (hh : hi ≤ hi') :
    OwnP (w.setCell ⟨g, k, none⟩ (.slice A' m c')) lo hi' g n c ss H (k + 1) := by
  obtain ⟨h1, h2, vs, hrow, hj, hr, hd⟩ := h
  have hst := (hrow.stored k (.slice A' m c')).1
  have hvl : vs.length = n := by have := hrow.1; omega
  have hgr : w.grownBy (w.setCell ⟨g, k, none⟩ (.slice A' m c')) (some g) := ⟨rfl, rfl, rfl, by simp [World.setCell], fun q _ hne => Below.heap_setCell w ⟨g, k, none⟩ _ q (fun e => hne (by rw [e]))⟩
  have hkeep : ∀ {hi0 : Nat} {A0 : Option Addr} {n0 c0 : Nat} {t0 : TList}, OwnT w lo hi0 A0 n0 c0 t0 → OwnT (w.setCell ⟨g, k, none⟩ (.slice A' m c')) lo hi0 A0 n0 c0 t0 := by
    intro hi0 A0 n0 c0 t0 hO
    exact hO.grown hgr (.inr (row_ne hrow hO.2.1 (by decide) (show (Value.slice (some ⟨g, 0, none⟩) n c).ownBlock = some g from rfl)))
  have hm : (ss.getD k []).length = m := hT.1
  refine ⟨h1, by omega, vs.set k (.slice A' m c'), hst, fun j hjk => ?_, fun j hkj hjn => ?_, fun i j u v hij hjk hu hv => ?_⟩
  · by_cases hjk' : j = k
    · subst hjk'
      exact ⟨A', c', by rw [List.getElem?_set_self (by omega), hm], by rw [hm]; exact hkeep hT⟩
    · obtain ⟨A1, c1, hv1, hT1⟩ := hj j (by omega)
      exact ⟨A1, c1, by rw [List.getElem?_set_ne (Ne.symm hjk')]; exact hv1, hkeep (hT1.more hh)⟩
  · rw [List.getElem?_set_ne (by omega)]
    exact hr j (by omega) hjn
  · have hik : i ≠ k := by omega
    rw [List.getElem?_set_ne (Ne.symm hik)] at hu
    by_cases hjk' : j = k
    · subst hjk'
      rw [List.getElem?_set_self (by omega)] at hv
      injection hv with hv
      subst hv
      obtain ⟨A1, c1, hv1, hT1⟩ := hj i (by omega)
      rw [hu] at hv1
      injection hv1 with hv1
      subst hv1
      cases hb : (Value.slice A1 (ss.getD i []).length c1).ownBlock with
      | none => exact .inl rfl
      | some b1 =>
        refine .inr fun e => ?_
        have h5 := hT1.blk b1 hb
        cases A' with
        | none => simp [Value.ownBlock] at e
        | some p =>
          have h6 := hf p rfl
          have h7 : p.block = b1 := by simpa [Value.ownBlock] using e.symm
          omega
    · rw [List.getElem?_set_ne (Ne.symm hjk')] at hv
      exact hd i j u v hij (by omega) hu hv

/-- A list of one's own is put behind the others. -/
theorem OwnS.push {w w1 : World} {lo hi hi' : Nat} {A A1 : Option Addr} {n c c1 m c' : Nat} {A' : Option Addr} {ss : List TList} {ts : TList} (h : OwnS w lo hi A n c ss) (hgr : w.grownBy w1 (Value.slice A n c).ownBlock) (hT : OwnT w lo hi' A' m c' ts)
    (vs : List Value) (hvs : 0 < n → ∀ vs', w.ownsRow lo 96 1 (.slice A n c) n vs' → vs = vs') (hvs0 : n = 0 → vs = []) (hrow0 : w.ownsRow lo 96 1 (.slice A n c) n vs)
    (hrow : w1.ownsRow lo 96 1 (.slice A1 (n + 1) c1) (n + 1) (vs ++ [.slice A' m c'])) (hA1 : ∀ p, A1 = some p → p.block < hi') (hf : ∀ p, A' = some p → hi ≤ p.block) (hh : hi ≤ hi') :
    OwnS w1 lo hi' A1 (n + 1) c1 (ss ++ [ts]) := by
  have hsl : ss.length = n := h.1
  have hvl : vs.length = n := by have := hrow0.1; omega
  have hkeep : ∀ {hi0 : Nat} {A0 : Option Addr} {n0 c0 : Nat} {t0 : TList}, OwnT w lo hi0 A0 n0 c0 t0 → OwnT w1 lo hi0 A0 n0 c0 t0 := by
    intro hi0 A0 n0 c0 t0 hO
    refine hO.grown hgr ?_
    cases hb : (Value.slice A0 n0 c0).ownBlock with
    | none => exact .inl rfl
    | some q => exact .inr fun e => row_ne hO.2.1 hrow0 (by decide) hb e.symm
  obtain ⟨g1, cap1, hv1, hb1, hlt1⟩ := hrow.form (by omega)
  have hA1e : A1 = some ⟨g1, 0, none⟩ := by injection hv1
  refine ⟨by simp [hsl], fun _ => ⟨g1, _, hA1e, hA1 _ hA1e, hrow, fun j hj => ?_, fun i j u v hij hu hv => ?_⟩⟩
  · by_cases hjn : j < n
    · obtain ⟨g', vs', e, hg, hrow', hjj, hd⟩ := h.2 (by omega)
      have hvv := hvs (by omega) vs' hrow'
      subst hvv
      obtain ⟨A2, c2, hv2, hT2⟩ := hjj j hjn
      have eg : (ss ++ [ts]).getD j [] = ss.getD j [] := by simp [List.getD, List.getElem?_append_left (show j < ss.length by omega)]
      rw [eg]
      exact ⟨A2, c2, by rw [List.getElem?_append_left (by omega)]; exact hv2, hkeep (hT2.more hh)⟩
    · have hj' : j = n := by omega
      subst hj'
      have eg : (ss ++ [ts]).getD j [] = ts := by simp [List.getD, ← hsl]
      rw [eg, hT.1]
      exact ⟨A', c', by rw [List.getElem?_append_right (by omega)]; simp [hvl], hkeep hT⟩
  · have hjl : j < n + 1 := by
      rcases Nat.lt_or_ge j (n + 1) with h5 | h5
      · exact h5
      · rw [List.getElem?_eq_none (by simp; omega)] at hv; cases hv
    have hil : i < n := by omega
    obtain ⟨g', vs', e, hg, hrow', hjj, hd⟩ := h.2 (by omega)
    have hvv := hvs (by omega) vs' hrow'
    subst hvv
    rw [List.getElem?_append_left (by omega)] at hu
    by_cases hjn : j < n
    · rw [List.getElem?_append_left (by omega)] at hv
      exact hd i j u v hij hu hv
    · have hj' : j = n := by omega
      subst hj'
      rw [List.getElem?_append_right (by omega)] at hv
      have hv' : v = .slice A' m c' := by simpa [hvl] using hv.symm
      subst hv'
      obtain ⟨A2, c2, hv2, hT2⟩ := hjj i hil
      rw [hu] at hv2
      injection hv2 with hv2
      subst hv2
      cases hb : (Value.slice A2 (ss.getD i []).length c2).ownBlock with
      | none => exact .inl rfl
      | some b1 =>
        refine .inr fun e => ?_
        have h5 := hT2.blk b1 hb
        cases A' with
        | none => simp [Value.ownBlock] at e
        | some p =>
          have h6 := hf p rfl
          have h7 : p.block = b1 := by simpa [Value.ownBlock] using e.symm
          omega
end Go.Proofs.Ytpghccbknlokcaa.Timers
