/-
  LISTS OF RECORDS ONE BEHIND THE OTHER: the contracts of ReadJournal, the program's and the model's, over this seat's translation.
-/
import Derived.Test.YtpghccbknlokcaaDoorRecsTy
import Derived.Test.YtpghccbknlokcaaDoorLawKit
import Derived.Maps.AppendAt
namespace Go.Proofs.YtpghccbknlokcaaDoor.RecsTy
open Go.ChangeShapes Go.WideShapes Go.ChangeAt Go.RowKit
open Go.Proofs.YtpghccbknlokcaaDoor.LK Go.Proofs.YtpghccbknlokcaaDoor.Ints Go.Proofs.YtpghccbknlokcaaDoor.Has Go.Proofs.YtpghccbknlokcaaDoor.Rec
set_option linter.unusedVariables false
set_option linter.unusedSimpArgs false

theorem getD_l {α : Type} (a b : List α) (d : α) (j : Nat) (h : j < a.length) : (a ++ b).getD j d = a.getD j d := by simp [List.getD, List.getElem?_append, h]
theorem getD_r {α : Type} (a b : List α) (d : α) (j : Nat) (h : a.length ≤ j) : (a ++ b).getD j d = b.getD (j - a.length) d := by simp [List.getD, List.getElem?_append, Nat.not_lt.2 h]
/-- Each one's numbers, all apart. -/
def Inner (w : World) (base m : Nat) (hs : List Hd) (rs : RList) : Prop :=
  hs.length = m ∧ rs.length = m ∧ (∀ j, j < m → (hs.getD j hd0).1 = (rs.getD j (0, [])).1 ∧ OwnI w base (hs.getD j hd0).2.1 (hs.getD j hd0).2.2.1 (hs.getD j hd0).2.2.2 (rs.getD j (0, [])).2) ∧
    (∀ i j, i < m → j < m → i ≠ j → ∀ q, (hdV (hs.getD i hd0)).ownBlock = some q → (hdV (hs.getD j hd0)).ownBlock ≠ some q)
theorem inner_of {w : World} {base : Nat} {A : Option Addr} {n c : Nat} {hs : List Hd} {rs : RList} (h : OwnRsH w base A n c hs rs) : Inner w base n hs rs := ⟨h.1, h.2.1, h.2.2.2.1, h.2.2.2.2⟩
/-- No row of the one is a row of the other. -/
def Dis (hs : List Hd) (n : Nat) (hs2 : List Hd) (m : Nat) : Prop := ∀ i j, i < n → j < m → ∀ q, (hdV (hs.getD i hd0)).ownBlock = some q → (hdV (hs2.getD j hd0)).ownBlock ≠ some q
theorem ownH_join {w w' : World} {base : Nat} {A : Option Addr} {n c m : Nat} {hs hs2 : List Hd} {rs rs2 : RList} {v' : Value} (h : OwnRsH w base A n c hs rs) (h2 : Inner w base m hs2 rs2) (hD : Dis hs n hs2 m)
    (hrow' : w'.ownsRow base 30 2 v' (n + m) (flatH hs ++ flatH hs2)) (hg : w.grownBy w' (Value.slice A n c).ownBlock) : ∃ A' c', v' = .slice A' (n + m) c' ∧ OwnRsH w' base A' (n + m) c' (hs ++ hs2) (rs ++ rs2) := by
  obtain ⟨hl, hr, hrow, hj, hd⟩ := h
  obtain ⟨hl2, hr2, hj2, hd2⟩ := h2
  have hform : ∃ A' c', v' = .slice A' (n + m) c' := by
    by_cases h0 : 0 < n + m
    · obtain ⟨g, cap, e, _⟩ := hrow'.form h0
      exact ⟨_, _, e⟩
    · have e : n + m = 0 := by omega
      rw [e] at hrow' ⊢
      rcases hrow'.2 with ⟨e, _⟩ | ⟨g, cap, cur, e, _⟩
      · exact ⟨_, _, e⟩
      · exact ⟨_, _, e⟩
  obtain ⟨A', c', rfl⟩ := hform
  have hk : ∀ {A1 : Option Addr} {n1 c1 : Nat} {zs : List Int}, OwnI w base A1 n1 c1 zs → OwnI w' base A1 n1 c1 zs := fun hO => hO.grown hg (row_ne hO.2 hrow (by decide))
  refine ⟨A', c', rfl, by simp [hl, hl2], by simp [hr, hr2], by rw [flatH_app]; exact hrow', fun j hjn => ?_, fun i j hi hjn hne q hq => ?_⟩
  · by_cases h1 : j < n
    · rw [getD_l hs _ _ j (by omega), getD_l rs _ _ j (by omega)]
      exact ⟨(hj j h1).1, hk (hj j h1).2⟩
    · rw [getD_r hs _ _ j (by omega), getD_r rs _ _ j (by omega), hl, hr]
      exact ⟨(hj2 (j - n) (by omega)).1, hk (hj2 (j - n) (by omega)).2⟩
  · by_cases h1 : i < n
    · rw [getD_l hs _ _ i (by omega)] at hq
      by_cases h2 : j < n
      · rw [getD_l hs _ _ j (by omega)]
        exact hd i j h1 h2 hne q hq
      · rw [getD_r hs _ _ j (by omega), hl]
        exact hD i (j - n) h1 (by omega) q hq
    · rw [getD_r hs _ _ i (by omega), hl] at hq
      by_cases h2 : j < n
      · rw [getD_l hs _ _ j (by omega)]
        intro e
        exact hD j (i - n) h2 (by omega) q e hq
      · rw [getD_r hs _ _ j (by omega), hl]
        exact hd2 (i - n) (j - n) (by omega) (by omega) (by omega) q hq
theorem dis_of {w : World} {lo mid : Nat} {A A2 : Option Addr} {n c m c2 : Nat} {hs hs2 : List Hd} {rs rs2 : RList} {w0 : World} (h : OwnRsH w0 lo A n c hs rs) (hm : w0.heap.size ≤ mid) (h2 : OwnRsH w mid A2 m c2 hs2 rs2) : Dis hs n hs2 m := by
  intro i j hi hj q hq e
  have h3 := ((h.2.2.2.1 i hi).2.lt q hq).2
  have h4 := ((h2.2.2.2.1 j hj).2.lt q e).1
  omega
theorem ownH_base {w : World} {base b' : Nat} {A : Option Addr} {n c : Nat} {hs : List Hd} {rs : RList} (h : OwnRsH w base A n c hs rs) (hb : b' ≤ base) : OwnRsH w b' A n c hs rs := by
  obtain ⟨hl, hr, hrow, hj, hd⟩ := h
  exact ⟨hl, hr, own_base hrow hb, fun j hjn => ⟨(hj j hjn).1, ownI_base (hj j hjn).2 hb⟩, hd⟩
/-- Nothing is appended. -/
theorem wpList_append_none {P : Program} (w : World) {ops : Array Oper} {rest : List Oper} {o : Oper} {a : Act} {Q : Exit → Act → World → Prop} (hgd : o.guard = none) (s x : Operand) (t : TypeId)
    (ho : o.op = .call { callee := .builtin .append, args := #[s, x], argTypes := #[t, t] }) (e : TypeId) (i : TypeInfo) (ht : P.underlying t = some (.slice e)) (hi : P.info? e = some i)
    (A : Option Addr) (n c : Nat) (hs : a.eval s = .slice A n c) (hx : a.eval x = .slice none 0 0) (hc : n ≤ c)
    (h : wpList P ops Q rest (a.put o.dst (.slice A n c)) w) : wpList P ops Q (o :: rest) a w := by
  refine wpList_plain hgd fun K hK => ?_
  have hr : (Builtin.append_ #[t, t] o.type #[.slice A n c, .slice none 0 0]).run P w = .ok (.slice A n c) w := by
    cases A <;> simp [Builtin.append_, run_underlying ht, sizeOf, typeInfo, hi, Builtin.lenOf, Builtin.firstCells, storeCells, hc]
  unfold Oper.wp execOp
  simp only [ho, resolve, invoke, builtin, Sem.run_bind, Sem.run_pure, Result.andThen_ok, List.map_toArray, List.map_cons, List.map_nil, hs, hx, hr]
  exact hK _ _ h
end Go.Proofs.YtpghccbknlokcaaDoor.RecsTy
