/-
  A WHEEL THAT CAME IN AS AN ARGUMENT of a law reads as a number and a list of lists of pairs.
-/
import Derived.Test.YthaecnemalpliaaTimers
import Derived.Lib.SmallJoins
import Derived.Deep.Slices
namespace Go.Proofs.Ythaecnemalpliaa.WheelOpen
open Go.ChangeShapes Go.WideShapes Go.ChangeAt Go.RowKit Go.Joins Go.Deep
open Go.Proofs.Ythaecnemalpliaa.Timers
set_option linter.unusedVariables false

/-- What a law is told of a wheel's slots. -/
def IsWheel (w : World) (A : Option Addr) (n : Nat) (ss : List TList) : Prop := IsSlots w w.heap.size A n ss ∧ n ≤ maxLen ∧ ∀ j, (ss.getD j []).length ≤ maxLen

section
variable {H : Type} {enc : TypeId × Value → H} {w : World} {base : Nat} {spare : Nat → Bool} {held : Bool}

theorem add_off (b off i : Nat) : (⟨b, off, none⟩ : Addr).add i = ⟨b, off + i, none⟩ := by
  unfold Addr.add
  split
  · subst_vars; rfl
  · rfl

theorem timers_read {fuel : Nat} {v : Value} {x : DataW H × List MemPlace} (h : DataW.trod enc Try.prog w base spare held fuel 89 [v] = some x) :
    ∃ A n c ts, v = .slice A n c ∧ IsTimers w w.heap.size A n ts ∧ n ≤ maxLen := by
  rcases open_slice Try.underlying89 h with ⟨hcs, _⟩ | ⟨a, len, cap, m, n, D, Pl, hcs, hb, hl, hm, hmm, hx, hi⟩
  · injection hcs with hcs
    exact ⟨none, 0, 0, [], hcs, ⟨rfl, fun h => absurd h (by omega)⟩, Nat.zero_le _⟩
  · injection hcs with hcs
    have hlm : len ≤ m := by rw [hmm]; split <;> omega
    have hcell : ∀ i, i < len → ∃ p : Int × Int, w.cell? (a.add (i * 2)) = some (.int .i64 p.1) ∧ w.cell? (a.add (i * 2 + 1)) = some (.int .i64 p.2) := by
      intro i hi'
      obtain ⟨cs', hc, ht'⟩ := hi i (by omega)
      have hC : Try.prog.cellsOf 95 = 2 := by kernel_rfl
      rw [hC] at hc
      obtain ⟨y0, y1, n', hx', hcl, h0, h1⟩ := trod_struct2 Try.underlying95 ht'
      obtain ⟨_, hcl2, hat⟩ := World.cells?_some hc
      match cs', hcl2 with
      | [c0, c1], _ =>
        have k0 : DataW.trod enc Try.prog w base spare held n' 3 [c0] = some y0 := by simpa [show Try.prog.cellsOf 3 = 1 by kernel_rfl] using h0
        have k1 : DataW.trod enc Try.prog w base spare held n' 3 [c1] = some y1 := by simpa [show Try.prog.cellsOf 3 = 1 by kernel_rfl] using h1
        obtain ⟨x0, e0, _⟩ := DataW.trod_int Try.underlying3 k0
        obtain ⟨x1, e1, _⟩ := DataW.trod_int Try.underlying3 k1
        injection e0 with e0
        injection e1 with e1
        subst e0 e1
        refine ⟨(x0, x1), ?_, ?_⟩
        · have := hat 0 (by omega)
          simpa [add_add] using this
        · have := hat 1 (by omega)
          simpa [add_add] using this
    obtain ⟨f, hf⟩ := choose_lt hcell
    refine ⟨some a, len, cap, (List.range len).map f, hcs, ⟨by simp, fun hp => ?_⟩, by omega⟩
    obtain ⟨b, off, spot⟩ := a
    have h00 := (hf 0 hp).1
    have hspot : spot = none := by simpa [Addr.add] using World.cell?_spot h00
    subst hspot
    have hb' : b < w.heap.size := by simpa [Addr.add] using World.block_lt_of_cell? w _ h00
    refine ⟨b, off, rfl, hb', fun j hj => ?_⟩
    have e : ((List.range len).map f).getD j (0, 0) = f j := by simp [List.getD, hj]
    rw [e]
    have h1 := hf j hj
    rw [add_off, add_off] at h1
    exact ⟨h1.1, by rw [Nat.add_assoc]; exact h1.2⟩

theorem slots_read {fuel : Nat} {v : Value} {x : DataW H × List MemPlace} (h : DataW.trod enc Try.prog w base spare held fuel 42 [v] = some x) :
    ∃ A n c ss, v = .slice A n c ∧ IsWheel w A n ss := by
  rcases open_slice1 Try.underlying42 (by kernel_rfl) h with ⟨hcs, _⟩ | ⟨a, len, cap, m, n, V, D, Pl, hcs, hb, hl, hm, hmm, hx, hi⟩
  · injection hcs with hcs
    exact ⟨none, 0, 0, [], hcs, ⟨rfl, fun h => absurd h (by omega)⟩, Nat.zero_le _, fun j => by simp⟩
  · injection hcs with hcs
    have hlm : len ≤ m := by rw [hmm]; split <;> omega
    have hcell : ∀ i, i < len → ∃ ts : TList, ∃ A n c, w.cell? (a.add i) = some (.slice A n c) ∧ IsTimers w w.heap.size A n ts ∧ n ≤ maxLen := by
      intro i hi'
      obtain ⟨h1, h2⟩ := hi i (by omega)
      obtain ⟨A', n', c', ts, e, hT, hn⟩ := timers_read h2
      exact ⟨ts, A', n', c', by rw [← e]; exact h1, hT, hn⟩
    obtain ⟨f, hf⟩ := choose_lt hcell
    have hget : ∀ j, j < len → ((List.range len).map f).getD j [] = f j := fun j hj => by simp [List.getD, hj]
    refine ⟨some a, len, cap, (List.range len).map f, hcs, ⟨by simp, fun hp => ?_⟩, by omega, fun j => ?_⟩
    · obtain ⟨b, off, spot⟩ := a
      obtain ⟨A0, n0, c0, h00, _⟩ := hf 0 hp
      have hspot : spot = none := by simpa [Addr.add] using World.cell?_spot h00
      subst hspot
      have hb' : b < w.heap.size := by simpa [Addr.add] using World.block_lt_of_cell? w _ h00
      refine ⟨b, off, rfl, hb', fun j hj => ?_⟩
      obtain ⟨A', n', c', h1, h2, _⟩ := hf j hj
      rw [add_off] at h1
      rw [hget j hj]
      exact ⟨A', n', c', h1, h2⟩
    · by_cases hj : j < len
      · obtain ⟨A', n', c', _, h2, h3⟩ := hf j hj
        rw [hget j hj, h2.1]
        exact h3
      · have : ((List.range len).map f).getD j [] = [] := by simp [List.getD, hj]
        rw [this]
        exact Nat.zero_le _

theorem open_wheel {r : Reach} {b0 : Nat} {v : Value} {d : DataW H} {p : List MemPlace} (hv : Value.okWide Try.prog w r b0 44 v) (h : DataW.Trod enc Try.prog w base spare held 44 v d p) :
    ∃ now A n c ss, v = .agg #[.int .i64 now, .slice A n c] ∧ IsWheel w A n ss := by
  obtain ⟨v0, v1, y0, y1, n, rfl, _, _, h0, h1⟩ := open_agg2 Try.underlying44 (by kernel_rfl) (by kernel_rfl) hv h
  obtain ⟨x0, e0, _⟩ := DataW.trod_int Try.underlying3 h0
  obtain ⟨A, n', c, ss, rfl, hW⟩ := slots_read h1
  injection e0 with e0
  subst e0
  exact ⟨x0, A, n', c, ss, rfl, hW⟩
end
end Go.Proofs.Ythaecnemalpliaa.WheelOpen
