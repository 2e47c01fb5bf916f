/-
  A STRUCT OF INTS ALONE, and a slice of such structs, as they come in as arguments.
-/
import Derived.WalkKit
import Derived.ProofKit
import Derived.OpenShut
import Derived.Below
import Derived.Lib.SmallJoins
import Derived.Deep.Slices
import Derived.Test.YtlghdmakaocokaaRows
namespace Go.Proofs.Ytlghdmakaocokaa.FlatOpen
open Go.ChangeShapes Go.WideShapes Go.ChangeAt Go.RowKit Go.Joins Go.Deep
set_option linter.unusedVariables false
section
variable {H : Type} {enc : TypeId × Value → H} {w : World} {base : Nat} {spare : Nat → Bool} {held : Bool}

/-- The cells of a struct of ints alone are ints. -/
theorem trod_flat {t : TypeId} {fs : Array Field} {fuel : Nat} {cs : List Value} {x : DataW H × List MemPlace} (ht : Try.prog.underlying t = some (.struct fs)) (hC : Try.prog.cellsOf t = fs.size)
    (hall : ∀ (i : Nat) (f : Field), fs[i]? = some f → f.offset = i ∧ f.type = 3) (h : DataW.trod enc Try.prog w base spare held fuel t cs = some x) :
    ∃ l : List Int, l.length = fs.size ∧ cs = l.map (Value.int .i64) ∧ ∀ y ∈ l, (Lit.int .i64 y).wf = true := by
  obtain ⟨xs, n, _, _, hl, hlen, hf⟩ := DataW.trod_struct ht h
  rw [hC] at hl
  have hone : ∀ i, i < fs.size → ∃ y : Int, cs[i]? = some (.int .i64 y) ∧ (Lit.int .i64 y).wf = true := by
    intro i hi
    have hg : fs[i]? = some fs[i] := Array.getElem?_eq_getElem hi
    obtain ⟨ho, hty⟩ := hall i _ hg
    have hk := hf i _ hg
    have hc : Try.prog.cellsOf 3 = 1 := by kernel_rfl
    have hx : xs[i]? = some xs[i] := List.getElem?_eq_getElem (by omega)
    have hcs : cs[i]? = some cs[i] := List.getElem?_eq_getElem (by omega)
    rw [ho, hty, hc, hx] at hk
    have e1 : (cs.drop i).take 1 = [cs[i]] := by
      rw [List.drop_eq_getElem_cons (by omega)]
      rfl
    rw [e1] at hk
    obtain ⟨y, e, hw⟩ := DataW.trod_int Try.underlying3 hk
    injection e with e
    exact ⟨y, by rw [hcs, e], hw.2⟩
  obtain ⟨f, hf2⟩ := choose_lt hone
  refine ⟨(List.range fs.size).map f, by simp, ?_, ?_⟩
  · apply List.ext_getElem?
    intro i
    by_cases hi : i < fs.size
    · rw [(hf2 i hi).1]; simp [hi]
    · rw [List.getElem?_eq_none (by omega), List.getElem?_eq_none (by simp; omega)]
  · intro y hy
    obtain ⟨i, hi, rfl⟩ := List.mem_map.1 hy
    exact (hf2 i (by simpa using hi)).2
theorem add_off (b off i : Nat) : (⟨b, off, none⟩ : Addr).add i = ⟨b, off + i, none⟩ := by
  unfold Addr.add
  split
  · subst_vars; rfl
  · rfl
set_option maxRecDepth 100000 in
/-- A struct of ints alone, by value. -/
theorem open_flat {r : Reach} {b0 : Nat} {t : TypeId} {fs : Array Field} {v : Value} {d : DataW H} {p : List MemPlace} (ht : Try.prog.underlying t = some (.struct fs)) (hC : Try.prog.cellsOf t = fs.size)
    (hall : ∀ (i : Nat) (f : Field), fs[i]? = some f → f.offset = i ∧ f.type = 3) (hv : Value.okWide Try.prog w r b0 t v) (h : DataW.Trod enc Try.prog w base spare held t v d p) :
    ∃ l : List Int, l.length = fs.size ∧ v = .agg (l.map (Value.int .i64)).toArray ∧ ∀ y ∈ l, (Lit.int .i64 y).wf = true := by
  obtain ⟨cs, rfl, hsz⟩ := okWide_struct ht hv
  obtain ⟨fuel, hf⟩ := h
  obtain ⟨l, h1, h2, h3⟩ := trod_flat ht hC hall hf
  refine ⟨l, h1, ?_, h3⟩
  have e : (Value.agg cs).cells.toList = cs.toList := by simp [Value.cells]
  rw [← h2, e]
/-- A slice of structs of ints alone: len of them, k cells each, in one block. -/
theorem open_flats {s t : TypeId} {fs : Array Field} {k fuel : Nat} {v : Value} {x : DataW H × List MemPlace} (hs : Try.prog.underlying s = some (.slice t)) (ht : Try.prog.underlying t = some (.struct fs)) (hC : Try.prog.cellsOf t = fs.size) (hk : fs.size = k) (hk0 : 0 < k)
    (hall : ∀ (i : Nat) (f : Field), fs[i]? = some f → f.offset = i ∧ f.type = 3) (h : DataW.trod enc Try.prog w base spare held fuel s [v] = some x) :
    ∃ A n c, ∃ f : Nat → List Int, v = .slice A n c ∧ n ≤ maxLen ∧ (0 < n → ∃ b off, A = some ⟨b, off, none⟩ ∧ b < w.heap.size ∧ ∀ j, j < n → (f j).length = k ∧ (∀ y ∈ f j, (Lit.int .i64 y).wf = true) ∧ ∀ i, i < k → w.cell? ⟨b, off + (j * k + i), none⟩ = ((f j)[i]?).map (Value.int .i64)) := by
  rcases open_slice hs h with ⟨hcs, _⟩ | ⟨a, len, cap, m, n, D, Pl, hcs, hb, hl, hm, hmm, hx, hi⟩
  · injection hcs with hcs
    exact ⟨none, 0, 0, fun _ => [], hcs, Nat.zero_le _, fun h => absurd h (by omega)⟩
  · injection hcs with hcs
    have hlm : len ≤ m := by rw [hmm]; split <;> omega
    have hcell : ∀ i, i < len → ∃ l : List Int, l.length = k ∧ (∀ y ∈ l, (Lit.int .i64 y).wf = true) ∧ ∀ q, q < k → w.cell? (a.add (i * k + q)) = (l[q]?).map (Value.int .i64) := by
      intro i hi'
      obtain ⟨cs', hc, ht'⟩ := hi i (by omega)
      rw [hC, hk] at hc
      obtain ⟨_, hcl2, hat⟩ := World.cells?_some hc
      obtain ⟨l, h1, h2, h3⟩ := trod_flat ht hC hall ht'
      refine ⟨l, h1.trans hk, h3, fun q hq => ?_⟩
      have h4 := hat q (by omega)
      rw [add_add] at h4
      rw [h4, h2, List.getElem?_map]
    obtain ⟨f, hf⟩ := choose_lt hcell
    refine ⟨some a, len, cap, f, hcs, by omega, fun hp => ?_⟩
    obtain ⟨b, off, spot⟩ := a
    obtain ⟨h01, _, h02⟩ := hf 0 hp
    have h00 := h02 0 hk0
    rw [List.getElem?_eq_getElem (by omega)] at h00
    have hspot : spot = none := by simpa [Addr.add] using World.cell?_spot h00
    subst hspot
    have hb' : b < w.heap.size := by simpa [Addr.add] using World.block_lt_of_cell? w _ h00
    refine ⟨b, off, rfl, hb', fun j hj => ?_⟩
    obtain ⟨h1, h3, h2⟩ := hf j hj
    refine ⟨h1, h3, fun i hi2 => ?_⟩
    rw [← add_off]
    exact h2 i hi2
end
end Go.Proofs.Ytlghdmakaocokaa.FlatOpen
