/-
  THE REVS OF A LIST OF PODS, rising, each once; a set of ints as the datum of a map.
-/
import Derived.Test.YtpghccbknlokcaaFleetV
namespace Go.Proofs.Ytpghccbknlokcaa.RevV
open Go.Proofs.Ytpghccbknlokcaa.Pods Go.Proofs.Ytpghccbknlokcaa.FleetV
set_option linter.unusedVariables false

def AscI (l : List Int) : Prop := l.Pairwise (· < ·)
def insI (x : Int) : List Int → List Int
  | [] => [x]
  | y :: r => if x < y then x :: y :: r else y :: insI x r
def offI (x : Int) (l : List Int) : List Int := l.filter fun y => decide (y ≠ x)
def insK (x : Int) (l : List Int) : List Int := insI x (offI x l)
theorem asc_cons {x : Int} {l : List Int} : AscI (x :: l) ↔ (∀ y ∈ l, x < y) ∧ AscI l := List.pairwise_cons
theorem mem_insI {x y : Int} {l : List Int} : y ∈ insI x l ↔ y = x ∨ y ∈ l := by
  induction l with
  | nil => simp [insI]
  | cons a l ih =>
    unfold insI
    split
    · simp
    · simp [ih]; grind
theorem mem_insK {x y : Int} {l : List Int} : y ∈ insK x l ↔ y = x ∨ y ∈ l := by
  unfold insK
  rw [mem_insI]
  simp [offI]
  grind
theorem asc_insI {x : Int} {l : List Int} (h : AscI l) (hp : ∀ y ∈ l, y ≠ x) : AscI (insI x l) := by
  induction l with
  | nil => simp [insI, AscI]
  | cons a l ih =>
    obtain ⟨h1, h2⟩ := asc_cons.1 h
    unfold insI
    split
    · rename_i hlt
      refine asc_cons.2 ⟨fun q hq => ?_, h⟩
      rcases List.mem_cons.1 hq with rfl | hq
      · exact hlt
      · have := h1 q hq; omega
    · rename_i hlt
      refine asc_cons.2 ⟨fun q hq => ?_, ih h2 (fun q hq => hp q (by simp [hq]))⟩
      have := hp a (by simp)
      rcases mem_insI.1 hq with rfl | hq
      · omega
      · exact h1 q hq
theorem asc_insK {x : Int} {l : List Int} (h : AscI l) : AscI (insK x l) := asc_insI (List.Pairwise.filter _ h) (fun q hq => by simp [offI] at hq; exact hq.2)
theorem len_insI (x : Int) (l : List Int) : (insI x l).length = l.length + 1 := by
  induction l with
  | nil => rfl
  | cons a l ih => unfold insI; split <;> simp [ih]
theorem len_insK (x : Int) (l : List Int) : (insK x l).length ≤ l.length + 1 := by
  unfold insK
  rw [len_insI]
  have := List.length_filter_le (fun y => decide (y ≠ x)) l
  unfold offI
  omega
theorem asc_ext : ∀ {a b : List Int}, AscI a → AscI b → (∀ y, y ∈ a ↔ y ∈ b) → a = b
  | [], [], _, _, _ => rfl
  | [], y :: s, _, _, h => by have := (h y).2 (by simp); simp at this
  | x :: r, [], _, _, h => by have := (h x).1 (by simp); simp at this
  | x :: r, y :: s, ha, hb, h => by
    obtain ⟨a1, a2⟩ := asc_cons.1 ha
    obtain ⟨b1, b2⟩ := asc_cons.1 hb
    have e : x = y := by
      rcases List.mem_cons.1 ((h x).1 (by simp)) with e | hx
      · exact e
      · rcases List.mem_cons.1 ((h y).2 (by simp)) with e | hy
        · exact e.symm
        · have := a1 y hy; have := b1 x hx; omega
    subst e
    rw [asc_ext a2 b2 (fun z => ⟨fun hz => by
      rcases List.mem_cons.1 ((h z).1 (by simp [hz])) with e | hz'
      · have := a1 z hz; omega
      · exact hz', fun hz => by
      rcases List.mem_cons.1 ((h z).2 (by simp [hz])) with e | hz'
      · have := b1 z hz; omega
      · exact hz'⟩)]
/-- The Revs, rising, each once. -/
def revV (ps : PList) : List Int := ps.foldl (fun l p => insK p.2.1 l) []
theorem rev_gen (ps : PList) : ∀ l, AscI l → AscI (ps.foldl (fun l p => insK p.2.1 l) l) ∧ (∀ y, y ∈ ps.foldl (fun l p => insK p.2.1 l) l ↔ y ∈ l ∨ ∃ p ∈ ps, p.2.1 = y) ∧ (ps.foldl (fun l p => insK p.2.1 l) l).length ≤ l.length + ps.length := by
  induction ps with
  | nil => intro l h; exact ⟨h, fun y => by simp, by simp⟩
  | cons p ps ih =>
    intro l h
    obtain ⟨h1, h2, h3⟩ := ih (insK p.2.1 l) (asc_insK h)
    refine ⟨h1, fun y => ?_, ?_⟩
    · rw [List.foldl_cons, h2 y, mem_insK]
      simp
      grind
    · rw [List.foldl_cons]
      have := len_insK p.2.1 l
      simp
      omega
theorem rev_asc (ps : PList) : AscI (revV ps) := (rev_gen ps [] List.Pairwise.nil).1
theorem rev_mem (ps : PList) (y : Int) : y ∈ revV ps ↔ ∃ p ∈ ps, p.2.1 = y := by
  have := (rev_gen ps [] List.Pairwise.nil).2.1 y
  simpa [revV] using this
theorem rev_len (ps : PList) : (revV ps).length ≤ ps.length := by
  have := (rev_gen ps [] List.Pairwise.nil).2.2
  simpa [revV] using this
theorem rev_eq {ps : PList} {l : List Int} (h : AscI l) (hm : ∀ y, y ∈ l ↔ ∃ p ∈ ps, p.2.1 = y) : l = revV ps := asc_ext h (rev_asc ps) (fun y => (hm y).trans (rev_mem ps y).symm)
/-- A set of ints as the datum of a map. -/
def entB (x : Int) : Lit × DataW Value := (.int .i64 x, .held (.bool true))
def mapB (l : List Int) : DataW Value := .map (l.map entB)
theorem mapB_put (l : List Int) (x : Int) : (mapB l).put (.int .i64 x) (.held (.bool true)) = mapB (insK x l) := by
  have h1 : (l.map entB).filter (fun e => !e.1.sameKey (.int .i64 x)) = (offI x l).map entB := by
    unfold offI
    rw [List.filter_map]
    congr 1
    apply List.filter_congr
    intro y _
    show (!(Lit.int .i64 y).sameKey (.int .i64 x)) = _
    rw [same_int]
    simp
  have h2 : ∀ m : List Int, DataW.insert (entB x) (m.map entB) = (insI x m).map entB := by
    intro m
    induction m with
    | nil => rfl
    | cons a m ih =>
      rw [List.map_cons]
      unfold DataW.insert insI
      have e : (entB x).1.before (entB a).1 = decide (x < a) := rfl
      rw [e, ih]
      by_cases h : x < a <;> simp [h]
  show DataW.map (DataW.insert (entB x) ((l.map entB).filter (fun e => !e.1.sameKey (.int .i64 x)))) = _
  rw [h1, h2]
  rfl
theorem mapB_keys (l : List Int) : intKeys (mapB l) = l := by
  simp only [intKeys, mapB, List.map_map]
  have : (fun p : Lit × DataW Value => Go.intOf p.1) ∘ entB = id := by funext x; rfl
  rw [show ((fun p : Lit × DataW Value => Go.intOf p.1) ∘ entB) = id from this]
  simp
theorem mapB_size (l : List Int) : Maps.size (mapB l) = l.length := by simp [mapB, Maps.size]
def revD (d : PList × Int) : List Int := if FGood d.1 d.2 then revV d.1 else []
/-! the next one of a rising list -/
theorem next_some {l : List Int} {k : Nat} {last b : Int} (h : AscI l) (hk : k ≤ l.length) (hl : k = 0 ∨ last = l.getD (k - 1) 0) (hb : b ∈ l) (hgt : k = 0 ∨ last < b) (hmin : ∀ y ∈ l, (k = 0 ∨ last < y) → b ≤ y) : k < l.length ∧ b = l.getD k 0 := by
  have at_lt : ∀ i j, i < j → j < l.length → l.getD i 0 < l.getD j 0 := fun i j hij hj => by
    have := List.pairwise_iff_getElem.1 h i j (by omega) hj hij
    simpa [List.getD, hj, show i < l.length by omega] using this
  obtain ⟨i, hi, hib⟩ := List.mem_iff_getElem.1 hb
  have hib : l.getD i 0 = b := by simpa [List.getD, hi] using hib
  have hik : k ≤ i := by
    rcases Nat.lt_or_ge i k with h1 | h1
    · have h2 := hl.resolve_left (by omega)
      have h3 := hgt.resolve_left (by omega)
      rcases Nat.lt_or_ge i (k - 1) with h4 | h4
      · have := at_lt i (k - 1) h4 (by omega); omega
      · have : i = k - 1 := by omega
        subst this; omega
    · exact h1
  have hkl : k < l.length := by omega
  refine ⟨hkl, ?_⟩
  have hm := hmin (l.getD k 0) (by simp [List.getD, hkl]) (by
    rcases Nat.eq_zero_or_pos k with h0 | h0
    · exact .inl h0
    · have := at_lt (k - 1) k (by omega) hkl
      exact .inr (by rw [hl.resolve_left (by omega)]; exact this))
  rcases Nat.lt_or_ge k i with h1 | h1
  · have := at_lt k i h1 hi; omega
  · have : i = k := by omega
    subst this; exact hib.symm
theorem next_none {l : List Int} {k : Nat} {last : Int} (h : AscI l) (hk : k ≤ l.length) (hl : k = 0 ∨ last = l.getD (k - 1) 0) (hno : ∀ y ∈ l, ¬ (k = 0 ∨ last < y)) : k = l.length := by
  rcases Nat.lt_or_ge k l.length with h1 | h1
  · exfalso
    refine hno (l.getD k 0) (by simp [List.getD, h1]) ?_
    rcases Nat.eq_zero_or_pos k with h0 | h0
    · exact .inl h0
    · have := List.pairwise_iff_getElem.1 h (k - 1) k (by omega) h1 (by omega)
      refine .inr ?_
      rw [hl.resolve_left (by omega)]
      simpa [List.getD, h1, show k - 1 < l.length by omega] using this
  · omega
end Go.Proofs.Ytpghccbknlokcaa.RevV
