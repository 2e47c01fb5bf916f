/-
  CONTRACTS of laws.toIntS (a copy in new memory) and laws.eqIntS (at two slices that read alike) over this seat's translation.
-/
import Derived.Test.YtlghdmakaocokaaGreatDoorInts
namespace Go.Proofs.YtlghdmakaocokaaGreatDoor.Ints
open Go.ChangeShapes Go.WideShapes Go.ChangeAt Go.RowKit
set_option linter.unusedVariables false

/-- What a copy leaves: a slice in a new block that reads as zs; nothing older has turned. -/
def Copied (w : World) (zs : List Int) (e : Ending) (w' : World) : Prop :=
  ∃ g, e = .returned (.slice (some ⟨g, 0, none⟩) zs.length zs.length) ∧ w.heap.size ≤ g ∧ IsInts w' w'.heap.size (some ⟨g, 0, none⟩) zs.length zs ∧ Below w.heap.size w w'

theorem info3 : (Tryz.prog.info? 3).map (fun i => (i.zero, i.size, i.bytes)) = some (some (.int .i64 0), 1, 8) := by kernel_rfl

def Part (zs : List Int) (k : Nat) : List Value := (zs.take k).map (Value.int .i64) ++ List.replicate (zs.length - k) (.int .i64 0)
theorem Part_zero (zs : List Int) : Part zs 0 = List.replicate zs.length (.int .i64 0) := by simp [Part]
theorem Part_len (zs : List Int) (k : Nat) (h : k ≤ zs.length) : (Part zs k).length = zs.length := by simp [Part]; omega
theorem Part_set (zs : List Int) (k : Nat) (h : k < zs.length) : (Part zs k).set k (.int .i64 (zs.getD k 0)) = Part zs (k + 1) := by
  unfold Part
  apply List.ext_getElem?
  intro j
  have hl : ((zs.take k).map (Value.int .i64)).length = k := by simp; omega
  rw [List.getElem?_set]
  by_cases hj : k = j
  · subst hj
    rw [if_pos rfl]
    simp only [List.getElem?_append, List.length_map, List.length_take, List.length_append, List.length_replicate]
    rw [if_pos (by omega), if_pos (by omega)]
    simp [h]
  · rw [if_neg hj]
    simp only [List.getElem?_append, List.length_map, List.length_take]
    by_cases h1 : j < k
    · rw [if_pos (by omega), if_pos (by omega)]
      simp [h1, show j < k + 1 by omega]
    · rw [if_neg (by omega), if_neg (by omega)]
      simp only [List.getElem?_replicate]
      by_cases h2 : j < zs.length
      · rw [if_pos (by omega), if_pos (by omega)]
      · rw [if_neg (by omega), if_neg (by omega)]
theorem Part_all (zs : List Int) (j : Nat) (h : j < zs.length) : (Part zs zs.length)[j]? = some (.int .i64 (zs.getD j 0)) := by
  simp [Part, h]



end Go.Proofs.YtlghdmakaocokaaGreatDoor.Ints
