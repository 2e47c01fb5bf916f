/-
  THE WALK of laws.FnExactParseSpec over this seat's translation.
-/
import Derived.Test.YtfabioccnaooeaaDoorSpQ
namespace Go.Proofs.YtfabioccnaooeaaDoor.LawParseSpec
open Go.ChangeShapes Go.WideShapes Go.ChangeAt Go.RowKit
open Go.Proofs.YtfabioccnaooeaaDoor.Env Go.Proofs.YtfabioccnaooeaaDoor.LK Go.Proofs.YtfabioccnaooeaaDoor.Str Go.Proofs.YtfabioccnaooeaaDoor.Sp Go.Proofs.YtfabioccnaooeaaDoor.SpW Go.Proofs.YtfabioccnaooeaaDoor.SpR
set_option linter.unusedVariables false
theorem same {l : List UInt8} {L M : List Int} {b c : Bool} {Z : List Int} (h : (b = true ∧ IsT l L) ∨ (b = false ∧ L = Z ∧ ∀ L, ¬ IsT l L)) (k : (c = true ∧ IsT l M) ∨ (c = false ∧ M = Z ∧ ∀ L, ¬ IsT l L)) : L = M ∧ b = c := by
  rcases h with ⟨h1, h2⟩ | ⟨h1, h2, h3⟩ <;> rcases k with ⟨k1, k2⟩ | ⟨k1, k2, k3⟩
  · exact ⟨isT_one h2 k2, h1.trans k1.symm⟩
  · exact absurd h2 (k3 _)
  · exact absurd k2 (h3 _)
  · exact ⟨h2.trans k2.symm, h1.trans k1.symm⟩
set_option maxRecDepth 100000 in
set_option maxHeartbeats 3200000 in
theorem walk (l : List UInt8) (w : World) (hE : Lib3 w.heap.size w) : Calls Tryd.prog 5 #[.string (bstr l)] w fun e w' => e = .returned (.bool true) ∧ Below w.heap.size w w' := by
  have HE := Lib.hid hE
  clear hE
  have hsz := bstr_size l
  by_cases hbig : 1048576 < l.length
  · go_enter Tryd.func5, Tryd.ntmps5
    go_wp2_with fail
    go_ret
    exact ⟨rfl, Below.refl _ _⟩
  have hl : l.length ≤ 2000000 := by omega
  go_enter Tryd.func5, Tryd.ntmps5
  go_wp2_with fail
  refine (specParseSpec_any l _ hl).mono ?_
  rintro e w1 ⟨x0, x1, x2, x3, x4, x5, x6, x7, x8, x9, x10, b, rfl, hb1, hX⟩
  have HX := Lib.hid hX
  clear hX
  have BX := Lib.hid (box_new w1 (.cells #[.int .i64 x0, .int .i64 x1, .int .i64 x2, .int .i64 x3, .int .i64 x4, .int .i64 x5, .int .i64 x6, .int .i64 x7, .int .i64 x8, .int .i64 x9, .int .i64 x10] 25))
  have hbA : Below w.heap.size w (w1.alloc (.cells #[.int .i64 x0, .int .i64 x1, .int .i64 x2, .int .i64 x3, .int .i64 x4, .int .i64 x5, .int .i64 x6, .int .i64 x7, .int .i64 x8, .int .i64 x9, .int .i64 x10] 25)) := hb1.alloc hb1.size _
  obtain ⟨w2, hw2⟩ : ∃ x, x = w1.alloc (.cells #[.int .i64 x0, .int .i64 x1, .int .i64 x2, .int .i64 x3, .int .i64 x4, .int .i64 x5, .int .i64 x6, .int .i64 x7, .int .i64 x8, .int .i64 x9, .int .i64 x10] 25) := ⟨_, rfl⟩
  rw [← hw2] at BX hbA
  go_wp2_with fail
  rw [← hw2]
  clear hw2 hb1
  refine (parseSpec_any l w.heap.size _ (HE.out.on hbA) hbA.size hl).mono ?_
  rintro e w3 ⟨y0, y1, y2, y3, y4, y5, y6, y7, y8, y9, y10, c, rfl, hb3, hY⟩
  obtain ⟨e1, e2⟩ := same HX.out hY
  simp only [List.cons.injEq, and_true] at e1
  obtain ⟨rfl, rfl, rfl, rfl, rfl, rfl, rfl, rfl, rfl, rfl, rfl⟩ := e1
  subst e2
  have BX3 := Lib.hid (box_below BX.out hb3)
  have hb03 := bel_then hbA hb3 hbA.size
  have BXA := Lib.hid (box_alloc BX3.out (.cells #[.int .i64 x0, .int .i64 x1, .int .i64 x2, .int .i64 x3, .int .i64 x4, .int .i64 x5, .int .i64 x6, .int .i64 x7, .int .i64 x8, .int .i64 x9, .int .i64 x10] 25))
  have BY := Lib.hid (box_new w3 (.cells #[.int .i64 x0, .int .i64 x1, .int .i64 x2, .int .i64 x3, .int .i64 x4, .int .i64 x5, .int .i64 x6, .int .i64 x7, .int .i64 x8, .int .i64 x9, .int .i64 x10] 25))
  have hbB : Below w.heap.size w (w3.alloc (.cells #[.int .i64 x0, .int .i64 x1, .int .i64 x2, .int .i64 x3, .int .i64 x4, .int .i64 x5, .int .i64 x6, .int .i64 x7, .int .i64 x8, .int .i64 x9, .int .i64 x10] 25)) := hb03.alloc hb03.size _
  obtain ⟨w4, hw4⟩ : ∃ x, x = w3.alloc (.cells #[.int .i64 x0, .int .i64 x1, .int .i64 x2, .int .i64 x3, .int .i64 x4, .int .i64 x5, .int .i64 x6, .int .i64 x7, .int .i64 x8, .int .i64 x9, .int .i64 x10] 25) := ⟨_, rfl⟩
  rw [← hw4] at BXA BY hbB
  clear HX hY hb3 BX BX3 hb03 hbA
  have cx0 : (w3.alloc (.cells #[.int .i64 x0, .int .i64 x1, .int .i64 x2, .int .i64 x3, .int .i64 x4, .int .i64 x5, .int .i64 x6, .int .i64 x7, .int .i64 x8, .int .i64 x9, .int .i64 x10] 25)).cell? ⟨w1.heap.size, 0, none⟩ = some (.int .i64 x0) := by rw [← hw4]; exact box_cell BXA.out 0 _ rfl
  have cx1 : (w3.alloc (.cells #[.int .i64 x0, .int .i64 x1, .int .i64 x2, .int .i64 x3, .int .i64 x4, .int .i64 x5, .int .i64 x6, .int .i64 x7, .int .i64 x8, .int .i64 x9, .int .i64 x10] 25)).cell? ⟨w1.heap.size, 1, none⟩ = some (.int .i64 x1) := by rw [← hw4]; exact box_cell BXA.out 1 _ rfl
  have cx2 : (w3.alloc (.cells #[.int .i64 x0, .int .i64 x1, .int .i64 x2, .int .i64 x3, .int .i64 x4, .int .i64 x5, .int .i64 x6, .int .i64 x7, .int .i64 x8, .int .i64 x9, .int .i64 x10] 25)).cell? ⟨w1.heap.size, 2, none⟩ = some (.int .i64 x2) := by rw [← hw4]; exact box_cell BXA.out 2 _ rfl
  have cx3 : (w3.alloc (.cells #[.int .i64 x0, .int .i64 x1, .int .i64 x2, .int .i64 x3, .int .i64 x4, .int .i64 x5, .int .i64 x6, .int .i64 x7, .int .i64 x8, .int .i64 x9, .int .i64 x10] 25)).cell? ⟨w1.heap.size, 3, none⟩ = some (.int .i64 x3) := by rw [← hw4]; exact box_cell BXA.out 3 _ rfl
  have cx4 : (w3.alloc (.cells #[.int .i64 x0, .int .i64 x1, .int .i64 x2, .int .i64 x3, .int .i64 x4, .int .i64 x5, .int .i64 x6, .int .i64 x7, .int .i64 x8, .int .i64 x9, .int .i64 x10] 25)).cell? ⟨w1.heap.size, 4, none⟩ = some (.int .i64 x4) := by rw [← hw4]; exact box_cell BXA.out 4 _ rfl
  have cx5 : (w3.alloc (.cells #[.int .i64 x0, .int .i64 x1, .int .i64 x2, .int .i64 x3, .int .i64 x4, .int .i64 x5, .int .i64 x6, .int .i64 x7, .int .i64 x8, .int .i64 x9, .int .i64 x10] 25)).cell? ⟨w1.heap.size, 5, none⟩ = some (.int .i64 x5) := by rw [← hw4]; exact box_cell BXA.out 5 _ rfl
  have cx6 : (w3.alloc (.cells #[.int .i64 x0, .int .i64 x1, .int .i64 x2, .int .i64 x3, .int .i64 x4, .int .i64 x5, .int .i64 x6, .int .i64 x7, .int .i64 x8, .int .i64 x9, .int .i64 x10] 25)).cell? ⟨w1.heap.size, 6, none⟩ = some (.int .i64 x6) := by rw [← hw4]; exact box_cell BXA.out 6 _ rfl
  have cx7 : (w3.alloc (.cells #[.int .i64 x0, .int .i64 x1, .int .i64 x2, .int .i64 x3, .int .i64 x4, .int .i64 x5, .int .i64 x6, .int .i64 x7, .int .i64 x8, .int .i64 x9, .int .i64 x10] 25)).cell? ⟨w1.heap.size, 7, none⟩ = some (.int .i64 x7) := by rw [← hw4]; exact box_cell BXA.out 7 _ rfl
  have cx8 : (w3.alloc (.cells #[.int .i64 x0, .int .i64 x1, .int .i64 x2, .int .i64 x3, .int .i64 x4, .int .i64 x5, .int .i64 x6, .int .i64 x7, .int .i64 x8, .int .i64 x9, .int .i64 x10] 25)).cell? ⟨w1.heap.size, 8, none⟩ = some (.int .i64 x8) := by rw [← hw4]; exact box_cell BXA.out 8 _ rfl
  have cx9 : (w3.alloc (.cells #[.int .i64 x0, .int .i64 x1, .int .i64 x2, .int .i64 x3, .int .i64 x4, .int .i64 x5, .int .i64 x6, .int .i64 x7, .int .i64 x8, .int .i64 x9, .int .i64 x10] 25)).cell? ⟨w1.heap.size, 9, none⟩ = some (.int .i64 x9) := by rw [← hw4]; exact box_cell BXA.out 9 _ rfl
  have cx10 : (w3.alloc (.cells #[.int .i64 x0, .int .i64 x1, .int .i64 x2, .int .i64 x3, .int .i64 x4, .int .i64 x5, .int .i64 x6, .int .i64 x7, .int .i64 x8, .int .i64 x9, .int .i64 x10] 25)).cell? ⟨w1.heap.size, 10, none⟩ = some (.int .i64 x10) := by rw [← hw4]; exact box_cell BXA.out 10 _ rfl
  have hbb : (b != b) = false := by simp
  go_wp2_with fail
  rw [← hw4]
  clear hw4
  refine (eqSpec_same _ _ _ _ _ _ _ _ _ _ _ _).mono ?_
  rintro e w5 ⟨rfl, hb5⟩
  have HB := Lib.hid (bel_then hbB hb5 hbB.size)
  clear hb5 hbB
  go_wp2
  go_ret
  exact ⟨rfl, HB.out⟩
end Go.Proofs.YtfabioccnaooeaaDoor.LawParseSpec
