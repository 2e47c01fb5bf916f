/-
  THE WALK of laws.FnExactDefaultSpec over this seat's translation.
-/
import Derived.Test.YtfabioccnaooeaaSp
import Derived.Lib.Hide
namespace Go.Proofs.Ytfabioccnaooeaa.LawDefaultSpec
open Go.ChangeShapes Go.WideShapes Go.ChangeAt Go.RowKit
open Go.Proofs.Ytfabioccnaooeaa.LK Go.Proofs.Ytfabioccnaooeaa.Sp
set_option linter.unusedVariables false
set_option maxRecDepth 100000 in
set_option maxHeartbeats 3200000 in
theorem walk (w : World) : Calls Try.prog 5 #[] w fun e w' => e = .returned (.bool true) ∧ Below w.heap.size w w' := by
  go_enter Try.func5, Try.ntmps5
  go_wp2_with fail
  refine (specDefaultSpec_any _).mono ?_
  rintro e w1 ⟨rfl, hb1⟩
  have hb1A : Below w.heap.size w (w1.alloc (.cells #[.int .i64 4, .int .i64 1, .int .i64 1, .int .i64 3, .int .i64 3, .int .i64 2, .int .i64 16, .int .i64 20, .int .i64 200, .int .i64 0, .int .i64 0] 25)) := hb1.alloc hb1.size _
  have B1 := Lib.hid (box_new w1 (.cells #[.int .i64 4, .int .i64 1, .int .i64 1, .int .i64 3, .int .i64 3, .int .i64 2, .int .i64 16, .int .i64 20, .int .i64 200, .int .i64 0, .int .i64 0] 25))
  go_wp2_with fail
  refine (defaultSpec_any _).mono ?_
  rintro e w2 ⟨rfl, hb2⟩
  have hb2A := bel_then hb1A hb2 hb1A.size
  have B2 := Lib.hid (box_below B1.out hb2)
  obtain ⟨V, hV⟩ : ∃ V, V = w2.alloc (.cells #[.int .i64 4, .int .i64 1, .int .i64 1, .int .i64 3, .int .i64 3, .int .i64 2, .int .i64 16, .int .i64 20, .int .i64 200, .int .i64 0, .int .i64 0] 25) := ⟨_, rfl⟩
  have hb3 : Below w.heap.size w V := by rw [hV]; exact hb2A.alloc hb2A.size _
  have B3 := Lib.hid (box_alloc B2.out (.cells #[.int .i64 4, .int .i64 1, .int .i64 1, .int .i64 3, .int .i64 3, .int .i64 2, .int .i64 16, .int .i64 20, .int .i64 200, .int .i64 0, .int .i64 0] 25))
  have c0 := box_cell B3.out 0 _ rfl
  have c1 := box_cell B3.out 1 _ rfl
  have c2 := box_cell B3.out 2 _ rfl
  have c3 := box_cell B3.out 3 _ rfl
  have c4 := box_cell B3.out 4 _ rfl
  have c5 := box_cell B3.out 5 _ rfl
  have c6 := box_cell B3.out 6 _ rfl
  have c7 := box_cell B3.out 7 _ rfl
  have c8 := box_cell B3.out 8 _ rfl
  have c9 := box_cell B3.out 9 _ rfl
  have c10 := box_cell B3.out 10 _ rfl
  clear hb1 hb2 B1 B2 B3 hb1A hb2A
  go_wp2_with fail
  rw [← hV]
  clear hV c0 c1 c2 c3 c4 c5 c6 c7 c8 c9 c10
  refine (eqSpec_same _ _ _ _ _ _ _ _ _ _ _ _).mono ?_
  rintro e w4 ⟨rfl, hb4⟩
  have hb5 := Lib.hid (bel_then hb3 hb4 hb3.size)
  clear hb3 hb4
  go_wp2
  go_ret
  exact ⟨rfl, hb5.out⟩
end Go.Proofs.Ytfabioccnaooeaa.LawDefaultSpec
