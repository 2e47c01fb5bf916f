/-
  THE CONTRACTS of the model's DrawCeiling and DrawStepsNeeded over this seat's translation: some spec, whatever the code.
-/
import Derived.Test.YtmmdpljimjfkdaaDrawSb
namespace Go.Proofs.Ytmmdpljimjfkdaa.DrawCl
open Go.ChangeShapes Go.WideShapes Go.ChangeAt Go.RowKit
open Go.Proofs.Ytmmdpljimjfkdaa.LK Go.Proofs.Ytmmdpljimjfkdaa.Sp Go.Proofs.Ytmmdpljimjfkdaa.Put Go.Proofs.Ytmmdpljimjfkdaa.Draw Go.Proofs.Ytmmdpljimjfkdaa.DrawSp Go.Proofs.Ytmmdpljimjfkdaa.DrawSb
set_option linter.unusedVariables false
set_option linter.unusedSimpArgs false
/-- Some spec, drawn. -/
def ClSaid (w : World) (e : Ending) (w' : World) : Prop := ∃ x0 x1 x2 x3 x4 x5 x6 x7 x8 x9 x10 : Int, e = .returned (.agg #[.int .i64 x0, .int .i64 x1, .int .i64 x2, .int .i64 x3, .int .i64 x4, .int .i64 x5, .int .i64 x6, .int .i64 x7, .int .i64 x8, .int .i64 x9, .int .i64 x10]) ∧ Below w.heap.size w w'
set_option maxRecDepth 100000 in
set_option maxHeartbeats 6400000 in
theorem drawCeiling_any (w : World) (B : Nat) (hB : B ≤ w.heap.size) (A : Option Addr) (n cap : Nat) (zs : List UInt8) (hb : IsBytes w B A n zs) (hn : n ≤ 1048576) : Calls Try.prog 54 #[.slice A n cap] w (ClSaid w) := by
  have KR := Lib.hid (box_new w (.cells #[.int .i64 0, .int .i64 0, .int .i64 0, .int .i64 0, .int .i64 0, .int .i64 0, .int .i64 0, .int .i64 0, .int .i64 0, .int .i64 0, .int .i64 0] 25))
  obtain ⟨V, hV⟩ : ∃ V, V = w.alloc (.cells #[.int .i64 0, .int .i64 0, .int .i64 0, .int .i64 0, .int .i64 0, .int .i64 0, .int .i64 0, .int .i64 0, .int .i64 0, .int .i64 0, .int .i64 0] 25) := ⟨_, rfl⟩
  rw [← hV] at KR
  have hbV : Below w.heap.size w V := by rw [hV]; exact bel1 _ _
  have HB : Hid (IsBytes V B A n zs) := hb.keep fun p hp => hbV.cell (by omega)
  clear hb
  have hlV : w.heap.size < V.heap.size := box_lt KR.out
  have HL := Lib.hid hbV
  go_enter Try.func54, Try.ntmps54
  go_wp2_with fail
  rw [← hV]
  clear hV hbV
  refine (draw6_any _ B (by omega) A n cap zs HB.out hn).mono ?_
  rintro e w1 ⟨g, x0, x1, x2, x3, x4, x5, x6, x7, x8, x9, x10, rfl, hg0, hsm, hc, hb1⟩
  have hL1 := bel_then HL.out hb1 HL.out.size
  have KR1 := box_alloc (box_below KR.out hb1) (.cells #[.int .i64 x0, .int .i64 x1, .int .i64 x2, .int .i64 x3, .int .i64 x4, .int .i64 x5, .int .i64 x6, .int .i64 x7, .int .i64 x8, .int .i64 x9, .int .i64 x10] 25)
  have KX1 := box_new w1 (.cells #[.int .i64 x0, .int .i64 x1, .int .i64 x2, .int .i64 x3, .int .i64 x4, .int .i64 x5, .int .i64 x6, .int .i64 x7, .int .i64 x8, .int .i64 x9, .int .i64 x10] 25)
  have HL1 := hL1.alloc hL1.size (.cells #[.int .i64 x0, .int .i64 x1, .int .i64 x2, .int .i64 x3, .int .i64 x4, .int .i64 x5, .int .i64 x6, .int .i64 x7, .int .i64 x8, .int .i64 x9, .int .i64 x10] 25)
  have c0 := box_cell KX1 0 _ rfl
  have c1 := box_cell KX1 1 _ rfl
  have c2 := box_cell KX1 2 _ rfl
  have c3 := box_cell KX1 3 _ rfl
  have c4 := box_cell KX1 4 _ rfl
  have c5 := box_cell KX1 5 _ rfl
  have c6 := box_cell KX1 6 _ rfl
  have c7 := box_cell KX1 7 _ rfl
  have c8 := box_cell KX1 8 _ rfl
  have c9 := box_cell KX1 9 _ rfl
  have c10 := box_cell KX1 10 _ rfl
  clear KR HB HL hb1 hL1 hc hsm
  have RB := setRow_box (vs := #[.int .i64 x0, .int .i64 x1, .int .i64 x2, .int .i64 x3, .int .i64 x4, .int .i64 x5, .int .i64 x6, .int .i64 x7, .int .i64 x8, .int .i64 x9, .int .i64 x10]) KR1
  have r0 := box_cell RB 0 _ rfl
  have r1 := box_cell RB 1 _ rfl
  have r2 := box_cell RB 2 _ rfl
  have r3 := box_cell RB 3 _ rfl
  have r4 := box_cell RB 4 _ rfl
  have r5 := box_cell RB 5 _ rfl
  have r6 := box_cell RB 6 _ rfl
  have r7 := box_cell RB 7 _ rfl
  have r8 := box_cell RB 8 _ rfl
  have r9 := box_cell RB 9 _ rfl
  have r10 := box_cell RB 10 _ rfl
  have HF := Lib.hid (setRow_below HL1 w.heap.size #[.int .i64 x0, .int .i64 x1, .int .i64 x2, .int .i64 x3, .int .i64 x4, .int .i64 x5, .int .i64 x6, .int .i64 x7, .int .i64 x8, .int .i64 x9, .int .i64 x10] (Nat.le_refl _) (HL1).size)
  go_wp2_with (refine wpList_put rfl rfl 25 _ _ rfl w.heap.size _ rfl rfl _ _ KR1 (Try.sizeOf25 _) rfl (by simp [Value.oneCell']) ?_)
  exact bodyPost_ret (v := .agg #[.int .i64 x0, .int .i64 x1, .int .i64 x2, .int .i64 x3, .int .i64 x4, .int .i64 x5, .int .i64 x6, .int .i64 x7, .int .i64 x8, .int .i64 x9, .int .i64 x10]) (by simp [results, Try.results54, go_sem, r0, r1, r2, r3, r4, r5, r6, r7, r8, r9, r10]) rfl ⟨x0, x1, x2, x3, x4, x5, x6, x7, x8, x9, x10, rfl, HF.out⟩
set_option maxRecDepth 100000 in
set_option maxHeartbeats 6400000 in
theorem drawStepsNeeded_any (w : World) (B : Nat) (hB : B ≤ w.heap.size) (A : Option Addr) (n cap : Nat) (zs : List UInt8) (hb : IsBytes w B A n zs) (hn : n ≤ 1048576) : Calls Try.prog 20 #[.slice A n cap] w (ClSaid w) := by
  have KR := Lib.hid (box_new w (.cells #[.int .i64 0, .int .i64 0, .int .i64 0, .int .i64 0, .int .i64 0, .int .i64 0, .int .i64 0, .int .i64 0, .int .i64 0, .int .i64 0, .int .i64 0] 25))
  obtain ⟨V, hV⟩ : ∃ V, V = w.alloc (.cells #[.int .i64 0, .int .i64 0, .int .i64 0, .int .i64 0, .int .i64 0, .int .i64 0, .int .i64 0, .int .i64 0, .int .i64 0, .int .i64 0, .int .i64 0] 25) := ⟨_, rfl⟩
  rw [← hV] at KR
  have hbV : Below w.heap.size w V := by rw [hV]; exact bel1 _ _
  have HB : Hid (IsBytes V B A n zs) := hb.keep fun p hp => hbV.cell (by omega)
  clear hb
  have hlV : w.heap.size < V.heap.size := box_lt KR.out
  have HL := Lib.hid hbV
  go_enter Try.func20, Try.ntmps20
  go_wp2_with fail
  rw [← hV]
  clear hV hbV
  refine (drawCeiling_any _ B (by omega) A n cap zs HB.out hn).mono ?_
  rintro e w1 ⟨x0, x1, x2, x3, x4, x5, x6, x7, x8, x9, x10, rfl, hb1⟩
  have HL1 := bel_then HL.out hb1 HL.out.size
  have KR1 := box_below KR.out hb1
  clear KR HB HL hb1
  have RB := setRow_box (vs := #[.int .i64 x0, .int .i64 x1, .int .i64 x2, .int .i64 x3, .int .i64 x4, .int .i64 x5, .int .i64 x6, .int .i64 x7, .int .i64 x8, .int .i64 x9, .int .i64 x10]) KR1
  have r0 := box_cell RB 0 _ rfl
  have r1 := box_cell RB 1 _ rfl
  have r2 := box_cell RB 2 _ rfl
  have r3 := box_cell RB 3 _ rfl
  have r4 := box_cell RB 4 _ rfl
  have r5 := box_cell RB 5 _ rfl
  have r6 := box_cell RB 6 _ rfl
  have r7 := box_cell RB 7 _ rfl
  have r8 := box_cell RB 8 _ rfl
  have r9 := box_cell RB 9 _ rfl
  have r10 := box_cell RB 10 _ rfl
  have HF := Lib.hid (setRow_below HL1 w.heap.size #[.int .i64 x0, .int .i64 x1, .int .i64 x2, .int .i64 x3, .int .i64 x4, .int .i64 x5, .int .i64 x6, .int .i64 x7, .int .i64 x8, .int .i64 x9, .int .i64 x10] (Nat.le_refl _) (HL1).size)
  go_wp2_with (refine wpList_put rfl rfl 25 _ _ rfl w.heap.size _ rfl rfl _ _ KR1 (Try.sizeOf25 _) rfl (by simp [Value.oneCell']) ?_)
  exact bodyPost_ret (v := .agg #[.int .i64 x0, .int .i64 x1, .int .i64 x2, .int .i64 x3, .int .i64 x4, .int .i64 x5, .int .i64 x6, .int .i64 x7, .int .i64 x8, .int .i64 x9, .int .i64 x10]) (by simp [results, Try.results20, go_sem, r0, r1, r2, r3, r4, r5, r6, r7, r8, r9, r10]) rfl ⟨x0, x1, x2, x3, x4, x5, x6, x7, x8, x9, x10, rfl, HF.out⟩
end Go.Proofs.Ytmmdpljimjfkdaa.DrawCl
