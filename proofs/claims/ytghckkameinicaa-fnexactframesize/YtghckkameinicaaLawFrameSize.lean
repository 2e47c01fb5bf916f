/-
  THE WALK of laws.FnExactFrameSize over this seat's translation: it answers true and turns nothing that was there.
-/
import Derived.Test.YtghckkameinicaaFrame
import Derived.Test.YtghckkameinicaaRecBox
namespace Go.Proofs.Ytghckkameinicaa.LawFrameSize
open Go.ChangeShapes Go.WideShapes Go.ChangeAt Go.RowKit
open Go.Proofs.Ytghckkameinicaa.Ints Go.Proofs.Ytghckkameinicaa.Has Go.Proofs.Ytghckkameinicaa.Rec
set_option linter.unusedVariables false

set_option maxRecDepth 100000 in
set_option maxHeartbeats 3200000 in
theorem walk (x : Int) (A : Option Addr) (n c : Nat) (zs : List Int) (w : World) (hw : IsRec w A n zs) :
    Calls Try.prog 9 #[.agg #[.int .i64 x, .slice A n c]] w fun e w' => e = .returned (.bool true) ∧ Below w.heap.size w w' := by
  obtain ⟨hr, hn⟩ := hw
  have HR := Lib.hid hr
  clear hr
  go_enter Try.func9, Try.ntmps9
  go_wp2_with fail
  refine (szRecord_any x A n c 1048576 _ hn (by omega) (by omega)).mono ?_
  rintro e w1 ⟨r, rfl, hb1, hr⟩
  have hb01 : Below w.heap.size w w1 := (below_a1 _ _).trans (hb1.mono (by simp))
  rcases hr with rfl | ⟨hr0, hfew⟩
  · go_wp2
    go_ret
    exact ⟨rfl, hb01⟩
  · have hn2 : n ≤ 1048576 := by omega
    have HLn : Hid (zs.length = n) := HR.out.1
    have hr1 : ¬ r < 0 := by omega
    obtain ⟨a10, a11⟩ := (Box.new w x A n c 43).below hb1
    have hs1 : w.heap.size < w1.heap.size := by have := hb1.size; simp at this; omega
    clear hb1 hfew
    go_wp2_with fail
    refine (toRecord_any x A n c zs w.heap.size _ (HR.out.below hb01 (Nat.le_refl _)) hb01.size hn2).mono ?_
    rintro e w2 ⟨A2, c2, rfl, hO2, hb2⟩
    rw [HLn.out] at hO2 ⊢
    have HO2 := Lib.hid hO2
    obtain ⟨a20, a21⟩ := (Box.below ⟨a10, a11⟩ hb2 : Box w2 w.heap.size x A n c)
    have hb02 : Below w.heap.size w w2 := hb01.trans (hb2.mono hb01.size)
    clear hO2 hb2 a10 a11
    go_wp2_with fail
    refine (specFrameSize_any x A2 n c2 zs w2.heap.size _ HO2.out.ints (Nat.le_refl _) hn2).mono ?_
    rintro e w3 ⟨rfl, hb3⟩
    obtain ⟨a30, a31⟩ := (Box.below ⟨a20, a21⟩ hb3 : Box w3 w.heap.size x A n c)
    have hb03 : Below w.heap.size w w3 := hb02.trans (hb3.mono hb02.size)
    clear HO2 hb3 a20 a21
    go_wp2_with fail
    refine (toRecord_any x A n c zs w.heap.size _ (HR.out.below hb03 (Nat.le_refl _)) hb03.size hn2).mono ?_
    rintro e w4 ⟨A4, c4, rfl, hO4, hb4⟩
    rw [HLn.out] at hO4 ⊢
    have HI4 := Lib.hid hO4.ints
    obtain ⟨a40, a41⟩ := (Box.below ⟨a30, a31⟩ hb4 : Box w4 w.heap.size x A n c)
    have hb04 : Below w.heap.size w w4 := hb03.trans (hb4.mono hb03.size)
    have hs4 : w.heap.size < w4.heap.size := Box.lt (w := w4) ⟨a40, a41⟩
    clear hO4 hb4 a30 a31
    go_wp2_with fail
    refine (frameSize_any x A4 n c4 zs w4.heap.size _ (HI4.out.below (below_a1 _ _) (Nat.le_refl _)) (by simp) hn2).mono ?_
    rintro e w5 ⟨rfl, hb5⟩
    obtain ⟨a50, a51⟩ := ((Box.alloc ⟨a40, a41⟩ _).below hb5 : Box w5 w.heap.size x A n c)
    obtain ⟨d50, d51⟩ := (Box.new w4 x A4 n c4 46).below hb5
    have HI5 := Lib.hid ((HI4.out.below (below_a1 w4 _) (Nat.le_refl _)).below hb5 (by simp))
    have hs5 : w4.heap.size < w5.heap.size := by have := hb5.size; simp at this; omega
    have hb05 : Below w.heap.size w w5 := (hb04.alloc hb04.size _).trans (hb5.mono (by have := hb04.size; simp; omega))
    clear hb5 a40 a41 HI4
    have hbb : (sizeV x zs != sizeV x zs) = false := by simp
    go_wp2_with fail
    go_region_held3 (fun w' => w'.cell? ⟨w.heap.size, 0, none⟩ = some (.int .i64 x) ∧ w'.cell? ⟨w.heap.size, 1, none⟩ = some (.slice A n c) ∧ w'.cell? ⟨w4.heap.size, 0, none⟩ = some (.int .i64 x) ∧ w'.cell? ⟨w4.heap.size, 1, none⟩ = some (.slice A4 n c4))
      (first | go_keep | (refine ⟨below_keep hb6 ?_, below_keep hb6 ?_, below_keep hb6 ?_, below_keep hb6 ?_⟩ <;> simp only [*]) | (refine ⟨below_keep hb7 ?_, below_keep hb7 ?_, below_keep hb7 ?_, below_keep hb7 ?_⟩ <;> simp only [*]))
      (first | (go_at_call 25; refine (toRecord_any x A n c zs w.heap.size _ (by exact HR.out.below hb05.drew (Nat.le_refl _)) (by exact hb05.size) hn2).mono ?_; rintro e w6 ⟨A6, c6, rfl, hO6, hb6⟩; have hb6' := below_undrew hb6; rw [HLn.out] at hO6 ⊢; have HO6 := Lib.hid hO6; clear hO6) | (go_at_call 27; refine (eqRecord_same x A4 A6 n c4 c6 zs w4.heap.size w6.heap.size _ (by exact HI5.out.below hb6' (by exact Nat.le_of_lt hs5)) (by exact HO6.out.ints) (by exact Nat.le_trans (Nat.le_of_lt hs5) hb6.size) (by exact Nat.le_refl _) hn2).mono ?_; rintro e w7 ⟨rfl, hb7⟩))
    all_goals
      have hb06 : Below w.heap.size w w6 := hb05.trans (hb6'.mono hb05.size)
      have hb07 : Below w.heap.size w w7 := hb06.trans (hb7.mono hb06.size)
      go_wp2
      go_ret
      exact ⟨rfl, hb07⟩
end Go.Proofs.Ytghckkameinicaa.LawFrameSize
