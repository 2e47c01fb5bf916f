/-
  THE WALK of laws.FnExactSameRecord over this seat's translation: it answers true and turns nothing that was there.
-/
import Derived.Test.YtghckkameinicaaSameRec
namespace Go.Proofs.Ytghckkameinicaa.LawSameRecord
open Go.ChangeShapes Go.WideShapes Go.ChangeAt Go.RowKit
open Go.Proofs.Ytghckkameinicaa.Ints Go.Proofs.Ytghckkameinicaa.Has Go.Proofs.Ytghckkameinicaa.Rec
set_option linter.unusedVariables false

set_option maxRecDepth 100000 in
set_option maxHeartbeats 6400000 in
theorem walk (x y : Int) (A C : Option Addr) (n c m d : Nat) (zs ys : List Int) (w : World) (hw : IsRec w A n zs) (hv : IsRec w C m ys) :
    Calls Try.prog 8 #[.agg #[.int .i64 x, .slice A n c], .agg #[.int .i64 y, .slice C m d]] w fun e w' => e = .returned (.bool true) ∧ Below w.heap.size w w' := by
  obtain ⟨hr, hn⟩ := hw
  obtain ⟨hs, hm⟩ := hv
  have HR := Lib.hid hr
  have HS := Lib.hid hs
  clear hr hs
  have hx1 : Box ((w.alloc (.cells #[.int .i64 x, .slice A n c] 43)).alloc (.cells #[.int .i64 y, .slice C m d] 43)) w.heap.size x A n c := (Box.new w x A n c _).alloc _
  have hx2 : Box ((w.alloc (.cells #[.int .i64 x, .slice A n c] 43)).alloc (.cells #[.int .i64 y, .slice C m d] 43)) (w.heap.size + 1) y C m d := by
    have h1 := Box.new (w.alloc (.cells #[.int .i64 x, .slice A n c] 43)) y C m d 43
    simpa using h1
  have HX1 := Lib.hid hx1
  have HX2 := Lib.hid hx2
  clear hx1 hx2
  go_enter Try.func8, Try.ntmps8
  go_wp2_with fail
  refine (szRecord_any x A n c 1048576 _ hn (by omega) (by omega)).mono ?_
  rintro e w1 ⟨r, rfl, hb1, hr⟩
  have hb01 : Below w.heap.size w w1 := (below_a2 _ _ _).trans (hb1.mono (by simp; omega))
  rcases hr with rfl | ⟨hr0, hfew⟩
  · go_wp2
    go_ret
    exact ⟨rfl, hb01⟩
  · have hn2 : n ≤ 1048576 := by omega
    have HLn : Hid (zs.length = n) := HR.out.1
    have HLm : Hid (ys.length = m) := HS.out.1
    have hr1 : ¬ r < 0 := by omega
    have hr2 : r ≤ 1048576 := by omega
    obtain ⟨p10, p11⟩ := HX1.out.below hb1
    obtain ⟨q10, q11⟩ := HX2.out.below hb1
    clear hb1 hfew
    go_wp2_with fail
    refine (szRecord_any y C m d r _ hm (by omega) hr2).mono ?_
    rintro e w2 ⟨r', rfl, hb2, hr'⟩
    have hb02 : Below w.heap.size w w2 := hb01.trans (hb2.mono hb01.size)
    rcases hr' with rfl | ⟨hr0', hfew'⟩
    · go_wp2
      go_ret
      exact ⟨rfl, hb02⟩
    · have hm2 : m ≤ 1048576 := by omega
      have hr1' : ¬ r' < 0 := by omega
      obtain ⟨p20, p21⟩ := (Box.below ⟨p10, p11⟩ hb2 : Box w2 w.heap.size x A n c)
      obtain ⟨q20, q21⟩ := (Box.below ⟨q10, q11⟩ hb2 : Box w2 (w.heap.size + 1) y C m d)
      have HB2 : Hid (Box w2 w.heap.size x A n c ∧ Box w2 (w.heap.size + 1) y C m d) := ⟨⟨p20, p21⟩, ⟨q20, q21⟩⟩
      clear hb2 hfew' p10 p11 q10 q11
      go_wp2_with fail
      go_region_held3 (fun w' => w'.cell? ⟨w.heap.size, 0, none⟩ = some (.int .i64 x) ∧ w'.cell? ⟨w.heap.size, 1, none⟩ = some (.slice A n c) ∧ w'.cell? ⟨w.heap.size + 1, 0, none⟩ = some (.int .i64 y) ∧ w'.cell? ⟨w.heap.size + 1, 1, none⟩ = some (.slice C m d))
        (first | go_keep | (refine ⟨below_keep hb3 ?_, below_keep hb3 ?_, below_keep hb3 ?_, below_keep hb3 ?_⟩ <;> simp only [*]) | (refine ⟨below_keep hb4 ?_, below_keep hb4 ?_, below_keep hb4 ?_, below_keep hb4 ?_⟩ <;> simp only [*]) | (refine ⟨below_keep hb5 ?_, below_keep hb5 ?_, below_keep hb5 ?_, below_keep hb5 ?_⟩ <;> simp only [*]))
        (first | (go_at_call 25; have hb3n := hb3; clear hb3n; refine (toRecord_any y C m d ys w.heap.size _ (by exact HS.out.below (hb02.trans (hb3'.mono hb02.size)) (Nat.le_refl _)) (by exact Nat.le_trans hb02.size hb3'.size) hm2).mono ?_; rintro e w4 ⟨A4, c4, rfl, hO4, hb4⟩; rw [HLm.out] at hO4 ⊢; have HO4 := Lib.hid hO4; clear hO4) | (go_at_call 25; refine (toRecord_any x A n c zs w.heap.size _ (by exact HR.out.below hb02.drew (Nat.le_refl _)) (by exact hb02.size) hn2).mono ?_; rintro e w3 ⟨A3, c3, rfl, hO3, hb3⟩; have hb3' := below_undrew hb3; rw [HLn.out] at hO3 ⊢; have HO3 := Lib.hid hO3; clear hO3) | (go_at_call 39; refine (specSameRecord_any x y A3 A4 n m c3 c4 zs ys w4.heap.size _ (by exact (HO3.out.below hb4).ints) (by exact HO4.out.ints) (by exact Nat.le_refl _) hn2 hm2).mono ?_; rintro e w5 ⟨rfl, hb5⟩))
      all_goals
        have hb25 : Below w2.heap.size w2 w5 := (hb3'.trans (hb4.mono hb3'.size)).trans (hb5.mono (Nat.le_trans hb3'.size hb4.size))
        have hb05 : Below w.heap.size w w5 := hb02.trans (hb25.mono hb02.size)
        have hx51 : Box w5 w.heap.size x A n c := HB2.out.1.below hb25
        have hx52 : Box w5 (w.heap.size + 1) y C m d := HB2.out.2.below hb25
        have HX51 := Lib.hid hx51
        have HX52 := Lib.hid hx52
        have hl52 : w.heap.size + 1 < w5.heap.size := hx52.lt
        obtain ⟨p50, p51⟩ := hx51
        have HR5 := Lib.hid (HR.out.below hb05 (Nat.le_refl _))
        have HS5 := Lib.hid (HS.out.below hb05 (Nat.le_refl _))
        clear hb3 hb3' hb4 hb5 p20 p21 q20 q21 HO3 HO4 hx52
        go_wp2_with fail
        refine (toRecord_any x A n c zs w.heap.size _ HR5.out hb05.size hn2).mono ?_
        rintro e w6 ⟨A6, c6, rfl, hO6, hb6⟩
        rw [HLn.out] at hO6 ⊢
        have HO6 := Lib.hid hO6
        have hs6 : w5.heap.size ≤ w6.heap.size := hb6.size
        have hx61 : Box (w6.alloc (.cells #[.int .i64 x, .slice A6 n c6] 46)) (w.heap.size + 1) y C m d := (HX52.out.below hb6).alloc _
        obtain ⟨q60, q61⟩ := HX52.out.below hb6
        have hl6 : w.heap.size + 1 < w6.heap.size := by omega
        have hb56 : Below w5.heap.size w5 (w6.alloc (.cells #[.int .i64 x, .slice A6 n c6] 46)) := hb6.alloc hs6 _
        clear hO6 p50 p51
        go_wp2_with fail
        refine (toRecord_any y C m d ys w.heap.size _ (HS5.out.below hb56 (by omega)) (by simp; omega) hm2).mono ?_
        rintro e w7 ⟨A7, c7, rfl, hO7, hb7⟩
        rw [HLm.out] at hO7 ⊢
        have HO7 := Lib.hid hO7
        have hx71 : Box w7 w6.heap.size x A6 n c6 := (Box.new w6 x A6 n c6 46).below hb7
        have HO67 := Lib.hid ((HO6.out.alloc (.cells #[.int .i64 x, .slice A6 n c6] 46)).below hb7)
        have hl7 : w6.heap.size < w7.heap.size := hx71.lt
        obtain ⟨r70, r71⟩ := hx71
        have hb57 : Below w5.heap.size w5 w7 := hb56.trans (hb7.mono (by simp; omega))
        have hbA : Below w7.heap.size w7 (w7.alloc (.cells #[.int .i64 y, .slice A7 m c7] 46)) := below_a1 _ _
        clear hO7 hx61 q60 q61
        go_wp2_with fail
        refine (sameRecord_any x y A6 A7 n m c6 c7 zs ys w7.heap.size _ (HO67.out.ints.below hbA (Nat.le_refl _)) (HO7.out.ints.below hbA (Nat.le_refl _)) (by simp) hn2 hm2).mono ?_
        rintro e w8 ⟨rfl, hb8⟩
        have hb78 : Below w7.heap.size w7 w8 := hbA.trans (hb8.mono (by simp))
        obtain ⟨r80, r81⟩ := (Box.below ⟨r70, r71⟩ hb78 : Box w8 w6.heap.size x A6 n c6)
        have hx82 : Box w8 w7.heap.size y A7 m c7 := (Box.new w7 y A7 m c7 46).below hb8
        have HX81 : Hid (Box w8 w6.heap.size x A6 n c6) := ⟨r80, r81⟩
        have HX82 := Lib.hid hx82
        have hl8 : w7.heap.size < w8.heap.size := hx82.lt
        have hb58 : Below w5.heap.size w5 w8 := hb57.trans (hb78.mono (by omega))
        have HO68 := Lib.hid (HO67.out.below hb78)
        have HO78 := Lib.hid (HO7.out.below hb78)
        obtain ⟨p80, p81⟩ := HX51.out.below hb58
        clear hb7 hb8 r70 r71 hb56 hx82 hbA
        have hb08 : Below w.heap.size w w8 := hb05.trans (hb58.mono hb05.size)
        have hbb : (sameB x zs y ys != sameB x zs y ys) = false := by simp
        go_wp2_with fail
        go_region_held3 (fun w' => w'.cell? ⟨w.heap.size, 0, none⟩ = some (.int .i64 x) ∧ w'.cell? ⟨w.heap.size, 1, none⟩ = some (.slice A n c) ∧ w'.cell? ⟨w6.heap.size, 0, none⟩ = some (.int .i64 x) ∧ w'.cell? ⟨w6.heap.size, 1, none⟩ = some (.slice A6 n c6))
          (first | go_keep | (refine ⟨below_keep hb9 ?_, below_keep hb9 ?_, below_keep hb9 ?_, below_keep hb9 ?_⟩ <;> simp only [*]) | (refine ⟨below_keep hb10 ?_, below_keep hb10 ?_, below_keep hb10 ?_, below_keep hb10 ?_⟩ <;> simp only [*]))
          (first | (go_at_call 25; refine (toRecord_any x A n c zs w.heap.size _ (by exact HR.out.below hb08.drew (Nat.le_refl _)) (by exact hb08.size) hn2).mono ?_; rintro e w9 ⟨A9, c9, rfl, hO9, hb9⟩; have hb9' := below_undrew hb9; rw [HLn.out] at hO9 ⊢; have HO9 := Lib.hid hO9; clear hO9) | (go_at_call 27; refine (eqRecord_same x A6 A9 n c6 c9 zs w8.heap.size w9.heap.size _ (by exact HO68.out.ints.below hb9' (by exact Nat.le_refl _)) (by exact HO9.out.ints) (by exact hb9.size) (by exact Nat.le_refl _) hn2).mono ?_; rintro e w10 ⟨rfl, hb10⟩))
        all_goals
          have hb810 : Below w8.heap.size w8 w10 := hb9'.trans (hb10.mono hb9'.size)
          have hb010 : Below w.heap.size w w10 := hb08.trans (hb810.mono hb08.size)
          obtain ⟨p100, p101⟩ := (HX52.out.below hb58).below hb810
          obtain ⟨r100, r101⟩ := HX82.out.below hb810
          have HO710 := Lib.hid (HO78.out.below hb810)
          clear hb9 hb9' hb10 p80 p81 r80 r81 HO9
          go_wp2_with fail
          go_region_held3 (fun w' => w'.cell? ⟨w.heap.size + 1, 0, none⟩ = some (.int .i64 y) ∧ w'.cell? ⟨w.heap.size + 1, 1, none⟩ = some (.slice C m d) ∧ w'.cell? ⟨w7.heap.size, 0, none⟩ = some (.int .i64 y) ∧ w'.cell? ⟨w7.heap.size, 1, none⟩ = some (.slice A7 m c7))
            (first | go_keep | (refine ⟨below_keep hb11 ?_, below_keep hb11 ?_, below_keep hb11 ?_, below_keep hb11 ?_⟩ <;> simp only [*]) | (refine ⟨below_keep hb12 ?_, below_keep hb12 ?_, below_keep hb12 ?_, below_keep hb12 ?_⟩ <;> simp only [*]))
            (first | (go_at_call 25; refine (toRecord_any y C m d ys w.heap.size _ (by exact HS.out.below hb010.drew (Nat.le_refl _)) (by exact hb010.size) hm2).mono ?_; rintro e w11 ⟨A11, c11, rfl, hO11, hb11⟩; have hb11' := below_undrew hb11; rw [HLm.out] at hO11 ⊢; have HO11 := Lib.hid hO11; clear hO11) | (go_at_call 27; refine (eqRecord_same y A7 A11 m c7 c11 ys w10.heap.size w11.heap.size _ (by exact HO710.out.ints.below hb11' (by exact Nat.le_refl _)) (by exact HO11.out.ints) (by exact hb11.size) (by exact Nat.le_refl _) hm2).mono ?_; rintro e w12 ⟨rfl, hb12⟩))
          all_goals
            have hb1012 : Below w10.heap.size w10 w12 := hb11'.trans (hb12.mono hb11'.size)
            go_wp2
            go_ret
            exact ⟨rfl, hb010.trans (hb1012.mono hb010.size)⟩
end Go.Proofs.Ytghckkameinicaa.LawSameRecord
