/-
  THE WALK of laws.FnExactFrameRecord over this seat's translation: it answers true and turns nothing that was there.
-/
import Derived.Test.YtghckkameinicaaFrame
import Derived.Test.YtghckkameinicaaRecBox
namespace Go.Proofs.Ytghckkameinicaa.LawFrameRecord
open Go.ChangeShapes Go.WideShapes Go.ChangeAt Go.RowKit
open Go.Proofs.Ytghckkameinicaa.Ints Go.Proofs.Ytghckkameinicaa.Has Go.Proofs.Ytghckkameinicaa.Rec
open Go.Proofs.Ytghckkameinicaa.Bytes (IsBytes OwnB AnsB marksB eqByteS_same markByteS_any heldByteS_any)
set_option linter.unusedVariables false

set_option maxRecDepth 100000 in
set_option maxHeartbeats 6400000 in
theorem walk (x : Int) (A : Option Addr) (n c : Nat) (zs : List Int) (w : World) (hw : IsRec w A n zs) :
    Calls Try.prog 7 #[.agg #[.int .i64 x, .slice A n c]] w fun e w' => e = .returned (.bool true) ∧ Below w.heap.size w w' := by
  obtain ⟨hr, hn⟩ := hw
  have HR := Lib.hid hr
  clear hr
  obtain ⟨F, hF⟩ : ∃ F, F = frameV x zs := ⟨_, rfl⟩
  have hF76 : F.length ≤ 76 := by rw [hF]; exact frame_len x zs
  have HF := Lib.hid hF
  clear hF
  go_enter Try.func7, Try.ntmps7
  go_wp2_with fail
  refine (szRecord_any x A n c 1048576 _ hn (by omega) (by omega)).mono ?_
  rintro e w1 ⟨r, rfl, hb1, hr⟩
  have hb01 : Below w.heap.size w w1 := (below_a1 _ _).trans (hb1.mono (by simp))
  rcases hr with rfl | ⟨hr0, hfew⟩
  · go_wp2
    go_ret
    exact ⟨rfl, hb01⟩
  · have hn2 : n ≤ 1048576 := by omega
    have HLn : Hid (zs.length = n) := HR.out.1
    have hr1 : ¬ r < 0 := by omega
    obtain ⟨a10, a11⟩ := (Box.new w x A n c 43).below hb1
    clear hb1 hfew
    go_wp2_with fail
    refine (toRecord_any x A n c zs w.heap.size _ (HR.out.below hb01 (Nat.le_refl _)) hb01.size hn2).mono ?_
    rintro e w2 ⟨A2, c2, rfl, hO2, hb2⟩
    rw [HLn.out] at hO2 ⊢
    have HO2 := Lib.hid hO2
    obtain ⟨a20, a21⟩ := (Box.below ⟨a10, a11⟩ hb2 : Box w2 w.heap.size x A n c)
    have hb02 : Below w.heap.size w w2 := hb01.trans (hb2.mono hb01.size)
    clear hO2 hb2 a10 a11
    go_wp2_with fail
    refine (specFrameRecord_any x A2 n c2 zs w2.heap.size _ HO2.out.ints (Nat.le_refl _) hn2).mono ?_
    rintro e w3 ⟨Aw, nw, cw, rfl, hW3, hb3⟩
    rw [← HF.out] at hW3
    have HNW := Lib.hid hW3.1
    have hnw : nw ≤ 1048576 := by rw [← HNW.out]; omega
    have HW3 := Lib.hid hW3.bytes
    have hbx3 : Box w3 w.heap.size x A n c := (Box.below ⟨a20, a21⟩ hb3 : Box w3 w.heap.size x A n c)
    have hb03 : Below w.heap.size w w3 := hb02.trans (hb3.mono hb02.size)
    have HR3 := Lib.hid (HR.out.below hb03 (Nat.le_refl _))
    have hl3 : w.heap.size < w3.heap.size := hbx3.lt
    have HBX := Lib.hid hbx3
    obtain ⟨a30, a31⟩ := hbx3
    clear HO2 hb3 a20 a21 hW3
    go_wp2_with fail
    refine (toRecord_any x A n c zs w.heap.size _ HR3.out (by omega) hn2).mono ?_
    rintro e w4 ⟨A4, c4, rfl, hO4, hb4⟩
    rw [HLn.out] at hO4 ⊢
    have HO4 := Lib.hid hO4
    obtain ⟨a40, a41⟩ := (Box.below ⟨a30, a31⟩ hb4 : Box w4 w.heap.size x A n c)
    have hs4 : w3.heap.size ≤ w4.heap.size := hb4.size
    have hs4' : w.heap.size < w4.heap.size := by omega
    clear hO4 a30 a31
    go_wp2_with fail
    refine (frameRecord_any x A4 n c4 zs w4.heap.size _ (HO4.out.ints.below (below_a1 _ _) (Nat.le_refl _)) (by simp) hn2).mono ?_
    rintro e w5 ⟨Ag, ng, cg, rfl, hG5, hb5⟩
    rw [← HF.out] at hG5
    obtain rfl : ng = nw := by rw [← hG5.1, HNW.out]
    have HG5 := Lib.hid hG5
    have hb35 : Below w3.heap.size w3 w5 := (hb4.alloc hs4 _).trans (hb5.mono (by simp; omega))
    have HO5 : Hid (OwnI w5 w3.heap.size A4 n c4 zs) := (HO4.out.alloc _).below hb5
    have hx5 : Box w5 w4.heap.size x A4 n c4 := (Box.new w4 x A4 n c4 46).below hb5
    have hl5 : w4.heap.size < w5.heap.size := hx5.lt
    have HQ : Hid (∀ q, (Value.slice A4 n c4).ownBlock = some q → w3.heap.size ≤ q ∧ q < w4.heap.size) := fun q hq => HO4.out.lt q hq
    have HQG : Hid (∀ q, (Value.slice Ag ng cg).ownBlock = some q → w4.heap.size + 1 ≤ q ∧ q < w5.heap.size) := fun q hq => by
      have h1 := hG5.lt q hq
      simp at h1
      exact h1
    clear hb4 hb5 a40 a41 hG5 HO4
    have HW5 := Lib.hid (HW3.out.below hb35 (Nat.le_refl _))
    have HX5 := Lib.hid hx5
    clear hx5
    go_wp2_with fail
    refine (eqByteS_same _ _ _ _ _ F _ _ _ HG5.out.bytes HW5.out hnw).mono ?_
    rintro e w6 ⟨rfl, m1, hm1⟩
    have hb36 : Below w3.heap.size w3 w6 := by rw [hm1]; exact below_drewN hb35 m1
    have HG6 : Hid (OwnB w6 (w4.heap.size + 1) Ag ng cg F) := by rw [hm1]; have h1 := HG5.out; simp at h1; exact h1
    have HO6 : Hid (OwnI w6 w3.heap.size A4 n c4 zs) := by rw [hm1]; exact HO5.out
    have HX6 : Hid (Box w6 w4.heap.size x A4 n c4) := by rw [hm1]; exact HX5.out
    have hs6 : w5.heap.size = w6.heap.size := by rw [hm1]; rfl
    have hl6 : w4.heap.size < w6.heap.size := by rw [← hs6]; exact hl5
    have HS56 := Lib.hid hs6
    clear hm1 hs6 HG5 HO5 HX5 HW5 hb35
    obtain ⟨d60, d61⟩ := HX6.out
    obtain ⟨a60, a61⟩ := HBX.out.low hb36 hl3
    have hs36 : w3.heap.size ≤ w6.heap.size := hb36.size
    go_wp2_with fail
    go_region_held3 (fun w' => w'.cell? ⟨w.heap.size, 0, none⟩ = some (.int .i64 x) ∧ w'.cell? ⟨w.heap.size, 1, none⟩ = some (.slice A n c) ∧ w'.cell? ⟨w4.heap.size, 0, none⟩ = some (.int .i64 x) ∧ w'.cell? ⟨w4.heap.size, 1, none⟩ = some (.slice A4 n c4))
      (first | go_keep | (refine ⟨below_keep hb7 ?_, below_keep hb7 ?_, below_keep hb7 ?_, below_keep hb7 ?_⟩ <;> simp only [*]) | (refine ⟨below_keep hb8 ?_, below_keep hb8 ?_, below_keep hb8 ?_, below_keep hb8 ?_⟩ <;> simp only [*]))
      (first | (go_at_call 25; refine (toRecord_any x A n c zs w.heap.size _ (by exact HR3.out.below hb36.drew (by exact Nat.le_of_lt hl3)) (by exact Nat.le_trans (Nat.le_of_lt hl3) hs36) hn2).mono ?_; rintro e w7 ⟨A7, c7, rfl, hO7, hb7⟩; have hb7' := below_undrew hb7; rw [HLn.out] at hO7 ⊢; have HO7 := Lib.hid hO7; clear hO7) | (go_at_call 27; refine (eqRecord_same x A4 A7 n c4 c7 zs w6.heap.size w7.heap.size _ (by exact HO6.out.ints.below hb7' (by exact Nat.le_refl _)) (by exact HO7.out.ints) (by exact hb7.size) (by exact Nat.le_refl _) hn2).mono ?_; rintro e w8 ⟨rfl, hb8⟩))
    all_goals
      have hb68 : Below w6.heap.size w6 w8 := hb7'.trans (hb8.mono hb7'.size)
      have hb38 : Below w3.heap.size w3 w8 := hb36.trans (hb68.mono hs36)
      have HG8 := Lib.hid (HG6.out.below hb68)
      have HO8 := Lib.hid (HO6.out.below hb68)
      have hs68 : w6.heap.size ≤ w8.heap.size := hb68.size
      obtain ⟨d80, d81⟩ := HX6.out.below hb68
      clear hb7 hb7' hb8 a60 a61 d60 d61 HG6 HO6 HX6
      go_wp2_with fail
      refine (markRecord_any x A4 n c4 zs 1 _ _ HO8.out hn2 (by omega) (by omega)).mono ?_
      rintro e w9 ⟨rfl, hO9, hg9⟩
      have hb39 : Below w3.heap.size w3 w9 := hb38.grown hg9 hb38.size (fun q hq => (HQ.out q hq).1)
      have HG9 : Hid (OwnB w9 (w4.heap.size + 1) Ag ng cg F) := by
        refine HG8.out.grown hg9 ?_
        cases hq : (Value.slice Ag ng cg).ownBlock with
        | none => exact .inl rfl
        | some q =>
          refine .inr fun e => ?_
          have h1 := (HQG.out q hq).1
          have h2 := (HQ.out q e.symm).2
          omega
      have HW9 := Lib.hid (HW3.out.below hb39 (Nat.le_refl _))
      have hs9 : w8.heap.size ≤ w9.heap.size := hg9.size
      have hk0 : decide ((1 : Int) + (n : Int) < 0) = false := by simp; omega
      clear hO9 hg9 d80 d81 HO8 HG8
      go_wp2_with fail
      refine (eqByteS_same _ _ _ _ _ F _ _ _ HG9.out.bytes HW9.out hnw).mono ?_
      rintro e w10 ⟨rfl, m2, hm2⟩
      have hb310 : Below w3.heap.size w3 w10 := by rw [hm2]; exact below_drewN hb39 m2
      have HG10 : Hid (OwnB w10 (w4.heap.size + 1) Ag ng cg F) := by rw [hm2]; exact HG9.out
      clear hm2 HG9 HW9
      go_wp2_with fail
      refine (markByteS_any Ag ng cg F 1 _ _ HG10.out hnw (by omega) (by omega)).mono ?_
      rintro e w11 ⟨rfl, hG11, hg11⟩
      have hb311 : Below w3.heap.size w3 w11 := hb310.grown hg11 hb310.size (fun q hq => by have := (HQG.out q hq).1; omega)
      have HG11 := Lib.hid hG11
      clear hG11 hg11 HG10
      have hq0 : decide ((1 : Int) + (ng : Int) < 0) = false := by simp; omega
      go_wp2_with fail
      refine (heldByteS_any Ag ng cg 1 _ _ HG11.out.bytes hnw (by omega) (by omega)).mono ?_
      rintro e w' ⟨rfl, rfl⟩
      obtain ⟨a110, a111⟩ := HBX.out.low hb311 hl3
      go_wp2_with fail
      refine (toRecord_any x A n c zs w.heap.size _ (HR3.out.below hb311 (Nat.le_of_lt hl3)) (Nat.le_trans (Nat.le_of_lt hl3) hb311.size) hn2).mono ?_
      rintro e w12 ⟨A12, c12, rfl, hO12, hb12⟩
      rw [HLn.out] at hO12 ⊢
      have HO12 := Lib.hid hO12
      have hb312 : Below w3.heap.size w3 w12 := hb311.trans (hb12.mono hb311.size)
      have HG12 := Lib.hid (HG11.out.below hb12)
      clear hO12 hb12 a110 a111 HG11
      go_wp2_with fail
      refine (frameRecord_any x A12 n c12 zs w12.heap.size _ HO12.out.ints (Nat.le_refl _) hn2).mono ?_
      rintro e w13 ⟨Ah, nh, ch, rfl, hH13, hb13⟩
      rw [← HF.out] at hH13
      obtain rfl : nh = ng := by rw [← hH13.1, HNW.out]
      have HH13 := Lib.hid hH13
      have hb313 : Below w3.heap.size w3 w13 := hb312.trans (hb13.mono hb312.size)
      have HG13 := Lib.hid (HG12.out.below hb13)
      have HW13 := Lib.hid (HW3.out.below hb313 (Nat.le_refl _))
      clear hH13 hb13 HG12 HO12
      go_wp2_with fail
      refine (eqByteS_same _ _ _ _ _ F _ _ _ HH13.out.bytes HW13.out hnw).mono ?_
      rintro e w14 ⟨rfl, m3, hm3⟩
      have hb314 : Below w3.heap.size w3 w14 := by rw [hm3]; exact below_drewN hb313 m3
      have HG14 : Hid (OwnB w14 (w4.heap.size + 1) Ag nh cg (marksB 1 nh)) := by rw [hm3]; exact HG13.out
      clear hm3 HG13 HW13
      go_wp2_with fail
      refine (heldByteS_any Ag nh cg 1 _ _ HG14.out.bytes hnw (by omega) (by omega)).mono ?_
      rintro e w'' ⟨rfl, rfl⟩
      go_wp2_with fail
      go_ret
      exact ⟨rfl, hb03.trans (hb314.mono hb03.size)⟩
end Go.Proofs.Ytghckkameinicaa.LawFrameRecord
