/-
  THE FIRST AND THE THIRD RULE OF A STEP over this seat's translation.
-/
import Derived.Test.YtlghdmakaocokaaRul
namespace Go.Proofs.Ytlghdmakaocokaa.Rul
open Go.ChangeShapes Go.WideShapes Go.ChangeAt Go.RowKit
open Go.Proofs.Ytlghdmakaocokaa.LK Go.Proofs.Ytlghdmakaocokaa.Sp Go.Proofs.Ytlghdmakaocokaa.Put Go.Proofs.Ytlghdmakaocokaa.Cnt Go.Proofs.Ytlghdmakaocokaa.Each Go.Proofs.Ytlghdmakaocokaa.Scn
set_option linter.unusedVariables false
set_option linter.unusedSimpArgs false
set_option maxRecDepth 100000 in
set_option maxHeartbeats 12800000 in
theorem rule1_any (x0 x1 x2 x3 x4 x5 x6 x7 x8 x9 x10 fl fa ol oa go li q0 q1 q2 q3 : Int) (Bc Bp : Nat) (W : World) (hc : W.heap[Bc]? = some (.cells #[.int .i64 x0, .int .i64 x1, .int .i64 x2, .int .i64 x3, .int .i64 x4, .int .i64 x5, .int .i64 x6, .int .i64 x7, .int .i64 x8, .int .i64 x9, .int .i64 x10, .int .i64 fl, .int .i64 fa, .int .i64 ol, .int .i64 oa, .int .i64 go, .int .i64 li] 63 (0, 0))) (hp : W.heap[Bp]? = some (.cells #[.int .i64 q0, .int .i64 q1, .int .i64 q2, .int .i64 q3] 55 (0, 0))) (hne : Bc ≠ Bp) (hq : 0 ≤ q1 ∧ q1 ≤ 30) (hpl : planB x0 x1 x2 x3 x4 x5 x6 x7 x8 x9 x10 fl fa ol oa go li = true) :
    Calls Try.prog 40 #[.pointer (some ⟨Bp, 0, none⟩), .pointer (some ⟨Bc, 0, none⟩)] W (RuSaid W Bp #[.int .i64 (crV x0 x1 fl ol go li), .int .i64 q1, .int .i64 q2, .int .i64 q3]) := by
  obtain ⟨hs, b1, b2, b3, b4⟩ := planB_t hpl
  have hbd := specB_t hs
  have bx : (0 ≤ x0 ∧ x0 ≤ 12) ∧ (0 ≤ x1 ∧ x1 ≤ 12) ∧ (0 ≤ x2 ∧ x2 ≤ 12) := by omega
  clear hbd
  have HP := Lib.hid hp
  have HC := Lib.hid hc
  have HS := Lib.hid hs
  clear hs hpl
  obtain ⟨cr, hcr⟩ : ∃ z, crV x0 x1 fl ol go li = z := ⟨_, rfl⟩
  rw [hcr]
  obtain ⟨a1, ha1⟩ : ∃ z, max 0 (li - fl) = z := ⟨_, rfl⟩
  obtain ⟨ce, hce⟩ : ∃ z, x0 + x1 = z := ⟨_, rfl⟩
  obtain ⟨lv, hlv⟩ : ∃ z, fl + ol + go = z := ⟨_, rfl⟩
  obtain ⟨a2, ha2⟩ : ∃ z, max 0 (ce - lv) = z := ⟨_, rfl⟩
  have hdd : min a1 a2 = cr := by rw [← hcr, ← ha1, ← ha2, ← hce, ← hlv]; unfold crV; omega
  have HA1 : Hid (∀ W : World, Calls Try.prog 42 #[.int .i64 li, .int .i64 fl] W (Says (.int .i64 a1) W)) := fun W => above_any li fl _ _ W rfl (by omega) ha1
  have HCe : Hid (∀ W : World, Calls Try.prog 43 #[.agg #[.int .i64 x0, .int .i64 x1, .int .i64 x2, .int .i64 x3, .int .i64 x4, .int .i64 x5, .int .i64 x6, .int .i64 x7, .int .i64 x8, .int .i64 x9, .int .i64 x10]] W (Says (.int .i64 ce) W)) := fun W => by have h := Ceiling_any x0 x1 x2 x3 x4 x5 x6 x7 x8 x9 x10 W; unfold ceilV at h; rw [if_pos HS.out, hce] at h; exact h
  have HLv : Hid (∀ W : World, Calls Try.prog 44 #[.agg #[.int .i64 x0, .int .i64 x1, .int .i64 x2, .int .i64 x3, .int .i64 x4, .int .i64 x5, .int .i64 x6, .int .i64 x7, .int .i64 x8, .int .i64 x9, .int .i64 x10, .int .i64 fl, .int .i64 fa, .int .i64 ol, .int .i64 oa, .int .i64 go, .int .i64 li]] W (Says (.int .i64 lv) W)) := fun W => by have h := alive_any x0 x1 x2 x3 x4 x5 x6 x7 x8 x9 x10 fl fa ol oa go li W (by omega); rw [hlv] at h; exact h
  have HA2 : Hid (∀ W : World, Calls Try.prog 42 #[.int .i64 ce, .int .i64 lv] W (Says (.int .i64 a2) W)) := fun W => above_any ce lv _ _ W rfl (by omega) ha2
  have HD : Hid (min a1 a2 = cr) := hdd
  clear hdd hcr ha1 ha2 hce hlv
  have c0 := box_cell HC.out 0 _ rfl
  have c1 := box_cell HC.out 1 _ rfl
  have c2 := box_cell HC.out 2 _ rfl
  have c3 := box_cell HC.out 3 _ rfl
  have c4 := box_cell HC.out 4 _ rfl
  have c5 := box_cell HC.out 5 _ rfl
  have c6 := box_cell HC.out 6 _ rfl
  have c7 := box_cell HC.out 7 _ rfl
  have c8 := box_cell HC.out 8 _ rfl
  have c9 := box_cell HC.out 9 _ rfl
  have c10 := box_cell HC.out 10 _ rfl
  have c11 := box_cell HC.out 11 _ rfl
  have c12 := box_cell HC.out 12 _ rfl
  have c13 := box_cell HC.out 13 _ rfl
  have c14 := box_cell HC.out 14 _ rfl
  have c15 := box_cell HC.out 15 _ rfl
  have c16 := box_cell HC.out 16 _ rfl
  go_enter Try.func40, Try.ntmps40
  go_wp2_with fail
  have hr0 : Rn W Bp 0 #[.int .i64 q0, .int .i64 q1, .int .i64 q2, .int .i64 q3] W := ⟨Turned.of_below (Below.refl _ W), box_lt HP.out, q0, HP.out⟩
  go_region_held3 (fun w' => w'.cell? ⟨Bc, 0, none⟩ = some (.int .i64 x0) ∧ w'.cell? ⟨Bc, 1, none⟩ = some (.int .i64 x1) ∧ w'.cell? ⟨Bc, 2, none⟩ = some (.int .i64 x2) ∧ w'.cell? ⟨Bc, 3, none⟩ = some (.int .i64 x3) ∧ w'.cell? ⟨Bc, 4, none⟩ = some (.int .i64 x4) ∧ w'.cell? ⟨Bc, 5, none⟩ = some (.int .i64 x5) ∧ w'.cell? ⟨Bc, 6, none⟩ = some (.int .i64 x6) ∧ w'.cell? ⟨Bc, 7, none⟩ = some (.int .i64 x7) ∧ w'.cell? ⟨Bc, 8, none⟩ = some (.int .i64 x8) ∧ w'.cell? ⟨Bc, 9, none⟩ = some (.int .i64 x9) ∧ w'.cell? ⟨Bc, 10, none⟩ = some (.int .i64 x10) ∧ w'.cell? ⟨Bc, 11, none⟩ = some (.int .i64 fl) ∧ w'.cell? ⟨Bc, 12, none⟩ = some (.int .i64 fa) ∧ w'.cell? ⟨Bc, 13, none⟩ = some (.int .i64 ol) ∧ w'.cell? ⟨Bc, 14, none⟩ = some (.int .i64 oa) ∧ w'.cell? ⟨Bc, 15, none⟩ = some (.int .i64 go) ∧ w'.cell? ⟨Bc, 16, none⟩ = some (.int .i64 li) ∧ Rn W Bp 0 #[.int .i64 q0, .int .i64 q1, .int .i64 q2, .int .i64 q3] w')
    (first | (exact ⟨c0, c1, c2, c3, c4, c5, c6, c7, c8, c9, c10, c11, c12, c13, c14, c15, c16, hr0.drew⟩) | (refine ⟨cell_keep hbZ ?_, cell_keep hbZ ?_, cell_keep hbZ ?_, cell_keep hbZ ?_, cell_keep hbZ ?_, cell_keep hbZ ?_, cell_keep hbZ ?_, cell_keep hbZ ?_, cell_keep hbZ ?_, cell_keep hbZ ?_, cell_keep hbZ ?_, cell_keep hbZ ?_, cell_keep hbZ ?_, cell_keep hbZ ?_, cell_keep hbZ ?_, cell_keep hbZ ?_, cell_keep hbZ ?_, Rn.call hbZ ?_⟩ <;> simp only [*]; done) | (refine ⟨cell_keep hbB ?_, cell_keep hbB ?_, cell_keep hbB ?_, cell_keep hbB ?_, cell_keep hbB ?_, cell_keep hbB ?_, cell_keep hbB ?_, cell_keep hbB ?_, cell_keep hbB ?_, cell_keep hbB ?_, cell_keep hbB ?_, cell_keep hbB ?_, cell_keep hbB ?_, cell_keep hbB ?_, cell_keep hbB ?_, cell_keep hbB ?_, cell_keep hbB ?_, Rn.call hbB ?_⟩ <;> simp only [*]; done) | (refine ⟨cell_keep hbL ?_, cell_keep hbL ?_, cell_keep hbL ?_, cell_keep hbL ?_, cell_keep hbL ?_, cell_keep hbL ?_, cell_keep hbL ?_, cell_keep hbL ?_, cell_keep hbL ?_, cell_keep hbL ?_, cell_keep hbL ?_, cell_keep hbL ?_, cell_keep hbL ?_, cell_keep hbL ?_, cell_keep hbL ?_, cell_keep hbL ?_, cell_keep hbL ?_, Rn.call hbL ?_⟩ <;> simp only [*]; done) | (refine ⟨cell_keep hbC ?_, cell_keep hbC ?_, cell_keep hbC ?_, cell_keep hbC ?_, cell_keep hbC ?_, cell_keep hbC ?_, cell_keep hbC ?_, cell_keep hbC ?_, cell_keep hbC ?_, cell_keep hbC ?_, cell_keep hbC ?_, cell_keep hbC ?_, cell_keep hbC ?_, cell_keep hbC ?_, cell_keep hbC ?_, cell_keep hbC ?_, cell_keep hbC ?_, Rn.call hbC ?_⟩ <;> simp only [*]; done) | (refine ⟨cell_keep hbA ?_, cell_keep hbA ?_, cell_keep hbA ?_, cell_keep hbA ?_, cell_keep hbA ?_, cell_keep hbA ?_, cell_keep hbA ?_, cell_keep hbA ?_, cell_keep hbA ?_, cell_keep hbA ?_, cell_keep hbA ?_, cell_keep hbA ?_, cell_keep hbA ?_, cell_keep hbA ?_, cell_keep hbA ?_, cell_keep hbA ?_, cell_keep hbA ?_, Rn.call hbA ?_⟩ <;> simp only [*]; done) | (refine ⟨al_cell _ ?_, al_cell _ ?_, al_cell _ ?_, al_cell _ ?_, al_cell _ ?_, al_cell _ ?_, al_cell _ ?_, al_cell _ ?_, al_cell _ ?_, al_cell _ ?_, al_cell _ ?_, al_cell _ ?_, al_cell _ ?_, al_cell _ ?_, al_cell _ ?_, al_cell _ ?_, al_cell _ ?_, Rn.alloc ?_ _⟩ <;> simp only [*]; done) | (refine ⟨al_dr _ ?_, al_dr _ ?_, al_dr _ ?_, al_dr _ ?_, al_dr _ ?_, al_dr _ ?_, al_dr _ ?_, al_dr _ ?_, al_dr _ ?_, al_dr _ ?_, al_dr _ ?_, al_dr _ ?_, al_dr _ ?_, al_dr _ ?_, al_dr _ ?_, al_dr _ ?_, al_dr _ ?_, Rn.al_dr ?_ _⟩ <;> simp only [*]; done) | (refine ⟨far_cell hne ?_, far_cell hne ?_, far_cell hne ?_, far_cell hne ?_, far_cell hne ?_, far_cell hne ?_, far_cell hne ?_, far_cell hne ?_, far_cell hne ?_, far_cell hne ?_, far_cell hne ?_, far_cell hne ?_, far_cell hne ?_, far_cell hne ?_, far_cell hne ?_, far_cell hne ?_, far_cell hne ?_, Rn.put ?_ _⟩ <;> simp only [*]; done) | go_keep)
    (first | (go_at_call_of 42 li; refine (HA1.out _).mono ?_; rintro e whbA ⟨rfl, hbA⟩) | (go_at_call 43; refine (HCe.out _).mono ?_; rintro e whbC ⟨rfl, hbC⟩) | (go_at_call 44; refine (HLv.out _).mono ?_; rintro e whbL ⟨rfl, hbL⟩) | (go_at_call_of 42 ce; refine (HA2.out _).mono ?_; rintro e whbB ⟨rfl, hbB⟩) | (go_at_call 41; refine (Calls.mono (leastAt1 HD.out (by first | exact Each.ints_lit1 _ _ | exact ints_litd1 _ _ | exact Ints.IsInts.below (Each.ints_lit1 _ _) hbB (by simp) | exact Ints.IsInts.below (ints_litd1 _ _) hbB (by simp) | exact Ints.IsInts.below (Each.ints_lit1 _ _) hbL (by simp) | exact Ints.IsInts.below (ints_litd1 _ _) hbL (by simp) | exact Ints.IsInts.below (Each.ints_lit1 _ _) hbC (by simp) | exact Ints.IsInts.below (ints_litd1 _ _) hbC (by simp) | exact Ints.IsInts.below (Each.ints_lit1 _ _) hbA (by simp) | exact Ints.IsInts.below (ints_litd1 _ _) hbA (by simp)) (by first | (simp; done) | (have hs1 := hbB.size; simp at hs1 ⊢; omega) | (have hs1 := hbL.size; simp at hs1 ⊢; omega) | (have hs1 := hbC.size; simp at hs1 ⊢; omega) | (have hs1 := hbA.size; simp at hs1 ⊢; omega))) ?_); rintro e wZ ⟨rfl, hbZ⟩; have hz : Rn W Bp 0 #[.int .i64 q0, .int .i64 q1, .int .i64 q2, .int .i64 q3] wZ := Rn.call hbZ (by simp only [*]); have ⟨zz, hzz⟩ := hz.at_; have pz := box_cell hzz 0 _ rfl; have fz := box_frozen hzz 0))
  all_goals
    have HZ := Lib.hid hz
    clear hz hr0
    go_wp2
    go_end0
    exact ⟨_, rfl, (HZ.out.put _).turned, HZ.out.fin _⟩
set_option maxRecDepth 100000 in
set_option maxHeartbeats 12800000 in
theorem rule3_any (x0 x1 x2 x3 x4 x5 x6 x7 x8 x9 x10 fl fa ol oa go li q0 q1 q2 q3 : Int) (Bc Bp : Nat) (W : World) (hc : W.heap[Bc]? = some (.cells #[.int .i64 x0, .int .i64 x1, .int .i64 x2, .int .i64 x3, .int .i64 x4, .int .i64 x5, .int .i64 x6, .int .i64 x7, .int .i64 x8, .int .i64 x9, .int .i64 x10, .int .i64 fl, .int .i64 fa, .int .i64 ol, .int .i64 oa, .int .i64 go, .int .i64 li] 63 (0, 0))) (hp : W.heap[Bp]? = some (.cells #[.int .i64 q0, .int .i64 q1, .int .i64 q2, .int .i64 q3] 55 (0, 0))) (hne : Bc ≠ Bp) (hq : 0 ≤ q1 ∧ q1 ≤ 30) (hpl : planB x0 x1 x2 x3 x4 x5 x6 x7 x8 x9 x10 fl fa ol oa go li = true) :
    Calls Try.prog 47 #[.pointer (some ⟨Bp, 0, none⟩), .pointer (some ⟨Bc, 0, none⟩)] W (RuSaid W Bp #[.int .i64 q0, .int .i64 q1, .int .i64 (min (min (spV x0 x2 fa oa) oa) (roV x0 ol li - q1)), .int .i64 q3]) := by
  obtain ⟨hs, b1, b2, b3, b4⟩ := planB_t hpl
  have hbd := specB_t hs
  have bx : (0 ≤ x0 ∧ x0 ≤ 12) ∧ (0 ≤ x1 ∧ x1 ≤ 12) ∧ (0 ≤ x2 ∧ x2 ≤ 12) := by omega
  clear hbd
  have HP := Lib.hid hp
  have HC := Lib.hid hc
  have HS := Lib.hid hs
  clear hs hpl
  obtain ⟨dv, hdv⟩ : ∃ z, min (min (spV x0 x2 fa oa) oa) (roV x0 ol li - q1) = z := ⟨_, rfl⟩
  rw [hdv]
  obtain ⟨sp, hsp⟩ : ∃ z, spV x0 x2 fa oa = z := ⟨_, rfl⟩
  obtain ⟨ro, hro⟩ : ∃ z, roV x0 ol li = z := ⟨_, rfl⟩
  have hrb : 0 ≤ ro ∧ ro ≤ 30 := by rw [← hro]; unfold roV; split <;> omega
  have hdd : min (min sp oa) (ro - q1) = dv := by rw [← hdv, ← hsp, ← hro]
  have hw1 : IntKind.i64.wrap (ro - q1) = ro - q1 := IntWalk.i64_in _ ⟨by omega, by omega⟩
  have HR : Hid (∀ W : World, Calls Try.prog 46 #[.agg #[.int .i64 x0, .int .i64 x1, .int .i64 x2, .int .i64 x3, .int .i64 x4, .int .i64 x5, .int .i64 x6, .int .i64 x7, .int .i64 x8, .int .i64 x9, .int .i64 x10, .int .i64 fl, .int .i64 fa, .int .i64 ol, .int .i64 oa, .int .i64 go, .int .i64 li]] W (Says (.int .i64 ro) W)) := fun W => by have h := room_any x0 x1 x2 x3 x4 x5 x6 x7 x8 x9 x10 fl fa ol oa go li W (by omega); rw [hro] at h; exact h
  have HSp : Hid (∀ W : World, Calls Try.prog 48 #[.agg #[.int .i64 x0, .int .i64 x1, .int .i64 x2, .int .i64 x3, .int .i64 x4, .int .i64 x5, .int .i64 x6, .int .i64 x7, .int .i64 x8, .int .i64 x9, .int .i64 x10, .int .i64 fl, .int .i64 fa, .int .i64 ol, .int .i64 oa, .int .i64 go, .int .i64 li]] W (Says (.int .i64 sp) W)) := fun W => by have h := spare_any x0 x1 x2 x3 x4 x5 x6 x7 x8 x9 x10 fl fa ol oa go li W HS.out (by omega); rw [hsp] at h; exact h
  have HD : Hid (min (min sp oa) (ro - q1) = dv) := hdd
  clear hdd hdv hro hsp hrb
  have c0 := box_cell HC.out 0 _ rfl
  have c1 := box_cell HC.out 1 _ rfl
  have c2 := box_cell HC.out 2 _ rfl
  have c3 := box_cell HC.out 3 _ rfl
  have c4 := box_cell HC.out 4 _ rfl
  have c5 := box_cell HC.out 5 _ rfl
  have c6 := box_cell HC.out 6 _ rfl
  have c7 := box_cell HC.out 7 _ rfl
  have c8 := box_cell HC.out 8 _ rfl
  have c9 := box_cell HC.out 9 _ rfl
  have c10 := box_cell HC.out 10 _ rfl
  have c11 := box_cell HC.out 11 _ rfl
  have c12 := box_cell HC.out 12 _ rfl
  have c13 := box_cell HC.out 13 _ rfl
  have c14 := box_cell HC.out 14 _ rfl
  have c15 := box_cell HC.out 15 _ rfl
  have c16 := box_cell HC.out 16 _ rfl
  have p1 := box_cell HP.out 1 _ rfl
  go_enter Try.func47, Try.ntmps47
  go_wp2_with fail
  have hr0 : Rn W Bp 2 #[.int .i64 q0, .int .i64 q1, .int .i64 q2, .int .i64 q3] W := ⟨Turned.of_below (Below.refl _ W), box_lt HP.out, q2, HP.out⟩
  go_region_held3 (fun w' => w'.cell? ⟨Bc, 0, none⟩ = some (.int .i64 x0) ∧ w'.cell? ⟨Bc, 1, none⟩ = some (.int .i64 x1) ∧ w'.cell? ⟨Bc, 2, none⟩ = some (.int .i64 x2) ∧ w'.cell? ⟨Bc, 3, none⟩ = some (.int .i64 x3) ∧ w'.cell? ⟨Bc, 4, none⟩ = some (.int .i64 x4) ∧ w'.cell? ⟨Bc, 5, none⟩ = some (.int .i64 x5) ∧ w'.cell? ⟨Bc, 6, none⟩ = some (.int .i64 x6) ∧ w'.cell? ⟨Bc, 7, none⟩ = some (.int .i64 x7) ∧ w'.cell? ⟨Bc, 8, none⟩ = some (.int .i64 x8) ∧ w'.cell? ⟨Bc, 9, none⟩ = some (.int .i64 x9) ∧ w'.cell? ⟨Bc, 10, none⟩ = some (.int .i64 x10) ∧ w'.cell? ⟨Bc, 11, none⟩ = some (.int .i64 fl) ∧ w'.cell? ⟨Bc, 12, none⟩ = some (.int .i64 fa) ∧ w'.cell? ⟨Bc, 13, none⟩ = some (.int .i64 ol) ∧ w'.cell? ⟨Bc, 14, none⟩ = some (.int .i64 oa) ∧ w'.cell? ⟨Bc, 15, none⟩ = some (.int .i64 go) ∧ w'.cell? ⟨Bc, 16, none⟩ = some (.int .i64 li) ∧ w'.cell? ⟨Bp, 1, none⟩ = some (.int .i64 q1) ∧ Rn W Bp 2 #[.int .i64 q0, .int .i64 q1, .int .i64 q2, .int .i64 q3] w')
    (first | (exact ⟨c0, c1, c2, c3, c4, c5, c6, c7, c8, c9, c10, c11, c12, c13, c14, c15, c16, p1, hr0.drew⟩) | (refine ⟨cell_keep hbZ ?_, cell_keep hbZ ?_, cell_keep hbZ ?_, cell_keep hbZ ?_, cell_keep hbZ ?_, cell_keep hbZ ?_, cell_keep hbZ ?_, cell_keep hbZ ?_, cell_keep hbZ ?_, cell_keep hbZ ?_, cell_keep hbZ ?_, cell_keep hbZ ?_, cell_keep hbZ ?_, cell_keep hbZ ?_, cell_keep hbZ ?_, cell_keep hbZ ?_, cell_keep hbZ ?_, cell_keep hbZ ?_, Rn.call hbZ ?_⟩ <;> simp only [*]; done) | (refine ⟨cell_keep hbR ?_, cell_keep hbR ?_, cell_keep hbR ?_, cell_keep hbR ?_, cell_keep hbR ?_, cell_keep hbR ?_, cell_keep hbR ?_, cell_keep hbR ?_, cell_keep hbR ?_, cell_keep hbR ?_, cell_keep hbR ?_, cell_keep hbR ?_, cell_keep hbR ?_, cell_keep hbR ?_, cell_keep hbR ?_, cell_keep hbR ?_, cell_keep hbR ?_, cell_keep hbR ?_, Rn.call hbR ?_⟩ <;> simp only [*]; done) | (refine ⟨cell_keep hbS ?_, cell_keep hbS ?_, cell_keep hbS ?_, cell_keep hbS ?_, cell_keep hbS ?_, cell_keep hbS ?_, cell_keep hbS ?_, cell_keep hbS ?_, cell_keep hbS ?_, cell_keep hbS ?_, cell_keep hbS ?_, cell_keep hbS ?_, cell_keep hbS ?_, cell_keep hbS ?_, cell_keep hbS ?_, cell_keep hbS ?_, cell_keep hbS ?_, cell_keep hbS ?_, Rn.call hbS ?_⟩ <;> simp only [*]; done) | (refine ⟨al_cell _ ?_, al_cell _ ?_, al_cell _ ?_, al_cell _ ?_, al_cell _ ?_, al_cell _ ?_, al_cell _ ?_, al_cell _ ?_, al_cell _ ?_, al_cell _ ?_, al_cell _ ?_, al_cell _ ?_, al_cell _ ?_, al_cell _ ?_, al_cell _ ?_, al_cell _ ?_, al_cell _ ?_, al_cell _ ?_, Rn.alloc ?_ _⟩ <;> simp only [*]; done) | (refine ⟨al_dr _ ?_, al_dr _ ?_, al_dr _ ?_, al_dr _ ?_, al_dr _ ?_, al_dr _ ?_, al_dr _ ?_, al_dr _ ?_, al_dr _ ?_, al_dr _ ?_, al_dr _ ?_, al_dr _ ?_, al_dr _ ?_, al_dr _ ?_, al_dr _ ?_, al_dr _ ?_, al_dr _ ?_, al_dr _ ?_, Rn.al_dr ?_ _⟩ <;> simp only [*]; done) | (refine ⟨far_cell hne ?_, far_cell hne ?_, far_cell hne ?_, far_cell hne ?_, far_cell hne ?_, far_cell hne ?_, far_cell hne ?_, far_cell hne ?_, far_cell hne ?_, far_cell hne ?_, far_cell hne ?_, far_cell hne ?_, far_cell hne ?_, far_cell hne ?_, far_cell hne ?_, far_cell hne ?_, far_cell hne ?_, near_cell (by decide) ?_, Rn.put ?_ _⟩ <;> simp only [*]; done) | go_keep)
    (first | (go_at_call 48; refine (HSp.out _).mono ?_; rintro e whbS ⟨rfl, hbS⟩) | (go_at_call 46; refine (HR.out _).mono ?_; rintro e whbR ⟨rfl, hbR⟩) | (go_at_call 41; refine (Calls.mono (leastAt2 HD.out (by first | exact Each.ints_lit2 _ _ _ | exact ints_litd2 _ _ _ | exact Ints.IsInts.below (Each.ints_lit2 _ _ _) hbR (by simp) | exact Ints.IsInts.below (ints_litd2 _ _ _) hbR (by simp) | exact Ints.IsInts.below (Each.ints_lit2 _ _ _) hbS (by simp) | exact Ints.IsInts.below (ints_litd2 _ _ _) hbS (by simp)) (by first | (simp; done) | (have hs1 := hbR.size; simp at hs1 ⊢; omega) | (have hs1 := hbS.size; simp at hs1 ⊢; omega))) ?_); rintro e wZ ⟨rfl, hbZ⟩; have hz : Rn W Bp 2 #[.int .i64 q0, .int .i64 q1, .int .i64 q2, .int .i64 q3] wZ := Rn.call hbZ (by simp only [*]); have ⟨zz, hzz⟩ := hz.at_; have pz := box_cell hzz 2 _ rfl; have fz := box_frozen hzz 2))
  all_goals
    have HZ := Lib.hid hz
    clear hz hr0
    go_wp2
    go_end0
    exact ⟨_, rfl, (HZ.out.put _).turned, HZ.out.fin _⟩
end Go.Proofs.Ytlghdmakaocokaa.Rul
