/-
  THE RULES OF A STEP over this seat's translation: each stores its number of the plan, and turns nothing else.
-/
import Derived.Test.YtlghdmakaocokaaScn
namespace Go.Proofs.Ytlghdmakaocokaa.Rul
open Go.ChangeShapes Go.WideShapes Go.ChangeAt Go.RowKit
open Go.Proofs.Ytlghdmakaocokaa.LK Go.Proofs.Ytlghdmakaocokaa.Sp Go.Proofs.Ytlghdmakaocokaa.Put Go.Proofs.Ytlghdmakaocokaa.Cnt Go.Proofs.Ytlghdmakaocokaa.Each Go.Proofs.Ytlghdmakaocokaa.Scn
set_option linter.unusedVariables false
set_option linter.unusedSimpArgs false
/-- Amid a rule: nothing but the plan's block at Bp has turned, and of it but the i-th number. -/
structure Rn (W : World) (Bp i : Nat) (q : Array Value) (w' : World) : Prop where
  turned : Turned (fun k => k = Bp) W w'
  lt : Bp < W.heap.size
  at_ : ∃ z : Int, w'.heap[Bp]? = some (.cells (q.setIfInBounds i (.int .i64 z)) 55 (0, 0))
section
variable {W w1 w2 : World} {Bp i : Nat} {q : Array Value}
theorem Rn.size (h : Rn W Bp i q w1) : Bp < w1.heap.size := Nat.lt_of_lt_of_le h.lt h.turned.size
theorem Rn.below (h : Rn W Bp i q w1) (hb : Below w1.heap.size w1 w2) : Rn W Bp i q w2 := by
  obtain ⟨z, hz⟩ := h.at_
  exact ⟨h.turned.trans (Turned.of_below hb), h.lt, z, box_below hz hb⟩
theorem Rn.alloc (h : Rn W Bp i q w1) (ob : Obj) : Rn W Bp i q (w1.alloc ob) := h.below (bel1 _ _)
theorem Rn.call (hb : Below w1.heap.size w1 w2) (h : Rn W Bp i q w1) : Rn W Bp i q w2 := h.below hb
theorem Rn.drew (h : Rn W Bp i q w1) : Rn W Bp i q w1.drew := h.below (Below.refl _ w1).drew
theorem Rn.put (h : Rn W Bp i q w1) (z : Int) : Rn W Bp i q (w1.setCell ⟨Bp, i, none⟩ (.int .i64 z)) := by
  obtain ⟨y, hy⟩ := h.at_
  exact ⟨h.turned.trans (Turned.set w1 ⟨Bp, i, none⟩ _ rfl), h.lt, z, by rw [box_set hy]; simp⟩
theorem Rn.fin (h : Rn W Bp i q w1) (z : Int) : (w1.setCell ⟨Bp, i, none⟩ (.int .i64 z)).heap[Bp]? = some (.cells (q.setIfInBounds i (.int .i64 z)) 55 (0, 0)) := by
  obtain ⟨y, hy⟩ := h.at_
  rw [box_set hy]; simp
end
theorem al_cell {w : World} {p : Addr} {u : Value} (ob : Obj) (h : w.cell? p = some u) : (w.alloc ob).cell? p = some u := cell_keep (bel1 w ob) h
theorem al_dr {w : World} {p : Addr} {u : Value} (ob : Obj) (h : w.drew.cell? p = some u) : ((w.alloc ob).drew).cell? p = some u := al_cell ob h
theorem Rn.al_dr {W w1 : World} {Bp i : Nat} {q : Array Value} (h : Rn W Bp i q w1.drew) (ob : Obj) : Rn W Bp i q ((w1.alloc ob).drew) := h.alloc ob
theorem ints_litd1 (W : World) (x : Int) : Ints.IsInts ((W.alloc (.cells #[.int .i64 x] 3)).drew) (W.heap.size + 1) (some ⟨W.heap.size, 0, none⟩) 1 [x] := ints_lit1 W x
theorem ints_litd2 (W : World) (x y : Int) : Ints.IsInts ((W.alloc (.cells #[.int .i64 x, .int .i64 y] 3)).drew) (W.heap.size + 1) (some ⟨W.heap.size, 0, none⟩) 2 [x, y] := ints_lit2 W x y
theorem far_cell {w : World} {b k i j : Nat} {u v : Value} (hne : b ≠ k) (h : w.cell? ⟨b, j, none⟩ = some u) : (w.setCell ⟨k, i, none⟩ v).cell? ⟨b, j, none⟩ = some u := by
  rw [World.cell?_setCell_far _ _ _ _ (fun e => hne e.symm)]; exact h
theorem near_cell {w : World} {b i j : Nat} {u v : Value} (hne : j ≠ i) (h : w.cell? ⟨b, j, none⟩ = some u) : (w.setCell ⟨b, i, none⟩ v).cell? ⟨b, j, none⟩ = some u := by
  rw [World.cell?_setCell_other _ _ _ _ (fun e => hne (by injection e with _ e2 _; exact e2.symm))]; exact h
theorem leastAt1 {a b m : Int} (h : min a b = m) {A : Option Addr} {B : Nat} {w : World} (hi : Ints.IsInts w B A 1 [b]) (hB : B ≤ w.heap.size) : Calls Try.prog 41 #[.int .i64 a, .slice A 1 1] w (Says (.int .i64 m) w) := by
  have h1 := leastOf_any a A 1 1 [b] B w hi hB (by omega)
  rw [← h]; exact h1
theorem leastAt2 {a b c m : Int} (h : min (min a b) c = m) {A : Option Addr} {B : Nat} {w : World} (hi : Ints.IsInts w B A 2 [b, c]) (hB : B ≤ w.heap.size) : Calls Try.prog 41 #[.int .i64 a, .slice A 2 2] w (Says (.int .i64 m) w) := by
  have h1 := leastOf_any a A 2 2 [b, c] B w hi hB (by omega)
  rw [← h]; exact h1
/-- What a rule answers. -/
def RuSaid (W : World) (Bp : Nat) (q : Array Value) (e : Ending) (W' : World) : Prop := ∃ u, e = .returned u ∧ Turned (fun k => k = Bp) W W' ∧ W'.heap[Bp]? = some (.cells q 55 (0, 0))
set_option maxRecDepth 100000 in
set_option maxHeartbeats 12800000 in
theorem rule4_any (x0 x1 x2 x3 x4 x5 x6 x7 x8 x9 x10 fl fa ol oa go li q0 q1 q2 q3 : Int) (Bc Bp : Nat) (W : World) (hc : W.heap[Bc]? = some (.cells #[.int .i64 x0, .int .i64 x1, .int .i64 x2, .int .i64 x3, .int .i64 x4, .int .i64 x5, .int .i64 x6, .int .i64 x7, .int .i64 x8, .int .i64 x9, .int .i64 x10, .int .i64 fl, .int .i64 fa, .int .i64 ol, .int .i64 oa, .int .i64 go, .int .i64 li] 63 (0, 0))) (hp : W.heap[Bp]? = some (.cells #[.int .i64 q0, .int .i64 q1, .int .i64 q2, .int .i64 q3] 55 (0, 0))) (hne : Bc ≠ Bp) (hq : 0 ≤ q1 ∧ q1 ≤ 30) (hpl : planB x0 x1 x2 x3 x4 x5 x6 x7 x8 x9 x10 fl fa ol oa go li = true) :
    Calls Try.prog 49 #[.pointer (some ⟨Bp, 0, none⟩), .pointer (some ⟨Bc, 0, none⟩)] W (RuSaid W Bp #[.int .i64 q0, .int .i64 q1, .int .i64 q2, .int .i64 (dfV x0 fl)]) := by
  obtain ⟨hs, b1, b2, b3, b4⟩ := planB_t hpl
  have hbd := specB_t hs
  have bx : (0 ≤ x0 ∧ x0 ≤ 12) ∧ (0 ≤ x1 ∧ x1 ≤ 12) ∧ (0 ≤ x2 ∧ x2 ≤ 12) := by omega
  clear hbd
  have HP := Lib.hid hp
  have HC := Lib.hid hc
  have HS := Lib.hid hs
  clear hs hpl
  obtain ⟨df, hdf⟩ : ∃ z, dfV x0 fl = z := ⟨_, rfl⟩
  rw [hdf]
  have HA : Hid (∀ W : World, Calls Try.prog 42 #[.int .i64 fl, .int .i64 x0] W (Says (.int .i64 df) W)) := fun W => above_any fl x0 _ _ W rfl (by omega) (by rw [← hdf]; rfl)
  clear hdf
  have c0 := box_cell HC.out 0 _ rfl
  have c11 := box_cell HC.out 11 _ rfl
  go_enter Try.func49, Try.ntmps49
  go_wp2_with fail
  refine (HA.out _).mono ?_
  rintro e w1 ⟨rfl, hb⟩
  clear c0 c11
  have hr0 : Rn W Bp 3 #[.int .i64 q0, .int .i64 q1, .int .i64 q2, .int .i64 q3] W := ⟨Turned.of_below (Below.refl _ W), box_lt HP.out, q3, HP.out⟩
  have HZ := Lib.hid (hr0.below hb)
  have KP := box_below HP.out hb
  have pz := box_cell KP 3 _ rfl
  have fz := box_frozen KP 3
  clear hr0 hb KP
  go_wp2
  go_end0
  exact ⟨_, rfl, (HZ.out.put _).turned, HZ.out.fin _⟩
set_option maxRecDepth 100000 in
set_option maxHeartbeats 12800000 in
theorem rule2_any (x0 x1 x2 x3 x4 x5 x6 x7 x8 x9 x10 fl fa ol oa go li q0 q1 q2 q3 : Int) (Bc Bp : Nat) (W : World) (hc : W.heap[Bc]? = some (.cells #[.int .i64 x0, .int .i64 x1, .int .i64 x2, .int .i64 x3, .int .i64 x4, .int .i64 x5, .int .i64 x6, .int .i64 x7, .int .i64 x8, .int .i64 x9, .int .i64 x10, .int .i64 fl, .int .i64 fa, .int .i64 ol, .int .i64 oa, .int .i64 go, .int .i64 li] 63 (0, 0))) (hp : W.heap[Bp]? = some (.cells #[.int .i64 q0, .int .i64 q1, .int .i64 q2, .int .i64 q3] 55 (0, 0))) (hne : Bc ≠ Bp) (hq : 0 ≤ q1 ∧ q1 ≤ 30) (hpl : planB x0 x1 x2 x3 x4 x5 x6 x7 x8 x9 x10 fl fa ol oa go li = true) :
    Calls Try.prog 45 #[.pointer (some ⟨Bp, 0, none⟩), .pointer (some ⟨Bc, 0, none⟩)] W (RuSaid W Bp #[.int .i64 q0, .int .i64 (drV x0 ol oa li), .int .i64 q2, .int .i64 q3]) := by
  obtain ⟨hs, b1, b2, b3, b4⟩ := planB_t hpl
  have hbd := specB_t hs
  have bx : (0 ≤ x0 ∧ x0 ≤ 12) ∧ (0 ≤ x1 ∧ x1 ≤ 12) ∧ (0 ≤ x2 ∧ x2 ≤ 12) := by omega
  clear hbd
  have HP := Lib.hid hp
  have HC := Lib.hid hc
  have HS := Lib.hid hs
  clear hs hpl
  obtain ⟨dr, hdr⟩ : ∃ z, drV x0 ol oa li = z := ⟨_, rfl⟩
  rw [hdr]
  obtain ⟨ro, hro⟩ : ∃ z, roV x0 ol li = z := ⟨_, rfl⟩
  have hdd : min ro (ol - oa) = dr := by rw [← hdr, ← hro]; rfl
  have hw1 : IntKind.i64.wrap (ol - oa) = ol - oa := IntWalk.i64_in _ ⟨by omega, by omega⟩
  have HR : Hid (∀ W : World, Calls Try.prog 46 #[.agg #[.int .i64 x0, .int .i64 x1, .int .i64 x2, .int .i64 x3, .int .i64 x4, .int .i64 x5, .int .i64 x6, .int .i64 x7, .int .i64 x8, .int .i64 x9, .int .i64 x10, .int .i64 fl, .int .i64 fa, .int .i64 ol, .int .i64 oa, .int .i64 go, .int .i64 li]] W (Says (.int .i64 ro) W)) := fun W => by have h := room_any x0 x1 x2 x3 x4 x5 x6 x7 x8 x9 x10 fl fa ol oa go li W (by omega); rw [hro] at h; exact h
  have HD : Hid (min ro (ol - oa) = dr) := hdd
  clear hdd hdr hro
  have c0 := box_cell HC.out 0 _ rfl
  have c1 := box_cell HC.out 1 _ rfl
  have c2 := box_cell HC.out 2 _ rfl
  have c3 := box_cell HC.out 3 _ rfl
  have c4 := box_cell HC.out 4 _ rfl
  have c5 := box_cell HC.out 5 _ rfl
  have c6 := box_cell HC.out 6 _ rfl
  have c7 := box_cell HC.out 7 _ rfl
  have c8 := box_cell HC.out 8 _ rfl
  have c9 := box_cell HC.out 9 _ rfl
  have c10 := box_cell HC.out 10 _ rfl
  have c11 := box_cell HC.out 11 _ rfl
  have c12 := box_cell HC.out 12 _ rfl
  have c13 := box_cell HC.out 13 _ rfl
  have c14 := box_cell HC.out 14 _ rfl
  have c15 := box_cell HC.out 15 _ rfl
  have c16 := box_cell HC.out 16 _ rfl
  go_enter Try.func45, Try.ntmps45
  go_wp2_with fail
  have hr0 : Rn W Bp 1 #[.int .i64 q0, .int .i64 q1, .int .i64 q2, .int .i64 q3] W := ⟨Turned.of_below (Below.refl _ W), box_lt HP.out, q1, HP.out⟩
  go_region_held3 (fun w' => w'.cell? ⟨Bc, 0, none⟩ = some (.int .i64 x0) ∧ w'.cell? ⟨Bc, 1, none⟩ = some (.int .i64 x1) ∧ w'.cell? ⟨Bc, 2, none⟩ = some (.int .i64 x2) ∧ w'.cell? ⟨Bc, 3, none⟩ = some (.int .i64 x3) ∧ w'.cell? ⟨Bc, 4, none⟩ = some (.int .i64 x4) ∧ w'.cell? ⟨Bc, 5, none⟩ = some (.int .i64 x5) ∧ w'.cell? ⟨Bc, 6, none⟩ = some (.int .i64 x6) ∧ w'.cell? ⟨Bc, 7, none⟩ = some (.int .i64 x7) ∧ w'.cell? ⟨Bc, 8, none⟩ = some (.int .i64 x8) ∧ w'.cell? ⟨Bc, 9, none⟩ = some (.int .i64 x9) ∧ w'.cell? ⟨Bc, 10, none⟩ = some (.int .i64 x10) ∧ w'.cell? ⟨Bc, 11, none⟩ = some (.int .i64 fl) ∧ w'.cell? ⟨Bc, 12, none⟩ = some (.int .i64 fa) ∧ w'.cell? ⟨Bc, 13, none⟩ = some (.int .i64 ol) ∧ w'.cell? ⟨Bc, 14, none⟩ = some (.int .i64 oa) ∧ w'.cell? ⟨Bc, 15, none⟩ = some (.int .i64 go) ∧ w'.cell? ⟨Bc, 16, none⟩ = some (.int .i64 li) ∧ Rn W Bp 1 #[.int .i64 q0, .int .i64 q1, .int .i64 q2, .int .i64 q3] w')
    (first | (exact ⟨c0, c1, c2, c3, c4, c5, c6, c7, c8, c9, c10, c11, c12, c13, c14, c15, c16, hr0.drew⟩) | (refine ⟨cell_keep hbZ ?_, cell_keep hbZ ?_, cell_keep hbZ ?_, cell_keep hbZ ?_, cell_keep hbZ ?_, cell_keep hbZ ?_, cell_keep hbZ ?_, cell_keep hbZ ?_, cell_keep hbZ ?_, cell_keep hbZ ?_, cell_keep hbZ ?_, cell_keep hbZ ?_, cell_keep hbZ ?_, cell_keep hbZ ?_, cell_keep hbZ ?_, cell_keep hbZ ?_, cell_keep hbZ ?_, Rn.call hbZ ?_⟩ <;> simp only [*]; done) | (refine ⟨cell_keep hbR ?_, cell_keep hbR ?_, cell_keep hbR ?_, cell_keep hbR ?_, cell_keep hbR ?_, cell_keep hbR ?_, cell_keep hbR ?_, cell_keep hbR ?_, cell_keep hbR ?_, cell_keep hbR ?_, cell_keep hbR ?_, cell_keep hbR ?_, cell_keep hbR ?_, cell_keep hbR ?_, cell_keep hbR ?_, cell_keep hbR ?_, cell_keep hbR ?_, Rn.call hbR ?_⟩ <;> simp only [*]; done) | (refine ⟨al_cell _ ?_, al_cell _ ?_, al_cell _ ?_, al_cell _ ?_, al_cell _ ?_, al_cell _ ?_, al_cell _ ?_, al_cell _ ?_, al_cell _ ?_, al_cell _ ?_, al_cell _ ?_, al_cell _ ?_, al_cell _ ?_, al_cell _ ?_, al_cell _ ?_, al_cell _ ?_, al_cell _ ?_, Rn.alloc ?_ _⟩ <;> simp only [*]; done) | (refine ⟨al_dr _ ?_, al_dr _ ?_, al_dr _ ?_, al_dr _ ?_, al_dr _ ?_, al_dr _ ?_, al_dr _ ?_, al_dr _ ?_, al_dr _ ?_, al_dr _ ?_, al_dr _ ?_, al_dr _ ?_, al_dr _ ?_, al_dr _ ?_, al_dr _ ?_, al_dr _ ?_, al_dr _ ?_, Rn.al_dr ?_ _⟩ <;> simp only [*]; done) | (refine ⟨far_cell hne ?_, far_cell hne ?_, far_cell hne ?_, far_cell hne ?_, far_cell hne ?_, far_cell hne ?_, far_cell hne ?_, far_cell hne ?_, far_cell hne ?_, far_cell hne ?_, far_cell hne ?_, far_cell hne ?_, far_cell hne ?_, far_cell hne ?_, far_cell hne ?_, far_cell hne ?_, far_cell hne ?_, Rn.put ?_ _⟩ <;> simp only [*]; done) | go_keep)
    (first | (go_at_call 46; refine (HR.out _).mono ?_; rintro e whbR ⟨rfl, hbR⟩) | (go_at_call 41; refine (Calls.mono (leastAt1 HD.out (by first | exact Each.ints_lit1 _ _ | exact ints_litd1 _ _ | exact Ints.IsInts.below (Each.ints_lit1 _ _) hbR (by simp) | exact Ints.IsInts.below (ints_litd1 _ _) hbR (by simp)) (by first | (simp; done) | (have hs1 := hbR.size; simp at hs1 ⊢; omega))) ?_); rintro e wZ ⟨rfl, hbZ⟩; have hz : Rn W Bp 1 #[.int .i64 q0, .int .i64 q1, .int .i64 q2, .int .i64 q3] wZ := Rn.call hbZ (by simp only [*]); have ⟨zz, hzz⟩ := hz.at_; have pz := box_cell hzz 1 _ rfl; have fz := box_frozen hzz 1))
  all_goals
    have HZ := Lib.hid hz
    clear hz hr0
    go_wp2
    go_end0
    exact ⟨_, rfl, (HZ.out.put _).turned, HZ.out.fin _⟩
end Go.Proofs.Ytlghdmakaocokaa.Rul
