/-
  THE CONTRACT of the model's l07DrawCount over this seat's translation: a small count, whatever the code.
-/
import Derived.Test.YtmmdpljimjfkdaaDrawSb
namespace Go.Proofs.Ytmmdpljimjfkdaa.DrawCt
open Go.ChangeShapes Go.WideShapes Go.ChangeAt Go.RowKit
open Go.Proofs.Ytmmdpljimjfkdaa.LK Go.Proofs.Ytmmdpljimjfkdaa.Put Go.Proofs.Ytmmdpljimjfkdaa.Draw Go.Proofs.Ytmmdpljimjfkdaa.DrawSp Go.Proofs.Ytmmdpljimjfkdaa.DrawSb
open Go.Proofs.Ytmmdpljimjfkdaa.DrawTick (lit_cells below_grown)
set_option linter.unusedVariables false
set_option linter.unusedSimpArgs false
def CtSaid (w : World) (B g : Nat) (A : Option Addr) (n cap : Nat) (zs : List UInt8) (e : Ending) (w' : World) : Prop := ∃ l a : Int, e = .returned (.agg #[.int .i64 l, .int .i64 a]) ∧ ((-1 ≤ l ∧ l ≤ 31) ∧ (-1 ≤ a ∧ a ≤ 31)) ∧ CurAt w' B g A n cap zs ∧ w.grownBy w' (some g)
/-- Amid the drawing of the count at kb; the result's variable at the world's end. -/
structure Dc (w wr : World) (kb : Nat) (B g : Nat) (A : Option Addr) (n cap : Nat) (zs : List UInt8) (l a : Int) : Prop where
  cur : CurAt wr B g A n cap zs
  grown : w.grownBy wr (some g)
  box : wr.heap[kb]? = some (.cells #[.int .i64 l, .int .i64 a] 27 (0, 0))
  res : wr.heap[w.heap.size]? = some (.cells #[.int .i64 0, .int .i64 0] 27 (0, 0))
  ne : g < w.heap.size ∧ w.heap.size < kb
section
variable {w wr w' : World} {kb B g : Nat} {A : Option Addr} {n cap : Nat} {zs : List UInt8} {l a : Int}
theorem Dc.draw (h : Dc w wr kb B g A n cap zs l a) (hc : CurAt w' B g A n cap zs) (hg : wr.grownBy w' (some g)) : Dc w w' kb B g A n cap zs l a :=
  ⟨hc, grown_trans h.grown hg, box_grown h.box hg (by have := h.ne; omega), box_grown h.res hg (by have := h.ne; omega), h.ne⟩
theorem Dc.alloc (h : Dc w wr kb B g A n cap zs l a) (ob : Obj) : Dc w (wr.alloc ob) kb B g A n cap zs l a := ⟨h.cur.alloc ob, grown_alloc h.grown ob, box_alloc h.box ob, box_alloc h.res ob, h.ne⟩
theorem Dc.set0 (h : Dc w wr kb B g A n cap zs l a) (x : Int) : Dc w (wr.setCell ⟨kb, 0, none⟩ (.int .i64 x)) kb B g A n cap zs x a :=
  ⟨cur_set h.cur _ (by have := h.ne; show kb ≠ g; omega) (by have := cur_ge h.cur; have := h.ne; show B ≤ kb; omega) _, grown_seti h.grown _ _ (by have := h.ne; show _ ≤ kb; omega), by have h1 := box_set (i := 0) h.box (.int .i64 x); simpa using h1, box_other h.res _ _ (by have := h.ne; show _ ≠ kb; omega), h.ne⟩
theorem Dc.set1 (h : Dc w wr kb B g A n cap zs l a) (x : Int) : Dc w (wr.setCell ⟨kb, 1, none⟩ (.int .i64 x)) kb B g A n cap zs l x :=
  ⟨cur_set h.cur _ (by have := h.ne; show kb ≠ g; omega) (by have := cur_ge h.cur; have := h.ne; show B ≤ kb; omega) _, grown_seti h.grown _ _ (by have := h.ne; show _ ≤ kb; omega), by have h1 := box_set (i := 1) h.box (.int .i64 x); simpa using h1, box_other h.res _ _ (by have := h.ne; show _ ≠ kb; omega), h.ne⟩
end
set_option maxRecDepth 100000 in
set_option maxHeartbeats 6400000 in
theorem drawCount_any (w : World) (B g : Nat) (A : Option Addr) (n cap : Nat) (zs : List UInt8) (hc : CurAt w B g A n cap zs) : Calls Try.prog 45 #[.pointer (some ⟨g, 0, none⟩)] w (CtSaid w B g A n cap zs) := by
  have hgl : g < w.heap.size := hc.lt
  have KR := Lib.hid (box_new w (.cells #[.int .i64 0, .int .i64 0] 27))
  have HC := Lib.hid (hc.alloc (.cells #[.int .i64 0, .int .i64 0] 27))
  have HG := Lib.hid (grown_alloc (grown_refl w (some g)) (.cells #[.int .i64 0, .int .i64 0] 27))
  clear hc
  go_enter Try.func45, Try.ntmps45
  go_wp2_with fail
  refine (below_any 7 (by omega) _ B g A n cap zs HC.out).mono ?_
  rintro e w1 ⟨da, hx, _, rfl, hc, hg⟩
  have hda : (da : Int) < 7 := hx (by omega)
  clear hx
  have KR1 := Lib.hid (box_grown KR.out hg (by omega))
  have hl1 : w.heap.size < w1.heap.size := box_lt KR1.out
  have D : Hid (Dc w (w1.alloc (.cells #[.int .i64 (da : Int), .int .i64 0] 27)) w1.heap.size B g A n cap zs (da : Int) 0) := ⟨hc.alloc _, grown_alloc (grown_trans HG.out hg) _, box_new _ _, box_alloc KR1.out _, by omega⟩
  clear KR KR1 HC HG hc hg
  have cz := box_cell D.out.box 0 _ rfl
  go_wp2_with fail
  refine (below_any ((da : Int) + 1) (by omega) _ B g A n cap zs D.out.cur).mono ?_
  rintro e w2 ⟨db, hx, _, rfl, hc, hg⟩
  have hdb : (db : Int) < (da : Int) + 1 := hx (by omega)
  clear hx cz
  have D' := Lib.hid (D.out.draw hc hg)
  clear D hc hg
  have D := D'
  clear D'
  have cz := box_cell D.out.box 1 _ rfl
  have fz := box_frozen D.out.box 1
  have D' : Hid (Dc w (w2.setCell ⟨w1.heap.size, 1, none⟩ (.int .i64 (db : Int))) w1.heap.size B g A n cap zs (da : Int) (db : Int)) := D.out.set1 (db : Int)
  clear D
  have D := D'
  clear D'
  go_wp2_with fail
  refine (once_any 25 (by omega) _ B g A n cap zs D.out.cur).mono ?_
  rintro e w3 ⟨bb, rfl, hc, hg⟩
  have D' := Lib.hid (D.out.draw hc hg)
  clear D hc hg cz fz
  have D := D'
  clear D'
  go_upto_if 14 with fail
  go_cut [] (fun wx => ∃ l a : Int, ((-1 ≤ l ∧ l ≤ 31) ∧ (-1 ≤ a ∧ a ≤ 31)) ∧ Hid (Dc w wx w1.heap.size B g A n cap zs l a))
  case first =>
    cases bb
    · go_wp2_with fail
      go_meet
      case rel => exact ⟨_, _, by omega, D⟩
    · skip
      have DA := Lib.hid (D.out.alloc (.cells #[.int .i64 (-1), .int .i64 ((da : Int) + 1)] 3))
      have hgl2 : g < w3.heap.size := D.out.cur.lt
      have c0 := box_cell D.out.box 0 _ rfl
      clear D
      go_wp2_with fail
      refine (pick_any [-1, (da : Int) + 1] w3.heap.size 2 2 rfl (by omega) (by omega) _ B g A n cap zs DA.out.cur (by omega) (fun j hj => lit_cells w3 _ [-1, (da : Int) + 1] j hj)).mono ?_
      rintro e w4 ⟨z, hz, rfl, hc, hg⟩
      have hz2 : -1 ≤ z ∧ z ≤ 31 := by simp only [List.mem_cons, List.not_mem_nil, or_false] at hz; omega
      have D := Lib.hid (DA.out.draw hc hg)
      clear DA hc hg hz c0 hgl2
      have cz := box_cell D.out.box 1 _ rfl
      have fz := box_frozen D.out.box 1
      have D' : Hid (Dc w (w4.setCell ⟨w1.heap.size, 1, none⟩ (.int .i64 z)) w1.heap.size B g A n cap zs (da : Int) z) := D.out.set1 z
      clear D
      have D := D'
      clear D'
      go_wp2_with fail
      go_meet
      case rel => exact ⟨_, _, by omega, D⟩
  clear D
  obtain ⟨l, a, hla, D⟩ := hcut
  obtain ⟨w5, hwq⟩ : ∃ x, x = wc := ⟨_, rfl⟩
  subst hwq
  go_wp2_with fail
  refine (once_any 40 (by omega) _ B g A n cap zs D.out.cur).mono ?_
  rintro e w6 ⟨bc, rfl, hc, hg⟩
  have D' := Lib.hid (D.out.draw hc hg)
  clear D hc hg
  have D := D'
  clear D'
  go_upto_if 23 with fail
  go_cut [] (fun wx => ∃ l a : Int, ((-1 ≤ l ∧ l ≤ 31) ∧ (-1 ≤ a ∧ a ≤ 31)) ∧ Hid (Dc w wx w1.heap.size B g A n cap zs l a))
  case first =>
    cases bc
    · go_wp2_with fail
      go_meet
      case rel => exact ⟨_, _, hla, D⟩
    · skip
      have DA := Lib.hid (D.out.alloc (.cells #[.int .i64 (-1), .int .i64 30, .int .i64 31] 3))
      have hgl2 : g < w6.heap.size := D.out.cur.lt
      have c0 := box_cell D.out.box 0 _ rfl
      clear D
      go_wp2_with fail
      refine (pick_any [-1, 30, 31] w6.heap.size 3 3 rfl (by omega) (by omega) _ B g A n cap zs DA.out.cur (by omega) (fun j hj => lit_cells w6 _ [-1, 30, 31] j hj)).mono ?_
      rintro e w7 ⟨z, hz, rfl, hc, hg⟩
      have hz2 : -1 ≤ z ∧ z ≤ 31 := by simp only [List.mem_cons, List.not_mem_nil, or_false] at hz; omega
      have D := Lib.hid (DA.out.draw hc hg)
      clear DA hc hg hz c0 hgl2
      have cz := box_cell D.out.box 0 _ rfl
      have fz := box_frozen D.out.box 0
      have D' : Hid (Dc w (w7.setCell ⟨w1.heap.size, 0, none⟩ (.int .i64 z)) w1.heap.size B g A n cap zs z a) := D.out.set0 z
      clear D
      have D := D'
      clear D'
      go_wp2_with fail
      go_meet
      case rel => exact ⟨_, _, by omega, D⟩
  clear D hla
  obtain ⟨l, a, hla, D⟩ := hcut
  obtain ⟨w8, hwq⟩ : ∃ x, x = wc := ⟨_, rfl⟩
  subst hwq
  have k0 := box_cell D.out.box 0 _ rfl
  have k1 := box_cell D.out.box 1 _ rfl
  have RB := setRow_box (vs := #[.int .i64 l, .int .i64 a]) D.out.res
  have r0 := box_cell RB 0 _ rfl
  have r1 := box_cell RB 1 _ rfl
  have hBg := cur_ge D.out.cur
  have HCf := Lib.hid (cur_row D.out.cur w.heap.size #[.int .i64 l, .int .i64 a] (by omega) (by omega))
  have HGf := Lib.hid (grown_row D.out.grown w.heap.size #[.int .i64 l, .int .i64 a] (by omega))
  go_wp2_with (refine wpList_put rfl rfl 27 _ _ rfl w.heap.size _ rfl rfl _ _ D.out.res (Try.sizeOf27 _) rfl (by simp [Value.oneCell']) ?_)
  exact bodyPost_ret (v := .agg #[.int .i64 l, .int .i64 a]) (by simp [results, Try.results45, go_sem, r0, r1]) rfl ⟨l, a, rfl, hla, HCf.out, HGf.out⟩
/-- Some spec, two counts, and two numbers, drawn. -/
def PsSaid (w : World) (e : Ending) (w' : World) : Prop := ∃ (x0 x1 x2 x3 x4 x5 x6 x7 x8 x9 x10 l0 a0 l1 a1 m k : Int), e = .returned (.tuple #[.agg #[.int .i64 x0, .int .i64 x1, .int .i64 x2, .int .i64 x3, .int .i64 x4, .int .i64 x5, .int .i64 x6, .int .i64 x7, .int .i64 x8, .int .i64 x9, .int .i64 x10], .agg #[.int .i64 l0, .int .i64 a0], .agg #[.int .i64 l1, .int .i64 a1], .int .i64 m, .int .i64 k]) ∧ Below w.heap.size w w'
end Go.Proofs.Ytmmdpljimjfkdaa.DrawCt
