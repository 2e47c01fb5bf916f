/-
  THE MODEL'S DRAWS OF A SPEC over this seat's translation: eleven small numbers, whatever the code.
-/
import Derived.Test.YtmmdpljimjfkdaaSp
import Derived.Test.YtmmdpljimjfkdaaPut
import Derived.Test.YtmmdpljimjfkdaaDrawTick
import Derived.Deep.RegionHeld3
import Derived.Deep.Cut
import Derived.Deep.DeepCutAuto
import Derived.StillTailTactics
namespace Go.Proofs.Ytmmdpljimjfkdaa.DrawSp
open Go.ChangeShapes Go.WideShapes Go.ChangeAt Go.RowKit
open Go.Proofs.Ytmmdpljimjfkdaa.LK Go.Proofs.Ytmmdpljimjfkdaa.Sp Go.Proofs.Ytmmdpljimjfkdaa.Put Go.Proofs.Ytmmdpljimjfkdaa.Draw
open Go.Proofs.Ytmmdpljimjfkdaa.DrawTick (lit_cells below_grown)
set_option linter.unusedVariables false
set_option linter.unusedSimpArgs false
def Sm (x : Int) : Prop := -1000000 ≤ x ∧ x ≤ 1000000
theorem cur_ge {w : World} {B g : Nat} {A : Option Addr} {n cap : Nat} {zs : List UInt8} (h : CurAt w B g A n cap zs) : B ≤ g := by obtain ⟨i, k, hc⟩ := h; exact hc.ge
theorem cur_set {w : World} {B g : Nat} {A : Option Addr} {n cap : Nat} {zs : List UInt8} (h : CurAt w B g A n cap zs) (p : Addr) (hp : p.block ≠ g) (hB : B ≤ p.block) (u : Value) : CurAt (w.setCell p u) B g A n cap zs := by
  obtain ⟨i, k, hc⟩ := h
  exact ⟨i, k, ⟨(Below.heap_setCell w p u g (fun e => hp e.symm)).trans hc.blk, hc.le, hc.small, hc.bytes.keep fun q hq => World.cell?_of_block (Below.heap_setCell w p u q.block (by omega)), hc.ge⟩⟩
theorem cur_row {w : World} {B g : Nat} {A : Option Addr} {n cap : Nat} {zs : List UInt8} (h : CurAt w B g A n cap zs) (b : Nat) (vs : Array Value) (hp : b ≠ g) (hB : B ≤ b) : CurAt (w.setRow b vs) B g A n cap zs := by
  obtain ⟨i, k, hc⟩ := h
  exact ⟨i, k, ⟨(setRow_other w b g vs (fun e => hp e.symm)).trans hc.blk, hc.le, hc.small, hc.bytes.keep fun q hq => World.cell?_of_block (setRow_other w b q.block vs (by omega)), hc.ge⟩⟩
theorem grown_bel {w w' : World} {r : Option Nat} (h : Below w.heap.size w w') : w.grownBy w' r := ⟨h.os, h.tape, h.output, h.size, fun k hk _ => h.block k hk⟩
/-- Amid the drawing of the spec at sb. -/
structure Dsp (w wr : World) (sb : Nat) (B g : Nat) (A : Option Addr) (n cap : Nat) (zs : List UInt8) (v0 v1 v2 v3 v4 v5 v6 v7 v8 v9 v10 : Int) : Prop where
  cur : CurAt wr B g A n cap zs
  grown : w.grownBy wr (some g)
  box : wr.heap[sb]? = some (.cells #[.int .i64 v0, .int .i64 v1, .int .i64 v2, .int .i64 v3, .int .i64 v4, .int .i64 v5, .int .i64 v6, .int .i64 v7, .int .i64 v8, .int .i64 v9, .int .i64 v10] 25 (0, 0))
  ge : w.heap.size ≤ sb
  lt : g < w.heap.size
section
variable {w wr w' : World} {sb B g : Nat} {A : Option Addr} {n cap : Nat} {zs : List UInt8} {v0 v1 v2 v3 v4 v5 v6 v7 v8 v9 v10 : Int}
theorem Dsp.draw (h : Dsp w wr sb B g A n cap zs v0 v1 v2 v3 v4 v5 v6 v7 v8 v9 v10) (hc : CurAt w' B g A n cap zs) (hg : wr.grownBy w' (some g)) : Dsp w w' sb B g A n cap zs v0 v1 v2 v3 v4 v5 v6 v7 v8 v9 v10 :=
  ⟨hc, grown_trans h.grown hg, (hg.block sb (box_lt h.box) (by have := h.ge; have := h.lt; simp; omega)).trans h.box, h.ge, h.lt⟩
theorem Dsp.drew (h : Dsp w wr sb B g A n cap zs v0 v1 v2 v3 v4 v5 v6 v7 v8 v9 v10) : Dsp w wr.drew sb B g A n cap zs v0 v1 v2 v3 v4 v5 v6 v7 v8 v9 v10 := ⟨by obtain ⟨i, k, hc⟩ := h.cur; exact ⟨i, k, ⟨hc.blk, hc.le, hc.small, hc.bytes, hc.ge⟩⟩, ⟨h.grown.os, h.grown.tape, h.grown.output, h.grown.size, h.grown.block⟩, h.box, h.ge, h.lt⟩
theorem Dsp.alloc (h : Dsp w wr sb B g A n cap zs v0 v1 v2 v3 v4 v5 v6 v7 v8 v9 v10) (ob : Obj) : Dsp w (wr.alloc ob) sb B g A n cap zs v0 v1 v2 v3 v4 v5 v6 v7 v8 v9 v10 := ⟨h.cur.alloc ob, grown_alloc h.grown ob, box_alloc h.box ob, h.ge, h.lt⟩
theorem Dsp.set0 (h : Dsp w wr sb B g A n cap zs v0 v1 v2 v3 v4 v5 v6 v7 v8 v9 v10) (x : Int) : Dsp w (wr.setCell ⟨sb, 0, none⟩ (.int .i64 x)) sb B g A n cap zs x v1 v2 v3 v4 v5 v6 v7 v8 v9 v10 :=
  ⟨cur_set h.cur _ (by have := h.ge; have := h.lt; show sb ≠ g; omega) (by have := cur_ge h.cur; have := h.ge; have := h.lt; show B ≤ sb; omega) _, ⟨h.grown.os, h.grown.tape, h.grown.output, by simpa [World.setCell] using h.grown.size, fun k hk hne => (Below.heap_setCell wr _ _ k (by have := h.ge; show k ≠ sb; omega)).trans (h.grown.block k hk hne)⟩, by have h1 := box_set (i := 0) h.box (.int .i64 x); simpa using h1, h.ge, h.lt⟩
theorem Dsp.set1 (h : Dsp w wr sb B g A n cap zs v0 v1 v2 v3 v4 v5 v6 v7 v8 v9 v10) (x : Int) : Dsp w (wr.setCell ⟨sb, 1, none⟩ (.int .i64 x)) sb B g A n cap zs v0 x v2 v3 v4 v5 v6 v7 v8 v9 v10 :=
  ⟨cur_set h.cur _ (by have := h.ge; have := h.lt; show sb ≠ g; omega) (by have := cur_ge h.cur; have := h.ge; have := h.lt; show B ≤ sb; omega) _, ⟨h.grown.os, h.grown.tape, h.grown.output, by simpa [World.setCell] using h.grown.size, fun k hk hne => (Below.heap_setCell wr _ _ k (by have := h.ge; show k ≠ sb; omega)).trans (h.grown.block k hk hne)⟩, by have h1 := box_set (i := 1) h.box (.int .i64 x); simpa using h1, h.ge, h.lt⟩
theorem Dsp.set2 (h : Dsp w wr sb B g A n cap zs v0 v1 v2 v3 v4 v5 v6 v7 v8 v9 v10) (x : Int) : Dsp w (wr.setCell ⟨sb, 2, none⟩ (.int .i64 x)) sb B g A n cap zs v0 v1 x v3 v4 v5 v6 v7 v8 v9 v10 :=
  ⟨cur_set h.cur _ (by have := h.ge; have := h.lt; show sb ≠ g; omega) (by have := cur_ge h.cur; have := h.ge; have := h.lt; show B ≤ sb; omega) _, ⟨h.grown.os, h.grown.tape, h.grown.output, by simpa [World.setCell] using h.grown.size, fun k hk hne => (Below.heap_setCell wr _ _ k (by have := h.ge; show k ≠ sb; omega)).trans (h.grown.block k hk hne)⟩, by have h1 := box_set (i := 2) h.box (.int .i64 x); simpa using h1, h.ge, h.lt⟩
theorem Dsp.set3 (h : Dsp w wr sb B g A n cap zs v0 v1 v2 v3 v4 v5 v6 v7 v8 v9 v10) (x : Int) : Dsp w (wr.setCell ⟨sb, 3, none⟩ (.int .i64 x)) sb B g A n cap zs v0 v1 v2 x v4 v5 v6 v7 v8 v9 v10 :=
  ⟨cur_set h.cur _ (by have := h.ge; have := h.lt; show sb ≠ g; omega) (by have := cur_ge h.cur; have := h.ge; have := h.lt; show B ≤ sb; omega) _, ⟨h.grown.os, h.grown.tape, h.grown.output, by simpa [World.setCell] using h.grown.size, fun k hk hne => (Below.heap_setCell wr _ _ k (by have := h.ge; show k ≠ sb; omega)).trans (h.grown.block k hk hne)⟩, by have h1 := box_set (i := 3) h.box (.int .i64 x); simpa using h1, h.ge, h.lt⟩
theorem Dsp.set4 (h : Dsp w wr sb B g A n cap zs v0 v1 v2 v3 v4 v5 v6 v7 v8 v9 v10) (x : Int) : Dsp w (wr.setCell ⟨sb, 4, none⟩ (.int .i64 x)) sb B g A n cap zs v0 v1 v2 v3 x v5 v6 v7 v8 v9 v10 :=
  ⟨cur_set h.cur _ (by have := h.ge; have := h.lt; show sb ≠ g; omega) (by have := cur_ge h.cur; have := h.ge; have := h.lt; show B ≤ sb; omega) _, ⟨h.grown.os, h.grown.tape, h.grown.output, by simpa [World.setCell] using h.grown.size, fun k hk hne => (Below.heap_setCell wr _ _ k (by have := h.ge; show k ≠ sb; omega)).trans (h.grown.block k hk hne)⟩, by have h1 := box_set (i := 4) h.box (.int .i64 x); simpa using h1, h.ge, h.lt⟩
theorem Dsp.set5 (h : Dsp w wr sb B g A n cap zs v0 v1 v2 v3 v4 v5 v6 v7 v8 v9 v10) (x : Int) : Dsp w (wr.setCell ⟨sb, 5, none⟩ (.int .i64 x)) sb B g A n cap zs v0 v1 v2 v3 v4 x v6 v7 v8 v9 v10 :=
  ⟨cur_set h.cur _ (by have := h.ge; have := h.lt; show sb ≠ g; omega) (by have := cur_ge h.cur; have := h.ge; have := h.lt; show B ≤ sb; omega) _, ⟨h.grown.os, h.grown.tape, h.grown.output, by simpa [World.setCell] using h.grown.size, fun k hk hne => (Below.heap_setCell wr _ _ k (by have := h.ge; show k ≠ sb; omega)).trans (h.grown.block k hk hne)⟩, by have h1 := box_set (i := 5) h.box (.int .i64 x); simpa using h1, h.ge, h.lt⟩
theorem Dsp.set6 (h : Dsp w wr sb B g A n cap zs v0 v1 v2 v3 v4 v5 v6 v7 v8 v9 v10) (x : Int) : Dsp w (wr.setCell ⟨sb, 6, none⟩ (.int .i64 x)) sb B g A n cap zs v0 v1 v2 v3 v4 v5 x v7 v8 v9 v10 :=
  ⟨cur_set h.cur _ (by have := h.ge; have := h.lt; show sb ≠ g; omega) (by have := cur_ge h.cur; have := h.ge; have := h.lt; show B ≤ sb; omega) _, ⟨h.grown.os, h.grown.tape, h.grown.output, by simpa [World.setCell] using h.grown.size, fun k hk hne => (Below.heap_setCell wr _ _ k (by have := h.ge; show k ≠ sb; omega)).trans (h.grown.block k hk hne)⟩, by have h1 := box_set (i := 6) h.box (.int .i64 x); simpa using h1, h.ge, h.lt⟩
theorem Dsp.set7 (h : Dsp w wr sb B g A n cap zs v0 v1 v2 v3 v4 v5 v6 v7 v8 v9 v10) (x : Int) : Dsp w (wr.setCell ⟨sb, 7, none⟩ (.int .i64 x)) sb B g A n cap zs v0 v1 v2 v3 v4 v5 v6 x v8 v9 v10 :=
  ⟨cur_set h.cur _ (by have := h.ge; have := h.lt; show sb ≠ g; omega) (by have := cur_ge h.cur; have := h.ge; have := h.lt; show B ≤ sb; omega) _, ⟨h.grown.os, h.grown.tape, h.grown.output, by simpa [World.setCell] using h.grown.size, fun k hk hne => (Below.heap_setCell wr _ _ k (by have := h.ge; show k ≠ sb; omega)).trans (h.grown.block k hk hne)⟩, by have h1 := box_set (i := 7) h.box (.int .i64 x); simpa using h1, h.ge, h.lt⟩
theorem Dsp.set8 (h : Dsp w wr sb B g A n cap zs v0 v1 v2 v3 v4 v5 v6 v7 v8 v9 v10) (x : Int) : Dsp w (wr.setCell ⟨sb, 8, none⟩ (.int .i64 x)) sb B g A n cap zs v0 v1 v2 v3 v4 v5 v6 v7 x v9 v10 :=
  ⟨cur_set h.cur _ (by have := h.ge; have := h.lt; show sb ≠ g; omega) (by have := cur_ge h.cur; have := h.ge; have := h.lt; show B ≤ sb; omega) _, ⟨h.grown.os, h.grown.tape, h.grown.output, by simpa [World.setCell] using h.grown.size, fun k hk hne => (Below.heap_setCell wr _ _ k (by have := h.ge; show k ≠ sb; omega)).trans (h.grown.block k hk hne)⟩, by have h1 := box_set (i := 8) h.box (.int .i64 x); simpa using h1, h.ge, h.lt⟩
theorem Dsp.set9 (h : Dsp w wr sb B g A n cap zs v0 v1 v2 v3 v4 v5 v6 v7 v8 v9 v10) (x : Int) : Dsp w (wr.setCell ⟨sb, 9, none⟩ (.int .i64 x)) sb B g A n cap zs v0 v1 v2 v3 v4 v5 v6 v7 v8 x v10 :=
  ⟨cur_set h.cur _ (by have := h.ge; have := h.lt; show sb ≠ g; omega) (by have := cur_ge h.cur; have := h.ge; have := h.lt; show B ≤ sb; omega) _, ⟨h.grown.os, h.grown.tape, h.grown.output, by simpa [World.setCell] using h.grown.size, fun k hk hne => (Below.heap_setCell wr _ _ k (by have := h.ge; show k ≠ sb; omega)).trans (h.grown.block k hk hne)⟩, by have h1 := box_set (i := 9) h.box (.int .i64 x); simpa using h1, h.ge, h.lt⟩
theorem Dsp.set10 (h : Dsp w wr sb B g A n cap zs v0 v1 v2 v3 v4 v5 v6 v7 v8 v9 v10) (x : Int) : Dsp w (wr.setCell ⟨sb, 10, none⟩ (.int .i64 x)) sb B g A n cap zs v0 v1 v2 v3 v4 v5 v6 v7 v8 v9 x :=
  ⟨cur_set h.cur _ (by have := h.ge; have := h.lt; show sb ≠ g; omega) (by have := cur_ge h.cur; have := h.ge; have := h.lt; show B ≤ sb; omega) _, ⟨h.grown.os, h.grown.tape, h.grown.output, by simpa [World.setCell] using h.grown.size, fun k hk hne => (Below.heap_setCell wr _ _ k (by have := h.ge; show k ≠ sb; omega)).trans (h.grown.block k hk hne)⟩, by have h1 := box_set (i := 10) h.box (.int .i64 x); simpa using h1, h.ge, h.lt⟩
end
def SpSaid (w : World) (B g : Nat) (A : Option Addr) (n cap : Nat) (zs : List UInt8) (e : Ending) (w' : World) : Prop := ∃ v0 v1 v2 v3 v4 v5 v6 v7 v8 v9 v10 : Int, e = .returned (.agg #[.int .i64 v0, .int .i64 v1, .int .i64 v2, .int .i64 v3, .int .i64 v4, .int .i64 v5, .int .i64 v6, .int .i64 v7, .int .i64 v8, .int .i64 v9, .int .i64 v10]) ∧ (Sm v0 ∧ Sm v1 ∧ Sm v2 ∧ Sm v3 ∧ Sm v4 ∧ Sm v5 ∧ Sm v6 ∧ Sm v7 ∧ Sm v8 ∧ Sm v9 ∧ Sm v10) ∧ CurAt w' B g A n cap zs ∧ w.grownBy w' (some g)
set_option maxRecDepth 100000 in
set_option maxHeartbeats 12800000 in
theorem drawSpec_any (w : World) (B g : Nat) (A : Option Addr) (n cap : Nat) (zs : List UInt8) (hc : CurAt w B g A n cap zs) : Calls Try.prog 74 #[.pointer (some ⟨g, 0, none⟩)] w (SpSaid w B g A n cap zs) := by
  have hgl : g < w.heap.size := hc.lt
  have HC := Lib.hid hc
  clear hc
  have R0 := Lib.hid (box_new w (.cells #[.int .i64 0, .int .i64 0, .int .i64 0, .int .i64 0, .int .i64 0, .int .i64 0, .int .i64 0, .int .i64 0, .int .i64 0, .int .i64 0, .int .i64 0] 25))
  go_enter Try.func74, Try.ntmps74
  go_wp2_with fail
  refine (specDefaultSpec_any _).mono ?_
  rintro e w1 ⟨rfl, hb1⟩
  have R1 := Lib.hid (box_below R0.out hb1)
  have hs1 : w.heap.size < w1.heap.size := box_lt R1.out
  have D : Hid (Dsp w (w1.alloc (.cells #[.int .i64 4, .int .i64 1, .int .i64 1, .int .i64 3, .int .i64 3, .int .i64 2, .int .i64 16, .int .i64 20, .int .i64 200, .int .i64 0, .int .i64 0] 25)) w1.heap.size B g A n cap zs 4 1 1 3 3 2 16 20 200 0 0) := ⟨(HC.out.alloc (.cells #[.int .i64 0, .int .i64 0, .int .i64 0, .int .i64 0, .int .i64 0, .int .i64 0, .int .i64 0, .int .i64 0, .int .i64 0, .int .i64 0, .int .i64 0] 25)).below hb1 |>.alloc _, grown_alloc (grown_trans (grown_bel (bel1 w (.cells #[.int .i64 0, .int .i64 0, .int .i64 0, .int .i64 0, .int .i64 0, .int .i64 0, .int .i64 0, .int .i64 0, .int .i64 0, .int .i64 0, .int .i64 0] 25))) (grown_bel hb1)) _, box_new w1 _, by omega, hgl⟩
  have R : Hid ((w1.alloc (.cells #[.int .i64 4, .int .i64 1, .int .i64 1, .int .i64 3, .int .i64 3, .int .i64 2, .int .i64 16, .int .i64 20, .int .i64 200, .int .i64 0, .int .i64 0] 25)).heap[w.heap.size]? = some (.cells #[.int .i64 0, .int .i64 0, .int .i64 0, .int .i64 0, .int .i64 0, .int .i64 0, .int .i64 0, .int .i64 0, .int .i64 0, .int .i64 0, .int .i64 0] 25 (0, 0))) := box_alloc R1.out _
  clear HC R0 R1 hb1
  go_wp2_with fail
  refine (below_any 5 (by omega) _ B g A n cap zs D.out.cur).mono ?_
  rintro e w2 ⟨da, hx, _, rfl, hc, hg⟩
  have hda : (da : Int) < 5 := hx (by omega)
  clear hx
  have D' := Lib.hid (D.out.draw hc hg)
  have R' := Lib.hid ((hg.block _ (box_lt R.out) (by simp; omega)).trans R.out)
  clear D R hc hg
  have D := D'
  have R := R'
  clear D' R'
  have cz := box_cell D.out.box 0 _ rfl
  have fz := box_frozen D.out.box 0
  have D' : Hid (Dsp w (w2.setCell ⟨w1.heap.size, 0, none⟩ (.int .i64 (1 + (da : Int)))) w1.heap.size B g A n cap zs (1 + (da : Int)) 1 1 3 3 2 16 20 200 0 0) := D.out.set0 (1 + (da : Int))
  have R' : Hid ((w2.setCell ⟨w1.heap.size, 0, none⟩ (.int .i64 (1 + (da : Int)))).heap[w.heap.size]? = some (.cells #[.int .i64 0, .int .i64 0, .int .i64 0, .int .i64 0, .int .i64 0, .int .i64 0, .int .i64 0, .int .i64 0, .int .i64 0, .int .i64 0, .int .i64 0] 25 (0, 0))) := box_other R.out _ _ (by show w.heap.size ≠ w1.heap.size; omega)
  clear D R
  have D := D'
  have R := R'
  clear D' R'
  go_wp2_with fail
  refine (below_any 3 (by omega) _ B g A n cap zs D.out.cur).mono ?_
  rintro e w3 ⟨db, hx, _, rfl, hc, hg⟩
  have hdb : (db : Int) < 3 := hx (by omega)
  clear hx
  clear cz fz
  have D' := Lib.hid (D.out.draw hc hg)
  have R' := Lib.hid ((hg.block _ (box_lt R.out) (by simp; omega)).trans R.out)
  clear D R hc hg
  have D := D'
  have R := R'
  clear D' R'
  have cz := box_cell D.out.box 1 _ rfl
  have fz := box_frozen D.out.box 1
  have D' : Hid (Dsp w (w3.setCell ⟨w1.heap.size, 1, none⟩ (.int .i64 ((db : Int)))) w1.heap.size B g A n cap zs (1 + (da : Int)) ((db : Int)) 1 3 3 2 16 20 200 0 0) := D.out.set1 ((db : Int))
  have R' : Hid ((w3.setCell ⟨w1.heap.size, 1, none⟩ (.int .i64 ((db : Int)))).heap[w.heap.size]? = some (.cells #[.int .i64 0, .int .i64 0, .int .i64 0, .int .i64 0, .int .i64 0, .int .i64 0, .int .i64 0, .int .i64 0, .int .i64 0, .int .i64 0, .int .i64 0] 25 (0, 0))) := box_other R.out _ _ (by show w.heap.size ≠ w1.heap.size; omega)
  clear D R
  have D := D'
  have R := R'
  clear D' R'
  go_wp2_with fail
  refine (below_any 3 (by omega) _ B g A n cap zs D.out.cur).mono ?_
  rintro e w4 ⟨dc, hx, _, rfl, hc, hg⟩
  have hdc : (dc : Int) < 3 := hx (by omega)
  clear hx
  clear cz fz
  have D' := Lib.hid (D.out.draw hc hg)
  have R' := Lib.hid ((hg.block _ (box_lt R.out) (by simp; omega)).trans R.out)
  clear D R hc hg
  have D := D'
  have R := R'
  clear D' R'
  have cz := box_cell D.out.box 2 _ rfl
  have fz := box_frozen D.out.box 2
  have D' : Hid (Dsp w (w4.setCell ⟨w1.heap.size, 2, none⟩ (.int .i64 ((dc : Int)))) w1.heap.size B g A n cap zs (1 + (da : Int)) ((db : Int)) ((dc : Int)) 3 3 2 16 20 200 0 0) := D.out.set2 ((dc : Int))
  have R' : Hid ((w4.setCell ⟨w1.heap.size, 2, none⟩ (.int .i64 ((dc : Int)))).heap[w.heap.size]? = some (.cells #[.int .i64 0, .int .i64 0, .int .i64 0, .int .i64 0, .int .i64 0, .int .i64 0, .int .i64 0, .int .i64 0, .int .i64 0, .int .i64 0, .int .i64 0] 25 (0, 0))) := box_other R.out _ _ (by show w.heap.size ≠ w1.heap.size; omega)
  clear D R
  have D := D'
  have R := R'
  clear D' R'
  have cz0 := box_cell D.out.box 0 _ rfl
  have cz1 := box_cell D.out.box 1 _ rfl
  have cz2 := box_cell D.out.box 2 _ rfl
  go_upto_if 19 with fail
  go_cut [] (fun wx => ∃ v0 v1 v2 : Int, ((1 ≤ v0 ∧ v0 ≤ 5) ∧ (0 ≤ v1 ∧ v1 ≤ 5) ∧ (0 ≤ v2 ∧ v2 ≤ 5)) ∧ Hid (Dsp w wx w1.heap.size B g A n cap zs v0 v1 v2 3 3 2 16 20 200 0 0) ∧ Hid (wx.heap[w.heap.size]? = some (.cells #[.int .i64 0, .int .i64 0, .int .i64 0, .int .i64 0, .int .i64 0, .int .i64 0, .int .i64 0, .int .i64 0, .int .i64 0, .int .i64 0, .int .i64 0] 25 (0, 0))))
  case first =>
    by_cases hq : 1 + (da : Int) < (db : Int)
    · have cz := box_cell D.out.box 1 _ rfl
      have fz := box_frozen D.out.box 1
      have D2 : Hid (Dsp w ((w4.setCell ⟨w1.heap.size, 2, none⟩ (.int .i64 ((dc : Int)))).setCell ⟨w1.heap.size, 1, none⟩ (.int .i64 (1 + (da : Int)))) w1.heap.size B g A n cap zs (1 + (da : Int)) (1 + (da : Int)) ((dc : Int)) 3 3 2 16 20 200 0 0) := D.out.set1 (1 + (da : Int))
      have R2 : Hid (((w4.setCell ⟨w1.heap.size, 2, none⟩ (.int .i64 ((dc : Int)))).setCell ⟨w1.heap.size, 1, none⟩ (.int .i64 (1 + (da : Int)))).heap[w.heap.size]? = some (.cells #[.int .i64 0, .int .i64 0, .int .i64 0, .int .i64 0, .int .i64 0, .int .i64 0, .int .i64 0, .int .i64 0, .int .i64 0, .int .i64 0, .int .i64 0] 25 (0, 0))) := box_other R.out _ _ (by show w.heap.size ≠ w1.heap.size; omega)
      go_wp2_with fail
      go_meet
      case rel => exact ⟨1 + (da : Int), 1 + (da : Int), (dc : Int), by omega, D2, R2⟩
    · go_wp2_with fail
      go_meet
      case rel => exact ⟨1 + (da : Int), (db : Int), (dc : Int), by omega, D, R⟩
  clear cz fz cz0 cz1 cz2
  clear D R
  obtain ⟨v0, v1, v2, hbv, D, R⟩ := hcut
  obtain ⟨w5, hwq⟩ : ∃ x, x = wc := ⟨_, rfl⟩
  subst hwq
  skip
  have cz0 := box_cell D.out.box 0 _ rfl
  have cz1 := box_cell D.out.box 1 _ rfl
  have cz2 := box_cell D.out.box 2 _ rfl
  go_upto_if 27 with fail
  go_cut [] (fun wx => ∃ v0 v1 v2 : Int, ((1 ≤ v0 ∧ v0 ≤ 5) ∧ (0 ≤ v1 ∧ v1 ≤ 5) ∧ (0 ≤ v2 ∧ v2 ≤ 5)) ∧ Hid (Dsp w wx w1.heap.size B g A n cap zs v0 v1 v2 3 3 2 16 20 200 0 0) ∧ Hid (wx.heap[w.heap.size]? = some (.cells #[.int .i64 0, .int .i64 0, .int .i64 0, .int .i64 0, .int .i64 0, .int .i64 0, .int .i64 0, .int .i64 0, .int .i64 0, .int .i64 0, .int .i64 0] 25 (0, 0))))
  case first =>
    by_cases hq : v0 < v2
    · have cz := box_cell D.out.box 2 _ rfl
      have fz := box_frozen D.out.box 2
      have D2 : Hid (Dsp w (w5.setCell ⟨w1.heap.size, 2, none⟩ (.int .i64 (v0))) w1.heap.size B g A n cap zs v0 v1 v0 3 3 2 16 20 200 0 0) := D.out.set2 (v0)
      have R2 : Hid ((w5.setCell ⟨w1.heap.size, 2, none⟩ (.int .i64 (v0))).heap[w.heap.size]? = some (.cells #[.int .i64 0, .int .i64 0, .int .i64 0, .int .i64 0, .int .i64 0, .int .i64 0, .int .i64 0, .int .i64 0, .int .i64 0, .int .i64 0, .int .i64 0] 25 (0, 0))) := box_other R.out _ _ (by show w.heap.size ≠ w1.heap.size; omega)
      go_wp2_with fail
      go_meet
      case rel => exact ⟨v0, v1, v0, by omega, D2, R2⟩
    · go_wp2_with fail
      go_meet
      case rel => exact ⟨v0, v1, v2, by omega, D, R⟩
  clear cz0 cz1 cz2
  clear D R
  obtain ⟨v0, v1, v2, hbv, D, R⟩ := hcut
  obtain ⟨w6, hwq⟩ : ∃ x, x = wc := ⟨_, rfl⟩
  subst hwq
  have cz0 := box_cell D.out.box 0 _ rfl
  have cz1 := box_cell D.out.box 1 _ rfl
  have cz2 := box_cell D.out.box 2 _ rfl
  go_upto_if 36 with fail
  go_cut [] (fun wx => ∃ v0 v1 v2 : Int, ((1 ≤ v0 ∧ v0 ≤ 5) ∧ (0 ≤ v1 ∧ v1 ≤ 5) ∧ (0 ≤ v2 ∧ v2 ≤ 5)) ∧ Hid (Dsp w wx w1.heap.size B g A n cap zs v0 v1 v2 3 3 2 16 20 200 0 0) ∧ Hid (wx.heap[w.heap.size]? = some (.cells #[.int .i64 0, .int .i64 0, .int .i64 0, .int .i64 0, .int .i64 0, .int .i64 0, .int .i64 0, .int .i64 0, .int .i64 0, .int .i64 0, .int .i64 0] 25 (0, 0))))
  case first =>
    by_cases hq : v1 + v2 = 0
    · have cz := box_cell D.out.box 1 _ rfl
      have fz := box_frozen D.out.box 1
      have D2 : Hid (Dsp w (w6.setCell ⟨w1.heap.size, 1, none⟩ (.int .i64 (1))) w1.heap.size B g A n cap zs v0 1 v2 3 3 2 16 20 200 0 0) := D.out.set1 (1)
      have R2 : Hid ((w6.setCell ⟨w1.heap.size, 1, none⟩ (.int .i64 (1))).heap[w.heap.size]? = some (.cells #[.int .i64 0, .int .i64 0, .int .i64 0, .int .i64 0, .int .i64 0, .int .i64 0, .int .i64 0, .int .i64 0, .int .i64 0, .int .i64 0, .int .i64 0] 25 (0, 0))) := box_other R.out _ _ (by show w.heap.size ≠ w1.heap.size; omega)
      go_wp2_with fail
      go_meet
      case rel => exact ⟨v0, 1, v2, by omega, D2, R2⟩
    · go_wp2_with fail
      go_meet
      case rel => exact ⟨v0, v1, v2, by omega, D, R⟩
  clear cz0 cz1 cz2
  clear D R
  obtain ⟨v0, v1, v2, hbv, D, R⟩ := hcut
  obtain ⟨w7, hwq⟩ : ∃ x, x = wc := ⟨_, rfl⟩
  subst hwq
  have DA := Lib.hid (D.out.alloc (.cells #[.int .i64 0, .int .i64 1, .int .i64 3, .int .i64 6] 3))
  have RA := Lib.hid (box_alloc R.out (.cells #[.int .i64 0, .int .i64 1, .int .i64 3, .int .i64 6] 3))
  have hls : g < w7.heap.size := D.out.cur.lt
  go_wp2_with fail
  refine (pick_any [0, 1, 3, 6] w7.heap.size 4 4 rfl (by omega) (by omega) _ B g A n cap zs DA.out.cur (by omega) (fun j hj => lit_cells w7 _ [0, 1, 3, 6] j hj)).mono ?_
  rintro e w8 ⟨z, hz, rfl, hc, hg⟩
  have hz2 : 0 ≤ z ∧ z ≤ 6 := by simp only [List.mem_cons, List.not_mem_nil, or_false] at hz; omega
  clear hz hls D R
  have D := DA
  have R := RA
  clear DA RA
  have D' := Lib.hid (D.out.draw hc hg)
  have R' := Lib.hid ((hg.block _ (box_lt R.out) (by simp; omega)).trans R.out)
  clear D R hc hg
  have D := D'
  have R := R'
  clear D' R'
  have cz := box_cell D.out.box 3 _ rfl
  have fz := box_frozen D.out.box 3
  have D' : Hid (Dsp w (w8.setCell ⟨w1.heap.size, 3, none⟩ (.int .i64 (z))) w1.heap.size B g A n cap zs v0 v1 v2 z 3 2 16 20 200 0 0) := D.out.set3 (z)
  have R' : Hid ((w8.setCell ⟨w1.heap.size, 3, none⟩ (.int .i64 (z))).heap[w.heap.size]? = some (.cells #[.int .i64 0, .int .i64 0, .int .i64 0, .int .i64 0, .int .i64 0, .int .i64 0, .int .i64 0, .int .i64 0, .int .i64 0, .int .i64 0, .int .i64 0] 25 (0, 0))) := box_other R.out _ _ (by show w.heap.size ≠ w1.heap.size; omega)
  clear D R
  have D := D'
  have R := R'
  clear D' R'
  go_wp2_with fail
  refine (below_any 5 (by omega) _ B g A n cap zs D.out.cur).mono ?_
  rintro e w9 ⟨dd, hx, _, rfl, hc, hg⟩
  have hdd : (dd : Int) < 5 := hx (by omega)
  clear hx
  clear cz fz
  have D' := Lib.hid (D.out.draw hc hg)
  have R' := Lib.hid ((hg.block _ (box_lt R.out) (by simp; omega)).trans R.out)
  clear D R hc hg
  have D := D'
  have R := R'
  clear D' R'
  have cz := box_cell D.out.box 4 _ rfl
  have fz := box_frozen D.out.box 4
  have D' : Hid (Dsp w (w9.setCell ⟨w1.heap.size, 4, none⟩ (.int .i64 ((dd : Int)))) w1.heap.size B g A n cap zs v0 v1 v2 z ((dd : Int)) 2 16 20 200 0 0) := D.out.set4 ((dd : Int))
  have R' : Hid ((w9.setCell ⟨w1.heap.size, 4, none⟩ (.int .i64 ((dd : Int)))).heap[w.heap.size]? = some (.cells #[.int .i64 0, .int .i64 0, .int .i64 0, .int .i64 0, .int .i64 0, .int .i64 0, .int .i64 0, .int .i64 0, .int .i64 0, .int .i64 0, .int .i64 0] 25 (0, 0))) := box_other R.out _ _ (by show w.heap.size ≠ w1.heap.size; omega)
  clear D R
  have D := D'
  have R := R'
  clear D' R'
  go_wp2_with fail
  refine (below_any 3 (by omega) _ B g A n cap zs D.out.cur).mono ?_
  rintro e w10 ⟨df, hx, _, rfl, hc, hg⟩
  have hdf : (df : Int) < 3 := hx (by omega)
  clear hx
  clear cz fz
  have D' := Lib.hid (D.out.draw hc hg)
  have R' := Lib.hid ((hg.block _ (box_lt R.out) (by simp; omega)).trans R.out)
  clear D R hc hg
  have D := D'
  have R := R'
  clear D' R'
  have cz := box_cell D.out.box 5 _ rfl
  have fz := box_frozen D.out.box 5
  have D' : Hid (Dsp w (w10.setCell ⟨w1.heap.size, 5, none⟩ (.int .i64 (1 + (df : Int)))) w1.heap.size B g A n cap zs v0 v1 v2 z ((dd : Int)) (1 + (df : Int)) 16 20 200 0 0) := D.out.set5 (1 + (df : Int))
  have R' : Hid ((w10.setCell ⟨w1.heap.size, 5, none⟩ (.int .i64 (1 + (df : Int)))).heap[w.heap.size]? = some (.cells #[.int .i64 0, .int .i64 0, .int .i64 0, .int .i64 0, .int .i64 0, .int .i64 0, .int .i64 0, .int .i64 0, .int .i64 0, .int .i64 0, .int .i64 0] 25 (0, 0))) := box_other R.out _ _ (by show w.heap.size ≠ w1.heap.size; omega)
  clear D R
  have D := D'
  have R := R'
  clear D' R'
  have DD := Lib.hid D.out.drew
  have hv5 := box_cell D.out.box 5 _ rfl
  go_wp2_with fail
  go_region_held3 (fun w' => w'.cell? ⟨w1.heap.size, 5, none⟩ = some (.int .i64 (1 + (df : Int))))
    (first | (go_keep; done) | exact hk5 | exact hk6 | go_keep)
    (first | (go_at_call 77; refine (below_any 12 (by omega) _ B g A n cap zs DD.out.cur).mono ?_; rintro e w11 ⟨dg, hx, _, rfl, hc, hg⟩; have hdg : (dg : Int) < 12 := hx (by omega); have hwr : IntKind.i64.wrap (1 + (df : Int) + (dg : Int)) = 1 + (df : Int) + (dg : Int) := IntWalk.i64_in _ ⟨by omega, by omega⟩; have D2 := Lib.hid (DD.out.draw hc hg); have R2 : Hid (w11.heap[w.heap.size]? = some (.cells #[.int .i64 0, .int .i64 0, .int .i64 0, .int .i64 0, .int .i64 0, .int .i64 0, .int .i64 0, .int .i64 0, .int .i64 0, .int .i64 0, .int .i64 0] 25 (0, 0))) := (hg.block w.heap.size (box_lt R.out) (by simp; omega)).trans R.out; have hk5 := box_cell D2.out.box 5 _ rfl; have cz6 := box_cell D2.out.box 6 _ rfl; have fz6 := box_frozen D2.out.box 6; have D3 : Hid (Dsp w (w11.setCell ⟨w1.heap.size, 6, none⟩ (.int .i64 (1 + (df : Int) + (dg : Int)))) w1.heap.size B g A n cap zs v0 v1 v2 z ((dd : Int)) (1 + (df : Int)) (1 + (df : Int) + (dg : Int)) 20 200 0 0) := D2.out.set6 (1 + (df : Int) + (dg : Int)); have R3 : Hid ((w11.setCell ⟨w1.heap.size, 6, none⟩ (.int .i64 (1 + (df : Int) + (dg : Int)))).heap[w.heap.size]? = some (.cells #[.int .i64 0, .int .i64 0, .int .i64 0, .int .i64 0, .int .i64 0, .int .i64 0, .int .i64 0, .int .i64 0, .int .i64 0, .int .i64 0, .int .i64 0] 25 (0, 0))) := box_other R2.out _ _ (by show w.heap.size ≠ w1.heap.size; omega); have hk6 := box_cell D3.out.box 5 _ rfl))
  clear D R DD D2 R2
  have D := D3
  have R := R3
  clear D3 R3
  clear hk5 hk6 cz6 fz6 hwr hx hc hg
  clear cz fz hv5
  go_wp2_with fail
  refine (below_any 20 (by omega) _ B g A n cap zs D.out.cur).mono ?_
  rintro e w12 ⟨dh, hx, _, rfl, hc, hg⟩
  have hdh : (dh : Int) < 20 := hx (by omega)
  clear hx
  have D' := Lib.hid (D.out.draw hc hg)
  have R' := Lib.hid ((hg.block _ (box_lt R.out) (by simp; omega)).trans R.out)
  clear D R hc hg
  have D := D'
  have R := R'
  clear D' R'
  have cz := box_cell D.out.box 7 _ rfl
  have fz := box_frozen D.out.box 7
  have D' : Hid (Dsp w (w12.setCell ⟨w1.heap.size, 7, none⟩ (.int .i64 (5 + (dh : Int)))) w1.heap.size B g A n cap zs v0 v1 v2 z ((dd : Int)) (1 + (df : Int)) (1 + (df : Int) + (dg : Int)) (5 + (dh : Int)) 200 0 0) := D.out.set7 (5 + (dh : Int))
  have R' : Hid ((w12.setCell ⟨w1.heap.size, 7, none⟩ (.int .i64 (5 + (dh : Int)))).heap[w.heap.size]? = some (.cells #[.int .i64 0, .int .i64 0, .int .i64 0, .int .i64 0, .int .i64 0, .int .i64 0, .int .i64 0, .int .i64 0, .int .i64 0, .int .i64 0, .int .i64 0] 25 (0, 0))) := box_other R.out _ _ (by show w.heap.size ≠ w1.heap.size; omega)
  clear D R
  have D := D'
  have R := R'
  clear D' R'
  go_wp2_with fail
  refine (below_any 200 (by omega) _ B g A n cap zs D.out.cur).mono ?_
  rintro e w13 ⟨di, hx, _, rfl, hc, hg⟩
  have hdi : (di : Int) < 200 := hx (by omega)
  clear hx
  clear cz fz
  have D' := Lib.hid (D.out.draw hc hg)
  have R' := Lib.hid ((hg.block _ (box_lt R.out) (by simp; omega)).trans R.out)
  clear D R hc hg
  have D := D'
  have R := R'
  clear D' R'
  have cz := box_cell D.out.box 8 _ rfl
  have fz := box_frozen D.out.box 8
  have D' : Hid (Dsp w (w13.setCell ⟨w1.heap.size, 8, none⟩ (.int .i64 (30 + (di : Int)))) w1.heap.size B g A n cap zs v0 v1 v2 z ((dd : Int)) (1 + (df : Int)) (1 + (df : Int) + (dg : Int)) (5 + (dh : Int)) (30 + (di : Int)) 0 0) := D.out.set8 (30 + (di : Int))
  have R' : Hid ((w13.setCell ⟨w1.heap.size, 8, none⟩ (.int .i64 (30 + (di : Int)))).heap[w.heap.size]? = some (.cells #[.int .i64 0, .int .i64 0, .int .i64 0, .int .i64 0, .int .i64 0, .int .i64 0, .int .i64 0, .int .i64 0, .int .i64 0, .int .i64 0, .int .i64 0] 25 (0, 0))) := box_other R.out _ _ (by show w.heap.size ≠ w1.heap.size; omega)
  clear D R
  have D := D'
  have R := R'
  clear D' R'
  go_wp2_with fail
  refine (once_any 3 (by omega) _ B g A n cap zs D.out.cur).mono ?_
  rintro e w14 ⟨bb, rfl, hc, hg⟩
  clear cz fz
  have D' := Lib.hid (D.out.draw hc hg)
  have R' := Lib.hid ((hg.block _ (box_lt R.out) (by simp; omega)).trans R.out)
  clear D R hc hg
  have D := D'
  have R := R'
  clear D' R'
  skip
  go_upto_if 64 with fail
  go_cut [] (fun wx => ∃ v0 v1 v2 v3 v4 v5 v6 v7 v8 v9 v10 : Int, (Sm v0 ∧ Sm v1 ∧ Sm v2 ∧ Sm v3 ∧ Sm v4 ∧ Sm v5 ∧ Sm v6 ∧ Sm v7 ∧ Sm v8 ∧ Sm v9 ∧ Sm v10) ∧ Hid (Dsp w wx w1.heap.size B g A n cap zs v0 v1 v2 v3 v4 v5 v6 v7 v8 v9 v10) ∧ Hid (wx.heap[w.heap.size]? = some (.cells #[.int .i64 0, .int .i64 0, .int .i64 0, .int .i64 0, .int .i64 0, .int .i64 0, .int .i64 0, .int .i64 0, .int .i64 0, .int .i64 0, .int .i64 0] 25 (0, 0))))
  case first =>
    cases bb
    · go_wp2_with fail
      go_meet
      case rel => exact ⟨_, _, _, _, _, _, _, _, _, _, _, ⟨by unfold Sm; omega, by unfold Sm; omega, by unfold Sm; omega, by unfold Sm; omega, by unfold Sm; omega, by unfold Sm; omega, by unfold Sm; omega, by unfold Sm; omega, by unfold Sm; omega, by unfold Sm; omega, by unfold Sm; omega⟩, D, R⟩
    · skip
      have cz0 := box_cell D.out.box 0 _ rfl
      go_wp2_with fail
      refine (below_any v0 (by omega) _ B g A n cap zs D.out.cur).mono ?_
      rintro e w15 ⟨dj, hx, _, rfl, hc, hg⟩
      have hdj : (dj : Int) < v0 := hx (by omega)
      clear hx
      clear cz0
      have D' := Lib.hid (D.out.draw hc hg)
      have R' := Lib.hid ((hg.block _ (box_lt R.out) (by simp; omega)).trans R.out)
      clear D R hc hg
      have D := D'
      have R := R'
      clear D' R'
      have cz := box_cell D.out.box 9 _ rfl
      have fz := box_frozen D.out.box 9
      have D' : Hid (Dsp w (w15.setCell ⟨w1.heap.size, 9, none⟩ (.int .i64 (1 + (dj : Int)))) w1.heap.size B g A n cap zs v0 v1 v2 z ((dd : Int)) (1 + (df : Int)) (1 + (df : Int) + (dg : Int)) (5 + (dh : Int)) (30 + (di : Int)) (1 + (dj : Int)) 0) := D.out.set9 (1 + (dj : Int))
      have R' : Hid ((w15.setCell ⟨w1.heap.size, 9, none⟩ (.int .i64 (1 + (dj : Int)))).heap[w.heap.size]? = some (.cells #[.int .i64 0, .int .i64 0, .int .i64 0, .int .i64 0, .int .i64 0, .int .i64 0, .int .i64 0, .int .i64 0, .int .i64 0, .int .i64 0, .int .i64 0] 25 (0, 0))) := box_other R.out _ _ (by show w.heap.size ≠ w1.heap.size; omega)
      clear D R
      have D := D'
      have R := R'
      clear D' R'
      go_wp2_with fail
      refine (below_any 8 (by omega) _ B g A n cap zs D.out.cur).mono ?_
      rintro e w16 ⟨dk, hx, _, rfl, hc, hg⟩
      have hdk : (dk : Int) < 8 := hx (by omega)
      clear hx
      clear cz fz
      have D' := Lib.hid (D.out.draw hc hg)
      have R' := Lib.hid ((hg.block _ (box_lt R.out) (by simp; omega)).trans R.out)
      clear D R hc hg
      have D := D'
      have R := R'
      clear D' R'
      have cz := box_cell D.out.box 10 _ rfl
      have fz := box_frozen D.out.box 10
      have D' : Hid (Dsp w (w16.setCell ⟨w1.heap.size, 10, none⟩ (.int .i64 ((dk : Int)))) w1.heap.size B g A n cap zs v0 v1 v2 z ((dd : Int)) (1 + (df : Int)) (1 + (df : Int) + (dg : Int)) (5 + (dh : Int)) (30 + (di : Int)) (1 + (dj : Int)) ((dk : Int))) := D.out.set10 ((dk : Int))
      have R' : Hid ((w16.setCell ⟨w1.heap.size, 10, none⟩ (.int .i64 ((dk : Int)))).heap[w.heap.size]? = some (.cells #[.int .i64 0, .int .i64 0, .int .i64 0, .int .i64 0, .int .i64 0, .int .i64 0, .int .i64 0, .int .i64 0, .int .i64 0, .int .i64 0, .int .i64 0] 25 (0, 0))) := box_other R.out _ _ (by show w.heap.size ≠ w1.heap.size; omega)
      clear D R
      have D := D'
      have R := R'
      clear D' R'
      go_wp2_with fail
      go_meet
      case rel => exact ⟨_, _, _, _, _, _, _, _, _, _, _, ⟨by unfold Sm; omega, by unfold Sm; omega, by unfold Sm; omega, by unfold Sm; omega, by unfold Sm; omega, by unfold Sm; omega, by unfold Sm; omega, by unfold Sm; omega, by unfold Sm; omega, by unfold Sm; omega, by unfold Sm; omega⟩, D, R⟩
  clear D R
  obtain ⟨v0', v1', v2', v3', v4', v5', v6', v7', v8', v9', v10', hsm, D, R⟩ := hcut
  obtain ⟨w17, hwq⟩ : ∃ x, x = wc := ⟨_, rfl⟩
  subst hwq
  have cz0 := box_cell D.out.box 0 _ rfl
  have cz1 := box_cell D.out.box 1 _ rfl
  have cz2 := box_cell D.out.box 2 _ rfl
  have cz3 := box_cell D.out.box 3 _ rfl
  have cz4 := box_cell D.out.box 4 _ rfl
  have cz5 := box_cell D.out.box 5 _ rfl
  have cz6 := box_cell D.out.box 6 _ rfl
  have cz7 := box_cell D.out.box 7 _ rfl
  have cz8 := box_cell D.out.box 8 _ rfl
  have cz9 := box_cell D.out.box 9 _ rfl
  have cz10 := box_cell D.out.box 10 _ rfl
  have RB := setRow_box (vs := #[.int .i64 v0', .int .i64 v1', .int .i64 v2', .int .i64 v3', .int .i64 v4', .int .i64 v5', .int .i64 v6', .int .i64 v7', .int .i64 v8', .int .i64 v9', .int .i64 v10']) R.out
  have r0 := box_cell RB 0 _ rfl
  have r1 := box_cell RB 1 _ rfl
  have r2 := box_cell RB 2 _ rfl
  have r3 := box_cell RB 3 _ rfl
  have r4 := box_cell RB 4 _ rfl
  have r5 := box_cell RB 5 _ rfl
  have r6 := box_cell RB 6 _ rfl
  have r7 := box_cell RB 7 _ rfl
  have r8 := box_cell RB 8 _ rfl
  have r9 := box_cell RB 9 _ rfl
  have r10 := box_cell RB 10 _ rfl
  have hBw : B ≤ w.heap.size := by have := cur_ge D.out.cur; omega
  have HCf := Lib.hid (cur_row D.out.cur w.heap.size #[.int .i64 v0', .int .i64 v1', .int .i64 v2', .int .i64 v3', .int .i64 v4', .int .i64 v5', .int .i64 v6', .int .i64 v7', .int .i64 v8', .int .i64 v9', .int .i64 v10'] (by omega) hBw)
  have HGf : Hid (w.grownBy (w17.setRow w.heap.size #[.int .i64 v0', .int .i64 v1', .int .i64 v2', .int .i64 v3', .int .i64 v4', .int .i64 v5', .int .i64 v6', .int .i64 v7', .int .i64 v8', .int .i64 v9', .int .i64 v10']) (some g)) := ⟨D.out.grown.os, D.out.grown.tape, D.out.grown.output, by simpa using D.out.grown.size, fun i hi hne => (setRow_other _ _ _ _ (by omega)).trans (D.out.grown.block i hi hne)⟩
  go_wp2_with (refine wpList_put rfl rfl 25 _ _ rfl w.heap.size _ rfl rfl _ _ R.out (Try.sizeOf25 _) rfl (by simp [Value.oneCell']) ?_)
  exact bodyPost_ret (v := .agg #[.int .i64 v0', .int .i64 v1', .int .i64 v2', .int .i64 v3', .int .i64 v4', .int .i64 v5', .int .i64 v6', .int .i64 v7', .int .i64 v8', .int .i64 v9', .int .i64 v10']) (by simp [results, Try.results74, go_sem, r0, r1, r2, r3, r4, r5, r6, r7, r8, r9, r10]) rfl ⟨v0', v1', v2', v3', v4', v5', v6', v7', v8', v9', v10', rfl, hsm, HCf.out, HGf.out⟩
end Go.Proofs.Ytmmdpljimjfkdaa.DrawSp
