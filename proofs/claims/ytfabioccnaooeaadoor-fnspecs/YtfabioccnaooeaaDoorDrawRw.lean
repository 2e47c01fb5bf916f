/-
  THE CONTRACT of the model's DrawRetryWait over this seat's translation: some spec and a small number, whatever the code.
-/
import Derived.Test.YtfabioccnaooeaaDoorDrawSb
import Derived.Deep.RegionHeld3
namespace Go.Proofs.YtfabioccnaooeaaDoor.DrawRw
open Go.ChangeShapes Go.WideShapes Go.ChangeAt Go.RowKit
open Go.Proofs.YtfabioccnaooeaaDoor.LK Go.Proofs.YtfabioccnaooeaaDoor.Sp Go.Proofs.YtfabioccnaooeaaDoor.Put Go.Proofs.YtfabioccnaooeaaDoor.Draw Go.Proofs.YtfabioccnaooeaaDoor.DrawSp Go.Proofs.YtfabioccnaooeaaDoor.DrawSb
open Go.Proofs.YtfabioccnaooeaaDoor.DrawTick (lit_cells below_grown)
set_option linter.unusedVariables false
set_option linter.unusedSimpArgs false
/-- Some spec and a small number, drawn. -/
def RwSaid (w : World) (e : Ending) (w' : World) : Prop := ∃ (x0 x1 x2 x3 x4 x5 x6 x7 x8 x9 x10 m : Int), e = .returned (.tuple #[.agg #[.int .i64 x0, .int .i64 x1, .int .i64 x2, .int .i64 x3, .int .i64 x4, .int .i64 x5, .int .i64 x6, .int .i64 x7, .int .i64 x8, .int .i64 x9, .int .i64 x10], .int .i64 m]) ∧ (-1 ≤ m ∧ m ≤ 64) ∧ Below w.heap.size w w'
/-- Amid the drawing: the result's variable at rb, the spec at sb. -/
structure Am (w wr : World) (rb sb : Nat) (B g : Nat) (A : Option Addr) (n cap : Nat) (zs : List UInt8) (x0 x1 x2 x3 x4 x5 x6 x7 x8 x9 x10 : Int) : Prop where
  cur : CurAt wr B g A n cap zs
  low : Below w.heap.size w wr
  kr : wr.heap[rb]? = some (.cells #[.int .i64 0, .int .i64 0, .int .i64 0, .int .i64 0, .int .i64 0, .int .i64 0, .int .i64 0, .int .i64 0, .int .i64 0, .int .i64 0, .int .i64 0] 25 (0, 0))
  ks : wr.heap[sb]? = some (.cells #[.int .i64 x0, .int .i64 x1, .int .i64 x2, .int .i64 x3, .int .i64 x4, .int .i64 x5, .int .i64 x6, .int .i64 x7, .int .i64 x8, .int .i64 x9, .int .i64 x10] 25 (0, 0))
  ne : w.heap.size ≤ rb ∧ rb < g ∧ g < sb
section
variable {w wr w' : World} {rb sb B g : Nat} {A : Option Addr} {n cap : Nat} {zs : List UInt8} {x0 x1 x2 x3 x4 x5 x6 x7 x8 x9 x10 : Int}
theorem Am.step (h : Am w wr rb sb B g A n cap zs x0 x1 x2 x3 x4 x5 x6 x7 x8 x9 x10) (hg : wr.grownBy w' (some g)) (hc : CurAt w' B g A n cap zs) : Am w w' rb sb B g A n cap zs x0 x1 x2 x3 x4 x5 x6 x7 x8 x9 x10 :=
  ⟨hc, below_grown h.low (by have := h.ne; omega) hg, box_grown h.kr hg (by have := h.ne; omega), box_grown h.ks hg (by have := h.ne; omega), h.ne⟩
theorem Am.drew (h : Am w wr rb sb B g A n cap zs x0 x1 x2 x3 x4 x5 x6 x7 x8 x9 x10) : Am w wr.drew rb sb B g A n cap zs x0 x1 x2 x3 x4 x5 x6 x7 x8 x9 x10 := ⟨cur_drew h.cur, h.low.drew, h.kr, h.ks, h.ne⟩
theorem Am.alloc (h : Am w wr rb sb B g A n cap zs x0 x1 x2 x3 x4 x5 x6 x7 x8 x9 x10) (ob : Obj) : Am w (wr.alloc ob) rb sb B g A n cap zs x0 x1 x2 x3 x4 x5 x6 x7 x8 x9 x10 := ⟨h.cur.alloc ob, h.low.alloc h.low.size ob, box_alloc h.kr ob, box_alloc h.ks ob, h.ne⟩
theorem cells11 (h : Am w wr rb sb B g A n cap zs x0 x1 x2 x3 x4 x5 x6 x7 x8 x9 x10) : wr.cell? ⟨sb, 0, none⟩ = some (.int .i64 x0) ∧ wr.cell? ⟨sb, 1, none⟩ = some (.int .i64 x1) ∧ wr.cell? ⟨sb, 2, none⟩ = some (.int .i64 x2) ∧ wr.cell? ⟨sb, 3, none⟩ = some (.int .i64 x3) ∧ wr.cell? ⟨sb, 4, none⟩ = some (.int .i64 x4) ∧ wr.cell? ⟨sb, 5, none⟩ = some (.int .i64 x5) ∧ wr.cell? ⟨sb, 6, none⟩ = some (.int .i64 x6) ∧ wr.cell? ⟨sb, 7, none⟩ = some (.int .i64 x7) ∧ wr.cell? ⟨sb, 8, none⟩ = some (.int .i64 x8) ∧ wr.cell? ⟨sb, 9, none⟩ = some (.int .i64 x9) ∧ wr.cell? ⟨sb, 10, none⟩ = some (.int .i64 x10) := by
  refine ⟨box_cell h.ks 0 _ rfl, box_cell h.ks 1 _ rfl, box_cell h.ks 2 _ rfl, box_cell h.ks 3 _ rfl, box_cell h.ks 4 _ rfl, box_cell h.ks 5 _ rfl, box_cell h.ks 6 _ rfl, box_cell h.ks 7 _ rfl, box_cell h.ks 8 _ rfl, box_cell h.ks 9 _ rfl, box_cell h.ks 10 _ rfl⟩
theorem cells11a (h : Am w wr rb sb B g A n cap zs x0 x1 x2 x3 x4 x5 x6 x7 x8 x9 x10) (u0 u1 u2 u3 u4 u5 u6 u7 u8 u9 u10 : Value) : (((((((((((wr.setCell ⟨rb, 0, none⟩ u0).setCell ⟨rb, 1, none⟩ u1).setCell ⟨rb, 2, none⟩ u2).setCell ⟨rb, 3, none⟩ u3).setCell ⟨rb, 4, none⟩ u4).setCell ⟨rb, 5, none⟩ u5).setCell ⟨rb, 6, none⟩ u6).setCell ⟨rb, 7, none⟩ u7).setCell ⟨rb, 8, none⟩ u8).setCell ⟨rb, 9, none⟩ u9).setCell ⟨rb, 10, none⟩ u10).cell? ⟨sb, 0, none⟩ = some (.int .i64 x0) ∧ (((((((((((wr.setCell ⟨rb, 0, none⟩ u0).setCell ⟨rb, 1, none⟩ u1).setCell ⟨rb, 2, none⟩ u2).setCell ⟨rb, 3, none⟩ u3).setCell ⟨rb, 4, none⟩ u4).setCell ⟨rb, 5, none⟩ u5).setCell ⟨rb, 6, none⟩ u6).setCell ⟨rb, 7, none⟩ u7).setCell ⟨rb, 8, none⟩ u8).setCell ⟨rb, 9, none⟩ u9).setCell ⟨rb, 10, none⟩ u10).cell? ⟨sb, 1, none⟩ = some (.int .i64 x1) ∧ (((((((((((wr.setCell ⟨rb, 0, none⟩ u0).setCell ⟨rb, 1, none⟩ u1).setCell ⟨rb, 2, none⟩ u2).setCell ⟨rb, 3, none⟩ u3).setCell ⟨rb, 4, none⟩ u4).setCell ⟨rb, 5, none⟩ u5).setCell ⟨rb, 6, none⟩ u6).setCell ⟨rb, 7, none⟩ u7).setCell ⟨rb, 8, none⟩ u8).setCell ⟨rb, 9, none⟩ u9).setCell ⟨rb, 10, none⟩ u10).cell? ⟨sb, 2, none⟩ = some (.int .i64 x2) ∧ (((((((((((wr.setCell ⟨rb, 0, none⟩ u0).setCell ⟨rb, 1, none⟩ u1).setCell ⟨rb, 2, none⟩ u2).setCell ⟨rb, 3, none⟩ u3).setCell ⟨rb, 4, none⟩ u4).setCell ⟨rb, 5, none⟩ u5).setCell ⟨rb, 6, none⟩ u6).setCell ⟨rb, 7, none⟩ u7).setCell ⟨rb, 8, none⟩ u8).setCell ⟨rb, 9, none⟩ u9).setCell ⟨rb, 10, none⟩ u10).cell? ⟨sb, 3, none⟩ = some (.int .i64 x3) ∧ (((((((((((wr.setCell ⟨rb, 0, none⟩ u0).setCell ⟨rb, 1, none⟩ u1).setCell ⟨rb, 2, none⟩ u2).setCell ⟨rb, 3, none⟩ u3).setCell ⟨rb, 4, none⟩ u4).setCell ⟨rb, 5, none⟩ u5).setCell ⟨rb, 6, none⟩ u6).setCell ⟨rb, 7, none⟩ u7).setCell ⟨rb, 8, none⟩ u8).setCell ⟨rb, 9, none⟩ u9).setCell ⟨rb, 10, none⟩ u10).cell? ⟨sb, 4, none⟩ = some (.int .i64 x4) ∧ (((((((((((wr.setCell ⟨rb, 0, none⟩ u0).setCell ⟨rb, 1, none⟩ u1).setCell ⟨rb, 2, none⟩ u2).setCell ⟨rb, 3, none⟩ u3).setCell ⟨rb, 4, none⟩ u4).setCell ⟨rb, 5, none⟩ u5).setCell ⟨rb, 6, none⟩ u6).setCell ⟨rb, 7, none⟩ u7).setCell ⟨rb, 8, none⟩ u8).setCell ⟨rb, 9, none⟩ u9).setCell ⟨rb, 10, none⟩ u10).cell? ⟨sb, 5, none⟩ = some (.int .i64 x5) ∧ (((((((((((wr.setCell ⟨rb, 0, none⟩ u0).setCell ⟨rb, 1, none⟩ u1).setCell ⟨rb, 2, none⟩ u2).setCell ⟨rb, 3, none⟩ u3).setCell ⟨rb, 4, none⟩ u4).setCell ⟨rb, 5, none⟩ u5).setCell ⟨rb, 6, none⟩ u6).setCell ⟨rb, 7, none⟩ u7).setCell ⟨rb, 8, none⟩ u8).setCell ⟨rb, 9, none⟩ u9).setCell ⟨rb, 10, none⟩ u10).cell? ⟨sb, 6, none⟩ = some (.int .i64 x6) ∧ (((((((((((wr.setCell ⟨rb, 0, none⟩ u0).setCell ⟨rb, 1, none⟩ u1).setCell ⟨rb, 2, none⟩ u2).setCell ⟨rb, 3, none⟩ u3).setCell ⟨rb, 4, none⟩ u4).setCell ⟨rb, 5, none⟩ u5).setCell ⟨rb, 6, none⟩ u6).setCell ⟨rb, 7, none⟩ u7).setCell ⟨rb, 8, none⟩ u8).setCell ⟨rb, 9, none⟩ u9).setCell ⟨rb, 10, none⟩ u10).cell? ⟨sb, 7, none⟩ = some (.int .i64 x7) ∧ (((((((((((wr.setCell ⟨rb, 0, none⟩ u0).setCell ⟨rb, 1, none⟩ u1).setCell ⟨rb, 2, none⟩ u2).setCell ⟨rb, 3, none⟩ u3).setCell ⟨rb, 4, none⟩ u4).setCell ⟨rb, 5, none⟩ u5).setCell ⟨rb, 6, none⟩ u6).setCell ⟨rb, 7, none⟩ u7).setCell ⟨rb, 8, none⟩ u8).setCell ⟨rb, 9, none⟩ u9).setCell ⟨rb, 10, none⟩ u10).cell? ⟨sb, 8, none⟩ = some (.int .i64 x8) ∧ (((((((((((wr.setCell ⟨rb, 0, none⟩ u0).setCell ⟨rb, 1, none⟩ u1).setCell ⟨rb, 2, none⟩ u2).setCell ⟨rb, 3, none⟩ u3).setCell ⟨rb, 4, none⟩ u4).setCell ⟨rb, 5, none⟩ u5).setCell ⟨rb, 6, none⟩ u6).setCell ⟨rb, 7, none⟩ u7).setCell ⟨rb, 8, none⟩ u8).setCell ⟨rb, 9, none⟩ u9).setCell ⟨rb, 10, none⟩ u10).cell? ⟨sb, 9, none⟩ = some (.int .i64 x9) ∧ (((((((((((wr.setCell ⟨rb, 0, none⟩ u0).setCell ⟨rb, 1, none⟩ u1).setCell ⟨rb, 2, none⟩ u2).setCell ⟨rb, 3, none⟩ u3).setCell ⟨rb, 4, none⟩ u4).setCell ⟨rb, 5, none⟩ u5).setCell ⟨rb, 6, none⟩ u6).setCell ⟨rb, 7, none⟩ u7).setCell ⟨rb, 8, none⟩ u8).setCell ⟨rb, 9, none⟩ u9).setCell ⟨rb, 10, none⟩ u10).cell? ⟨sb, 10, none⟩ = some (.int .i64 x10) := by
  have h1 := box_turned h.ks (set11T (S := fun k => k = rb) (W := wr) (b := rb) (u0 := u0) (u1 := u1) (u2 := u2) (u3 := u3) (u4 := u4) (u5 := u5) (u6 := u6) (u7 := u7) (u8 := u8) (u9 := u9) (u10 := u10) rfl) (by have := h.ne; omega)
  refine ⟨box_cell h1 0 _ rfl, box_cell h1 1 _ rfl, box_cell h1 2 _ rfl, box_cell h1 3 _ rfl, box_cell h1 4 _ rfl, box_cell h1 5 _ rfl, box_cell h1 6 _ rfl, box_cell h1 7 _ rfl, box_cell h1 8 _ rfl, box_cell h1 9 _ rfl, box_cell h1 10 _ rfl⟩
end
set_option maxRecDepth 100000 in
set_option maxHeartbeats 12800000 in
theorem drawRw_any (w : World) (B : Nat) (hB : B ≤ w.heap.size) (A : Option Addr) (n cap : Nat) (zs : List UInt8) (hb : IsBytes w B A n zs) (hn : n ≤ 1048576) : Calls Tryd.prog 7 #[.slice A n cap] w (RwSaid w) := by
  have KR := Lib.hid (box_new w (.cells #[.int .i64 0, .int .i64 0, .int .i64 0, .int .i64 0, .int .i64 0, .int .i64 0, .int .i64 0, .int .i64 0, .int .i64 0, .int .i64 0, .int .i64 0] 25))
  obtain ⟨V, hV⟩ : ∃ V, V = w.alloc (.cells #[.int .i64 0, .int .i64 0, .int .i64 0, .int .i64 0, .int .i64 0, .int .i64 0, .int .i64 0, .int .i64 0, .int .i64 0, .int .i64 0, .int .i64 0] 25) := ⟨_, rfl⟩
  rw [← hV] at KR
  have hbV : Below w.heap.size w V := by rw [hV]; exact bel1 _ _
  have HB : Hid (IsBytes V B A n zs) := hb.keep fun p hp => hbV.cell (by omega)
  clear hb
  have hlV : w.heap.size < V.heap.size := box_lt KR.out
  have HL := Lib.hid hbV
  go_enter Tryd.func7, Tryd.ntmps7
  go_wp2_with fail
  rw [← hV]
  clear hV hbV
  refine (draw6_any _ B (by omega) A n cap zs HB.out hn).mono ?_
  rintro e w1 ⟨g, x0, x1, x2, x3, x4, x5, x6, x7, x8, x9, x10, rfl, hg0, hsm, hc, hb1⟩
  have hL1 := bel_then HL.out hb1 HL.out.size
  have hgl1 : g < w1.heap.size := hc.lt
  have HR0 : Hid (Am w (w1.alloc (.cells #[.int .i64 x0, .int .i64 x1, .int .i64 x2, .int .i64 x3, .int .i64 x4, .int .i64 x5, .int .i64 x6, .int .i64 x7, .int .i64 x8, .int .i64 x9, .int .i64 x10] 25)) w.heap.size w1.heap.size B g A n cap zs x0 x1 x2 x3 x4 x5 x6 x7 x8 x9 x10) := ⟨hc.alloc _, hL1.alloc hL1.size _, box_alloc (box_below KR.out hb1) _, box_new _ _, by omega⟩
  clear KR HB HL hb1 hL1 hc hsm
  obtain ⟨c0, c1, c2, c3, c4, c5, c6, c7, c8, c9, c10⟩ := cells11 HR0.out
  go_wp2_with fail
  go_region_held3 (fun w' => w'.cell? ⟨w1.heap.size, 0, none⟩ = some (.int .i64 x0) ∧ w'.cell? ⟨w1.heap.size, 1, none⟩ = some (.int .i64 x1) ∧ w'.cell? ⟨w1.heap.size, 2, none⟩ = some (.int .i64 x2) ∧ w'.cell? ⟨w1.heap.size, 3, none⟩ = some (.int .i64 x3) ∧ w'.cell? ⟨w1.heap.size, 4, none⟩ = some (.int .i64 x4) ∧ w'.cell? ⟨w1.heap.size, 5, none⟩ = some (.int .i64 x5) ∧ w'.cell? ⟨w1.heap.size, 6, none⟩ = some (.int .i64 x6) ∧ w'.cell? ⟨w1.heap.size, 7, none⟩ = some (.int .i64 x7) ∧ w'.cell? ⟨w1.heap.size, 8, none⟩ = some (.int .i64 x8) ∧ w'.cell? ⟨w1.heap.size, 9, none⟩ = some (.int .i64 x9) ∧ w'.cell? ⟨w1.heap.size, 10, none⟩ = some (.int .i64 x10))
    (first | with_reducible exact cells11a HR2.out _ _ _ _ _ _ _ _ _ _ _ | with_reducible exact cells11 HR2.out | with_reducible exact cells11 HR1.out | with_reducible exact cells11 (HR1.out.alloc _) | with_reducible exact cells11 HR0.out | with_reducible exact cells11 HR0.out.drew)
    (first
      | (have hgo := hord1; clear hgo; go_at_call 18; refine (pick_any [0, 1, 2, 3, (da : Int), 64, -1] w5.heap.size 7 7 rfl (by omega) (by omega) _ B g A n cap zs (by exact HR1.out.cur.alloc _) (by omega) (by exact fun j hj => lit_cells w5 _ [0, 1, 2, 3, (da : Int), 64, -1] j hj)).mono ?_; rintro e w6 ⟨z, hz, rfl, hc6, hg6⟩; have HR2 := Lib.hid ((HR1.out.alloc (.cells (([0, 1, 2, 3, (da : Int), 64, -1] : List Int).map (Value.int .i64)).toArray 3)).step hg6 hc6); have hz2 : -1 ≤ z ∧ z ≤ 64 := (by simp only [List.mem_cons, List.not_mem_nil, or_false] at hz; omega); have z0 := box_cell HR2.out.kr 0 _ rfl; have f0 := box_frozen HR2.out.kr 0; have z1 := box_cell HR2.out.kr 1 _ rfl; have f1 := box_frozen HR2.out.kr 1; have z2 := box_cell HR2.out.kr 2 _ rfl; have f2 := box_frozen HR2.out.kr 2; have z3 := box_cell HR2.out.kr 3 _ rfl; have f3 := box_frozen HR2.out.kr 3; have z4 := box_cell HR2.out.kr 4 _ rfl; have f4 := box_frozen HR2.out.kr 4; have z5 := box_cell HR2.out.kr 5 _ rfl; have f5 := box_frozen HR2.out.kr 5; have z6 := box_cell HR2.out.kr 6 _ rfl; have f6 := box_frozen HR2.out.kr 6; have z7 := box_cell HR2.out.kr 7 _ rfl; have f7 := box_frozen HR2.out.kr 7; have z8 := box_cell HR2.out.kr 8 _ rfl; have f8 := box_frozen HR2.out.kr 8; have z9 := box_cell HR2.out.kr 9 _ rfl; have f9 := box_frozen HR2.out.kr 9; have z10 := box_cell HR2.out.kr 10 _ rfl; have f10 := box_frozen HR2.out.kr 10; clear hz hc6 hg6)
      | (go_at_call 19; refine (below_any 12 (by omega) _ B g A n cap zs (by exact HR0.out.drew.cur)).mono ?_; rintro e w5 ⟨da, hda, _, rfl, hc5, hg5⟩; have HR1 := Lib.hid (HR0.out.drew.step hg5 hc5); have hda4 : (da : Int) < 12 := hda (by omega); have hgl5 : g < w5.heap.size := hc5.lt; have hord1 : True := trivial; clear hda hc5 hg5))
  all_goals
    go_wp2
    obtain ⟨W1, hW1⟩ : ∃ x, x = (((((((((((w6.setCell ⟨w.heap.size, 0, none⟩ (.int .i64 x0)).setCell ⟨w.heap.size, 1, none⟩ (.int .i64 x1)).setCell ⟨w.heap.size, 2, none⟩ (.int .i64 x2)).setCell ⟨w.heap.size, 3, none⟩ (.int .i64 x3)).setCell ⟨w.heap.size, 4, none⟩ (.int .i64 x4)).setCell ⟨w.heap.size, 5, none⟩ (.int .i64 x5)).setCell ⟨w.heap.size, 6, none⟩ (.int .i64 x6)).setCell ⟨w.heap.size, 7, none⟩ (.int .i64 x7)).setCell ⟨w.heap.size, 8, none⟩ (.int .i64 x8)).setCell ⟨w.heap.size, 9, none⟩ (.int .i64 x9)).setCell ⟨w.heap.size, 10, none⟩ (.int .i64 x10)) := ⟨_, rfl⟩
    rw [← hW1]
    have kr : W1.heap[w.heap.size]? = some (.cells #[.int .i64 x0, .int .i64 x1, .int .i64 x2, .int .i64 x3, .int .i64 x4, .int .i64 x5, .int .i64 x6, .int .i64 x7, .int .i64 x8, .int .i64 x9, .int .i64 x10] 25) := by rw [hW1]; exact set11B HR2.out.kr (.int .i64 x0) (.int .i64 x1) (.int .i64 x2) (.int .i64 x3) (.int .i64 x4) (.int .i64 x5) (.int .i64 x6) (.int .i64 x7) (.int .i64 x8) (.int .i64 x9) (.int .i64 x10)
    have ht : Turned (fun k => k = w.heap.size) w6 W1 := by rw [hW1]; exact set11T (S := fun k => k = w.heap.size) rfl
    clear hW1
    have r0 := box_cell kr 0 _ rfl
    have r1 := box_cell kr 1 _ rfl
    have r2 := box_cell kr 2 _ rfl
    have r3 := box_cell kr 3 _ rfl
    have r4 := box_cell kr 4 _ rfl
    have r5 := box_cell kr 5 _ rfl
    have r6 := box_cell kr 6 _ rfl
    have r7 := box_cell kr 7 _ rfl
    have r8 := box_cell kr 8 _ rfl
    have r9 := box_cell kr 9 _ rfl
    have r10 := box_cell kr 10 _ rfl
    exact bodyPost_ret (v := .tuple #[.agg #[.int .i64 x0, .int .i64 x1, .int .i64 x2, .int .i64 x3, .int .i64 x4, .int .i64 x5, .int .i64 x6, .int .i64 x7, .int .i64 x8, .int .i64 x9, .int .i64 x10], .int .i64 z]) (by simp [results, Tryd.results7, go_sem, r0, r1, r2, r3, r4, r5, r6, r7, r8, r9, r10]) rfl ⟨x0, x1, x2, x3, x4, x5, x6, x7, x8, x9, x10, z, rfl, hz2, Turned.low HR2.out.low ht (fun k hk => by omega) HR2.out.low.size⟩
end Go.Proofs.YtfabioccnaooeaaDoor.DrawRw
