/-
  THE CLOSURES of the machine's carryOut that call the other two.
-/
import Derived.Test.YtdefckbgcggnoaaGreatMachG
namespace Go.Proofs.YtdefckbgcggnoaaGreat.Mach
open Go.ChangeShapes Go.WideShapes Go.ChangeAt Go.RowKit
open Go.Proofs.YtdefckbgcggnoaaGreat.LK Go.Proofs.YtdefckbgcggnoaaGreat.Pods Go.Proofs.YtdefckbgcggnoaaGreat.EngV Go.Proofs.YtdefckbgcggnoaaGreat.EngCnt Go.Proofs.YtdefckbgcggnoaaGreat.Eng Go.Proofs.YtdefckbgcggnoaaGreat.Seg
set_option linter.unusedVariables false
set_option linter.unusedSimpArgs false
set_option maxRecDepth 100000 in
set_option maxHeartbeats 6400000 in
theorem dropA_any (w : World) (S : Nat → Prop) (b Bm B4 B5 : Nat) (lk ot : Int) (q : Run) (y0 y1 y2 y3 y4 : Int) (h : Mach w S b lk ot q) (hc : w.cell? ⟨Bm, 0, none⟩ = some (.pointer (some ⟨b, 0, none⟩)))
    (h4 : w.cell? ⟨B4, 0, none⟩ = some (.func (.func 199) #[] #[.pointer (some ⟨Bm, 0, none⟩)])) (h5 : w.cell? ⟨B5, 0, none⟩ = some (.func (.func 200) #[] #[.pointer (some ⟨Bm, 0, none⟩)])) :
    Calls Tryz.prog 202 #[.agg #[.int .i64 y0, .int .i64 y1, .int .i64 y2, .int .i64 y3, .int .i64 y4], .pointer (some ⟨B4, 0, none⟩), .pointer (some ⟨B5, 0, none⟩)] w (Says (.bool (!decide (y1 = q.e.tg) && !avP q.e.sp q.e.now (y0, y1, y2, y3, y4))) w) := by
  obtain ⟨g1, hg1⟩ : ∃ g, g = decide (y1 = q.e.tg) := ⟨_, rfl⟩
  obtain ⟨g2, hg2⟩ : ∃ g, g = avP q.e.sp q.e.now (y0, y1, y2, y3, y4) := ⟨_, rfl⟩
  have C1 : Hid (∀ W, Mach W S b lk ot q → W.cell? ⟨Bm, 0, none⟩ = some (.pointer (some ⟨b, 0, none⟩)) → Calls Tryz.prog 199 #[.agg #[.int .i64 y0, .int .i64 y1, .int .i64 y2, .int .i64 y3, .int .i64 y4], .pointer (some ⟨Bm, 0, none⟩)] W (Says (.bool g1) W)) := fun W a c => by rw [hg1]; exact fresh_any W S b Bm lk ot q y0 y1 y2 y3 y4 a c
  have C2 : Hid (∀ W, Mach W S b lk ot q → W.cell? ⟨Bm, 0, none⟩ = some (.pointer (some ⟨b, 0, none⟩)) → Calls Tryz.prog 200 #[.agg #[.int .i64 y0, .int .i64 y1, .int .i64 y2, .int .i64 y3, .int .i64 y4], .pointer (some ⟨Bm, 0, none⟩)] W (Says (.bool g2) W)) := fun W a c => by rw [hg2]; exact avail_any W S b Bm lk ot q y0 y1 y2 y3 y4 a c
  rw [← hg1, ← hg2]
  clear hg1 hg2
  have hb := bel1 w (.cells #[.int .i64 y0, .int .i64 y1, .int .i64 y2, .int .i64 y3, .int .i64 y4] 77)
  have H := Lib.hid (h.below hb)
  have KP : Hid ((w.alloc (.cells #[.int .i64 y0, .int .i64 y1, .int .i64 y2, .int .i64 y3, .int .i64 y4] 77)).heap[w.heap.size]? = some (.cells [.int .i64 y0, .int .i64 y1, .int .i64 y2, .int .i64 y3, .int .i64 y4].toArray 77 (0, 0))) := box_new w _
  have HC := Lib.hid (cell_keep hb hc)
  have H4 := Lib.hid (cell_keep hb h4)
  have H5 := Lib.hid (cell_keep hb h5)
  have HB := Lib.hid hb
  clear h hc hb h4 h5
  go_enter Tryz.func202, Tryz.ntmps202
  go_upto_region 1 with fail
  obtain ⟨V, hV⟩ : ∃ V, V = w.alloc (.cells #[.int .i64 y0, .int .i64 y1, .int .i64 y2, .int .i64 y3, .int .i64 y4] 77) := ⟨_, rfl⟩
  rw [← hV] at H KP HC HB H4 H5
  rw [← hV]
  clear hV
  have e0 := box_cell KP.out 0 _ rfl
  have e1 := box_cell KP.out 1 _ rfl
  have e2 := box_cell KP.out 2 _ rfl
  have e3 := box_cell KP.out 3 _ rfl
  have e4 := box_cell KP.out 4 _ rfl
  have k4 := H4.out
  go_wp2_with fail
  refine (C1.out V H.out HC.out).mono ?_
  rintro e w2 ⟨rfl, hb⟩
  have H2 := Lib.hid (H.out.below hb)
  have KP2 := Lib.hid (box_below KP.out hb)
  have HC2 := Lib.hid (cell_keep hb HC.out)
  have k5 := cell_keep hb H5.out
  have HB2 := Lib.hid (bel_then HB.out hb HB.out.size)
  clear hb H KP HC HB e0 e1 e2 e3 e4 k4 H4 H5 C1
  have e0 := box_cell KP2.out 0 _ rfl
  have e1 := box_cell KP2.out 1 _ rfl
  have e2 := box_cell KP2.out 2 _ rfl
  have e3 := box_cell KP2.out 3 _ rfl
  have e4 := box_cell KP2.out 4 _ rfl
  cases g1
  case true =>
    go_wp2
    go_ret
    exact ⟨rfl, HB2.out⟩
  go_wp2_with fail
  refine (C2.out w2 H2.out HC2.out).mono ?_
  rintro e w3 ⟨rfl, hb⟩
  have HB3 := Lib.hid (bel_then HB2.out hb HB2.out.size)
  clear hb H2 KP2 HC2 HB2 e0 e1 e2 e3 e4 k5 C2
  go_wp2
  go_ret
  exact ⟨by cases g2 <;> rfl, HB3.out⟩
set_option maxRecDepth 100000 in
set_option maxHeartbeats 6400000 in
theorem dropB_any (w : World) (S : Nat → Prop) (b Bm B4 B5 : Nat) (lk ot : Int) (q : Run) (y0 y1 y2 y3 y4 : Int) (h : Mach w S b lk ot q) (hc : w.cell? ⟨Bm, 0, none⟩ = some (.pointer (some ⟨b, 0, none⟩)))
    (h4 : w.cell? ⟨B4, 0, none⟩ = some (.func (.func 199) #[] #[.pointer (some ⟨Bm, 0, none⟩)])) (h5 : w.cell? ⟨B5, 0, none⟩ = some (.func (.func 200) #[] #[.pointer (some ⟨Bm, 0, none⟩)])) :
    Calls Tryz.prog 203 #[.agg #[.int .i64 y0, .int .i64 y1, .int .i64 y2, .int .i64 y3, .int .i64 y4], .pointer (some ⟨B4, 0, none⟩), .pointer (some ⟨B5, 0, none⟩)] w (Says (.bool (!decide (y1 = q.e.tg) && avP q.e.sp q.e.now (y0, y1, y2, y3, y4))) w) := by
  obtain ⟨g1, hg1⟩ : ∃ g, g = decide (y1 = q.e.tg) := ⟨_, rfl⟩
  obtain ⟨g2, hg2⟩ : ∃ g, g = avP q.e.sp q.e.now (y0, y1, y2, y3, y4) := ⟨_, rfl⟩
  have C1 : Hid (∀ W, Mach W S b lk ot q → W.cell? ⟨Bm, 0, none⟩ = some (.pointer (some ⟨b, 0, none⟩)) → Calls Tryz.prog 199 #[.agg #[.int .i64 y0, .int .i64 y1, .int .i64 y2, .int .i64 y3, .int .i64 y4], .pointer (some ⟨Bm, 0, none⟩)] W (Says (.bool g1) W)) := fun W a c => by rw [hg1]; exact fresh_any W S b Bm lk ot q y0 y1 y2 y3 y4 a c
  have C2 : Hid (∀ W, Mach W S b lk ot q → W.cell? ⟨Bm, 0, none⟩ = some (.pointer (some ⟨b, 0, none⟩)) → Calls Tryz.prog 200 #[.agg #[.int .i64 y0, .int .i64 y1, .int .i64 y2, .int .i64 y3, .int .i64 y4], .pointer (some ⟨Bm, 0, none⟩)] W (Says (.bool g2) W)) := fun W a c => by rw [hg2]; exact avail_any W S b Bm lk ot q y0 y1 y2 y3 y4 a c
  rw [← hg1, ← hg2]
  clear hg1 hg2
  have hb := bel1 w (.cells #[.int .i64 y0, .int .i64 y1, .int .i64 y2, .int .i64 y3, .int .i64 y4] 77)
  have H := Lib.hid (h.below hb)
  have KP : Hid ((w.alloc (.cells #[.int .i64 y0, .int .i64 y1, .int .i64 y2, .int .i64 y3, .int .i64 y4] 77)).heap[w.heap.size]? = some (.cells [.int .i64 y0, .int .i64 y1, .int .i64 y2, .int .i64 y3, .int .i64 y4].toArray 77 (0, 0))) := box_new w _
  have HC := Lib.hid (cell_keep hb hc)
  have H4 := Lib.hid (cell_keep hb h4)
  have H5 := Lib.hid (cell_keep hb h5)
  have HB := Lib.hid hb
  clear h hc hb h4 h5
  go_enter Tryz.func203, Tryz.ntmps203
  go_upto_region 1 with fail
  obtain ⟨V, hV⟩ : ∃ V, V = w.alloc (.cells #[.int .i64 y0, .int .i64 y1, .int .i64 y2, .int .i64 y3, .int .i64 y4] 77) := ⟨_, rfl⟩
  rw [← hV] at H KP HC HB H4 H5
  rw [← hV]
  clear hV
  have e0 := box_cell KP.out 0 _ rfl
  have e1 := box_cell KP.out 1 _ rfl
  have e2 := box_cell KP.out 2 _ rfl
  have e3 := box_cell KP.out 3 _ rfl
  have e4 := box_cell KP.out 4 _ rfl
  have k4 := H4.out
  go_wp2_with fail
  refine (C1.out V H.out HC.out).mono ?_
  rintro e w2 ⟨rfl, hb⟩
  have H2 := Lib.hid (H.out.below hb)
  have KP2 := Lib.hid (box_below KP.out hb)
  have HC2 := Lib.hid (cell_keep hb HC.out)
  have k5 := cell_keep hb H5.out
  have HB2 := Lib.hid (bel_then HB.out hb HB.out.size)
  clear hb H KP HC HB e0 e1 e2 e3 e4 k4 H4 H5 C1
  have e0 := box_cell KP2.out 0 _ rfl
  have e1 := box_cell KP2.out 1 _ rfl
  have e2 := box_cell KP2.out 2 _ rfl
  have e3 := box_cell KP2.out 3 _ rfl
  have e4 := box_cell KP2.out 4 _ rfl
  cases g1
  case true =>
    go_wp2
    go_ret
    exact ⟨rfl, HB2.out⟩
  go_wp2_with fail
  refine (C2.out w2 H2.out HC2.out).mono ?_
  rintro e w3 ⟨rfl, hb⟩
  have HB3 := Lib.hid (bel_then HB2.out hb HB2.out.size)
  clear hb H2 KP2 HC2 HB2 e0 e1 e2 e3 e4 k5 C2
  go_wp2
  go_ret
  exact ⟨by cases g2 <;> rfl, HB3.out⟩
set_option maxRecDepth 100000 in
set_option maxHeartbeats 6400000 in
theorem dropC_any (w : World) (S : Nat → Prop) (b Bm B4 B5 : Nat) (lk ot : Int) (q : Run) (y0 y1 y2 y3 y4 : Int) (h : Mach w S b lk ot q) (hc : w.cell? ⟨Bm, 0, none⟩ = some (.pointer (some ⟨b, 0, none⟩)))
    (h4 : w.cell? ⟨B4, 0, none⟩ = some (.func (.func 199) #[] #[.pointer (some ⟨Bm, 0, none⟩)])) (h5 : w.cell? ⟨B5, 0, none⟩ = some (.func (.func 200) #[] #[.pointer (some ⟨Bm, 0, none⟩)])) :
    Calls Tryz.prog 204 #[.agg #[.int .i64 y0, .int .i64 y1, .int .i64 y2, .int .i64 y3, .int .i64 y4], .pointer (some ⟨B4, 0, none⟩), .pointer (some ⟨B5, 0, none⟩)] w (Says (.bool (decide (y1 = q.e.tg) && !avP q.e.sp q.e.now (y0, y1, y2, y3, y4))) w) := by
  obtain ⟨g1, hg1⟩ : ∃ g, g = decide (y1 = q.e.tg) := ⟨_, rfl⟩
  obtain ⟨g2, hg2⟩ : ∃ g, g = avP q.e.sp q.e.now (y0, y1, y2, y3, y4) := ⟨_, rfl⟩
  have C1 : Hid (∀ W, Mach W S b lk ot q → W.cell? ⟨Bm, 0, none⟩ = some (.pointer (some ⟨b, 0, none⟩)) → Calls Tryz.prog 199 #[.agg #[.int .i64 y0, .int .i64 y1, .int .i64 y2, .int .i64 y3, .int .i64 y4], .pointer (some ⟨Bm, 0, none⟩)] W (Says (.bool g1) W)) := fun W a c => by rw [hg1]; exact fresh_any W S b Bm lk ot q y0 y1 y2 y3 y4 a c
  have C2 : Hid (∀ W, Mach W S b lk ot q → W.cell? ⟨Bm, 0, none⟩ = some (.pointer (some ⟨b, 0, none⟩)) → Calls Tryz.prog 200 #[.agg #[.int .i64 y0, .int .i64 y1, .int .i64 y2, .int .i64 y3, .int .i64 y4], .pointer (some ⟨Bm, 0, none⟩)] W (Says (.bool g2) W)) := fun W a c => by rw [hg2]; exact avail_any W S b Bm lk ot q y0 y1 y2 y3 y4 a c
  rw [← hg1, ← hg2]
  clear hg1 hg2
  have hb := bel1 w (.cells #[.int .i64 y0, .int .i64 y1, .int .i64 y2, .int .i64 y3, .int .i64 y4] 77)
  have H := Lib.hid (h.below hb)
  have KP : Hid ((w.alloc (.cells #[.int .i64 y0, .int .i64 y1, .int .i64 y2, .int .i64 y3, .int .i64 y4] 77)).heap[w.heap.size]? = some (.cells [.int .i64 y0, .int .i64 y1, .int .i64 y2, .int .i64 y3, .int .i64 y4].toArray 77 (0, 0))) := box_new w _
  have HC := Lib.hid (cell_keep hb hc)
  have H4 := Lib.hid (cell_keep hb h4)
  have H5 := Lib.hid (cell_keep hb h5)
  have HB := Lib.hid hb
  clear h hc hb h4 h5
  go_enter Tryz.func204, Tryz.ntmps204
  go_upto_region 1 with fail
  obtain ⟨V, hV⟩ : ∃ V, V = w.alloc (.cells #[.int .i64 y0, .int .i64 y1, .int .i64 y2, .int .i64 y3, .int .i64 y4] 77) := ⟨_, rfl⟩
  rw [← hV] at H KP HC HB H4 H5
  rw [← hV]
  clear hV
  have e0 := box_cell KP.out 0 _ rfl
  have e1 := box_cell KP.out 1 _ rfl
  have e2 := box_cell KP.out 2 _ rfl
  have e3 := box_cell KP.out 3 _ rfl
  have e4 := box_cell KP.out 4 _ rfl
  have k4 := H4.out
  go_wp2_with fail
  refine (C1.out V H.out HC.out).mono ?_
  rintro e w2 ⟨rfl, hb⟩
  have H2 := Lib.hid (H.out.below hb)
  have KP2 := Lib.hid (box_below KP.out hb)
  have HC2 := Lib.hid (cell_keep hb HC.out)
  have k5 := cell_keep hb H5.out
  have HB2 := Lib.hid (bel_then HB.out hb HB.out.size)
  clear hb H KP HC HB e0 e1 e2 e3 e4 k4 H4 H5 C1
  have e0 := box_cell KP2.out 0 _ rfl
  have e1 := box_cell KP2.out 1 _ rfl
  have e2 := box_cell KP2.out 2 _ rfl
  have e3 := box_cell KP2.out 3 _ rfl
  have e4 := box_cell KP2.out 4 _ rfl
  cases g1
  case false =>
    go_wp2
    go_ret
    exact ⟨rfl, HB2.out⟩
  go_wp2_with fail
  refine (C2.out w2 H2.out HC2.out).mono ?_
  rintro e w3 ⟨rfl, hb⟩
  have HB3 := Lib.hid (bel_then HB2.out hb HB2.out.size)
  clear hb H2 KP2 HC2 HB2 e0 e1 e2 e3 e4 k5 C2
  go_wp2
  go_ret
  exact ⟨by cases g2 <;> rfl, HB3.out⟩
end Go.Proofs.YtdefckbgcggnoaaGreat.Mach
