/-
  WHAT THE PROGRAM'S CountOk, Ceiling, Floor, LimitOf AND allUp ANSWER over this seat's translation.
-/
import Derived.Test.YtdefckbgcggnoaaGreatCnt
namespace Go.Proofs.YtdefckbgcggnoaaGreat.Cnt
open Go.ChangeShapes Go.WideShapes Go.ChangeAt Go.RowKit
open Go.Proofs.YtdefckbgcggnoaaGreat.LK Go.Proofs.YtdefckbgcggnoaaGreat.Sp Go.Proofs.YtdefckbgcggnoaaGreat.Put
open Go.Proofs.YtdefckbgcggnoaaGreat.Tick (inB in_t in_f)
set_option linter.unusedVariables false
set_option linter.unusedSimpArgs false
set_option maxHeartbeats 1600000 in
theorem CountOk_any (l a : Int) (w : World) : Calls Tryz.prog 245 #[.agg #[.int .i64 l, .int .i64 a]] w (Says (.bool (countB l a)) w) := by
  obtain ⟨V, hV⟩ : ∃ V, V = w.alloc (.cells #[.int .i64 l, .int .i64 a] 190) := ⟨_, rfl⟩
  have hbV : Below w.heap.size w V := by rw [hV]; exact bel1 _ _
  have KC : Hid (V.heap[w.heap.size]? = some (.cells #[.int .i64 l, .int .i64 a] 190)) := by rw [hV]; exact box_new w _
  have c0 := box_cell KC.out 0 _ rfl
  have c1 := box_cell KC.out 1 _ rfl
  go_enter Tryz.func245, Tryz.ntmps245
  go_wp2_with fail
  rw [← hV]
  clear hV
  refine (within_any _ _ _ _).mono ?_
  rintro e w' ⟨rfl, rfl⟩
  cases h1 : inB l 0 30
  · go_wp2
    go_ret
    exact ⟨by simp [countB, h1], hbV⟩
  · go_wp2_with fail
    refine (within_any _ _ _ _).mono ?_
    rintro e w' ⟨rfl, rfl⟩
    go_wp2
    go_ret
    exact ⟨by simp [countB, h1], hbV⟩
set_option maxRecDepth 100000 in
set_option maxHeartbeats 1600000 in
theorem Ceiling_any (x0 x1 x2 x3 x4 x5 x6 x7 x8 x9 x10 : Int) (w : World) : Calls Tryz.prog 99 #[.agg #[.int .i64 x0, .int .i64 x1, .int .i64 x2, .int .i64 x3, .int .i64 x4, .int .i64 x5, .int .i64 x6, .int .i64 x7, .int .i64 x8, .int .i64 x9, .int .i64 x10]] w (Says (.int .i64 (ceilV x0 x1 x2 x3 x4 x5 x6 x7 x8 x9 x10)) w) := by
  obtain ⟨V, hV⟩ : ∃ V, V = w.alloc (.cells #[.int .i64 x0, .int .i64 x1, .int .i64 x2, .int .i64 x3, .int .i64 x4, .int .i64 x5, .int .i64 x6, .int .i64 x7, .int .i64 x8, .int .i64 x9, .int .i64 x10] 25) := ⟨_, rfl⟩
  have hbV : Below w.heap.size w V := by rw [hV]; exact bel1 _ _
  have KS : Hid (V.heap[w.heap.size]? = some (.cells #[.int .i64 x0, .int .i64 x1, .int .i64 x2, .int .i64 x3, .int .i64 x4, .int .i64 x5, .int .i64 x6, .int .i64 x7, .int .i64 x8, .int .i64 x9, .int .i64 x10] 25)) := by rw [hV]; exact box_new w _
  go_enter Tryz.func99, Tryz.ntmps99
  go_wp2_with fail
  rw [← hV]
  clear hV
  refine (specOk_any x0 x1 x2 x3 x4 x5 x6 x7 x8 x9 x10 _).mono ?_
  rintro e w1 ⟨rfl, hb⟩
  have KS' := Lib.hid (box_below KS.out hb)
  have HB := Lib.hid (bel_then hbV hb hbV.size)
  clear KS hb hbV
  cases hs : specB x0 x1 x2 x3 x4 x5 x6 x7 x8 x9 x10
  · go_wp2
    go_ret
    exact ⟨by simp [ceilV, hs], HB.out⟩
  · have hbd := specB_t hs
    have c0 := box_cell KS'.out 0 _ rfl
    have c1 := box_cell KS'.out 1 _ rfl
    have c2 := box_cell KS'.out 2 _ rfl
    have HS := Lib.hid hs
    clear hs
    go_wp2
    go_ret
    exact ⟨by simp [ceilV, HS.out], HB.out⟩
set_option maxRecDepth 100000 in
set_option maxHeartbeats 1600000 in
theorem Floor_any (x0 x1 x2 x3 x4 x5 x6 x7 x8 x9 x10 : Int) (w : World) : Calls Tryz.prog 265 #[.agg #[.int .i64 x0, .int .i64 x1, .int .i64 x2, .int .i64 x3, .int .i64 x4, .int .i64 x5, .int .i64 x6, .int .i64 x7, .int .i64 x8, .int .i64 x9, .int .i64 x10]] w (Says (.int .i64 (floorV x0 x1 x2 x3 x4 x5 x6 x7 x8 x9 x10)) w) := by
  obtain ⟨V, hV⟩ : ∃ V, V = w.alloc (.cells #[.int .i64 x0, .int .i64 x1, .int .i64 x2, .int .i64 x3, .int .i64 x4, .int .i64 x5, .int .i64 x6, .int .i64 x7, .int .i64 x8, .int .i64 x9, .int .i64 x10] 25) := ⟨_, rfl⟩
  have hbV : Below w.heap.size w V := by rw [hV]; exact bel1 _ _
  have KS : Hid (V.heap[w.heap.size]? = some (.cells #[.int .i64 x0, .int .i64 x1, .int .i64 x2, .int .i64 x3, .int .i64 x4, .int .i64 x5, .int .i64 x6, .int .i64 x7, .int .i64 x8, .int .i64 x9, .int .i64 x10] 25)) := by rw [hV]; exact box_new w _
  go_enter Tryz.func265, Tryz.ntmps265
  go_wp2_with fail
  rw [← hV]
  clear hV
  refine (specOk_any x0 x1 x2 x3 x4 x5 x6 x7 x8 x9 x10 _).mono ?_
  rintro e w1 ⟨rfl, hb⟩
  have KS' := Lib.hid (box_below KS.out hb)
  have HB := Lib.hid (bel_then hbV hb hbV.size)
  clear KS hb hbV
  cases hs : specB x0 x1 x2 x3 x4 x5 x6 x7 x8 x9 x10
  · go_wp2
    go_ret
    exact ⟨by simp [floorV, hs], HB.out⟩
  · have hbd := specB_t hs
    have c0 := box_cell KS'.out 0 _ rfl
    have c1 := box_cell KS'.out 1 _ rfl
    have c2 := box_cell KS'.out 2 _ rfl
    have HS := Lib.hid hs
    clear hs
    go_wp2
    go_ret
    exact ⟨by simp [floorV, HS.out], HB.out⟩
set_option maxRecDepth 100000 in
set_option maxHeartbeats 1600000 in
theorem LimitOf_any (x0 x1 x2 x3 x4 x5 x6 x7 x8 x9 x10 : Int) (b : Bool) (w : World) : Calls Tryz.prog 224 #[.agg #[.int .i64 x0, .int .i64 x1, .int .i64 x2, .int .i64 x3, .int .i64 x4, .int .i64 x5, .int .i64 x6, .int .i64 x7, .int .i64 x8, .int .i64 x9, .int .i64 x10], .bool b] w (Says (.int .i64 (limV x0 x1 x2 x3 x4 x5 x6 x7 x8 x9 x10 b)) w) := by
  obtain ⟨V, hV⟩ : ∃ V, V = w.alloc (.cells #[.int .i64 x0, .int .i64 x1, .int .i64 x2, .int .i64 x3, .int .i64 x4, .int .i64 x5, .int .i64 x6, .int .i64 x7, .int .i64 x8, .int .i64 x9, .int .i64 x10] 25) := ⟨_, rfl⟩
  have hbV : Below w.heap.size w V := by rw [hV]; exact bel1 _ _
  have KS : Hid (V.heap[w.heap.size]? = some (.cells #[.int .i64 x0, .int .i64 x1, .int .i64 x2, .int .i64 x3, .int .i64 x4, .int .i64 x5, .int .i64 x6, .int .i64 x7, .int .i64 x8, .int .i64 x9, .int .i64 x10] 25)) := by rw [hV]; exact box_new w _
  go_enter Tryz.func224, Tryz.ntmps224
  go_wp2_with fail
  rw [← hV]
  clear hV
  refine (specOk_any x0 x1 x2 x3 x4 x5 x6 x7 x8 x9 x10 _).mono ?_
  rintro e w1 ⟨rfl, hb⟩
  have KS' := Lib.hid (box_below KS.out hb)
  have HB := Lib.hid (bel_then hbV hb hbV.size)
  clear KS hb hbV
  cases hs : specB x0 x1 x2 x3 x4 x5 x6 x7 x8 x9 x10
  · go_wp2
    go_ret
    exact ⟨by simp [limV, hs], HB.out⟩
  · have c0 := box_cell KS'.out 0 _ rfl
    have c9 := box_cell KS'.out 9 _ rfl
    have HS := Lib.hid hs
    clear hs
    by_cases h9 : 0 < x9 <;> cases b
    · have hv : Hid (limV x0 x1 x2 x3 x4 x5 x6 x7 x8 x9 x10 false = x9) := by show _ = _; unfold limV; rw [if_pos HS.out]; exact if_pos ⟨h9, rfl⟩
      go_wp2
      go_ret
      exact ⟨by rw [hv.out]; rfl, HB.out⟩
    · have hv : Hid (limV x0 x1 x2 x3 x4 x5 x6 x7 x8 x9 x10 true = x0) := by show _ = _; unfold limV; rw [if_pos HS.out]; exact if_neg (fun h => absurd h.2 (by simp))
      go_wp2
      go_ret
      exact ⟨by rw [hv.out]; rfl, HB.out⟩
    · have hv : Hid (limV x0 x1 x2 x3 x4 x5 x6 x7 x8 x9 x10 false = x0) := by show _ = _; unfold limV; rw [if_pos HS.out]; exact if_neg (fun h => absurd h.1 h9)
      go_wp2
      go_ret
      exact ⟨by rw [hv.out]; rfl, HB.out⟩
    · have hv : Hid (limV x0 x1 x2 x3 x4 x5 x6 x7 x8 x9 x10 true = x0) := by show _ = _; unfold limV; rw [if_pos HS.out]; exact if_neg (fun h => absurd h.1 h9)
      go_wp2
      go_ret
      exact ⟨by rw [hv.out]; rfl, HB.out⟩
set_option maxHeartbeats 1600000 in
theorem allUp_any (n : Int) (w : World) : Calls Tryz.prog 226 #[.int .i64 n] w (Says (.agg #[.int .i64 n, .int .i64 n]) w) := by
  have KR := box_new w (.cells #[.int .i64 0, .int .i64 0] 190)
  have RB := setRow_box (vs := #[.int .i64 n, .int .i64 n]) KR
  have r0 := box_cell RB 0 _ rfl
  have r1 := box_cell RB 1 _ rfl
  have HBF := Lib.hid (setRow_below (bel1 w (.cells #[.int .i64 0, .int .i64 0] 190)) w.heap.size #[.int .i64 n, .int .i64 n] (Nat.le_refl _) (by simp))
  go_enter Tryz.func226, Tryz.ntmps226
  go_wp2_with (refine wpList_put rfl rfl 190 _ _ rfl w.heap.size _ rfl rfl _ _ KR (Tryz.sizeOf190 _) rfl (by simp [Value.oneCell']) ?_)
  exact bodyPost_ret (v := .agg #[.int .i64 n, .int .i64 n]) (by simp [results, Tryz.results226, go_sem, r0, r1]) rfl ⟨rfl, HBF.out⟩
end Go.Proofs.YtdefckbgcggnoaaGreat.Cnt
