/-
  WHAT THE PROGRAM'S CountOk, Ceiling, Floor, LimitOf AND allUp ANSWER over this seat's translation.
-/
import Derived.Test.YtlghdmakaocokaaCnt
namespace Go.Proofs.Ytlghdmakaocokaa.Cnt
open Go.ChangeShapes Go.WideShapes Go.ChangeAt Go.RowKit
open Go.Proofs.Ytlghdmakaocokaa.LK Go.Proofs.Ytlghdmakaocokaa.Sp Go.Proofs.Ytlghdmakaocokaa.Put
open Go.Proofs.Ytlghdmakaocokaa.Tick (inB in_t in_f)
set_option linter.unusedVariables false
set_option linter.unusedSimpArgs false
set_option maxHeartbeats 1600000 in
theorem CountOk_any (l a : Int) (w : World) : Calls Try.prog 38 #[.agg #[.int .i64 l, .int .i64 a]] w (Says (.bool (countB l a)) w) := by
  obtain ⟨V, hV⟩ : ∃ V, V = w.alloc (.cells #[.int .i64 l, .int .i64 a] 52) := ⟨_, rfl⟩
  have hbV : Below w.heap.size w V := by rw [hV]; exact bel1 _ _
  have KC : Hid (V.heap[w.heap.size]? = some (.cells #[.int .i64 l, .int .i64 a] 52)) := by rw [hV]; exact box_new w _
  have c0 := box_cell KC.out 0 _ rfl
  have c1 := box_cell KC.out 1 _ rfl
  go_enter Try.func38, Try.ntmps38
  go_wp2_with fail
  rw [← hV]
  clear hV
  refine (within_any _ _ _ _).mono ?_
  rintro e w' ⟨rfl, rfl⟩
  cases h1 : inB l 0 30
  · go_wp2
    go_ret
    exact ⟨by simp [countB, h1], hbV⟩
  · go_wp2_with fail
    refine (within_any _ _ _ _).mono ?_
    rintro e w' ⟨rfl, rfl⟩
    go_wp2
    go_ret
    exact ⟨by simp [countB, h1], hbV⟩
set_option maxRecDepth 100000 in
set_option maxHeartbeats 1600000 in
theorem Ceiling_any (x0 x1 x2 x3 x4 x5 x6 x7 x8 x9 x10 : Int) (w : World) : Calls Try.prog 43 #[.agg #[.int .i64 x0, .int .i64 x1, .int .i64 x2, .int .i64 x3, .int .i64 x4, .int .i64 x5, .int .i64 x6, .int .i64 x7, .int .i64 x8, .int .i64 x9, .int .i64 x10]] w (Says (.int .i64 (ceilV x0 x1 x2 x3 x4 x5 x6 x7 x8 x9 x10)) w) := by
  obtain ⟨V, hV⟩ : ∃ V, V = w.alloc (.cells #[.int .i64 x0, .int .i64 x1, .int .i64 x2, .int .i64 x3, .int .i64 x4, .int .i64 x5, .int .i64 x6, .int .i64 x7, .int .i64 x8, .int .i64 x9, .int .i64 x10] 38) := ⟨_, rfl⟩
  have hbV : Below w.heap.size w V := by rw [hV]; exact bel1 _ _
  have KS : Hid (V.heap[w.heap.size]? = some (.cells #[.int .i64 x0, .int .i64 x1, .int .i64 x2, .int .i64 x3, .int .i64 x4, .int .i64 x5, .int .i64 x6, .int .i64 x7, .int .i64 x8, .int .i64 x9, .int .i64 x10] 38)) := by rw [hV]; exact box_new w _
  go_enter Try.func43, Try.ntmps43
  go_wp2_with fail
  rw [← hV]
  clear hV
  refine (specOk_any x0 x1 x2 x3 x4 x5 x6 x7 x8 x9 x10 _).mono ?_
  rintro e w1 ⟨rfl, hb⟩
  have KS' := Lib.hid (box_below KS.out hb)
  have HB := Lib.hid (bel_then hbV hb hbV.size)
  clear KS hb hbV
  cases hs : specB x0 x1 x2 x3 x4 x5 x6 x7 x8 x9 x10
  · go_wp2
    go_ret
    exact ⟨by simp [ceilV, hs], HB.out⟩
  · have hbd := specB_t hs
    have c0 := box_cell KS'.out 0 _ rfl
    have c1 := box_cell KS'.out 1 _ rfl
    have c2 := box_cell KS'.out 2 _ rfl
    have HS := Lib.hid hs
    clear hs
    go_wp2
    go_ret
    exact ⟨by simp [ceilV, HS.out], HB.out⟩
set_option maxRecDepth 100000 in
set_option maxHeartbeats 1600000 in
theorem Floor_any (x0 x1 x2 x3 x4 x5 x6 x7 x8 x9 x10 : Int) (w : World) : Calls Try.prog 52 #[.agg #[.int .i64 x0, .int .i64 x1, .int .i64 x2, .int .i64 x3, .int .i64 x4, .int .i64 x5, .int .i64 x6, .int .i64 x7, .int .i64 x8, .int .i64 x9, .int .i64 x10]] w (Says (.int .i64 (floorV x0 x1 x2 x3 x4 x5 x6 x7 x8 x9 x10)) w) := by
  obtain ⟨V, hV⟩ : ∃ V, V = w.alloc (.cells #[.int .i64 x0, .int .i64 x1, .int .i64 x2, .int .i64 x3, .int .i64 x4, .int .i64 x5, .int .i64 x6, .int .i64 x7, .int .i64 x8, .int .i64 x9, .int .i64 x10] 38) := ⟨_, rfl⟩
  have hbV : Below w.heap.size w V := by rw [hV]; exact bel1 _ _
  have KS : Hid (V.heap[w.heap.size]? = some (.cells #[.int .i64 x0, .int .i64 x1, .int .i64 x2, .int .i64 x3, .int .i64 x4, .int .i64 x5, .int .i64 x6, .int .i64 x7, .int .i64 x8, .int .i64 x9, .int .i64 x10] 38)) := by rw [hV]; exact box_new w _
  go_enter Try.func52, Try.ntmps52
  go_wp2_with fail
  rw [← hV]
  clear hV
  refine (specOk_any x0 x1 x2 x3 x4 x5 x6 x7 x8 x9 x10 _).mono ?_
  rintro e w1 ⟨rfl, hb⟩
  have KS' := Lib.hid (box_below KS.out hb)
  have HB := Lib.hid (bel_then hbV hb hbV.size)
  clear KS hb hbV
  cases hs : specB x0 x1 x2 x3 x4 x5 x6 x7 x8 x9 x10
  · go_wp2
    go_ret
    exact ⟨by simp [floorV, hs], HB.out⟩
  · have hbd := specB_t hs
    have c0 := box_cell KS'.out 0 _ rfl
    have c1 := box_cell KS'.out 1 _ rfl
    have c2 := box_cell KS'.out 2 _ rfl
    have HS := Lib.hid hs
    clear hs
    go_wp2
    go_ret
    exact ⟨by simp [floorV, HS.out], HB.out⟩
set_option maxHeartbeats 1600000 in
theorem allUp_any (n : Int) (w : World) : Calls Try.prog 30 #[.int .i64 n] w (Says (.agg #[.int .i64 n, .int .i64 n]) w) := by
  have KR := box_new w (.cells #[.int .i64 0, .int .i64 0] 52)
  have RB := setRow_box (vs := #[.int .i64 n, .int .i64 n]) KR
  have r0 := box_cell RB 0 _ rfl
  have r1 := box_cell RB 1 _ rfl
  have HBF := Lib.hid (setRow_below (bel1 w (.cells #[.int .i64 0, .int .i64 0] 52)) w.heap.size #[.int .i64 n, .int .i64 n] (Nat.le_refl _) (by simp))
  go_enter Try.func30, Try.ntmps30
  go_wp2_with (refine wpList_put rfl rfl 52 _ _ rfl w.heap.size _ rfl rfl _ _ KR (Try.sizeOf52 _) rfl (by simp [Value.oneCell']) ?_)
  exact bodyPost_ret (v := .agg #[.int .i64 n, .int .i64 n]) (by simp [results, Try.results30, go_sem, r0, r1]) rfl ⟨rfl, HBF.out⟩
end Go.Proofs.Ytlghdmakaocokaa.Cnt
