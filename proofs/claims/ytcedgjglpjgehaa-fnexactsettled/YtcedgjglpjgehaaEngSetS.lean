/-
  THE PROGRAM'S AND THE MODEL'S Settled over this seat's translation; the small questions on a phase and on who goes.
-/
import Derived.Test.YtcedgjglpjgehaaEngOk
import Derived.Test.YtcedgjglpjgehaaEngCnt
import Derived.Test.YtcedgjglpjgehaaCountS
import Derived.Test.YtcedgjglpjgehaaEngSet
namespace Go.Proofs.Ytcedgjglpjgehaa.EngSet
open Go.ChangeShapes Go.WideShapes Go.ChangeAt Go.RowKit
open Go.Proofs.Ytcedgjglpjgehaa.LK Go.Proofs.Ytcedgjglpjgehaa.Pods Go.Proofs.Ytcedgjglpjgehaa.EngV Go.Proofs.Ytcedgjglpjgehaa.EngCnt Go.Proofs.Ytcedgjglpjgehaa.Seg Go.Proofs.Ytcedgjglpjgehaa.EngOk
open Go.Proofs.Ytcedgjglpjgehaa.FleetV hiding goodB
set_option linter.unusedVariables false
set_option linter.unusedSimpArgs false

set_option maxRecDepth 100000 in
set_option maxHeartbeats 6400000 in
theorem specSettled_any (A : Option Addr) (n c : Nat) (d : Eng) (B : Nat) (w : World) (hr : IsPods w B A n d.ps) (hB : B ≤ w.heap.size) (hn : n ≤ 1048576) : Calls Try.prog 17 #[.agg (enL d A n c).toArray] w (Says (.bool (setB d)) w) := by
  obtain ⟨R, hR⟩ : ∃ R, R = setB d := ⟨_, rfl⟩
  rw [← hR]
  have HR := Lib.hid hR
  have HP := Lib.hid hr
  have HL : Hid (d.ps.length = n) := hr.1
  clear hR hr
  obtain ⟨V, hV⟩ : ∃ V, V = w.alloc (.cells (enL d A n c).toArray 29) := ⟨_, rfl⟩
  have HB : Hid (Below w.heap.size w V) := by rw [hV]; exact bel1 _ _
  have K : Hid (V.heap[w.heap.size]? = some (.cells (enL d A n c).toArray 29 (0, 0))) := by rw [hV]; exact box_new w _
  go_enter Try.func17, Try.ntmps17
  go_upto_region 1 with fail
  rw [← hV]
  clear hV
  go_wp2_with (refine wpList_get rfl 29 _ rfl w.heap.size 0 rfl K.out (enL d A n c) List.take_length Try.underlying29 rfl (by kernel_rfl) ?_)
  refine (specEngineOk_any A n c d B _ (HP.out.below HB.out hB) (Nat.le_trans hB HB.out.size) hn).mono ?_
  rintro e w1 ⟨rfl, hb⟩
  have K1 := Lib.hid (box_below K.out hb)
  have HB1 := Lib.hid (bel_then HB.out hb HB.out.size)
  clear K HB hb
  cases h0 : d.okB
  · have HF : Hid (R = false) := by show _ = _; rw [HR.out]; simp [setB, h0]
    clear h0
    go_wp2
    go_ret
    exact ⟨by rw [HF.out]; rfl, HB1.out⟩
  have H0 := Lib.hid h0
  clear h0
  go_wp2_with (refine wpList_getG (by rfl) 29 _ rfl w.heap.size 0 rfl K1.out (enL d A n c) List.take_length Try.underlying29 rfl (by kernel_rfl) ?_)
  refine (l08Moves_any A n c d _).mono ?_
  rintro e w2 ⟨rfl, hb⟩
  have K2 := Lib.hid (box_below K1.out hb)
  have HB2 := Lib.hid (bel_then HB1.out hb HB1.out.size)
  clear K1 HB1 hb
  rcases Bool.eq_false_or_eq_true (mvB d.ph) with hm | hm <;> rw [hm]
  · have HF : Hid (R = false) := by show _ = _; rw [HR.out]; simp [setB, hm]
    clear hm
    go_wp2
    go_ret
    exact ⟨by rw [HF.out]; rfl, HB2.out⟩
  have HM := Lib.hid hm
  clear hm
  have HT : Hid (∀ oth : Bool, CountP.countT d.sp.x0 d.sp.x1 d.sp.x2 d.sp.x3 d.sp.x4 d.sp.x5 d.sp.x6 d.sp.x7 d.sp.x8 d.sp.x9 d.sp.x10 oth d.tg d.now (d.ps, d.nx) = .tuple #[.agg #[.int .i64 (live d oth : Int), .int .i64 (good d oth : Int)], .bool true]) := fun oth => by
    simp only [CountP.countT]
    rw [if_pos (EngCnt.cab_ok H0.out)]
    rfl
  obtain ⟨f1, hf1⟩ : ∃ x : Int, x = (live d false : Int) := ⟨_, rfl⟩
  obtain ⟨f2, hf2⟩ : ∃ x : Int, x = (good d false : Int) := ⟨_, rfl⟩
  obtain ⟨o1, ho1⟩ : ∃ x : Int, x = (live d true : Int) := ⟨_, rfl⟩
  obtain ⟨o2, ho2⟩ : ∃ x : Int, x = (good d true : Int) := ⟨_, rfl⟩
  have T0 := Lib.hid (HT.out false)
  have T1 := Lib.hid (HT.out true)
  rw [← hf1, ← hf2] at T0
  rw [← ho1, ← ho2] at T1
  have HF1 := Lib.hid hf1
  have HF2 := Lib.hid hf2
  have HO1 := Lib.hid ho1
  have HO2 := Lib.hid ho2
  clear HT hf1 hf2 ho1 ho2
  have c11 : w2.cell? ⟨w.heap.size, 11, none⟩ = some (.int .i64 d.now) := box_cell K2.out 11 _ rfl
  have c13 : w2.cell? ⟨w.heap.size, 13, none⟩ = some (.int .i64 d.tg) := box_cell K2.out 13 _ rfl
  go_wp2_with (first | (refine wpList_get rfl 24 _ rfl w.heap.size 0 rfl K2.out (spL d.sp) (enL_sp d A n c) Try.underlying24 rfl (by kernel_rfl) ?_) | (refine wpList_get rfl 27 _ rfl w.heap.size 15 rfl K2.out (flL A n c d.nx) (enL_fl d A n c) Try.underlying27 rfl (by kernel_rfl) ?_))
  refine (CountS.specCountOf_any d.sp.x0 d.sp.x1 d.sp.x2 d.sp.x3 d.sp.x4 d.sp.x5 d.sp.x6 d.sp.x7 d.sp.x8 d.sp.x9 d.sp.x10 d.tg d.now A n c d.nx d.ps B _ (HP.out.below HB2.out hB) (Nat.le_trans hB HB2.out.size) hn).mono ?_
  rw [T0.out]
  rintro e w3 ⟨rfl, hb⟩
  have K3 := Lib.hid (box_alloc (box_below K2.out hb) (.cells #[.int .i64 f1, .int .i64 f2] 57))
  have HB3 := Lib.hid ((bel_then HB2.out hb HB2.out.size).alloc (Nat.le_trans HB2.out.size hb.size) (.cells #[.int .i64 f1, .int .i64 f2] 57))
  have hlt : w.heap.size < w3.heap.size := by have := box_lt (box_below K2.out hb); omega
  clear K2 HB2 hb c11 c13 T0
  have hz0 : w.heap.size ≠ w3.heap.size := by omega
  go_upto_region 4 with fail
  obtain ⟨V3, hV3⟩ : ∃ V, V = w3.alloc (.cells #[.int .i64 f1, .int .i64 f2] 57) := ⟨_, rfl⟩
  have KF3 : Hid (V3.heap[w3.heap.size]? = some (.cells #[.int .i64 f1, .int .i64 f2] 57 (0, 0))) := by rw [hV3]; exact box_new w3 _
  rw [← hV3] at K3 HB3
  have hs3 : V3.heap.size = w3.heap.size + 1 := by rw [hV3]; simp
  rw [← hV3]
  clear hV3
  have c11 : V3.cell? ⟨w.heap.size, 11, none⟩ = some (.int .i64 d.now) := box_cell K3.out 11 _ rfl
  have c13 : V3.cell? ⟨w.heap.size, 13, none⟩ = some (.int .i64 d.tg) := box_cell K3.out 13 _ rfl
  have HS3 := Lib.hid hs3
  clear hs3
  go_wp2_with (first | (refine wpList_get rfl 24 _ rfl w.heap.size 0 rfl K3.out (spL d.sp) (enL_sp d A n c) Try.underlying24 rfl (by kernel_rfl) ?_) | (refine wpList_get rfl 27 _ rfl w.heap.size 15 rfl K3.out (flL A n c d.nx) (enL_fl d A n c) Try.underlying27 rfl (by kernel_rfl) ?_))
  refine (CountS.specRestOf_any d.sp.x0 d.sp.x1 d.sp.x2 d.sp.x3 d.sp.x4 d.sp.x5 d.sp.x6 d.sp.x7 d.sp.x8 d.sp.x9 d.sp.x10 d.tg d.now A n c d.nx d.ps B _ (HP.out.below HB3.out hB) (Nat.le_trans hB HB3.out.size) hn).mono ?_
  rw [T1.out]
  rintro e w4 ⟨rfl, hb⟩
  have K4 := Lib.hid (box_alloc (box_below K3.out hb) (.cells #[.int .i64 o1, .int .i64 o2] 57))
  have KF4 := Lib.hid (box_alloc (box_below KF3.out hb) (.cells #[.int .i64 o1, .int .i64 o2] 57))
  have HB4 := Lib.hid ((bel_then HB3.out hb HB3.out.size).alloc (Nat.le_trans HB3.out.size hb.size) (.cells #[.int .i64 o1, .int .i64 o2] 57))
  clear K3 KF3 HB3 hb c11 c13 T1 HS3
  go_upto_region 5 with fail
  obtain ⟨V4, hV4⟩ : ∃ V, V = w4.alloc (.cells #[.int .i64 o1, .int .i64 o2] 57) := ⟨_, rfl⟩
  have KO4 : Hid (V4.heap[w4.heap.size]? = some (.cells #[.int .i64 o1, .int .i64 o2] 57 (0, 0))) := by rw [hV4]; exact box_new w4 _
  rw [← hV4] at K4 KF4 HB4
  rw [← hV4]
  clear hV4 hlt hz0
  go_wp2_with fail
  refine wp_region_held_drew (S := fun w' => w'.rangeAt w.heap.size 0 (spL d.sp) ∧ w'.rangeAt w3.heap.size 0 [.int .i64 f1, .int .i64 f2] ∧ w'.rangeAt w4.heap.size 0 [.int .i64 o1, .int .i64 o2] ∧ w'.rangeAt w.heap.size 15 (flL A n c d.nx)) (by kernel_rfl) ⟨range_of K4.out (enL_sp d A n c), range_of KF4.out rfl, range_of KO4.out rfl, range_of K4.out (enL_fl d A n c)⟩ (fun hHeld => ?_)
  refine wpAnyH_take (i := 0) (v := ?v1) rfl (by kernel_rfl) (by kernel_rfl) (by kernel_rfl) (fun _ _ _ h => h) (Or.inl ⟨by rfl, ?hy1⟩) (by assumption) ?_
  case hy1 => (intro w0 hSw; (try dsimp only at hSw); go_simp <;> with_reducible rfl)
  try simp only [Act.put, List.getElem_toArray, List.getElem_cons_zero, List.getElem_cons_succ, List.setIfInBounds_toArray, List.set_cons_zero, List.set_cons_succ]
  refine wpAnyH_take (i := 1) (v := .agg (spL d.sp).toArray) rfl (by kernel_rfl) (by kernel_rfl) (by kernel_rfl) (fun _ _ _ h => h) (yieldsIf_load_mid (by rfl) 24 _ rfl w.heap.size 0 rfl (spL d.sp) _ (fun w' h => h.1) Try.underlying24 rfl (by kernel_rfl)) (by assumption) ?_
  try simp only [Act.put, List.getElem_toArray, List.getElem_cons_zero, List.getElem_cons_succ, List.setIfInBounds_toArray, List.set_cons_zero, List.set_cons_succ]
  refine wpAnyH_take (i := 2) (v := .agg ([.int .i64 f1, .int .i64 f2]).toArray) rfl (by kernel_rfl) (by kernel_rfl) (by kernel_rfl) (fun _ _ _ h => h) (yieldsIf_load_mid (by rfl) 57 _ rfl w3.heap.size 0 rfl ([.int .i64 f1, .int .i64 f2]) _ (fun w' h => h.2.1) Try.underlying57 rfl (by kernel_rfl)) (by assumption) ?_
  try simp only [Act.put, List.getElem_toArray, List.getElem_cons_zero, List.getElem_cons_succ, List.setIfInBounds_toArray, List.set_cons_zero, List.set_cons_succ]
  refine wpAnyH_take (i := 3) (v := .agg ([.int .i64 o1, .int .i64 o2]).toArray) rfl (by kernel_rfl) (by kernel_rfl) (by kernel_rfl) (fun _ _ _ h => h) (yieldsIf_load_mid (by rfl) 57 _ rfl w4.heap.size 0 rfl ([.int .i64 o1, .int .i64 o2]) _ (fun w' h => h.2.2.1) Try.underlying57 rfl (by kernel_rfl)) (by assumption) ?_
  try simp only [Act.put, List.getElem_toArray, List.getElem_cons_zero, List.getElem_cons_succ, List.setIfInBounds_toArray, List.set_cons_zero, List.set_cons_succ]
  refine wpAnyH_take (i := 4) (v := ?v2) rfl (by kernel_rfl) (by kernel_rfl) (by kernel_rfl) (fun _ _ _ h => h) (Or.inl ⟨by rfl, ?hy2⟩) (by assumption) ?_
  case hy2 => (intro w0 hSw; (try dsimp only at hSw); go_simp <;> with_reducible rfl)
  try simp only [Act.put, List.getElem_toArray, List.getElem_cons_zero, List.getElem_cons_succ, List.setIfInBounds_toArray, List.set_cons_zero, List.set_cons_succ]
  refine wpAnyH_take (i := 5) (v := .agg (flL A n c d.nx).toArray) rfl (by kernel_rfl) (by kernel_rfl) (by kernel_rfl) (fun _ _ _ h => h) (yieldsIf_load_mid (by rfl) 27 _ rfl w.heap.size 15 rfl (flL A n c d.nx) _ (fun w' h => h.2.2.2) Try.underlying27 rfl (by kernel_rfl)) (by assumption) ?_
  try simp only [Act.put, List.getElem_toArray, List.getElem_cons_zero, List.getElem_cons_succ, List.setIfInBounds_toArray, List.set_cons_zero, List.set_cons_succ]
  refine wpAnyH_ready (rs := [6]) (by kernel_rfl) (by simp) (AllReadyH.cons rfl (fun K hK => ?_) AllReadyH.nil)
  go_simp
  refine (l08Going_any A n c d.nx d.ps B _ (HP.out.below HB4.out.drew hB) (Nat.le_trans hB (by exact HB4.out.size)) hn).mono ?_
  rw [EngCnt.going_eq (EngCnt.okB_t H0.out).2.1]
  obtain ⟨g, hg⟩ : ∃ g : Int, g = (going d : Int) := ⟨_, rfl⟩
  rw [← hg]
  have HG := Lib.hid hg
  clear hg
  rintro e w5 ⟨rfl, hb⟩
  have hb' : Below V4.heap.size V4 w5 := undrew hb
  have K5 := Lib.hid (box_below K4.out hb')
  have KF5 := Lib.hid (box_below KF4.out hb')
  have KO5 := Lib.hid (box_below KO4.out hb')
  have HB5 := Lib.hid (bel_then HB4.out hb' HB4.out.size)
  clear K4 KF4 KO4 HB4 hb hb' hHeld
  refine hK _ _ (by exact ⟨range_of K5.out (enL_sp d A n c), range_of KF5.out rfl, range_of KO5.out rfl, range_of K5.out (enL_fl d A n c)⟩) (fun hHeld => ?_)
  clear hK K
  try simp only [Act.put, List.getElem_toArray, List.getElem_cons_zero, List.getElem_cons_succ, List.setIfInBounds_toArray, List.set_cons_zero, List.set_cons_succ]
  refine wpAnyH_ready (rs := [7]) (by kernel_rfl) (by simp) (AllReadyH.cons rfl (fun K hK => ?_) AllReadyH.nil)
  go_simp
  refine (Cnt.specPlanOver_any d.sp.x0 d.sp.x1 d.sp.x2 d.sp.x3 d.sp.x4 d.sp.x5 d.sp.x6 d.sp.x7 d.sp.x8 d.sp.x9 d.sp.x10 f1 f2 o1 o2 g _).mono ?_
  rintro e w6 ⟨rfl, hb⟩
  have HE : Hid (R = Cnt.overB d.sp.x0 d.sp.x1 d.sp.x2 d.sp.x3 d.sp.x4 d.sp.x5 d.sp.x6 d.sp.x7 d.sp.x8 d.sp.x9 d.sp.x10 f1 f2 o1 o2 g) := by
    show _ = _
    rw [HR.out, HF1.out, HF2.out, HO1.out, HO2.out, HG.out, EngCnt.over_eq H0.out]
    simp only [setB, H0.out, HM.out, Bool.true_and, Bool.not_false]
  rw [← HE.out]
  have K6 := Lib.hid (box_below K5.out hb)
  have KF6 := Lib.hid (box_below KF5.out hb)
  have KO6 := Lib.hid (box_below KO5.out hb)
  have HB6 := Lib.hid (bel_then HB5.out hb HB5.out.size)
  clear K5 KF5 KO5 HB5 hb hHeld
  refine hK _ _ (by exact ⟨range_of K6.out (enL_sp d A n c), range_of KF6.out rfl, range_of KO6.out rfl, range_of K6.out (enL_fl d A n c)⟩) (fun hHeld => ?_)
  clear hK K
  try simp only [Act.put, List.getElem_toArray, List.getElem_cons_zero, List.getElem_cons_succ, List.setIfInBounds_toArray, List.set_cons_zero, List.set_cons_succ]
  refine wpAnyH_take (i := 8) (v := ?v5) rfl (by kernel_rfl) (by kernel_rfl) (by kernel_rfl) (fun _ _ _ h => h) (Or.inl ⟨by rfl, ?hy5⟩) (by assumption) ?_
  case hy5 => (intro w0 hSw; (try dsimp only at hSw); go_simp <;> with_reducible rfl)
  try simp only [Act.put, List.getElem_toArray, List.getElem_cons_zero, List.getElem_cons_succ, List.setIfInBounds_toArray, List.set_cons_zero, List.set_cons_succ]
  refine wpAnyH_done (by kernel_rfl) ?_ _
  clear hHeld
  go_wp2
  go_ret
  exact ⟨rfl, HB6.out⟩

end Go.Proofs.Ytcedgjglpjgehaa.EngSet
