/-
  THE PROGRAM'S CountOf AND RestOf over this seat's translation.
-/
import Derived.Test.YtdefckbgcggnoaaGreatCountI
import Derived.Test.YtdefckbgcggnoaaGreatCountR
import Derived.Test.YtdefckbgcggnoaaGreatFleetTop
import Derived.Test.YtdefckbgcggnoaaGreatCrewOk
namespace Go.Proofs.YtdefckbgcggnoaaGreat.CountP
open Go.ChangeShapes Go.WideShapes Go.ChangeAt Go.RowKit
open Go.Proofs.YtdefckbgcggnoaaGreat.LK Go.Proofs.YtdefckbgcggnoaaGreat.Pods Go.Proofs.YtdefckbgcggnoaaGreat.FleetV Go.Proofs.YtdefckbgcggnoaaGreat.Sp Go.Proofs.YtdefckbgcggnoaaGreat.Hl Go.Proofs.YtdefckbgcggnoaaGreat.CountI
open Go.Proofs.YtdefckbgcggnoaaGreat.Tick (inB tokB l01In_any tickOk_any specTickOk_any)
set_option linter.unusedVariables false
set_option linter.unusedSimpArgs false
def cabB (x0 x1 x2 x3 x4 x5 x6 x7 x8 x9 x10 rev now : Int) (ps : PList) (nx : Int) : Bool := specB x0 x1 x2 x3 x4 x5 x6 x7 x8 x9 x10 && decide (FGood ps nx) && inB rev 1 1000 && tokB now
def countT (x0 x1 x2 x3 x4 x5 x6 x7 x8 x9 x10 : Int) (oth : Bool) (rev now : Int) (d : PList × Int) : Value := if cabB x0 x1 x2 x3 x4 x5 x6 x7 x8 x9 x10 rev now d.1 d.2 then .tuple #[.agg #[.int .i64 (cntF (liveB oth rev) d.1), .int .i64 (cntF (goodB x0 x1 x2 x3 x4 x5 x6 x7 x8 x9 x10 oth rev now) d.1)], .bool true] else .tuple #[.agg #[.int .i64 0, .int .i64 0], .bool false]
set_option maxRecDepth 100000 in
set_option maxHeartbeats 6400000 in
theorem countable_any (x0 x1 x2 x3 x4 x5 x6 x7 x8 x9 x10 rev now : Int) (A : Option Addr) (n c : Nat) (nx : Int) (ps : PList) (B : Nat) (w : World) (hr : IsPods w B A n ps) (hB : B ≤ w.heap.size) (hn : n ≤ 1048576) : Calls Tryz.prog 241 #[.agg #[.int .i64 x0, .int .i64 x1, .int .i64 x2, .int .i64 x3, .int .i64 x4, .int .i64 x5, .int .i64 x6, .int .i64 x7, .int .i64 x8, .int .i64 x9, .int .i64 x10], .agg #[.slice A n c, .int .i64 nx], .int .i64 rev, .int .i64 now] w (Says (.bool (cabB x0 x1 x2 x3 x4 x5 x6 x7 x8 x9 x10 rev now ps nx)) w) := by
  obtain ⟨R, hR⟩ : ∃ R, R = cabB x0 x1 x2 x3 x4 x5 x6 x7 x8 x9 x10 rev now ps nx := ⟨_, rfl⟩
  rw [← hR]
  have HR := Lib.hid hR
  have HP := Lib.hid hr
  clear hR hr
  obtain ⟨V, hV⟩ : ∃ V, V = ((w.alloc (.cells #[.int .i64 x0, .int .i64 x1, .int .i64 x2, .int .i64 x3, .int .i64 x4, .int .i64 x5, .int .i64 x6, .int .i64 x7, .int .i64 x8, .int .i64 x9, .int .i64 x10] 25)).alloc (.cells #[.slice A n c, .int .i64 nx] 34)) := ⟨_, rfl⟩
  have HB : Hid (Below w.heap.size w V) := by show Below _ _ _; rw [hV]; exact bel2 _ _ _
  have K0 : Hid (V.heap[w.heap.size]? = some (.cells #[.int .i64 x0, .int .i64 x1, .int .i64 x2, .int .i64 x3, .int .i64 x4, .int .i64 x5, .int .i64 x6, .int .i64 x7, .int .i64 x8, .int .i64 x9, .int .i64 x10] 25)) := by have h := box_alloc (box_new w (.cells #[.int .i64 x0, .int .i64 x1, .int .i64 x2, .int .i64 x3, .int .i64 x4, .int .i64 x5, .int .i64 x6, .int .i64 x7, .int .i64 x8, .int .i64 x9, .int .i64 x10] 25)) (.cells #[.slice A n c, .int .i64 nx] 34); (try simp only [World.size_alloc] at h); rw [hV]; exact h
  have K1 : Hid (V.heap[w.heap.size + 1]? = some (.cells #[.slice A n c, .int .i64 nx] 34)) := by have h := box_new (w.alloc (.cells #[.int .i64 x0, .int .i64 x1, .int .i64 x2, .int .i64 x3, .int .i64 x4, .int .i64 x5, .int .i64 x6, .int .i64 x7, .int .i64 x8, .int .i64 x9, .int .i64 x10] 25)) (.cells #[.slice A n c, .int .i64 nx] 34); (try simp only [World.size_alloc] at h); rw [hV]; exact h
  go_enter Tryz.func241, Tryz.ntmps241
  go_upto_region 1 with fail
  rw [← hV]
  clear hV
  go_wp2_with (first | (refine wpList_load_row rfl 25 _ rfl _ rfl _ _ (0, 0) _ K0.out Tryz.underlying25 rfl (by kernel_rfl) ?_) | (refine wpList_load_row rfl 34 _ rfl _ rfl _ _ (0, 0) _ K1.out Tryz.underlying34 rfl (by kernel_rfl) ?_))
  refine (specOk_any x0 x1 x2 x3 x4 x5 x6 x7 x8 x9 x10 _).mono ?_
  rintro e w1 ⟨rfl, hb⟩
  have K0' := Lib.hid (box_below K0.out hb)
  clear K0
  have K0 := K0'
  clear K0'
  have K1' := Lib.hid (box_below K1.out hb)
  clear K1
  have K1 := K1'
  clear K1'
  have HB' := Lib.hid (bel_then HB.out hb HB.out.size)
  clear HB hb
  have HB := HB'
  clear HB'
  cases h1 : specB x0 x1 x2 x3 x4 x5 x6 x7 x8 x9 x10
  · have HF : Hid (R = false) := by show _ = _; rw [HR.out]; simp [cabB, h1]
    clear h1
    go_wp2
    go_ret
    exact ⟨by rw [HF.out]; rfl, HB.out⟩
  have Hh1 := Lib.hid h1
  clear h1
  have f0 := box_cell K1.out 0 _ rfl
  have f1 := box_cell K1.out 1 _ rfl
  go_wp2_with fail
  clear f0 f1
  refine (Crew.fleetOk_any A n c nx ps B _ (HP.out.below HB.out hB) (Nat.le_trans hB HB.out.size) hn).mono ?_
  rintro e w2 ⟨rfl, hb⟩
  have K0' := Lib.hid (box_below K0.out hb)
  clear K0
  have K0 := K0'
  clear K0'
  have K1' := Lib.hid (box_below K1.out hb)
  clear K1
  have K1 := K1'
  clear K1'
  have HB' := Lib.hid (bel_then HB.out hb HB.out.size)
  clear HB hb
  have HB := HB'
  clear HB'
  cases h2 : decide (FGood ps nx)
  · have HF : Hid (R = false) := by show _ = _; rw [HR.out]; simp [cabB, Hh1.out, h2]
    clear h2
    go_wp2
    go_ret
    exact ⟨by rw [HF.out]; rfl, HB.out⟩
  have Hh2 := Lib.hid h2
  clear h2
  go_wp2_with fail
  refine (Crew.revOk_any rev _).mono ?_
  rintro e w' ⟨rfl, rfl⟩
  cases h3 : inB rev 1 1000
  · have HF : Hid (R = false) := by show _ = _; rw [HR.out]; simp [cabB, Hh1.out, Hh2.out, h3]
    clear h3
    go_wp2
    go_ret
    exact ⟨by rw [HF.out]; rfl, HB.out⟩
  have Hh3 := Lib.hid h3
  clear h3
  go_wp2_with fail
  refine (tickOk_any now _).mono ?_
  rintro e w' ⟨rfl, rfl⟩
  have HF : Hid (R = tokB now) := by show _ = _; rw [HR.out]; simp [cabB, Hh1.out, Hh2.out, Hh3.out]
  go_wp2
  go_ret
  exact ⟨by rw [HF.out]; rfl, HB.out⟩
set_option maxRecDepth 100000 in
set_option maxHeartbeats 6400000 in
theorem CountOf_any (x0 x1 x2 x3 x4 x5 x6 x7 x8 x9 x10 rev now : Int) (A : Option Addr) (n c : Nat) (nx : Int) (ps : PList) (B : Nat) (w : World) (hr : IsPods w B A n ps) (hB : B ≤ w.heap.size) (hn : n ≤ 1048576) : Calls Tryz.prog 219 #[.agg #[.int .i64 x0, .int .i64 x1, .int .i64 x2, .int .i64 x3, .int .i64 x4, .int .i64 x5, .int .i64 x6, .int .i64 x7, .int .i64 x8, .int .i64 x9, .int .i64 x10], .agg #[.slice A n c, .int .i64 nx], .int .i64 rev, .int .i64 now] w (Says (countT x0 x1 x2 x3 x4 x5 x6 x7 x8 x9 x10 false rev now (ps, nx)) w) := by
  obtain ⟨T, hT⟩ : ∃ T, T = countT x0 x1 x2 x3 x4 x5 x6 x7 x8 x9 x10 false rev now (ps, nx) := ⟨_, rfl⟩
  rw [← hT]
  have HT := Lib.hid hT
  have HP := Lib.hid hr
  clear hT hr
  obtain ⟨V, hV⟩ : ∃ V, V = ((((w.alloc (.cells #[.int .i64 x0, .int .i64 x1, .int .i64 x2, .int .i64 x3, .int .i64 x4, .int .i64 x5, .int .i64 x6, .int .i64 x7, .int .i64 x8, .int .i64 x9, .int .i64 x10] 25)).alloc (.cells #[.slice A n c, .int .i64 nx] 34)).alloc (.cells #[.int .i64 rev] 3)).alloc (.cells #[.int .i64 0, .int .i64 0] 190)) := ⟨_, rfl⟩
  have HB : Hid (Below w.heap.size w V) := by show Below _ _ _; rw [hV]; exact (bel3 _ _ _ _).alloc (by simp; omega) _
  have K0 : Hid (V.heap[w.heap.size]? = some (.cells #[.int .i64 x0, .int .i64 x1, .int .i64 x2, .int .i64 x3, .int .i64 x4, .int .i64 x5, .int .i64 x6, .int .i64 x7, .int .i64 x8, .int .i64 x9, .int .i64 x10] 25)) := by have h := box_alloc (box_alloc (box_alloc (box_new w (.cells #[.int .i64 x0, .int .i64 x1, .int .i64 x2, .int .i64 x3, .int .i64 x4, .int .i64 x5, .int .i64 x6, .int .i64 x7, .int .i64 x8, .int .i64 x9, .int .i64 x10] 25)) (.cells #[.slice A n c, .int .i64 nx] 34)) (.cells #[.int .i64 rev] 3)) (.cells #[.int .i64 0, .int .i64 0] 190); (try simp only [World.size_alloc] at h); rw [hV]; exact h
  have K1 : Hid (V.heap[w.heap.size + 1]? = some (.cells #[.slice A n c, .int .i64 nx] 34)) := by have h := box_alloc (box_alloc (box_new (w.alloc (.cells #[.int .i64 x0, .int .i64 x1, .int .i64 x2, .int .i64 x3, .int .i64 x4, .int .i64 x5, .int .i64 x6, .int .i64 x7, .int .i64 x8, .int .i64 x9, .int .i64 x10] 25)) (.cells #[.slice A n c, .int .i64 nx] 34)) (.cells #[.int .i64 rev] 3)) (.cells #[.int .i64 0, .int .i64 0] 190); (try simp only [World.size_alloc] at h); rw [hV]; exact h
  have K2 : Hid (V.heap[w.heap.size + 1 + 1]? = some (.cells #[.int .i64 rev] 3)) := by have h := box_alloc (box_new ((w.alloc (.cells #[.int .i64 x0, .int .i64 x1, .int .i64 x2, .int .i64 x3, .int .i64 x4, .int .i64 x5, .int .i64 x6, .int .i64 x7, .int .i64 x8, .int .i64 x9, .int .i64 x10] 25)).alloc (.cells #[.slice A n c, .int .i64 nx] 34)) (.cells #[.int .i64 rev] 3)) (.cells #[.int .i64 0, .int .i64 0] 190); (try simp only [World.size_alloc] at h); rw [hV]; exact h
  have K3 : Hid (V.heap[w.heap.size + 1 + 1 + 1]? = some (.cells #[.int .i64 0, .int .i64 0] 190)) := by have h := box_new (((w.alloc (.cells #[.int .i64 x0, .int .i64 x1, .int .i64 x2, .int .i64 x3, .int .i64 x4, .int .i64 x5, .int .i64 x6, .int .i64 x7, .int .i64 x8, .int .i64 x9, .int .i64 x10] 25)).alloc (.cells #[.slice A n c, .int .i64 nx] 34)).alloc (.cells #[.int .i64 rev] 3)) (.cells #[.int .i64 0, .int .i64 0] 190); (try simp only [World.size_alloc] at h); rw [hV]; exact h
  go_enter Tryz.func219, Tryz.ntmps219
  go_upto_region 1 with fail
  rw [← hV]
  clear hV
  have q0 := box_cell K2.out 0 _ rfl
  go_wp2_with (first | (refine wpList_load_row rfl 25 _ rfl _ rfl _ _ (0, 0) _ K0.out Tryz.underlying25 rfl (by kernel_rfl) ?_) | (refine wpList_load_row rfl 34 _ rfl _ rfl _ _ (0, 0) _ K1.out Tryz.underlying34 rfl (by kernel_rfl) ?_))
  refine (countable_any x0 x1 x2 x3 x4 x5 x6 x7 x8 x9 x10 rev now A n c nx ps B _ (HP.out.below HB.out hB) (Nat.le_trans hB HB.out.size) hn).mono ?_
  rintro e w1 ⟨rfl, hb⟩
  clear q0
  have K0' := Lib.hid (box_below K0.out hb)
  clear K0
  have K0 := K0'
  clear K0'
  have K1' := Lib.hid (box_below K1.out hb)
  clear K1
  have K1 := K1'
  clear K1'
  have K2' := Lib.hid (box_below K2.out hb)
  clear K2
  have K2 := K2'
  clear K2'
  have K3' := Lib.hid (box_below K3.out hb)
  clear K3
  have K3 := K3'
  clear K3'
  have HB' := Lib.hid (bel_then HB.out hb HB.out.size)
  clear HB hb
  have HB := HB'
  clear HB'
  cases hc : cabB x0 x1 x2 x3 x4 x5 x6 x7 x8 x9 x10 rev now ps nx
  · have HF : Hid (T = .tuple #[.agg #[.int .i64 0, .int .i64 0], .bool false]) := by show _ = _; rw [HT.out]; simp [countT, hc]
    clear hc
    have k0 := box_cell K3.out 0 _ rfl
    have g0 := box_frozen K3.out 0
    have k1 := box_cell K3.out 1 _ rfl
    have g1 := box_frozen K3.out 1
    have RB := set2B K3.out (.int .i64 0) (.int .i64 0)
    have r0 := box_cell RB 0 _ rfl
    have r1 := box_cell RB 1 _ rfl
    have HBF := Lib.hid (Turned.low HB.out (set2T (S := fun k => k = w.heap.size + 1 + 1 + 1) (b := w.heap.size + 1 + 1 + 1) rfl (.int .i64 0) (.int .i64 0)) (fun k hk => by omega) HB.out.size)
    clear RB
    go_wp2
    exact bodyPost_ret (v := .tuple #[.agg #[.int .i64 0, .int .i64 0], .bool false]) (by simp [results, Tryz.results219, go_sem, r0, r1]) rfl ⟨by rw [HF.out], HBF.out⟩
  obtain ⟨m1, hm1⟩ : ∃ m, m = cntF (liveB false rev) ps := ⟨_, rfl⟩
  obtain ⟨m2, hm2⟩ : ∃ m, m = cntF (goodB x0 x1 x2 x3 x4 x5 x6 x7 x8 x9 x10 false rev now) ps := ⟨_, rfl⟩
  have HF : Hid (T = .tuple #[.agg #[.int .i64 m1, .int .i64 m2], .bool true]) := by show _ = _; rw [HT.out]; simp [countT, hc, hm1, hm2]
  have HA := Lib.hid (countOf_at x0 x1 x2 x3 x4 x5 x6 x7 x8 x9 x10 rev now A n c nx ps B (w.heap.size + 1 + 1) w1 (HP.out.below HB.out hB) (Nat.le_trans hB HB.out.size) hn K2.out)
  rw [← hm1, ← hm2] at HA
  clear hc hm1 hm2
  go_wp2_with (first | (refine wpList_load_row rfl 25 _ rfl _ rfl _ _ (0, 0) _ K0.out Tryz.underlying25 rfl (by kernel_rfl) ?_) | (refine wpList_load_row rfl 34 _ rfl _ rfl _ _ (0, 0) _ K1.out Tryz.underlying34 rfl (by kernel_rfl) ?_))
  refine HA.out.mono ?_
  rintro e w2 ⟨rfl, hb⟩
  have K3' := Lib.hid (box_below K3.out hb)
  clear K3
  have K3 := K3'
  clear K3'
  have HB' := Lib.hid (bel_then HB.out hb HB.out.size)
  clear HB hb
  have HB := HB'
  clear HB'
  clear HA K0 K1 K2
  have k0 := box_cell K3.out 0 _ rfl
  have g0 := box_frozen K3.out 0
  have k1 := box_cell K3.out 1 _ rfl
  have g1 := box_frozen K3.out 1
  have RB := set2B K3.out (.int .i64 m1) (.int .i64 m2)
  have r0 := box_cell RB 0 _ rfl
  have r1 := box_cell RB 1 _ rfl
  have HBF := Lib.hid (Turned.low HB.out (set2T (S := fun k => k = w.heap.size + 1 + 1 + 1) (b := w.heap.size + 1 + 1 + 1) rfl (.int .i64 m1) (.int .i64 m2)) (fun k hk => by omega) HB.out.size)
  clear RB
  go_wp2
  exact bodyPost_ret (v := .tuple #[.agg #[.int .i64 m1, .int .i64 m2], .bool true]) (by simp [results, Tryz.results219, go_sem, r0, r1]) rfl ⟨by rw [HF.out], HBF.out⟩
set_option maxRecDepth 100000 in
set_option maxHeartbeats 6400000 in
theorem RestOf_any (x0 x1 x2 x3 x4 x5 x6 x7 x8 x9 x10 rev now : Int) (A : Option Addr) (n c : Nat) (nx : Int) (ps : PList) (B : Nat) (w : World) (hr : IsPods w B A n ps) (hB : B ≤ w.heap.size) (hn : n ≤ 1048576) : Calls Tryz.prog 220 #[.agg #[.int .i64 x0, .int .i64 x1, .int .i64 x2, .int .i64 x3, .int .i64 x4, .int .i64 x5, .int .i64 x6, .int .i64 x7, .int .i64 x8, .int .i64 x9, .int .i64 x10], .agg #[.slice A n c, .int .i64 nx], .int .i64 rev, .int .i64 now] w (Says (countT x0 x1 x2 x3 x4 x5 x6 x7 x8 x9 x10 true rev now (ps, nx)) w) := by
  obtain ⟨T, hT⟩ : ∃ T, T = countT x0 x1 x2 x3 x4 x5 x6 x7 x8 x9 x10 true rev now (ps, nx) := ⟨_, rfl⟩
  rw [← hT]
  have HT := Lib.hid hT
  have HP := Lib.hid hr
  clear hT hr
  obtain ⟨V, hV⟩ : ∃ V, V = ((((w.alloc (.cells #[.int .i64 x0, .int .i64 x1, .int .i64 x2, .int .i64 x3, .int .i64 x4, .int .i64 x5, .int .i64 x6, .int .i64 x7, .int .i64 x8, .int .i64 x9, .int .i64 x10] 25)).alloc (.cells #[.slice A n c, .int .i64 nx] 34)).alloc (.cells #[.int .i64 rev] 3)).alloc (.cells #[.int .i64 0, .int .i64 0] 190)) := ⟨_, rfl⟩
  have HB : Hid (Below w.heap.size w V) := by show Below _ _ _; rw [hV]; exact (bel3 _ _ _ _).alloc (by simp; omega) _
  have K0 : Hid (V.heap[w.heap.size]? = some (.cells #[.int .i64 x0, .int .i64 x1, .int .i64 x2, .int .i64 x3, .int .i64 x4, .int .i64 x5, .int .i64 x6, .int .i64 x7, .int .i64 x8, .int .i64 x9, .int .i64 x10] 25)) := by have h := box_alloc (box_alloc (box_alloc (box_new w (.cells #[.int .i64 x0, .int .i64 x1, .int .i64 x2, .int .i64 x3, .int .i64 x4, .int .i64 x5, .int .i64 x6, .int .i64 x7, .int .i64 x8, .int .i64 x9, .int .i64 x10] 25)) (.cells #[.slice A n c, .int .i64 nx] 34)) (.cells #[.int .i64 rev] 3)) (.cells #[.int .i64 0, .int .i64 0] 190); (try simp only [World.size_alloc] at h); rw [hV]; exact h
  have K1 : Hid (V.heap[w.heap.size + 1]? = some (.cells #[.slice A n c, .int .i64 nx] 34)) := by have h := box_alloc (box_alloc (box_new (w.alloc (.cells #[.int .i64 x0, .int .i64 x1, .int .i64 x2, .int .i64 x3, .int .i64 x4, .int .i64 x5, .int .i64 x6, .int .i64 x7, .int .i64 x8, .int .i64 x9, .int .i64 x10] 25)) (.cells #[.slice A n c, .int .i64 nx] 34)) (.cells #[.int .i64 rev] 3)) (.cells #[.int .i64 0, .int .i64 0] 190); (try simp only [World.size_alloc] at h); rw [hV]; exact h
  have K2 : Hid (V.heap[w.heap.size + 1 + 1]? = some (.cells #[.int .i64 rev] 3)) := by have h := box_alloc (box_new ((w.alloc (.cells #[.int .i64 x0, .int .i64 x1, .int .i64 x2, .int .i64 x3, .int .i64 x4, .int .i64 x5, .int .i64 x6, .int .i64 x7, .int .i64 x8, .int .i64 x9, .int .i64 x10] 25)).alloc (.cells #[.slice A n c, .int .i64 nx] 34)) (.cells #[.int .i64 rev] 3)) (.cells #[.int .i64 0, .int .i64 0] 190); (try simp only [World.size_alloc] at h); rw [hV]; exact h
  have K3 : Hid (V.heap[w.heap.size + 1 + 1 + 1]? = some (.cells #[.int .i64 0, .int .i64 0] 190)) := by have h := box_new (((w.alloc (.cells #[.int .i64 x0, .int .i64 x1, .int .i64 x2, .int .i64 x3, .int .i64 x4, .int .i64 x5, .int .i64 x6, .int .i64 x7, .int .i64 x8, .int .i64 x9, .int .i64 x10] 25)).alloc (.cells #[.slice A n c, .int .i64 nx] 34)).alloc (.cells #[.int .i64 rev] 3)) (.cells #[.int .i64 0, .int .i64 0] 190); (try simp only [World.size_alloc] at h); rw [hV]; exact h
  go_enter Tryz.func220, Tryz.ntmps220
  go_upto_region 1 with fail
  rw [← hV]
  clear hV
  have q0 := box_cell K2.out 0 _ rfl
  go_wp2_with (first | (refine wpList_load_row rfl 25 _ rfl _ rfl _ _ (0, 0) _ K0.out Tryz.underlying25 rfl (by kernel_rfl) ?_) | (refine wpList_load_row rfl 34 _ rfl _ rfl _ _ (0, 0) _ K1.out Tryz.underlying34 rfl (by kernel_rfl) ?_))
  refine (countable_any x0 x1 x2 x3 x4 x5 x6 x7 x8 x9 x10 rev now A n c nx ps B _ (HP.out.below HB.out hB) (Nat.le_trans hB HB.out.size) hn).mono ?_
  rintro e w1 ⟨rfl, hb⟩
  clear q0
  have K0' := Lib.hid (box_below K0.out hb)
  clear K0
  have K0 := K0'
  clear K0'
  have K1' := Lib.hid (box_below K1.out hb)
  clear K1
  have K1 := K1'
  clear K1'
  have K2' := Lib.hid (box_below K2.out hb)
  clear K2
  have K2 := K2'
  clear K2'
  have K3' := Lib.hid (box_below K3.out hb)
  clear K3
  have K3 := K3'
  clear K3'
  have HB' := Lib.hid (bel_then HB.out hb HB.out.size)
  clear HB hb
  have HB := HB'
  clear HB'
  cases hc : cabB x0 x1 x2 x3 x4 x5 x6 x7 x8 x9 x10 rev now ps nx
  · have HF : Hid (T = .tuple #[.agg #[.int .i64 0, .int .i64 0], .bool false]) := by show _ = _; rw [HT.out]; simp [countT, hc]
    clear hc
    have k0 := box_cell K3.out 0 _ rfl
    have g0 := box_frozen K3.out 0
    have k1 := box_cell K3.out 1 _ rfl
    have g1 := box_frozen K3.out 1
    have RB := set2B K3.out (.int .i64 0) (.int .i64 0)
    have r0 := box_cell RB 0 _ rfl
    have r1 := box_cell RB 1 _ rfl
    have HBF := Lib.hid (Turned.low HB.out (set2T (S := fun k => k = w.heap.size + 1 + 1 + 1) (b := w.heap.size + 1 + 1 + 1) rfl (.int .i64 0) (.int .i64 0)) (fun k hk => by omega) HB.out.size)
    clear RB
    go_wp2
    exact bodyPost_ret (v := .tuple #[.agg #[.int .i64 0, .int .i64 0], .bool false]) (by simp [results, Tryz.results220, go_sem, r0, r1]) rfl ⟨by rw [HF.out], HBF.out⟩
  obtain ⟨m1, hm1⟩ : ∃ m, m = cntF (liveB true rev) ps := ⟨_, rfl⟩
  obtain ⟨m2, hm2⟩ : ∃ m, m = cntF (goodB x0 x1 x2 x3 x4 x5 x6 x7 x8 x9 x10 true rev now) ps := ⟨_, rfl⟩
  have HF : Hid (T = .tuple #[.agg #[.int .i64 m1, .int .i64 m2], .bool true]) := by show _ = _; rw [HT.out]; simp [countT, hc, hm1, hm2]
  have HA := Lib.hid (restOf_at x0 x1 x2 x3 x4 x5 x6 x7 x8 x9 x10 rev now A n c nx ps B (w.heap.size + 1 + 1) w1 (HP.out.below HB.out hB) (Nat.le_trans hB HB.out.size) hn K2.out)
  rw [← hm1, ← hm2] at HA
  clear hc hm1 hm2
  go_wp2_with (first | (refine wpList_load_row rfl 25 _ rfl _ rfl _ _ (0, 0) _ K0.out Tryz.underlying25 rfl (by kernel_rfl) ?_) | (refine wpList_load_row rfl 34 _ rfl _ rfl _ _ (0, 0) _ K1.out Tryz.underlying34 rfl (by kernel_rfl) ?_))
  refine HA.out.mono ?_
  rintro e w2 ⟨rfl, hb⟩
  have K3' := Lib.hid (box_below K3.out hb)
  clear K3
  have K3 := K3'
  clear K3'
  have HB' := Lib.hid (bel_then HB.out hb HB.out.size)
  clear HB hb
  have HB := HB'
  clear HB'
  clear HA K0 K1 K2
  have k0 := box_cell K3.out 0 _ rfl
  have g0 := box_frozen K3.out 0
  have k1 := box_cell K3.out 1 _ rfl
  have g1 := box_frozen K3.out 1
  have RB := set2B K3.out (.int .i64 m1) (.int .i64 m2)
  have r0 := box_cell RB 0 _ rfl
  have r1 := box_cell RB 1 _ rfl
  have HBF := Lib.hid (Turned.low HB.out (set2T (S := fun k => k = w.heap.size + 1 + 1 + 1) (b := w.heap.size + 1 + 1 + 1) rfl (.int .i64 m1) (.int .i64 m2)) (fun k hk => by omega) HB.out.size)
  clear RB
  go_wp2
  exact bodyPost_ret (v := .tuple #[.agg #[.int .i64 m1, .int .i64 m2], .bool true]) (by simp [results, Tryz.results220, go_sem, r0, r1]) rfl ⟨by rw [HF.out], HBF.out⟩
end Go.Proofs.YtdefckbgcggnoaaGreat.CountP
