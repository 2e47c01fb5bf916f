import Derived.BigQuiet
import Derived.Deep.AppendLies
import Derived.Deep.QuietTactic
import Derived.Deep.RegionLaw
import Derived.StillTailTactics
import Derived.Test.YtklgjjmcflgjeaaGreatR00
import Derived.Test.YtklgjjmcflgjeaaGreatR04
import Derived.Test.YtklgjjmcflgjeaaGreatR05
import Derived.Test.YtklgjjmcflgjeaaGreatR06
set_option linter.unusedVariables false
set_option linter.unusedSimpArgs false
namespace Go.Proofs.YtklgjjmcflgjeaaGreat.CountP
open Go.ChangeShapes Go.WideShapes Go.ChangeAt Go.RowKit
open LK Pods FleetV Sp Hl CountI
open Tick (inB tokB l01In_any tickOk_any specTickOk_any)
def cabB (x0 x1 x2 x3 x4 x5 x6 x7 x8 x9 x10 rev now : Int) (ps : PList) (nx : Int) : Bool := specB x0 x1 x2 x3 x4 x5 x6 x7 x8 x9 x10 && decide (FGood ps nx) && inB rev 1 1000 && tokB now
def countT (x0 x1 x2 x3 x4 x5 x6 x7 x8 x9 x10 : Int) (oth : Bool) (rev now : Int) (d : PList × Int) : Value := if cabB x0 x1 x2 x3 x4 x5 x6 x7 x8 x9 x10 rev now d.1 d.2 then .tuple #[.agg #[.int .i64 (cntF (liveB oth rev) d.1), .int .i64 (cntF (goodB x0 x1 x2 x3 x4 x5 x6 x7 x8 x9 x10 oth rev now) d.1)], .bool true] else .tuple #[.agg #[.int .i64 0, .int .i64 0], .bool false]
set_option maxRecDepth 100000 in
set_option maxHeartbeats 6400000 in
theorem countable_any (x0 x1 x2 x3 x4 x5 x6 x7 x8 x9 x10 rev now : Int) (A : Option Addr) (n c : Nat) (nx : Int) (ps : PList) (B : Nat) (w : World) (hr : IsPods w B A n ps) (hB : B ≤ w.heap.size) (hn : n ≤ 1048576) : Calls Tryz.prog 289 #[.agg #[.int .i64 x0, .int .i64 x1, .int .i64 x2, .int .i64 x3, .int .i64 x4, .int .i64 x5, .int .i64 x6, .int .i64 x7, .int .i64 x8, .int .i64 x9, .int .i64 x10], .agg #[.slice A n c, .int .i64 nx], .int .i64 rev, .int .i64 now] w (Says (.bool (cabB x0 x1 x2 x3 x4 x5 x6 x7 x8 x9 x10 rev now ps nx)) w) := by
  obtain ⟨R, hR⟩ : ∃ R, R = cabB x0 x1 x2 x3 x4 x5 x6 x7 x8 x9 x10 rev now ps nx := ⟨_, rfl⟩
  rw [← hR]
  have HR := Lib.hid hR
  have HP := Lib.hid hr
  clear hR hr
  obtain ⟨V, hV⟩ : ∃ V, V = ((w.alloc (.cells #[.int .i64 x0, .int .i64 x1, .int .i64 x2, .int .i64 x3, .int .i64 x4, .int .i64 x5, .int .i64 x6, .int .i64 x7, .int .i64 x8, .int .i64 x9, .int .i64 x10] 25)).alloc (.cells #[.slice A n c, .int .i64 nx] 34)) := ⟨_, rfl⟩
  have HB : Hid (Below w.heap.size w V) := by show Below _ _ _; rw [hV]; exact bel2 _ _ _
  have K0 : Hid (V.heap[w.heap.size]? = some (.cells #[.int .i64 x0, .int .i64 x1, .int .i64 x2, .int .i64 x3, .int .i64 x4, .int .i64 x5, .int .i64 x6, .int .i64 x7, .int .i64 x8, .int .i64 x9, .int .i64 x10] 25)) := by have h := box_alloc (box_new w (.cells #[.int .i64 x0, .int .i64 x1, .int .i64 x2, .int .i64 x3, .int .i64 x4, .int .i64 x5, .int .i64 x6, .int .i64 x7, .int .i64 x8, .int .i64 x9, .int .i64 x10] 25)) (.cells #[.slice A n c, .int .i64 nx] 34); (try simp only [World.size_alloc] at h); rw [hV]; exact h
  have K1 : Hid (V.heap[w.heap.size + 1]? = some (.cells #[.slice A n c, .int .i64 nx] 34)) := by have h := box_new (w.alloc (.cells #[.int .i64 x0, .int .i64 x1, .int .i64 x2, .int .i64 x3, .int .i64 x4, .int .i64 x5, .int .i64 x6, .int .i64 x7, .int .i64 x8, .int .i64 x9, .int .i64 x10] 25)) (.cells #[.slice A n c, .int .i64 nx] 34); (try simp only [World.size_alloc] at h); rw [hV]; exact h
  go_enter Tryz.func289, Tryz.ntmps289
  go_upto_region 1 with fail
  rw [← hV]
  clear hV
  go_wp2_with (first | (refine wpList_load_row rfl 25 _ rfl _ rfl _ _ (0, 0) _ K0.out Tryz.underlying25 rfl (by kernel_rfl) ?_) | (refine wpList_load_row rfl 34 _ rfl _ rfl _ _ (0, 0) _ K1.out Tryz.underlying34 rfl (by kernel_rfl) ?_))
  refine (specOk_any x0 x1 x2 x3 x4 x5 x6 x7 x8 x9 x10 _).mono ?_
  rintro e w1 ⟨rfl, hb⟩
  have K0' := Lib.hid (box_below K0.out hb)
  clear K0
  have K0 := K0'
  clear K0'
  have K1' := Lib.hid (box_below K1.out hb)
  clear K1
  have K1 := K1'
  clear K1'
  have HB' := Lib.hid (bel_then HB.out hb HB.out.size)
  clear HB hb
  have HB := HB'
  clear HB'
  cases h1 : specB x0 x1 x2 x3 x4 x5 x6 x7 x8 x9 x10
  · have HF : Hid (R = false) := by show _ = _; rw [HR.out]; simp [cabB, h1]
    clear h1
    go_wp2
    go_ret
    exact ⟨by rw [HF.out]; rfl, HB.out⟩
  have Hh1 := Lib.hid h1
  clear h1
  have f0 := box_cell K1.out 0 _ rfl
  have f1 := box_cell K1.out 1 _ rfl
  go_wp2_with fail
  clear f0 f1
  refine (Crew.fleetOk_any A n c nx ps B _ (HP.out.below HB.out hB) (Nat.le_trans hB HB.out.size) hn).mono ?_
  rintro e w2 ⟨rfl, hb⟩
  have K0' := Lib.hid (box_below K0.out hb)
  clear K0
  have K0 := K0'
  clear K0'
  have K1' := Lib.hid (box_below K1.out hb)
  clear K1
  have K1 := K1'
  clear K1'
  have HB' := Lib.hid (bel_then HB.out hb HB.out.size)
  clear HB hb
  have HB := HB'
  clear HB'
  cases h2 : decide (FGood ps nx)
  · have HF : Hid (R = false) := by show _ = _; rw [HR.out]; simp [cabB, Hh1.out, h2]
    clear h2
    go_wp2
    go_ret
    exact ⟨by rw [HF.out]; rfl, HB.out⟩
  have Hh2 := Lib.hid h2
  clear h2
  go_wp2_with fail
  refine (Crew.revOk_any rev _).mono ?_
  rintro e w' ⟨rfl, rfl⟩
  cases h3 : inB rev 1 1000
  · have HF : Hid (R = false) := by show _ = _; rw [HR.out]; simp [cabB, Hh1.out, Hh2.out, h3]
    clear h3
    go_wp2
    go_ret
    exact ⟨by rw [HF.out]; rfl, HB.out⟩
  have Hh3 := Lib.hid h3
  clear h3
  go_wp2_with fail
  refine (tickOk_any now _).mono ?_
  rintro e w' ⟨rfl, rfl⟩
  have HF : Hid (R = tokB now) := by show _ = _; rw [HR.out]; simp [cabB, Hh1.out, Hh2.out, Hh3.out]
  go_wp2
  go_ret
  exact ⟨by rw [HF.out]; rfl, HB.out⟩
set_option maxRecDepth 100000 in
set_option maxHeartbeats 6400000 in
theorem CountOf_any (x0 x1 x2 x3 x4 x5 x6 x7 x8 x9 x10 rev now : Int) (A : Option Addr) (n c : Nat) (nx : Int) (ps : PList) (B : Nat) (w : World) (hr : IsPods w B A n ps) (hB : B ≤ w.heap.size) (hn : n ≤ 1048576) : Calls Tryz.prog 267 #[.agg #[.int .i64 x0, .int .i64 x1, .int .i64 x2, .int .i64 x3, .int .i64 x4, .int .i64 x5, .int .i64 x6, .int .i64 x7, .int .i64 x8, .int .i64 x9, .int .i64 x10], .agg #[.slice A n c, .int .i64 nx], .int .i64 rev, .int .i64 now] w (Says (countT x0 x1 x2 x3 x4 x5 x6 x7 x8 x9 x10 false rev now (ps, nx)) w) := by
  obtain ⟨T, hT⟩ : ∃ T, T = countT x0 x1 x2 x3 x4 x5 x6 x7 x8 x9 x10 false rev now (ps, nx) := ⟨_, rfl⟩
  rw [← hT]
  have HT := Lib.hid hT
  have HP := Lib.hid hr
  clear hT hr
  obtain ⟨V, hV⟩ : ∃ V, V = ((((w.alloc (.cells #[.int .i64 x0, .int .i64 x1, .int .i64 x2, .int .i64 x3, .int .i64 x4, .int .i64 x5, .int .i64 x6, .int .i64 x7, .int .i64 x8, .int .i64 x9, .int .i64 x10] 25)).alloc (.cells #[.slice A n c, .int .i64 nx] 34)).alloc (.cells #[.int .i64 rev] 3)).alloc (.cells #[.int .i64 0, .int .i64 0] 231)) := ⟨_, rfl⟩
  have HB : Hid (Below w.heap.size w V) := by show Below _ _ _; rw [hV]; exact (bel3 _ _ _ _).alloc (by simp; omega) _
  have K0 : Hid (V.heap[w.heap.size]? = some (.cells #[.int .i64 x0, .int .i64 x1, .int .i64 x2, .int .i64 x3, .int .i64 x4, .int .i64 x5, .int .i64 x6, .int .i64 x7, .int .i64 x8, .int .i64 x9, .int .i64 x10] 25)) := by have h := box_alloc (box_alloc (box_alloc (box_new w (.cells #[.int .i64 x0, .int .i64 x1, .int .i64 x2, .int .i64 x3, .int .i64 x4, .int .i64 x5, .int .i64 x6, .int .i64 x7, .int .i64 x8, .int .i64 x9, .int .i64 x10] 25)) (.cells #[.slice A n c, .int .i64 nx] 34)) (.cells #[.int .i64 rev] 3)) (.cells #[.int .i64 0, .int .i64 0] 231); (try simp only [World.size_alloc] at h); rw [hV]; exact h
  have K1 : Hid (V.heap[w.heap.size + 1]? = some (.cells #[.slice A n c, .int .i64 nx] 34)) := by have h := box_alloc (box_alloc (box_new (w.alloc (.cells #[.int .i64 x0, .int .i64 x1, .int .i64 x2, .int .i64 x3, .int .i64 x4, .int .i64 x5, .int .i64 x6, .int .i64 x7, .int .i64 x8, .int .i64 x9, .int .i64 x10] 25)) (.cells #[.slice A n c, .int .i64 nx] 34)) (.cells #[.int .i64 rev] 3)) (.cells #[.int .i64 0, .int .i64 0] 231); (try simp only [World.size_alloc] at h); rw [hV]; exact h
  have K2 : Hid (V.heap[w.heap.size + 1 + 1]? = some (.cells #[.int .i64 rev] 3)) := by have h := box_alloc (box_new ((w.alloc (.cells #[.int .i64 x0, .int .i64 x1, .int .i64 x2, .int .i64 x3, .int .i64 x4, .int .i64 x5, .int .i64 x6, .int .i64 x7, .int .i64 x8, .int .i64 x9, .int .i64 x10] 25)).alloc (.cells #[.slice A n c, .int .i64 nx] 34)) (.cells #[.int .i64 rev] 3)) (.cells #[.int .i64 0, .int .i64 0] 231); (try simp only [World.size_alloc] at h); rw [hV]; exact h
  have K3 : Hid (V.heap[w.heap.size + 1 + 1 + 1]? = some (.cells #[.int .i64 0, .int .i64 0] 231)) := by have h := box_new (((w.alloc (.cells #[.int .i64 x0, .int .i64 x1, .int .i64 x2, .int .i64 x3, .int .i64 x4, .int .i64 x5, .int .i64 x6, .int .i64 x7, .int .i64 x8, .int .i64 x9, .int .i64 x10] 25)).alloc (.cells #[.slice A n c, .int .i64 nx] 34)).alloc (.cells #[.int .i64 rev] 3)) (.cells #[.int .i64 0, .int .i64 0] 231); (try simp only [World.size_alloc] at h); rw [hV]; exact h
  go_enter Tryz.func267, Tryz.ntmps267
  go_upto_region 1 with fail
  rw [← hV]
  clear hV
  have q0 := box_cell K2.out 0 _ rfl
  go_wp2_with (first | (refine wpList_load_row rfl 25 _ rfl _ rfl _ _ (0, 0) _ K0.out Tryz.underlying25 rfl (by kernel_rfl) ?_) | (refine wpList_load_row rfl 34 _ rfl _ rfl _ _ (0, 0) _ K1.out Tryz.underlying34 rfl (by kernel_rfl) ?_))
  refine (countable_any x0 x1 x2 x3 x4 x5 x6 x7 x8 x9 x10 rev now A n c nx ps B _ (HP.out.below HB.out hB) (Nat.le_trans hB HB.out.size) hn).mono ?_
  rintro e w1 ⟨rfl, hb⟩
  clear q0
  have K0' := Lib.hid (box_below K0.out hb)
  clear K0
  have K0 := K0'
  clear K0'
  have K1' := Lib.hid (box_below K1.out hb)
  clear K1
  have K1 := K1'
  clear K1'
  have K2' := Lib.hid (box_below K2.out hb)
  clear K2
  have K2 := K2'
  clear K2'
  have K3' := Lib.hid (box_below K3.out hb)
  clear K3
  have K3 := K3'
  clear K3'
  have HB' := Lib.hid (bel_then HB.out hb HB.out.size)
  clear HB hb
  have HB := HB'
  clear HB'
  cases hc : cabB x0 x1 x2 x3 x4 x5 x6 x7 x8 x9 x10 rev now ps nx
  · have HF : Hid (T = .tuple #[.agg #[.int .i64 0, .int .i64 0], .bool false]) := by show _ = _; rw [HT.out]; simp [countT, hc]
    clear hc
    have k0 := box_cell K3.out 0 _ rfl
    have g0 := box_frozen K3.out 0
    have k1 := box_cell K3.out 1 _ rfl
    have g1 := box_frozen K3.out 1
    have RB := set2B K3.out (.int .i64 0) (.int .i64 0)
    have r0 := box_cell RB 0 _ rfl
    have r1 := box_cell RB 1 _ rfl
    have HBF := Lib.hid (Turned.low HB.out (set2T (S := fun k => k = w.heap.size + 1 + 1 + 1) (b := w.heap.size + 1 + 1 + 1) rfl (.int .i64 0) (.int .i64 0)) (fun k hk => by omega) HB.out.size)
    clear RB
    go_wp2
    exact bodyPost_ret (v := .tuple #[.agg #[.int .i64 0, .int .i64 0], .bool false]) (by simp [results, Tryz.results267, go_sem, r0, r1]) rfl ⟨by rw [HF.out], HBF.out⟩
  obtain ⟨m1, hm1⟩ : ∃ m, m = cntF (liveB false rev) ps := ⟨_, rfl⟩
  obtain ⟨m2, hm2⟩ : ∃ m, m = cntF (goodB x0 x1 x2 x3 x4 x5 x6 x7 x8 x9 x10 false rev now) ps := ⟨_, rfl⟩
  have HF : Hid (T = .tuple #[.agg #[.int .i64 m1, .int .i64 m2], .bool true]) := by show _ = _; rw [HT.out]; simp [countT, hc, hm1, hm2]
  have HA := Lib.hid (countOf_at x0 x1 x2 x3 x4 x5 x6 x7 x8 x9 x10 rev now A n c nx ps B (w.heap.size + 1 + 1) w1 (HP.out.below HB.out hB) (Nat.le_trans hB HB.out.size) hn K2.out)
  rw [← hm1, ← hm2] at HA
  clear hc hm1 hm2
  go_wp2_with (first | (refine wpList_load_row rfl 25 _ rfl _ rfl _ _ (0, 0) _ K0.out Tryz.underlying25 rfl (by kernel_rfl) ?_) | (refine wpList_load_row rfl 34 _ rfl _ rfl _ _ (0, 0) _ K1.out Tryz.underlying34 rfl (by kernel_rfl) ?_))
  refine HA.out.mono ?_
  rintro e w2 ⟨rfl, hb⟩
  have K3' := Lib.hid (box_below K3.out hb)
  clear K3
  have K3 := K3'
  clear K3'
  have HB' := Lib.hid (bel_then HB.out hb HB.out.size)
  clear HB hb
  have HB := HB'
  clear HB'
  clear HA K0 K1 K2
  have k0 := box_cell K3.out 0 _ rfl
  have g0 := box_frozen K3.out 0
  have k1 := box_cell K3.out 1 _ rfl
  have g1 := box_frozen K3.out 1
  have RB := set2B K3.out (.int .i64 m1) (.int .i64 m2)
  have r0 := box_cell RB 0 _ rfl
  have r1 := box_cell RB 1 _ rfl
  have HBF := Lib.hid (Turned.low HB.out (set2T (S := fun k => k = w.heap.size + 1 + 1 + 1) (b := w.heap.size + 1 + 1 + 1) rfl (.int .i64 m1) (.int .i64 m2)) (fun k hk => by omega) HB.out.size)
  clear RB
  go_wp2
  exact bodyPost_ret (v := .tuple #[.agg #[.int .i64 m1, .int .i64 m2], .bool true]) (by simp [results, Tryz.results267, go_sem, r0, r1]) rfl ⟨by rw [HF.out], HBF.out⟩
set_option maxRecDepth 100000 in
set_option maxHeartbeats 6400000 in
theorem RestOf_any (x0 x1 x2 x3 x4 x5 x6 x7 x8 x9 x10 rev now : Int) (A : Option Addr) (n c : Nat) (nx : Int) (ps : PList) (B : Nat) (w : World) (hr : IsPods w B A n ps) (hB : B ≤ w.heap.size) (hn : n ≤ 1048576) : Calls Tryz.prog 268 #[.agg #[.int .i64 x0, .int .i64 x1, .int .i64 x2, .int .i64 x3, .int .i64 x4, .int .i64 x5, .int .i64 x6, .int .i64 x7, .int .i64 x8, .int .i64 x9, .int .i64 x10], .agg #[.slice A n c, .int .i64 nx], .int .i64 rev, .int .i64 now] w (Says (countT x0 x1 x2 x3 x4 x5 x6 x7 x8 x9 x10 true rev now (ps, nx)) w) := by
  obtain ⟨T, hT⟩ : ∃ T, T = countT x0 x1 x2 x3 x4 x5 x6 x7 x8 x9 x10 true rev now (ps, nx) := ⟨_, rfl⟩
  rw [← hT]
  have HT := Lib.hid hT
  have HP := Lib.hid hr
  clear hT hr
  obtain ⟨V, hV⟩ : ∃ V, V = ((((w.alloc (.cells #[.int .i64 x0, .int .i64 x1, .int .i64 x2, .int .i64 x3, .int .i64 x4, .int .i64 x5, .int .i64 x6, .int .i64 x7, .int .i64 x8, .int .i64 x9, .int .i64 x10] 25)).alloc (.cells #[.slice A n c, .int .i64 nx] 34)).alloc (.cells #[.int .i64 rev] 3)).alloc (.cells #[.int .i64 0, .int .i64 0] 231)) := ⟨_, rfl⟩
  have HB : Hid (Below w.heap.size w V) := by show Below _ _ _; rw [hV]; exact (bel3 _ _ _ _).alloc (by simp; omega) _
  have K0 : Hid (V.heap[w.heap.size]? = some (.cells #[.int .i64 x0, .int .i64 x1, .int .i64 x2, .int .i64 x3, .int .i64 x4, .int .i64 x5, .int .i64 x6, .int .i64 x7, .int .i64 x8, .int .i64 x9, .int .i64 x10] 25)) := by have h := box_alloc (box_alloc (box_alloc (box_new w (.cells #[.int .i64 x0, .int .i64 x1, .int .i64 x2, .int .i64 x3, .int .i64 x4, .int .i64 x5, .int .i64 x6, .int .i64 x7, .int .i64 x8, .int .i64 x9, .int .i64 x10] 25)) (.cells #[.slice A n c, .int .i64 nx] 34)) (.cells #[.int .i64 rev] 3)) (.cells #[.int .i64 0, .int .i64 0] 231); (try simp only [World.size_alloc] at h); rw [hV]; exact h
  have K1 : Hid (V.heap[w.heap.size + 1]? = some (.cells #[.slice A n c, .int .i64 nx] 34)) := by have h := box_alloc (box_alloc (box_new (w.alloc (.cells #[.int .i64 x0, .int .i64 x1, .int .i64 x2, .int .i64 x3, .int .i64 x4, .int .i64 x5, .int .i64 x6, .int .i64 x7, .int .i64 x8, .int .i64 x9, .int .i64 x10] 25)) (.cells #[.slice A n c, .int .i64 nx] 34)) (.cells #[.int .i64 rev] 3)) (.cells #[.int .i64 0, .int .i64 0] 231); (try simp only [World.size_alloc] at h); rw [hV]; exact h
  have K2 : Hid (V.heap[w.heap.size + 1 + 1]? = some (.cells #[.int .i64 rev] 3)) := by have h := box_alloc (box_new ((w.alloc (.cells #[.int .i64 x0, .int .i64 x1, .int .i64 x2, .int .i64 x3, .int .i64 x4, .int .i64 x5, .int .i64 x6, .int .i64 x7, .int .i64 x8, .int .i64 x9, .int .i64 x10] 25)).alloc (.cells #[.slice A n c, .int .i64 nx] 34)) (.cells #[.int .i64 rev] 3)) (.cells #[.int .i64 0, .int .i64 0] 231); (try simp only [World.size_alloc] at h); rw [hV]; exact h
  have K3 : Hid (V.heap[w.heap.size + 1 + 1 + 1]? = some (.cells #[.int .i64 0, .int .i64 0] 231)) := by have h := box_new (((w.alloc (.cells #[.int .i64 x0, .int .i64 x1, .int .i64 x2, .int .i64 x3, .int .i64 x4, .int .i64 x5, .int .i64 x6, .int .i64 x7, .int .i64 x8, .int .i64 x9, .int .i64 x10] 25)).alloc (.cells #[.slice A n c, .int .i64 nx] 34)).alloc (.cells #[.int .i64 rev] 3)) (.cells #[.int .i64 0, .int .i64 0] 231); (try simp only [World.size_alloc] at h); rw [hV]; exact h
  go_enter Tryz.func268, Tryz.ntmps268
  go_upto_region 1 with fail
  rw [← hV]
  clear hV
  have q0 := box_cell K2.out 0 _ rfl
  go_wp2_with (first | (refine wpList_load_row rfl 25 _ rfl _ rfl _ _ (0, 0) _ K0.out Tryz.underlying25 rfl (by kernel_rfl) ?_) | (refine wpList_load_row rfl 34 _ rfl _ rfl _ _ (0, 0) _ K1.out Tryz.underlying34 rfl (by kernel_rfl) ?_))
  refine (countable_any x0 x1 x2 x3 x4 x5 x6 x7 x8 x9 x10 rev now A n c nx ps B _ (HP.out.below HB.out hB) (Nat.le_trans hB HB.out.size) hn).mono ?_
  rintro e w1 ⟨rfl, hb⟩
  clear q0
  have K0' := Lib.hid (box_below K0.out hb)
  clear K0
  have K0 := K0'
  clear K0'
  have K1' := Lib.hid (box_below K1.out hb)
  clear K1
  have K1 := K1'
  clear K1'
  have K2' := Lib.hid (box_below K2.out hb)
  clear K2
  have K2 := K2'
  clear K2'
  have K3' := Lib.hid (box_below K3.out hb)
  clear K3
  have K3 := K3'
  clear K3'
  have HB' := Lib.hid (bel_then HB.out hb HB.out.size)
  clear HB hb
  have HB := HB'
  clear HB'
  cases hc : cabB x0 x1 x2 x3 x4 x5 x6 x7 x8 x9 x10 rev now ps nx
  · have HF : Hid (T = .tuple #[.agg #[.int .i64 0, .int .i64 0], .bool false]) := by show _ = _; rw [HT.out]; simp [countT, hc]
    clear hc
    have k0 := box_cell K3.out 0 _ rfl
    have g0 := box_frozen K3.out 0
    have k1 := box_cell K3.out 1 _ rfl
    have g1 := box_frozen K3.out 1
    have RB := set2B K3.out (.int .i64 0) (.int .i64 0)
    have r0 := box_cell RB 0 _ rfl
    have r1 := box_cell RB 1 _ rfl
    have HBF := Lib.hid (Turned.low HB.out (set2T (S := fun k => k = w.heap.size + 1 + 1 + 1) (b := w.heap.size + 1 + 1 + 1) rfl (.int .i64 0) (.int .i64 0)) (fun k hk => by omega) HB.out.size)
    clear RB
    go_wp2
    exact bodyPost_ret (v := .tuple #[.agg #[.int .i64 0, .int .i64 0], .bool false]) (by simp [results, Tryz.results268, go_sem, r0, r1]) rfl ⟨by rw [HF.out], HBF.out⟩
  obtain ⟨m1, hm1⟩ : ∃ m, m = cntF (liveB true rev) ps := ⟨_, rfl⟩
  obtain ⟨m2, hm2⟩ : ∃ m, m = cntF (goodB x0 x1 x2 x3 x4 x5 x6 x7 x8 x9 x10 true rev now) ps := ⟨_, rfl⟩
  have HF : Hid (T = .tuple #[.agg #[.int .i64 m1, .int .i64 m2], .bool true]) := by show _ = _; rw [HT.out]; simp [countT, hc, hm1, hm2]
  have HA := Lib.hid (restOf_at x0 x1 x2 x3 x4 x5 x6 x7 x8 x9 x10 rev now A n c nx ps B (w.heap.size + 1 + 1) w1 (HP.out.below HB.out hB) (Nat.le_trans hB HB.out.size) hn K2.out)
  rw [← hm1, ← hm2] at HA
  clear hc hm1 hm2
  go_wp2_with (first | (refine wpList_load_row rfl 25 _ rfl _ rfl _ _ (0, 0) _ K0.out Tryz.underlying25 rfl (by kernel_rfl) ?_) | (refine wpList_load_row rfl 34 _ rfl _ rfl _ _ (0, 0) _ K1.out Tryz.underlying34 rfl (by kernel_rfl) ?_))
  refine HA.out.mono ?_
  rintro e w2 ⟨rfl, hb⟩
  have K3' := Lib.hid (box_below K3.out hb)
  clear K3
  have K3 := K3'
  clear K3'
  have HB' := Lib.hid (bel_then HB.out hb HB.out.size)
  clear HB hb
  have HB := HB'
  clear HB'
  clear HA K0 K1 K2
  have k0 := box_cell K3.out 0 _ rfl
  have g0 := box_frozen K3.out 0
  have k1 := box_cell K3.out 1 _ rfl
  have g1 := box_frozen K3.out 1
  have RB := set2B K3.out (.int .i64 m1) (.int .i64 m2)
  have r0 := box_cell RB 0 _ rfl
  have r1 := box_cell RB 1 _ rfl
  have HBF := Lib.hid (Turned.low HB.out (set2T (S := fun k => k = w.heap.size + 1 + 1 + 1) (b := w.heap.size + 1 + 1 + 1) rfl (.int .i64 m1) (.int .i64 m2)) (fun k hk => by omega) HB.out.size)
  clear RB
  go_wp2
  exact bodyPost_ret (v := .tuple #[.agg #[.int .i64 m1, .int .i64 m2], .bool true]) (by simp [results, Tryz.results268, go_sem, r0, r1]) rfl ⟨by rw [HF.out], HBF.out⟩
end Go.Proofs.YtklgjjmcflgjeaaGreat.CountP
namespace Go.Proofs.YtklgjjmcflgjeaaGreat.FleetSpec
open Go.ChangeShapes Go.WideShapes Go.ChangeAt Go.RowKit
open LK Pods FleetV
open Ints (below_drewN)
open Tick (inB in_t in_f tokB tok_t l01In_any specTickOk_any)
theorem get_mem {m : PList} {k : Nat} (h : k < m.length) : m.getD k z5 ∈ m := by
  have e : m.getD k z5 = m[k] := by simp [List.getD, h]
  rw [e]; exact List.getElem_mem h
theorem take_get {m : PList} {k : Nat} (h : k < m.length) : m.take (k + 1) = m.take k ++ [m.getD k z5] := by
  have e : m.getD k z5 = m[k] := by simp [List.getD, h]
  rw [List.take_succ_eq_append_getElem h, e]
theorem asc_at {ps : PList} (h : Asc ps) {i j : Nat} (hij : i < j) (hj : j < ps.length) : (ps.getD i z5).1 < (ps.getD j z5).1 := by
  have := List.pairwise_iff_getElem.1 h i j (by omega) hj hij
  simpa [List.getD, hj, show i < ps.length by omega] using this
theorem asc_succ {ps : PList} {k : Nat} (hk : k < ps.length) (h : Asc (ps.take k)) (hp : k = 0 ∨ (ps.getD (k - 1) z5).1 < (ps.getD k z5).1) : Asc (ps.take (k + 1)) := by
  rw [take_get hk]
  refine List.pairwise_append.2 ⟨h, by simp, fun a ha b hb => ?_⟩
  obtain rfl : b = ps.getD k z5 := by simpa using hb
  obtain ⟨i, hi, rfl⟩ := List.mem_iff_getElem.1 ha
  have hik : i < k := by simp at hi; omega
  have hp := hp.resolve_left (by omega)
  have e : (ps.take k)[i] = ps.getD i z5 := by simp [List.getD, show i < ps.length by omega]
  rw [e]
  rcases Nat.lt_or_ge i (k - 1) with h1 | h1
  · have h2 := asc_at h (i := i) (j := k - 1) h1 (by simp; omega)
    have e1 : (ps.take k).getD i z5 = ps.getD i z5 := by simp [List.getD, hik]
    have e2 : (ps.take k).getD (k - 1) z5 = ps.getD (k - 1) z5 := by simp [List.getD, show k - 1 < k by omega]
    rw [e1, e2] at h2
    omega
  · obtain rfl : i = k - 1 := by omega
    exact hp
theorem take_mem {ps : PList} {k : Nat} {p : Pd} (h : k < ps.length) (hp : p ∈ ps.take (k + 1)) : p ∈ ps.take k ∨ p = ps.getD k z5 := by
  rw [take_get h] at hp
  simpa using hp
theorem ok_of {x0 x1 x2 x3 x4 nx : Int} (hn : nx ≤ 1000000000) (h0 : inB x0 1 (nx - 1) = true) (h1 : inB x1 1 1000 = true) (h2 : inB x2 0 4 = true) (h3 : tokB x3 = true) (h4 : tokB x4 = true) : PodOk (x0, x1, x2, x3, x4) ∧ x0 < nx := by
  have a0 := in_t h0
  have a1 := in_t h1
  have a2 := in_t h2
  have a3 := tok_t h3
  have a4 := tok_t h4
  refine ⟨⟨⟨by show _ ≤ x0; omega, by show x0 ≤ _; omega⟩, a1, a2, a3, a4⟩, by omega⟩
theorem ok_in {x0 x1 x2 x3 x4 nx : Int} (h : PodOk (x0, x1, x2, x3, x4) ∧ x0 < nx) : inB x0 1 (nx - 1) = true ∧ inB x1 1 1000 = true ∧ inB x2 0 4 = true ∧ tokB x3 = true ∧ tokB x4 = true := by
  obtain ⟨⟨⟨h0, _⟩, h1, h2, h3, h4⟩, h5⟩ := h
  simp only at h0 h1 h2 h3 h4
  simp [inB, tokB, h1, h2, h3, h4]
  omega
theorem wrap_id {x : Int} (h0 : -9223372036854775808 ≤ x) (h1 : x ≤ 9223372036854775807) : IntKind.i64.wrap x = x := by
  simp [IntKind.wrap, IntKind.bits, IntKind.signed]
  omega
set_option maxRecDepth 100000 in
set_option maxHeartbeats 12800000 in
theorem specFleetOk_any (A : Option Addr) (n c : Nat) (nx : Int) (ps : PList) (B : Nat) (w : World) (hr : IsPods w B A n ps) (hB : B ≤ w.heap.size) (hn : n ≤ 1048576) :
    Calls Tryz.prog 99 #[.agg #[.slice A n c, .int .i64 nx]] w (Says (.bool (decide (FGood ps nx))) w) := by
  have HL : Hid (ps.length = n) := hr.1
  have HR := Lib.hid hr
  clear hr
  obtain ⟨r, hr⟩ : ∃ r, r = decide (FGood ps nx) := ⟨_, rfl⟩
  rw [← hr]
  have HRR := Lib.hid hr
  clear hr
  have no : ∀ (w' : World), Hid (¬ FGood ps nx) → Below w.heap.size w w' → Says (.bool r) w (.returned (.bool false)) w' := fun w' h hb => ⟨by rw [HRR.out, decide_eq_false h.out], hb⟩
  have NO := Lib.hid no
  clear no
  by_cases h30 : 30 < n
  · have HG : Hid (¬ FGood ps nx) := fun h => by have := h.1; have := HL.out; omega
    go_enter Tryz.func99, Tryz.ntmps99
    go_wp2
    go_ret
    exact NO.out _ HG (bel1 _ _)
  cases hnx : inB nx 1 1000000000
  · have HG : Hid (¬ FGood ps nx) := fun h => by have := h.2.1; have := in_f hnx; omega
    go_enter Tryz.func99, Tryz.ntmps99
    go_wp2_with (go_at_call 39; refine (l01In_any _ _ _ _).mono ?_; rintro e w' ⟨rfl, rfl⟩; rw [hnx])
    go_ret
    exact NO.out _ HG (bel1 _ _)
  · have HNX := Lib.hid (in_t hnx)
    have hnx1 := (in_t hnx).1
    have hnx2 := (in_t hnx).2
    have hwr : IntKind.i64.wrap (nx - 1) = nx - 1 := wrap_id (by omega) (by omega)
    go_enter Tryz.func99, Tryz.ntmps99
    go_wp2_with (go_at_call 39; refine (l01In_any _ _ _ _).mono ?_; rintro e w' ⟨rfl, rfl⟩; rw [hnx])
    go_loopw [3] (fun i wr => ∃ k : Nat, k ≤ n ∧ i = .int .i64 k ∧ Hid (wr.heap[w.heap.size]? = some (.cells #[.slice A n c, .int .i64 nx] 34)) ∧ Below w.heap.size w wr ∧ w.heap.size < wr.heap.size ∧ Hid (∀ p ∈ ps.take k, PodOk p ∧ p.1 < nx) ∧ Hid (Asc (ps.take k))) (fun i _ => n - (RowKit.intOf i).toNat)
    case atStart => exact ⟨0, Nat.zero_le _, rfl, box_new _ _, bel1 _ _, by simp, by simp [Hid], by simp [Hid, asc_nil]⟩
    case round =>
      obtain ⟨k, hk, rfl, E0, hbr, hsr, HA, HS⟩ := hrel
      have c0 := box_cell E0.out 0 _ rfl
      have c1 := box_cell E0.out 1 _ rfl
      by_cases hlt : k < n
      · obtain ⟨b, off, x0, x1, x2, x3, x4, rfl, hbB, hz, hc0, hc1, hc2, hc3, hc4⟩ := (HR.out.below hbr hB).at_ hlt
        have HZ := Lib.hid hz
        have hkp : k < ps.length := by rw [HL.out]; exact hlt
        have HKP := Lib.hid hkp
        have HPM : Hid (ps.getD k z5 ∈ ps) := get_mem hkp
        have hno : ∀ (P : Prop), (PodOk (x0, x1, x2, x3, x4) ∧ x0 < nx → P) → ¬ P → Hid (¬ FGood ps nx) := fun P f hP h => by
          have h1 := h.2.2.1 _ HPM.out
          rw [HZ.out] at h1
          exact hP (f h1)
        have HNO := Lib.hid hno
        have E1 : Hid ((wr.alloc (.cells #[.int .i64 x0, .int .i64 x1, .int .i64 x2, .int .i64 x3, .int .i64 x4] 85)).heap[w.heap.size]? = some (.cells #[.slice (some ⟨b, off, none⟩) n c, .int .i64 nx] 34)) := box_alloc E0.out _
        have hb1 : Below w.heap.size w (wr.alloc (.cells #[.int .i64 x0, .int .i64 x1, .int .i64 x2, .int .i64 x3, .int .i64 x4] 85)) := hbr.alloc (by omega) _
        clear hz hkp hno
        have i0 : ∀ (r : Bool) (W : World), inB x0 1 (nx - 1) = r → Calls Tryz.prog 39 #[.int .i64 x0, .int .i64 1, .int .i64 (nx - 1)] W fun e w' => e = .returned (.bool r) ∧ w' = W := fun r W h => by rw [← h]; exact (l01In_any _ _ _ _).mono (fun e w' h => ⟨h.1, h.2.symm⟩)
        have i1 : ∀ (r : Bool) (W : World), inB x1 1 1000 = r → Calls Tryz.prog 39 #[.int .i64 x1, .int .i64 1, .int .i64 1000] W fun e w' => e = .returned (.bool r) ∧ w' = W := fun r W h => by rw [← h]; exact (l01In_any _ _ _ _).mono (fun e w' h => ⟨h.1, h.2.symm⟩)
        have i2 : ∀ (r : Bool) (W : World), inB x2 0 4 = r → Calls Tryz.prog 39 #[.int .i64 x2, .int .i64 0, .int .i64 4] W fun e w' => e = .returned (.bool r) ∧ w' = W := fun r W h => by rw [← h]; exact (l01In_any _ _ _ _).mono (fun e w' h => ⟨h.1, h.2.symm⟩)
        have i3 : ∀ (x : Int) (r : Bool) (W : World), tokB x = r → Calls Tryz.prog 52 #[.int .i64 x] W fun e w' => e = .returned (.bool r) ∧ w' = W := fun x r W h => by rw [← h]; exact (specTickOk_any _ _).mono (fun e w' h => ⟨h.1, h.2.symm⟩)
        have I0 := Lib.hid i0
        have I1 := Lib.hid i1
        have I2 := Lib.hid i2
        have I3 := Lib.hid i3
        clear i0 i1 i2 i3
        cases h0 : inB x0 1 (nx - 1)
        · have HG := HNO.out _ (fun h => (ok_in h).1) (by rw [h0]; simp)
          go_wp2_with fail
          go_quiet (first | (go_at_call_of 39 x0; exact Calls.quiet_of_same (I0.out _ _ h0)) | (go_at_call_of 39 x1; exact Calls.quiet_of_same (I1.out _ _ h1)) | (go_at_call_of 39 x2; exact Calls.quiet_of_same (I2.out _ _ h2)) | (go_at_call_of 52 x3; exact Calls.quiet_of_same (I3.out x3 _ _ h3)) | (go_at_call_of 52 x4; exact Calls.quiet_of_same (I3.out x4 _ _ h4)))
          go_wp2
          go_ret
          exact NO.out _ HG (below_drewN hb1 _)
        cases h1 : inB x1 1 1000
        · have HG := HNO.out _ (fun h => (ok_in h).2.1) (by rw [h1]; simp)
          go_wp2_with fail
          go_quiet (first | (go_at_call_of 39 x0; exact Calls.quiet_of_same (I0.out _ _ h0)) | (go_at_call_of 39 x1; exact Calls.quiet_of_same (I1.out _ _ h1)) | (go_at_call_of 39 x2; exact Calls.quiet_of_same (I2.out _ _ h2)) | (go_at_call_of 52 x3; exact Calls.quiet_of_same (I3.out x3 _ _ h3)) | (go_at_call_of 52 x4; exact Calls.quiet_of_same (I3.out x4 _ _ h4)))
          go_wp2
          go_ret
          exact NO.out _ HG (below_drewN hb1 _)
        cases h2 : inB x2 0 4
        · have HG := HNO.out _ (fun h => (ok_in h).2.2.1) (by rw [h2]; simp)
          go_wp2_with fail
          go_quiet (first | (go_at_call_of 39 x0; exact Calls.quiet_of_same (I0.out _ _ h0)) | (go_at_call_of 39 x1; exact Calls.quiet_of_same (I1.out _ _ h1)) | (go_at_call_of 39 x2; exact Calls.quiet_of_same (I2.out _ _ h2)) | (go_at_call_of 52 x3; exact Calls.quiet_of_same (I3.out x3 _ _ h3)) | (go_at_call_of 52 x4; exact Calls.quiet_of_same (I3.out x4 _ _ h4)))
          go_wp2
          go_ret
          exact NO.out _ HG (below_drewN hb1 _)
        cases h3 : tokB x3
        · have HG := HNO.out _ (fun h => (ok_in h).2.2.2.1) (by rw [h3]; simp)
          go_wp2_with fail
          go_quiet (first | (go_at_call_of 39 x0; exact Calls.quiet_of_same (I0.out _ _ h0)) | (go_at_call_of 39 x1; exact Calls.quiet_of_same (I1.out _ _ h1)) | (go_at_call_of 39 x2; exact Calls.quiet_of_same (I2.out _ _ h2)) | (go_at_call_of 52 x3; exact Calls.quiet_of_same (I3.out x3 _ _ h3)) | (go_at_call_of 52 x4; exact Calls.quiet_of_same (I3.out x4 _ _ h4)))
          go_wp2
          go_ret
          exact NO.out _ HG (below_drewN hb1 _)
        cases h4 : tokB x4
        · have HG := HNO.out _ (fun h => (ok_in h).2.2.2.2) (by rw [h4]; simp)
          go_wp2_with fail
          go_quiet (first | (go_at_call_of 39 x0; exact Calls.quiet_of_same (I0.out _ _ h0)) | (go_at_call_of 39 x1; exact Calls.quiet_of_same (I1.out _ _ h1)) | (go_at_call_of 39 x2; exact Calls.quiet_of_same (I2.out _ _ h2)) | (go_at_call_of 52 x3; exact Calls.quiet_of_same (I3.out x3 _ _ h3)) | (go_at_call_of 52 x4; exact Calls.quiet_of_same (I3.out x4 _ _ h4)))
          go_wp2
          go_ret
          exact NO.out _ HG (below_drewN hb1 _)
        have HOK := Lib.hid (ok_of hnx2 h0 h1 h2 h3 h4)
        have HA2 : Hid (∀ p ∈ ps.take (k + 1), PodOk p ∧ p.1 < nx) := fun p hp => by
          rcases take_mem HKP.out hp with h | h
          · exact HA.out p h
          · rw [h, HZ.out]; exact HOK.out
        by_cases hk0 : k = 0
        · have HS2 : Hid (Asc (ps.take (k + 1))) := asc_succ HKP.out HS.out (.inl hk0)
          have hdk : decide ((0 : Int) < (k : Int)) = false := by simp; omega
          have hdk2 : decide (0 < k) = false := by simp; omega
          have HK0 := Lib.hid hk0
          clear hk0
          go_wp2_with fail
          go_quiet (first | (go_at_call_of 39 x0; exact Calls.quiet_of_same (I0.out _ _ h0)) | (go_at_call_of 39 x1; exact Calls.quiet_of_same (I1.out _ _ h1)) | (go_at_call_of 39 x2; exact Calls.quiet_of_same (I2.out _ _ h2)) | (go_at_call_of 52 x3; exact Calls.quiet_of_same (I3.out x3 _ _ h3)) | (go_at_call_of 52 x4; exact Calls.quiet_of_same (I3.out x4 _ _ h4)))
          go_wp2
          go_roundw
          case rel => exact ⟨k + 1, by omega, by go_num, E1, below_drewN hb1 _, by simp; omega, HA2, HS2⟩
          case measure => simp [RowKit.intOf]; omega
        · obtain ⟨b', off', y0, y1, y2, y3, y4, hbb, hbB', hz', hd0, hd1, hd2, hd3, hd4⟩ := (HR.out.below hbr hB).at_ (k := k - 1) (by omega)
          injection hbb with hbb
          injection hbb with e1 e2
          subst e1 e2
          have hd0' : (wr.alloc (.cells #[.int .i64 x0, .int .i64 x1, .int .i64 x2, .int .i64 x3, .int .i64 x4] 85)).cell? ⟨b, off + (k - 1) * 5, none⟩ = some (.int .i64 y0) := cell_keep (bel1 _ _) hd0
          have hdk : decide ((0 : Int) < (k : Int)) = true := by simp; omega
          have hdk2 : decide (0 < k) = true := by simp; omega
          have hkm : ((k : Int) - 1) = ((k - 1 : Nat) : Int) := by omega
          have hkm2 : k - 1 < n := by omega
          have hkmt : ((k : Int) - 1).toNat = k - 1 := by omega
          have hkw : IntKind.i64.wrap ((k : Int) - 1) = (k : Int) - 1 := wrap_id (by omega) (by omega)
          by_cases hxy : y0 < x0
          · have HS2 : Hid (Asc (ps.take (k + 1))) := asc_succ HKP.out HS.out (.inr (by rw [hz', HZ.out]; exact hxy))
            have hdd : decide (x0 ≤ y0) = false := by simp; omega
            clear hz' hd0 hd1 hd2 hd3 hd4
            go_wp2_with fail
            go_quiet (first | (go_at_call_of 39 x0; exact Calls.quiet_of_same (I0.out _ _ h0)) | (go_at_call_of 39 x1; exact Calls.quiet_of_same (I1.out _ _ h1)) | (go_at_call_of 39 x2; exact Calls.quiet_of_same (I2.out _ _ h2)) | (go_at_call_of 52 x3; exact Calls.quiet_of_same (I3.out x3 _ _ h3)) | (go_at_call_of 52 x4; exact Calls.quiet_of_same (I3.out x4 _ _ h4)))
            go_wp2
            go_roundw
            case rel => exact ⟨k + 1, by omega, by go_num, E1, below_drewN hb1 _, by simp; omega, HA2, HS2⟩
            case measure => simp [RowKit.intOf]; omega
          · have HG : Hid (¬ FGood ps nx) := fun h => by
              have h1 := asc_at h.2.2.2 (i := k - 1) (j := k) (by omega) HKP.out
              rw [hz', HZ.out] at h1
              exact hxy h1
            have hdd : decide (x0 ≤ y0) = true := by simp; omega
            clear hz' hd0 hd1 hd2 hd3 hd4
            go_wp2_with fail
            go_quiet (first | (go_at_call_of 39 x0; exact Calls.quiet_of_same (I0.out _ _ h0)) | (go_at_call_of 39 x1; exact Calls.quiet_of_same (I1.out _ _ h1)) | (go_at_call_of 39 x2; exact Calls.quiet_of_same (I2.out _ _ h2)) | (go_at_call_of 52 x3; exact Calls.quiet_of_same (I3.out x3 _ _ h3)) | (go_at_call_of 52 x4; exact Calls.quiet_of_same (I3.out x4 _ _ h4)))
            go_wp2
            go_ret
            exact NO.out _ HG (below_drewN hb1 _)
      · have HK : Hid (k = n) := (by omega : k = n)
        go_wp2
        go_ret
        have htk : ps.take k = ps := List.take_of_length_le (by rw [HL.out, HK.out]; exact Nat.le_refl _)
        have h1 := HA.out
        have h2 := HS.out
        rw [htk] at h1 h2
        have hg : FGood ps nx := ⟨by have := HL.out; omega, HNX.out, h1, h2⟩
        exact ⟨by rw [HRR.out, decide_eq_true hg]; rfl, hbr⟩
end Go.Proofs.YtklgjjmcflgjeaaGreat.FleetSpec
namespace Go.Proofs.YtklgjjmcflgjeaaGreat.FleetSpec
open Go.ChangeShapes Go.WideShapes Go.ChangeAt Go.RowKit
open LK Pods FleetV
open Ints (below_drewN)
def atP (ps : PList) (k : Int) : Int := match ps.findIdx? (fun p => decide (p.1 = k)) with | some j => j | none => -1
theorem at_none {ps : PList} {k : Int} (h : ∀ j, j < ps.length → (ps.getD j z5).1 ≠ k) : atP ps k = -1 := by
  have e : ps.findIdx? (fun p => decide (p.1 = k)) = none := by
    rw [List.findIdx?_eq_none_iff]
    intro p hp
    obtain ⟨j, hj, rfl⟩ := List.mem_iff_getElem.1 hp
    have := h j hj
    simpa [List.getD, hj] using this
  simp [atP, e]
theorem at_some {ps : PList} {k : Int} {j : Nat} (hj : j < ps.length) (he : (ps.getD j z5).1 = k) (h : ∀ i, i < j → (ps.getD i z5).1 ≠ k) : atP ps k = j := by
  have e : ps.findIdx? (fun p => decide (p.1 = k)) = some j := by
    rw [List.findIdx?_eq_some_iff_getElem]
    refine ⟨hj, by simpa [List.getD, hj] using he, fun i hi => ?_⟩
    have := h i hi
    simpa [List.getD, show i < ps.length by omega] using this
  simp [atP, e]
theorem at_cases (ps : PList) (k : Int) : (atP ps k = -1 ∧ fndP ps k = none) ∨ ∃ j, j < ps.length ∧ atP ps k = j ∧ fndP ps k = some (ps.getD j z5) ∧ (ps.getD j z5).1 = k := by
  cases e : ps.findIdx? (fun p => decide (p.1 = k)) with
  | none =>
    refine .inl ⟨by simp [atP, e], ?_⟩
    unfold fndP
    rw [List.find?_eq_none]
    rw [List.findIdx?_eq_none_iff] at e
    intro p hp
    have := e p hp
    simpa using this
  | some j =>
    have e2 := e
    rw [List.findIdx?_eq_some_iff_getElem] at e
    obtain ⟨hj, h1, h2⟩ := e
    have hg : ps.getD j z5 = ps[j] := by simp [List.getD, hj]
    refine .inr ⟨j, hj, by simp [atP, e2], ?_, by rw [hg]; simpa using h1⟩
    unfold fndP
    rw [List.find?_eq_some_iff_getElem, hg]
    exact ⟨h1, j, hj, rfl, fun i hi => by have := h2 i hi; simpa using this⟩
set_option maxHeartbeats 1600000 in
theorem at_any (A : Option Addr) (n c : Nat) (nx k0 : Int) (ps : PList) (B : Nat) (w : World) (hr : IsPods w B A n ps) (hB : B ≤ w.heap.size) (hn : n ≤ 1048576) :
    Calls Tryz.prog 141 #[.agg #[.slice A n c, .int .i64 nx], .int .i64 k0] w (Says (.int .i64 (atP ps k0)) w) := by
  have HL : Hid (ps.length = n) := hr.1
  have hbx : Below w.heap.size w (w.alloc (.cells #[.slice A n c, .int .i64 nx] 34)) := bel1 _ _
  have hr1 := hr.below hbx hB
  clear hr
  go_enter Tryz.func141, Tryz.ntmps141
  go_wp2_with fail
  go_loop [5] (fun i => ∃ k : Nat, k ≤ n ∧ i = .int .i64 k ∧ Hid (∀ j, j < k → (ps.getD j z5).1 ≠ k0)) (fun i => n - (RowKit.intOf i).toNat)
  case atStart => exact ⟨0, Nat.zero_le _, rfl, fun j hj => absurd hj (by omega)⟩
  case round =>
    obtain ⟨k, hk, rfl, HF⟩ := hrel
    by_cases hlt : k < n
    · obtain ⟨b, off, x0, x1, x2, x3, x4, rfl, hbB, hz, hc0, hc1, hc2, hc3, hc4⟩ := hr1.at_ hlt
      have HZ := Lib.hid hz
      clear hz
      cases he : (x0 == k0)
      · go_wp2
        go_round
        case rel =>
          refine ⟨k + 1, by omega, by go_num, fun j hj => ?_⟩
          by_cases h : j = k
          · subst h
            rw [HZ.out]
            simpa using he
          · exact HF.out j (by omega)
        case measure => simp [RowKit.intOf]; omega
      · have HA : Hid (atP ps k0 = k) := at_some (by rw [HL.out]; exact hlt) (by rw [HZ.out]; simpa using he) HF.out
        go_wp2
        go_ret
        rw [HA.out]
        exact ⟨rfl, hbx⟩
    · have HA : Hid (atP ps k0 = -1) := at_none fun j hj => HF.out j (by rw [HL.out] at hj; omega)
      go_wp2
      go_ret
      rw [HA.out]
      exact ⟨rfl, hbx⟩
open FleetTy (made_of own_app)
theorem news_new (w : World) (l : List Value) (t : TypeId) : ∀ j u, l[j]? = some u → (w.alloc (.cells l.toArray t)).cell? ((⟨w.heap.size, 0, none⟩ : Addr).add j) = some u := by
  intro j u h
  rw [FlatOpen.add_off, Nat.zero_add]
  exact box_cell (box_new w (.cells l.toArray t)) j u (by simpa using h)
set_option maxRecDepth 100000 in
set_option maxHeartbeats 3200000 in
theorem copy_any (A : Option Addr) (n c : Nat) (nx : Int) (ps : PList) (B : Nat) (w : World) (hr : IsPods w B A n ps) (hB : B ≤ w.heap.size) (hn : n ≤ 1048576) :
    Calls Tryz.prog 140 #[.agg #[.slice A n c, .int .i64 nx]] w (Made FleetTy.fty (ps, nx) w) := by
  obtain ⟨i0, hi0, hz0, hz1, hz2⟩ := info_parts infoP
  have HL : Hid (ps.length = n) := hr.1
  have HR := Lib.hid hr
  clear hr
  go_enter Tryz.func140, Tryz.ntmps140
  go_wp2_with fail
  go_loopw [4] (fun i wr => ∃ (k : Nat) (A1 : Option Addr) (c1 : Nat), k ≤ n ∧ i = .int .i64 k ∧ Hid (wr.heap[w.heap.size]? = some (.cells #[.slice A n c, .int .i64 nx] 34)) ∧ Hid (wr.heap[w.heap.size + 1]? = some (.cells #[.slice none 0 0, .int .i64 0] 34)) ∧ Hid (wr.heap[w.heap.size + 1 + 1]? = some (.cells #[.slice A1 k c1, .int .i64 nx] 34)) ∧
      Hid (OwnP wr (w.heap.size + 1 + 1 + 1) A1 k c1 (ps.take k)) ∧ Below w.heap.size w wr ∧ w.heap.size + 1 + 1 + 1 ≤ wr.heap.size) (fun i _ => n - (RowKit.intOf i).toNat)
  case atStart =>
    refine ⟨0, none, 0, Nat.zero_le _, rfl, box_alloc (box_alloc (box_new _ _) _) _, ?_, ?_, OwnP.nil _ _, bel3 _ _ _ _, by simp⟩
    · have h := box_alloc (box_new (w.alloc (.cells #[.slice A n c, .int .i64 nx] 34)) (.cells #[.slice none 0 0, .int .i64 0] 34)) (.cells #[.slice none 0 0, .int .i64 nx] 34)
      simp only [World.size_alloc] at h
      exact h
    · have h := box_new ((w.alloc (.cells #[.slice A n c, .int .i64 nx] 34)).alloc (.cells #[.slice none 0 0, .int .i64 0] 34)) (.cells #[.slice none 0 0, .int .i64 nx] 34)
      simp only [World.size_alloc] at h
      exact h
  case round =>
    obtain ⟨k, A1, c1, hk, rfl, E0, E1, E2, HO, hbr, hsr⟩ := hrel
    have a0 := box_cell E0.out 0 _ rfl
    have r0 := box_cell E2.out 0 _ rfl
    have r1 := box_cell E2.out 1 _ rfl
    have s0 := box_frozen E2.out 0
    by_cases hlt : k < n
    · obtain ⟨b, off, x0, x1, x2, x3, x4, rfl, hbB, hz, hc0, hc1, hc2, hc3, hc4⟩ := (HR.out.below hbr hB).at_ hlt
      have HZ := Lib.hid hz
      have hkp : k < ps.length := by rw [HL.out]; exact hlt
      have HKP := Lib.hid hkp
      clear hz hkp
      go_wp2_with fail
      have hlv : w.heap.size + 1 + 1 < wr.heap.size := by omega
      have hq0 : ∀ (W : World), W.heap[w.heap.size + 1 + 1]? = some (.cells #[.slice A1 k c1, .int .i64 nx] 34) → W.cell? ⟨w.heap.size + 1 + 1, 0, none⟩ = some (.slice A1 k c1) := fun W h => box_cell h 0 _ rfl
      have hq1 : ∀ (W : World), W.heap[w.heap.size + 1 + 1]? = some (.cells #[.slice A1 k c1, .int .i64 nx] 34) → W.frozen? ⟨w.heap.size + 1 + 1, 0, none⟩ = false := fun W h => box_frozen h 0
      have HQ0 := Lib.hid hq0
      have HQ1 := Lib.hid hq1
      clear hq0 hq1
      go_region_law (refine step_append_lies _ (by rfl) (.tmp 16) (.tmp 22) 32 (by rfl) (w.heap.size + 1 + 1 + 1) 85 i0 _ 5 40 Tryz.underlying32 hi0 hz0 hz1 hz2 rfl (by omega) (.slice A1 k c1) k (flat (ps.take k)) rfl (by exact HO.out.2.alloc _) ⟨wr.heap.size, 0, none⟩ 1 1 [.int .i64 x0, .int .i64 x1, .int .i64 x2, .int .i64 x3, .int .i64 x4] rfl rfl (by exact news_new wr [.int .i64 x0, .int .i64 x1, .int .i64 x2, .int .i64 x3, .int .i64 x4] 85) (by intro u hu; simp at hu; rcases hu with rfl | rfl | rfl | rfl | rfl <;> rfl) (by omega) (by unfold maxLen; omega) (by omega) (by simp; omega) (wr.heap.size + 1) (by simp) ?_; intro g2 c2 w5 hown hgr _ _; have F2 : w5.heap[w.heap.size + 1 + 1]? = some (.cells #[.slice A1 k c1, .int .i64 nx] 34) := ((hgr.block (w.heap.size + 1 + 1) (by simp; omega) (fun e => by have := (HO.out.lt _ e.symm).1; omega)).trans (box_alloc E2.out _)); have q0 := HQ0.out _ F2; have q1 := HQ1.out _ F2)
      all_goals
        obtain ⟨A2, c3, ev, hO2⟩ := own_app (ps := ps.take k) (p := (x0, x1, x2, x3, x4)) HO.out.1 hown
        injection ev with ev1 ev2 ev3
        subst ev1 ev3
        have e2 : ps.take k ++ [(x0, x1, x2, x3, x4)] = ps.take (k + 1) := by rw [take_get HKP.out, HZ.out]
        rw [e2] at hO2
        have hne : ∀ q, (Value.slice A1 k c1).ownBlock = some q → w.heap.size + 1 + 1 + 1 ≤ q := fun q hq => (HO.out.lt q hq).1
        have keep : ∀ (q : Nat) (o : Obj), q < w.heap.size + 1 + 1 + 1 → wr.heap[q]? = some o → w5.heap[q]? = some o := fun q o hq ho => (hgr.block q (by simp; omega) (fun e => by have := hne q e.symm; omega)).trans (box_alloc ho _)
        have F0 := keep _ _ (by omega) E0.out
        have F1 := keep _ _ (by omega) E1.out
        have hb5 : Below w.heap.size w w5 := ((hbr.alloc (by omega) _).drew).grown hgr (by simp; omega) (fun qq hq => by have := hne qq hq; omega)
        have hs5 : w.heap.size + 1 + 1 + 1 ≤ w5.heap.size := by have := hgr.size; simp at this; omega
        have G0 : Hid ((w5.setCell ⟨w.heap.size + 1 + 1, 0, none⟩ (.slice (some ⟨g2, 0, none⟩) (k + 1) c2)).heap[w.heap.size]? = some (.cells #[.slice (some ⟨b, off, none⟩) n c, .int .i64 nx] 34)) := box_other F0 ⟨w.heap.size + 1 + 1, 0, none⟩ _ (by show w.heap.size ≠ w.heap.size + 1 + 1; omega)
        have G1 : Hid ((w5.setCell ⟨w.heap.size + 1 + 1, 0, none⟩ (.slice (some ⟨g2, 0, none⟩) (k + 1) c2)).heap[w.heap.size + 1]? = some (.cells #[.slice none 0 0, .int .i64 0] 34)) := box_other F1 ⟨w.heap.size + 1 + 1, 0, none⟩ _ (by show w.heap.size + 1 ≠ w.heap.size + 1 + 1; omega)
        have G2 : Hid ((w5.setCell ⟨w.heap.size + 1 + 1, 0, none⟩ (.slice (some ⟨g2, 0, none⟩) (k + 1) c2)).heap[w.heap.size + 1 + 1]? = some (.cells #[.slice (some ⟨g2, 0, none⟩) (k + 1) c2, .int .i64 nx] 34)) := box_set (i := 0) F2 (.slice (some ⟨g2, 0, none⟩) (k + 1) c2)
        have GO : Hid (OwnP (w5.setCell ⟨w.heap.size + 1 + 1, 0, none⟩ (.slice (some ⟨g2, 0, none⟩) (k + 1) c2)) (w.heap.size + 1 + 1 + 1) (some ⟨g2, 0, none⟩) (k + 1) c2 (ps.take (k + 1))) := hO2.same (fun q hq => Below.heap_setCell _ _ _ _ (by have := (hO2.lt q hq).1; show q ≠ w.heap.size + 1 + 1; omega))
        have hb6 : Below w.heap.size w (w5.setCell ⟨w.heap.size + 1 + 1, 0, none⟩ (.slice (some ⟨g2, 0, none⟩) (k + 1) c2)) := hb5.setCell (p := ⟨w.heap.size + 1 + 1, 0, none⟩) (by show w.heap.size ≤ w.heap.size + 1 + 1; omega) _
        have hs6 : w.heap.size + 1 + 1 + 1 ≤ (w5.setCell ⟨w.heap.size + 1 + 1, 0, none⟩ (.slice (some ⟨g2, 0, none⟩) (k + 1) c2)).heap.size := by simp [World.setCell]; omega
        clear hown hgr hO2 hne keep F0 F1 F2
        go_wp2
        go_roundw
        case rel => exact ⟨k + 1, some ⟨g2, 0, none⟩, c2, by omega, by go_num, G0, G1, G2, GO, hb6, hs6⟩
        case measure => simp [RowKit.intOf]; omega
    · have HK : Hid (k = n) := (by omega : k = n)
      have e0 := box_cell E1.out 0 _ rfl
      have e1 := box_cell E1.out 1 _ rfl
      have g0 := box_frozen E1.out 0
      have g1 := box_frozen E1.out 1
      go_wp2
      refine bodyPost_ret (v := .agg #[.slice A1 k c1, .int .i64 nx]) (by simp [results, Tryz.results140, go_sem, e0, e1]) rfl ?_
      have h1 := HO.out
      rw [List.take_of_length_le (by rw [HL.out, HK.out]; exact Nat.le_refl _)] at h1
      exact made_of hbr h1 (by omega) (S := fun q => q = w.heap.size + 1) (fun q hq => by omega) ((Turned.set (S := fun q => q = w.heap.size + 1) _ ⟨w.heap.size + 1, 0, none⟩ _ rfl).trans (Turned.set (S := fun q => q = w.heap.size + 1) _ ⟨w.heap.size + 1, 1, none⟩ _ rfl))
end Go.Proofs.YtklgjjmcflgjeaaGreat.FleetSpec
