/-
  THE PROGRAM'S AND THE MODEL'S EngineOk over this seat's translation.
-/
import Derived.Test.YtlghdmakaocokaaGreatDoorEngTy
import Derived.Test.YtlghdmakaocokaaGreatDoorFleetTop
import Derived.Test.YtlghdmakaocokaaGreatDoorFleetSpec
namespace Go.Proofs.YtlghdmakaocokaaGreatDoor.EngOk
open Go.ChangeShapes Go.WideShapes Go.ChangeAt Go.RowKit
open Go.Proofs.YtlghdmakaocokaaGreatDoor.LK Go.Proofs.YtlghdmakaocokaaGreatDoor.Pods Go.Proofs.YtlghdmakaocokaaGreatDoor.FleetV Go.Proofs.YtlghdmakaocokaaGreatDoor.EngV Go.Proofs.YtlghdmakaocokaaGreatDoor.Seg
open Go.Proofs.YtlghdmakaocokaaGreatDoor.Tick (inB tokB l01In_any specTickOk_any tickOk_any)
open Go.Proofs.YtlghdmakaocokaaGreatDoor.Crew (within_any revOk_any)
set_option linter.unusedVariables false
set_option linter.unusedSimpArgs false

theorem phaseOk_any (x : Int) (w : World) : Calls Tryz.prog 44 #[.int .i64 x] w fun e w' => e = .returned (.bool (inB x 0 3)) ∧ w = w' := by
  go_enter Tryz.func44, Tryz.ntmps44
  go_wp2_with (go_at_call 46; refine (within_any _ _ _ _).mono ?_; rintro e w' ⟨rfl, rfl⟩)
  go_ret
  exact ⟨rfl, rfl⟩

set_option maxRecDepth 100000 in
set_option maxHeartbeats 6400000 in
theorem engineOk_any (A : Option Addr) (n c : Nat) (d : Eng) (B : Nat) (w : World) (hr : IsPods w B A n d.ps) (hB : B ≤ w.heap.size) (hn : n ≤ 1048576) : Calls Tryz.prog 27 #[.agg (enL d A n c).toArray] w (Says (.bool d.okB) w) := by
  obtain ⟨R, hR⟩ : ∃ R, R = d.okB := ⟨_, rfl⟩
  rw [← hR]
  have HR := Lib.hid hR
  have HP := Lib.hid hr
  clear hR hr
  obtain ⟨V, hV⟩ : ∃ V, V = w.alloc (.cells (enL d A n c).toArray 42) := ⟨_, rfl⟩
  have HB : Hid (Below w.heap.size w V) := by rw [hV]; exact bel1 _ _
  have K : Hid (V.heap[w.heap.size]? = some (.cells (enL d A n c).toArray 42 (0, 0))) := by rw [hV]; exact box_new w _
  go_enter Tryz.func27, Tryz.ntmps27
  go_upto_region 1 with fail
  rw [← hV]
  clear hV
  go_wp2_with (refine wpList_get rfl 36 _ rfl w.heap.size 0 rfl K.out (spL d.sp) (enL_sp d A n c) Tryz.underlying36 rfl (by kernel_rfl) ?_)
  refine (Sp.specOk_any d.sp.x0 d.sp.x1 d.sp.x2 d.sp.x3 d.sp.x4 d.sp.x5 d.sp.x6 d.sp.x7 d.sp.x8 d.sp.x9 d.sp.x10 _).mono ?_
  rintro e w1 ⟨rfl, hb⟩
  have K1 := Lib.hid (box_below K.out hb)
  have HB1 := Lib.hid (bel_then HB.out hb HB.out.size)
  clear K HB hb

  have hs0 : Sp.specB d.sp.x0 d.sp.x1 d.sp.x2 d.sp.x3 d.sp.x4 d.sp.x5 d.sp.x6 d.sp.x7 d.sp.x8 d.sp.x9 d.sp.x10 = d.sp.ok := rfl
  rw [hs0]
  clear hs0
  cases h0 : d.sp.ok
  · have HF : Hid (R = false) := by show _ = _; rw [HR.out]; simp [Eng.okB, h0]
    clear h0
    try dsimp only
    go_step
    refine Fast.wpList_fast 2 (.bool false) (by kernel_rfl) ?_
    intro a1 h1 h2
    go_wp2
    exact bodyPost_ret (v := .bool false) (by simp [results, Tryz.results27, go_sem, h1]) h2 ⟨by rw [HF.out], HB1.out⟩
  have H0 := Lib.hid h0
  clear h0
  have c15 : w1.cell? ⟨w.heap.size, 15, none⟩ = some (.slice A n c) := box_cell K1.out 15 _ rfl
  have c16 : w1.cell? ⟨w.heap.size, 16, none⟩ = some (.int .i64 d.nx) := box_cell K1.out 16 _ rfl
  go_wp2_with fail
  refine (Crew.fleetOk_any A n c d.nx d.ps B _ (HP.out.below HB1.out hB) (Nat.le_trans hB HB1.out.size) hn).mono ?_
  rintro e w2 ⟨rfl, hb⟩
  have K2 := Lib.hid (box_below K1.out hb)
  have HB2 := Lib.hid (bel_then HB1.out hb HB1.out.size)
  clear K1 HB1 hb c15 c16
  generalize hg : decide (FGood d.ps d.nx) = g
  cases g
  · have HF : Hid (R = false) := by show _ = _; rw [HR.out]; simp [Eng.okB, of_decide_eq_false hg]
    clear hg
    try dsimp only
    go_step
    refine Fast.wpList_fast 2 (.bool false) (by kernel_rfl) ?_
    intro a1 h1 h2
    go_wp2
    exact bodyPost_ret (v := .bool false) (by simp [results, Tryz.results27, go_sem, h1]) h2 ⟨by rw [HF.out], HB2.out⟩
  have H1 := Lib.hid hg
  clear hg
  have c11 : w2.cell? ⟨w.heap.size, 11, none⟩ = some (.int .i64 d.now) := box_cell K2.out 11 _ rfl
  have c17 : w2.cell? ⟨w.heap.size, 17, none⟩ = some (.int .i64 d.st) := box_cell K2.out 17 _ rfl
  have c19 : w2.cell? ⟨w.heap.size, 19, none⟩ = some (.int .i64 d.wt) := box_cell K2.out 19 _ rfl
  have c12 : w2.cell? ⟨w.heap.size, 12, none⟩ = some (.int .i64 d.ph) := box_cell K2.out 12 _ rfl
  have c13 : w2.cell? ⟨w.heap.size, 13, none⟩ = some (.int .i64 d.tg) := box_cell K2.out 13 _ rfl
  have c14 : w2.cell? ⟨w.heap.size, 14, none⟩ = some (.int .i64 d.gd) := box_cell K2.out 14 _ rfl
  have c18 : w2.cell? ⟨w.heap.size, 18, none⟩ = some (.int .i64 d.tr) := box_cell K2.out 18 _ rfl
  go_wp2_with fail
  refine (tickOk_any _ _).mono ?_
  rintro e w' ⟨rfl, rfl⟩
  cases h2 : tokB d.now
  · have HF : Hid (R = false) := by show _ = _; rw [HR.out]; simp [Eng.okB, h2]
    clear h2 c11 c17 c19 c12 c13 c14 c18
    try dsimp only
    go_step
    refine Fast.wpList_fast 2 (.bool false) (by kernel_rfl) ?_
    intro a1 h1 h2
    go_wp2
    exact bodyPost_ret (v := .bool false) (by simp [results, Tryz.results27, go_sem, h1]) h2 ⟨by rw [HF.out], HB2.out⟩
  have H2 := Lib.hid h2
  clear h2
  go_wp2_with fail
  refine (tickOk_any _ _).mono ?_
  rintro e w' ⟨rfl, rfl⟩
  cases h3 : tokB d.st
  · have HF : Hid (R = false) := by show _ = _; rw [HR.out]; simp [Eng.okB, h3]
    clear h3 c11 c17 c19 c12 c13 c14 c18
    try dsimp only
    go_step
    refine Fast.wpList_fast 2 (.bool false) (by kernel_rfl) ?_
    intro a1 h1 h2
    go_wp2
    exact bodyPost_ret (v := .bool false) (by simp [results, Tryz.results27, go_sem, h1]) h2 ⟨by rw [HF.out], HB2.out⟩
  have H3 := Lib.hid h3
  clear h3
  go_wp2_with fail
  refine (tickOk_any _ _).mono ?_
  rintro e w' ⟨rfl, rfl⟩
  cases h4 : tokB d.wt
  · have HF : Hid (R = false) := by show _ = _; rw [HR.out]; simp [Eng.okB, h4]
    clear h4 c11 c17 c19 c12 c13 c14 c18
    try dsimp only
    go_step
    refine Fast.wpList_fast 2 (.bool false) (by kernel_rfl) ?_
    intro a1 h1 h2
    go_wp2
    exact bodyPost_ret (v := .bool false) (by simp [results, Tryz.results27, go_sem, h1]) h2 ⟨by rw [HF.out], HB2.out⟩
  have H4 := Lib.hid h4
  clear h4
  go_wp2_with fail
  refine (phaseOk_any _ _).mono ?_
  rintro e w' ⟨rfl, rfl⟩
  cases h5 : inB d.ph 0 3
  · have HF : Hid (R = false) := by show _ = _; rw [HR.out]; simp [Eng.okB, h5]
    clear h5 c11 c17 c19 c12 c13 c14 c18
    try dsimp only
    go_step
    refine Fast.wpList_fast 2 (.bool false) (by kernel_rfl) ?_
    intro a1 h1 h2
    go_wp2
    exact bodyPost_ret (v := .bool false) (by simp [results, Tryz.results27, go_sem, h1]) h2 ⟨by rw [HF.out], HB2.out⟩
  have H5 := Lib.hid h5
  clear h5
  go_wp2_with fail
  refine (revOk_any _ _).mono ?_
  rintro e w' ⟨rfl, rfl⟩
  cases h6 : inB d.tg 1 1000
  · have HF : Hid (R = false) := by show _ = _; rw [HR.out]; simp [Eng.okB, h6]
    clear h6 c11 c17 c19 c12 c13 c14 c18
    try dsimp only
    go_step
    refine Fast.wpList_fast 2 (.bool false) (by kernel_rfl) ?_
    intro a1 h1 h2
    go_wp2
    exact bodyPost_ret (v := .bool false) (by simp [results, Tryz.results27, go_sem, h1]) h2 ⟨by rw [HF.out], HB2.out⟩
  have H6 := Lib.hid h6
  clear h6
  go_wp2_with fail
  refine (revOk_any _ _).mono ?_
  rintro e w' ⟨rfl, rfl⟩
  cases h7 : inB d.gd 1 1000
  · have HF : Hid (R = false) := by show _ = _; rw [HR.out]; simp [Eng.okB, h7]
    clear h7 c11 c17 c19 c12 c13 c14 c18
    try dsimp only
    go_step
    refine Fast.wpList_fast 2 (.bool false) (by kernel_rfl) ?_
    intro a1 h1 h2
    go_wp2
    exact bodyPost_ret (v := .bool false) (by simp [results, Tryz.results27, go_sem, h1]) h2 ⟨by rw [HF.out], HB2.out⟩
  have H7 := Lib.hid h7
  clear h7
  go_wp2_with fail
  refine (within_any _ _ _ _).mono ?_
  rintro e w' ⟨rfl, rfl⟩
  have HF : Hid (R = inB d.tr 0 200) := by show _ = _; rw [HR.out]; simp [Eng.okB, H0.out, of_decide_eq_true H1.out, H2.out, H3.out, H4.out, H5.out, H6.out, H7.out]
  go_wp2
  go_ret
  exact ⟨by rw [HF.out]; rfl, HB2.out⟩
set_option maxRecDepth 100000 in
set_option maxHeartbeats 6400000 in
theorem specEngineOk_any (A : Option Addr) (n c : Nat) (d : Eng) (B : Nat) (w : World) (hr : IsPods w B A n d.ps) (hB : B ≤ w.heap.size) (hn : n ≤ 1048576) : Calls Tryz.prog 22 #[.agg (enL d A n c).toArray] w (Says (.bool d.okB) w) := by
  obtain ⟨R, hR⟩ : ∃ R, R = d.okB := ⟨_, rfl⟩
  rw [← hR]
  have HR := Lib.hid hR
  have HP := Lib.hid hr
  clear hR hr
  obtain ⟨V, hV⟩ : ∃ V, V = w.alloc (.cells (enL d A n c).toArray 42) := ⟨_, rfl⟩
  have HB : Hid (Below w.heap.size w V) := by rw [hV]; exact bel1 _ _
  have K : Hid (V.heap[w.heap.size]? = some (.cells (enL d A n c).toArray 42 (0, 0))) := by rw [hV]; exact box_new w _
  go_enter Tryz.func22, Tryz.ntmps22
  go_upto_region 1 with fail
  rw [← hV]
  clear hV
  go_wp2_with (refine wpList_get rfl 36 _ rfl w.heap.size 0 rfl K.out (spL d.sp) (enL_sp d A n c) Tryz.underlying36 rfl (by kernel_rfl) ?_)
  refine (Sp.specSpecOk_any d.sp.x0 d.sp.x1 d.sp.x2 d.sp.x3 d.sp.x4 d.sp.x5 d.sp.x6 d.sp.x7 d.sp.x8 d.sp.x9 d.sp.x10 _).mono ?_
  rintro e w1 ⟨rfl, hb⟩
  have K1 := Lib.hid (box_below K.out hb)
  have HB1 := Lib.hid (bel_then HB.out hb HB.out.size)
  clear K HB hb

  have hs0 : Sp.specB d.sp.x0 d.sp.x1 d.sp.x2 d.sp.x3 d.sp.x4 d.sp.x5 d.sp.x6 d.sp.x7 d.sp.x8 d.sp.x9 d.sp.x10 = d.sp.ok := rfl
  rw [hs0]
  clear hs0
  cases h0 : d.sp.ok
  · have HF : Hid (R = false) := by show _ = _; rw [HR.out]; simp [Eng.okB, h0]
    clear h0
    try dsimp only
    go_step
    refine Fast.wpList_fast 2 (.bool false) (by kernel_rfl) ?_
    intro a1 h1 h2
    go_wp2
    exact bodyPost_ret (v := .bool false) (by simp [results, Tryz.results22, go_sem, h1]) h2 ⟨by rw [HF.out], HB1.out⟩
  have H0 := Lib.hid h0
  clear h0
  have c15 : w1.cell? ⟨w.heap.size, 15, none⟩ = some (.slice A n c) := box_cell K1.out 15 _ rfl
  have c16 : w1.cell? ⟨w.heap.size, 16, none⟩ = some (.int .i64 d.nx) := box_cell K1.out 16 _ rfl
  go_wp2_with fail
  refine (FleetSpec.specFleetOk_any A n c d.nx d.ps B _ (HP.out.below HB1.out hB) (Nat.le_trans hB HB1.out.size) hn).mono ?_
  rintro e w2 ⟨rfl, hb⟩
  have K2 := Lib.hid (box_below K1.out hb)
  have HB2 := Lib.hid (bel_then HB1.out hb HB1.out.size)
  clear K1 HB1 hb c15 c16
  generalize hg : decide (FGood d.ps d.nx) = g
  cases g
  · have HF : Hid (R = false) := by show _ = _; rw [HR.out]; simp [Eng.okB, of_decide_eq_false hg]
    clear hg
    try dsimp only
    go_step
    refine Fast.wpList_fast 2 (.bool false) (by kernel_rfl) ?_
    intro a1 h1 h2
    go_wp2
    exact bodyPost_ret (v := .bool false) (by simp [results, Tryz.results22, go_sem, h1]) h2 ⟨by rw [HF.out], HB2.out⟩
  have H1 := Lib.hid hg
  clear hg
  have c11 : w2.cell? ⟨w.heap.size, 11, none⟩ = some (.int .i64 d.now) := box_cell K2.out 11 _ rfl
  have c17 : w2.cell? ⟨w.heap.size, 17, none⟩ = some (.int .i64 d.st) := box_cell K2.out 17 _ rfl
  have c19 : w2.cell? ⟨w.heap.size, 19, none⟩ = some (.int .i64 d.wt) := box_cell K2.out 19 _ rfl
  have c12 : w2.cell? ⟨w.heap.size, 12, none⟩ = some (.int .i64 d.ph) := box_cell K2.out 12 _ rfl
  have c13 : w2.cell? ⟨w.heap.size, 13, none⟩ = some (.int .i64 d.tg) := box_cell K2.out 13 _ rfl
  have c14 : w2.cell? ⟨w.heap.size, 14, none⟩ = some (.int .i64 d.gd) := box_cell K2.out 14 _ rfl
  have c18 : w2.cell? ⟨w.heap.size, 18, none⟩ = some (.int .i64 d.tr) := box_cell K2.out 18 _ rfl
  go_wp2_with fail
  refine (specTickOk_any _ _).mono ?_
  rintro e w' ⟨rfl, rfl⟩
  cases h2 : tokB d.now
  · have HF : Hid (R = false) := by show _ = _; rw [HR.out]; simp [Eng.okB, h2]
    clear h2 c11 c17 c19 c12 c13 c14 c18
    try dsimp only
    go_step
    refine Fast.wpList_fast 2 (.bool false) (by kernel_rfl) ?_
    intro a1 h1 h2
    go_wp2
    exact bodyPost_ret (v := .bool false) (by simp [results, Tryz.results22, go_sem, h1]) h2 ⟨by rw [HF.out], HB2.out⟩
  have H2 := Lib.hid h2
  clear h2
  go_wp2_with fail
  refine (specTickOk_any _ _).mono ?_
  rintro e w' ⟨rfl, rfl⟩
  cases h3 : tokB d.st
  · have HF : Hid (R = false) := by show _ = _; rw [HR.out]; simp [Eng.okB, h3]
    clear h3 c11 c17 c19 c12 c13 c14 c18
    try dsimp only
    go_step
    refine Fast.wpList_fast 2 (.bool false) (by kernel_rfl) ?_
    intro a1 h1 h2
    go_wp2
    exact bodyPost_ret (v := .bool false) (by simp [results, Tryz.results22, go_sem, h1]) h2 ⟨by rw [HF.out], HB2.out⟩
  have H3 := Lib.hid h3
  clear h3
  go_wp2_with fail
  refine (specTickOk_any _ _).mono ?_
  rintro e w' ⟨rfl, rfl⟩
  cases h4 : tokB d.wt
  · have HF : Hid (R = false) := by show _ = _; rw [HR.out]; simp [Eng.okB, h4]
    clear h4 c11 c17 c19 c12 c13 c14 c18
    try dsimp only
    go_step
    refine Fast.wpList_fast 2 (.bool false) (by kernel_rfl) ?_
    intro a1 h1 h2
    go_wp2
    exact bodyPost_ret (v := .bool false) (by simp [results, Tryz.results22, go_sem, h1]) h2 ⟨by rw [HF.out], HB2.out⟩
  have H4 := Lib.hid h4
  clear h4
  go_wp2_with fail
  refine (l01In_any _ _ _ _).mono ?_
  rintro e w' ⟨rfl, rfl⟩
  cases h5 : inB d.ph 0 3
  · have HF : Hid (R = false) := by show _ = _; rw [HR.out]; simp [Eng.okB, h5]
    clear h5 c11 c17 c19 c12 c13 c14 c18
    try dsimp only
    go_step
    refine Fast.wpList_fast 2 (.bool false) (by kernel_rfl) ?_
    intro a1 h1 h2
    go_wp2
    exact bodyPost_ret (v := .bool false) (by simp [results, Tryz.results22, go_sem, h1]) h2 ⟨by rw [HF.out], HB2.out⟩
  have H5 := Lib.hid h5
  clear h5
  go_wp2_with fail
  refine (l01In_any _ _ _ _).mono ?_
  rintro e w' ⟨rfl, rfl⟩
  cases h6 : inB d.tg 1 1000
  · have HF : Hid (R = false) := by show _ = _; rw [HR.out]; simp [Eng.okB, h6]
    clear h6 c11 c17 c19 c12 c13 c14 c18
    try dsimp only
    go_step
    refine Fast.wpList_fast 2 (.bool false) (by kernel_rfl) ?_
    intro a1 h1 h2
    go_wp2
    exact bodyPost_ret (v := .bool false) (by simp [results, Tryz.results22, go_sem, h1]) h2 ⟨by rw [HF.out], HB2.out⟩
  have H6 := Lib.hid h6
  clear h6
  go_wp2_with fail
  refine (l01In_any _ _ _ _).mono ?_
  rintro e w' ⟨rfl, rfl⟩
  cases h7 : inB d.gd 1 1000
  · have HF : Hid (R = false) := by show _ = _; rw [HR.out]; simp [Eng.okB, h7]
    clear h7 c11 c17 c19 c12 c13 c14 c18
    try dsimp only
    go_step
    refine Fast.wpList_fast 2 (.bool false) (by kernel_rfl) ?_
    intro a1 h1 h2
    go_wp2
    exact bodyPost_ret (v := .bool false) (by simp [results, Tryz.results22, go_sem, h1]) h2 ⟨by rw [HF.out], HB2.out⟩
  have H7 := Lib.hid h7
  clear h7
  go_wp2_with fail
  refine (l01In_any _ _ _ _).mono ?_
  rintro e w' ⟨rfl, rfl⟩
  have HF : Hid (R = inB d.tr 0 200) := by show _ = _; rw [HR.out]; simp [Eng.okB, H0.out, of_decide_eq_true H1.out, H2.out, H3.out, H4.out, H5.out, H6.out, H7.out]
  go_wp2
  go_ret
  exact ⟨by rw [HF.out]; rfl, HB2.out⟩
end Go.Proofs.YtlghdmakaocokaaGreatDoor.EngOk
