import Derived.Deep.RegionHeld3
import Derived.Laws.Rows
import Derived.Test.YtklgjjmcflgjeaaGreatQ
import Derived.Test.YtklgjjmcflgjeaaGreatR03
import Derived.Test.YtklgjjmcflgjeaaGreatR07
import Derived.Test.YtklgjjmcflgjeaaGreatR13
import Derived.Test.YtklgjjmcflgjeaaGreatR14
import Derived.Test.YtklgjjmcflgjeaaGreatR16
import Derived.Test.YtklgjjmcflgjeaaGreatR21
set_option linter.unusedVariables false
set_option linter.unusedSimpArgs false
namespace Go.Proofs.YtklgjjmcflgjeaaGreat.Cnt
open Go.ChangeShapes Go.WideShapes Go.ChangeAt Go.RowKit
open LK Sp Put
def overI (x0 fl fa ol go : Int) : Bool := decide (fl = x0) && decide (fa = x0) && decide (ol = 0) && decide (go = 0)
set_option maxRecDepth 100000 in
set_option maxHeartbeats 6400000 in
theorem PlanOver_any (x0 x1 x2 x3 x4 x5 x6 x7 x8 x9 x10 fl fa ol oa go : Int) (w : World) : Calls Tryz.prog 257 #[.agg #[.int .i64 x0, .int .i64 x1, .int .i64 x2, .int .i64 x3, .int .i64 x4, .int .i64 x5, .int .i64 x6, .int .i64 x7, .int .i64 x8, .int .i64 x9, .int .i64 x10], .agg #[.int .i64 fl, .int .i64 fa], .agg #[.int .i64 ol, .int .i64 oa], .int .i64 go] w (Says (.bool (overI x0 fl fa ol go)) w) := by
  obtain ⟨R, hR⟩ : ∃ R, R = overI x0 fl fa ol go := ⟨_, rfl⟩
  rw [← hR]
  have HR := Lib.hid hR
  clear hR
  obtain ⟨V, hV⟩ : ∃ V, V = ((w.alloc (.cells #[.int .i64 x0, .int .i64 x1, .int .i64 x2, .int .i64 x3, .int .i64 x4, .int .i64 x5, .int .i64 x6, .int .i64 x7, .int .i64 x8, .int .i64 x9, .int .i64 x10] 25)).alloc (.cells #[.int .i64 fl, .int .i64 fa] 231)).alloc (.cells #[.int .i64 ol, .int .i64 oa] 231) := ⟨_, rfl⟩
  have HB : Hid (Below w.heap.size w V) := by show Below _ _ _; rw [hV]; exact bel3 _ _ _ _
  have KS : Hid (V.heap[w.heap.size]? = some (.cells #[.int .i64 x0, .int .i64 x1, .int .i64 x2, .int .i64 x3, .int .i64 x4, .int .i64 x5, .int .i64 x6, .int .i64 x7, .int .i64 x8, .int .i64 x9, .int .i64 x10] 25)) := by have h := box_alloc (box_alloc (box_new w (.cells #[.int .i64 x0, .int .i64 x1, .int .i64 x2, .int .i64 x3, .int .i64 x4, .int .i64 x5, .int .i64 x6, .int .i64 x7, .int .i64 x8, .int .i64 x9, .int .i64 x10] 25)) (.cells #[.int .i64 fl, .int .i64 fa] 231)) (.cells #[.int .i64 ol, .int .i64 oa] 231); rw [hV]; exact h
  have KF : Hid (V.heap[w.heap.size + 1]? = some (.cells #[.int .i64 fl, .int .i64 fa] 231)) := by have h := box_alloc (box_new (w.alloc (.cells #[.int .i64 x0, .int .i64 x1, .int .i64 x2, .int .i64 x3, .int .i64 x4, .int .i64 x5, .int .i64 x6, .int .i64 x7, .int .i64 x8, .int .i64 x9, .int .i64 x10] 25)) (.cells #[.int .i64 fl, .int .i64 fa] 231)) (.cells #[.int .i64 ol, .int .i64 oa] 231); (try simp only [World.size_alloc] at h); rw [hV]; exact h
  have KO : Hid (V.heap[w.heap.size + 1 + 1]? = some (.cells #[.int .i64 ol, .int .i64 oa] 231)) := by have h := box_new ((w.alloc (.cells #[.int .i64 x0, .int .i64 x1, .int .i64 x2, .int .i64 x3, .int .i64 x4, .int .i64 x5, .int .i64 x6, .int .i64 x7, .int .i64 x8, .int .i64 x9, .int .i64 x10] 25)).alloc (.cells #[.int .i64 fl, .int .i64 fa] 231)) (.cells #[.int .i64 ol, .int .i64 oa] 231); (try simp only [World.size_alloc] at h); rw [hV]; exact h
  go_enter Tryz.func257, Tryz.ntmps257
  go_wp2_with fail
  rw [← hV]
  clear hV
  have c0 := box_cell KS.out 0 _ rfl
  have f0 := box_cell KF.out 0 _ rfl
  have f1 := box_cell KF.out 1 _ rfl
  have g0 := box_cell KO.out 0 _ rfl
  have HA : Hid (∀ W : World, Calls Tryz.prog 274 #[.int .i64 x0] W (Says (.agg #[.int .i64 x0, .int .i64 x0]) W)) := fun W => allUp_any x0 W
  by_cases h1 : x0 = fl
  case neg =>
    have h1' : ¬ fl = x0 := fun h => h1 h.symm
    clear h1
    have HV : Hid (R = false) := by show _ = _; rw [HR.out]; simp [overI, h1']
    refine wp_region_held_drew (S := (fun w' => w'.cell? ⟨w.heap.size, 0, none⟩ = some (.int .i64 x0) ∧ w'.cell? ⟨w.heap.size + 1, 0, none⟩ = some (.int .i64 fl) ∧ w'.cell? ⟨w.heap.size + 1, 1, none⟩ = some (.int .i64 fa) ∧ w'.cell? ⟨w.heap.size + 1 + 1, 0, none⟩ = some (.int .i64 ol))) (by kernel_rfl) ⟨c0, f0, f1, g0⟩ (fun hHeld => ?_)
    refine tkk (i := 0) rfl ?_
    try simp only [Act.put, pj]
    refine tkk (i := 1) rfl ?_
    try simp only [Act.put, pj]
    refine tkk (i := 2) rfl ?_
    try simp only [Act.put, pj]
    refine wpAnyH_ready (rs := [3]) (by kernel_rfl) (by simp) (AllReadyH.cons rfl (fun K hK => ?_) AllReadyH.nil)
    go_simp
    refine (HA.out _).mono ?_
    rintro e w1 ⟨rfl, hb⟩
    have hb3 : Below V.heap.size V w1 := undrew hb
    clear hHeld
    refine hK _ _ (by exact ⟨cell_keep hb3 c0, cell_keep hb3 f0, cell_keep hb3 f1, cell_keep hb3 g0⟩) (fun hHeld => ?_)
    clear hK K
    try simp only [Act.put, pj]
    refine tkk (i := 4) rfl ?_
    try simp only [Act.put, pj]
    refine tkk (i := 5) rfl ?_
    try simp only [Act.put, pj]
    refine tkj (i := 6) (v := undef) rfl (Or.inr ⟨by rfl, rfl⟩) ?_
    try simp only [Act.put, pj]
    refine tkj (i := 7) (v := undef) rfl (Or.inr ⟨by rfl, rfl⟩) ?_
    try simp only [Act.put, pj]
    refine tkj (i := 8) (v := undef) rfl (Or.inr ⟨by rfl, rfl⟩) ?_
    try simp only [Act.put, pj]
    refine tkk (i := 9) rfl ?_
    try simp only [Act.put, pj]
    refine tkk (i := 10) rfl ?_
    try simp only [Act.put, pj]
    refine tkj (i := 11) (v := undef) rfl (Or.inr ⟨by rfl, rfl⟩) ?_
    try simp only [Act.put, pj]
    refine tkj (i := 12) (v := undef) rfl (Or.inr ⟨by rfl, rfl⟩) ?_
    try simp only [Act.put, pj]
    refine tkk (i := 13) rfl ?_
    try simp only [Act.put, pj]
    refine tkk (i := 14) rfl ?_
    try simp only [Act.put, pj]
    refine wpAnyH_done (by kernel_rfl) ?_ _
    have HB2 := Lib.hid (bel_then HB.out hb3 HB.out.size)
    clear hb hb3 hHeld
    go_wp2
    go_ret
    exact ⟨by rw [HV.out]; rfl, HB2.out⟩
  subst h1
  by_cases h1 : x0 = fa
  case neg =>
    have h1' : ¬ fa = x0 := fun h => h1 h.symm
    clear h1
    have HV : Hid (R = false) := by show _ = _; rw [HR.out]; simp [overI, h1']
    refine wp_region_held_drew (S := (fun w' => w'.cell? ⟨w.heap.size, 0, none⟩ = some (.int .i64 x0) ∧ w'.cell? ⟨w.heap.size + 1, 0, none⟩ = some (.int .i64 x0) ∧ w'.cell? ⟨w.heap.size + 1, 1, none⟩ = some (.int .i64 fa) ∧ w'.cell? ⟨w.heap.size + 1 + 1, 0, none⟩ = some (.int .i64 ol))) (by kernel_rfl) ⟨c0, f0, f1, g0⟩ (fun hHeld => ?_)
    refine tkk (i := 0) rfl ?_
    try simp only [Act.put, pj]
    refine tkk (i := 1) rfl ?_
    try simp only [Act.put, pj]
    refine tkk (i := 2) rfl ?_
    try simp only [Act.put, pj]
    refine wpAnyH_ready (rs := [3]) (by kernel_rfl) (by simp) (AllReadyH.cons rfl (fun K hK => ?_) AllReadyH.nil)
    go_simp
    refine (HA.out _).mono ?_
    rintro e w1 ⟨rfl, hb⟩
    have hb3 : Below V.heap.size V w1 := undrew hb
    clear hHeld
    refine hK _ _ (by exact ⟨cell_keep hb3 c0, cell_keep hb3 f0, cell_keep hb3 f1, cell_keep hb3 g0⟩) (fun hHeld => ?_)
    clear hK K
    try simp only [Act.put, pj]
    refine tkk (i := 4) rfl ?_
    try simp only [Act.put, pj]
    refine tkk (i := 5) rfl ?_
    try simp only [Act.put, pj]
    refine tkj (i := 6) (v := undef) rfl (Or.inr ⟨by rfl, rfl⟩) ?_
    try simp only [Act.put, pj]
    refine tkj (i := 7) (v := undef) rfl (Or.inr ⟨by rfl, rfl⟩) ?_
    try simp only [Act.put, pj]
    refine tkj (i := 8) (v := undef) rfl (Or.inr ⟨by rfl, rfl⟩) ?_
    try simp only [Act.put, pj]
    refine tkk (i := 9) rfl ?_
    try simp only [Act.put, pj]
    refine tkk (i := 10) rfl ?_
    try simp only [Act.put, pj]
    refine tkj (i := 11) (v := undef) rfl (Or.inr ⟨by rfl, rfl⟩) ?_
    try simp only [Act.put, pj]
    refine tkj (i := 12) (v := undef) rfl (Or.inr ⟨by rfl, rfl⟩) ?_
    try simp only [Act.put, pj]
    refine tkk (i := 13) rfl ?_
    try simp only [Act.put, pj]
    refine tkk (i := 14) rfl ?_
    try simp only [Act.put, pj]
    refine wpAnyH_done (by kernel_rfl) ?_ _
    have HB2 := Lib.hid (bel_then HB.out hb3 HB.out.size)
    clear hb hb3 hHeld
    go_wp2
    go_ret
    exact ⟨by rw [HV.out]; rfl, HB2.out⟩
  subst h1
  by_cases h2 : ol = 0
  case neg =>
    have HV : Hid (R = false) := by show _ = _; rw [HR.out]; simp [overI, h2]
    have hd : decide (ol = 0) = false := by simp [h2]
    have hd2 : (ol == 0) = false := by simp [h2]
    refine wp_region_held_drew (S := (fun w' => w'.cell? ⟨w.heap.size, 0, none⟩ = some (.int .i64 x0) ∧ w'.cell? ⟨w.heap.size + 1, 0, none⟩ = some (.int .i64 x0) ∧ w'.cell? ⟨w.heap.size + 1, 1, none⟩ = some (.int .i64 x0) ∧ w'.cell? ⟨w.heap.size + 1 + 1, 0, none⟩ = some (.int .i64 ol))) (by kernel_rfl) ⟨c0, f0, f1, g0⟩ (fun hHeld => ?_)
    refine tkk (i := 0) rfl ?_
    try simp only [Act.put, pj]
    refine tkk (i := 1) rfl ?_
    try simp only [Act.put, pj]
    refine tkk (i := 2) rfl ?_
    try simp only [Act.put, pj]
    refine wpAnyH_ready (rs := [3]) (by kernel_rfl) (by simp) (AllReadyH.cons rfl (fun K hK => ?_) AllReadyH.nil)
    go_simp
    refine (HA.out _).mono ?_
    rintro e w1 ⟨rfl, hb⟩
    have hb3 : Below V.heap.size V w1 := undrew hb
    clear hHeld
    refine hK _ _ (by exact ⟨cell_keep hb3 c0, cell_keep hb3 f0, cell_keep hb3 f1, cell_keep hb3 g0⟩) (fun hHeld => ?_)
    clear hK K
    try simp only [Act.put, pj]
    refine tkk (i := 4) rfl ?_
    try simp only [Act.put, pj]
    refine tkk (i := 5) rfl ?_
    try simp only [Act.put, pj]
    refine tkk (i := 6) rfl ?_
    try simp only [Act.put, pj]
    refine tkk (i := 7) rfl ?_
    try simp only [Act.put, pj]
    refine tkk (i := 8) rfl ?_
    try simp only [Act.put, pj]
    refine tkk (i := 9) rfl ?_
    try simp only [Act.put, pj]
    refine tkk (i := 10) rfl ?_
    try simp only [Act.put, pj]
    refine tkj (i := 11) (v := undef) rfl (Or.inr ⟨by rfl, rfl⟩) ?_
    try simp only [Act.put, pj]
    refine tkj (i := 12) (v := undef) rfl (Or.inr ⟨by rfl, rfl⟩) ?_
    try simp only [Act.put, pj]
    refine tkk (i := 13) rfl ?_
    try simp only [Act.put, pj]
    refine tkk (i := 14) rfl ?_
    try simp only [Act.put, pj]
    refine wpAnyH_done (by kernel_rfl) ?_ _
    have HB2 := Lib.hid (bel_then HB.out hb3 HB.out.size)
    clear hb hb3 hHeld
    go_wp2
    go_ret
    exact ⟨by rw [HV.out]; rfl, HB2.out⟩
  subst h2
  have HV : Hid (R = decide (go = 0)) := by show _ = _; rw [HR.out]; simp [overI]
  by_cases h3 : go = 0
  case pos =>
    have hd : decide (go = 0) = true := by simp [h3]
    have HV : Hid (R = true) := by show _ = _; rw [HV.out, hd]
    have hd2 : (go == 0) = true := by simp [h3]
    refine wp_region_held_drew (S := (fun w' => w'.cell? ⟨w.heap.size, 0, none⟩ = some (.int .i64 x0) ∧ w'.cell? ⟨w.heap.size + 1, 0, none⟩ = some (.int .i64 x0) ∧ w'.cell? ⟨w.heap.size + 1, 1, none⟩ = some (.int .i64 x0) ∧ w'.cell? ⟨w.heap.size + 1 + 1, 0, none⟩ = some (.int .i64 0))) (by kernel_rfl) ⟨c0, f0, f1, g0⟩ (fun hHeld => ?_)
    refine tkk (i := 0) rfl ?_
    try simp only [Act.put, pj]
    refine tkk (i := 1) rfl ?_
    try simp only [Act.put, pj]
    refine tkk (i := 2) rfl ?_
    try simp only [Act.put, pj]
    refine wpAnyH_ready (rs := [3]) (by kernel_rfl) (by simp) (AllReadyH.cons rfl (fun K hK => ?_) AllReadyH.nil)
    go_simp
    refine (HA.out _).mono ?_
    rintro e w1 ⟨rfl, hb⟩
    have hb3 : Below V.heap.size V w1 := undrew hb
    clear hHeld
    refine hK _ _ (by exact ⟨cell_keep hb3 c0, cell_keep hb3 f0, cell_keep hb3 f1, cell_keep hb3 g0⟩) (fun hHeld => ?_)
    clear hK K
    try simp only [Act.put, pj]
    refine tkk (i := 4) rfl ?_
    try simp only [Act.put, pj]
    refine tkk (i := 5) rfl ?_
    try simp only [Act.put, pj]
    refine tkk (i := 6) rfl ?_
    try simp only [Act.put, pj]
    refine tkk (i := 7) rfl ?_
    try simp only [Act.put, pj]
    refine tkk (i := 8) rfl ?_
    try simp only [Act.put, pj]
    refine tkk (i := 9) rfl ?_
    try simp only [Act.put, pj]
    refine tkk (i := 10) rfl ?_
    try simp only [Act.put, pj]
    refine tkk (i := 11) rfl ?_
    try simp only [Act.put, pj]
    refine tkk (i := 12) rfl ?_
    try simp only [Act.put, pj]
    refine tkk (i := 13) rfl ?_
    try simp only [Act.put, pj]
    refine tkk (i := 14) rfl ?_
    try simp only [Act.put, pj]
    refine wpAnyH_done (by kernel_rfl) ?_ _
    have HB2 := Lib.hid (bel_then HB.out hb3 HB.out.size)
    clear hb hb3 hHeld
    go_wp2
    go_ret
    exact ⟨by rw [HV.out]; rfl, HB2.out⟩
  case neg =>
    have hd : decide (go = 0) = false := by simp [h3]
    have HV : Hid (R = false) := by show _ = _; rw [HV.out, hd]
    have hd2 : (go == 0) = false := by simp [h3]
    refine wp_region_held_drew (S := (fun w' => w'.cell? ⟨w.heap.size, 0, none⟩ = some (.int .i64 x0) ∧ w'.cell? ⟨w.heap.size + 1, 0, none⟩ = some (.int .i64 x0) ∧ w'.cell? ⟨w.heap.size + 1, 1, none⟩ = some (.int .i64 x0) ∧ w'.cell? ⟨w.heap.size + 1 + 1, 0, none⟩ = some (.int .i64 0))) (by kernel_rfl) ⟨c0, f0, f1, g0⟩ (fun hHeld => ?_)
    refine tkk (i := 0) rfl ?_
    try simp only [Act.put, pj]
    refine tkk (i := 1) rfl ?_
    try simp only [Act.put, pj]
    refine tkk (i := 2) rfl ?_
    try simp only [Act.put, pj]
    refine wpAnyH_ready (rs := [3]) (by kernel_rfl) (by simp) (AllReadyH.cons rfl (fun K hK => ?_) AllReadyH.nil)
    go_simp
    refine (HA.out _).mono ?_
    rintro e w1 ⟨rfl, hb⟩
    have hb3 : Below V.heap.size V w1 := undrew hb
    clear hHeld
    refine hK _ _ (by exact ⟨cell_keep hb3 c0, cell_keep hb3 f0, cell_keep hb3 f1, cell_keep hb3 g0⟩) (fun hHeld => ?_)
    clear hK K
    try simp only [Act.put, pj]
    refine tkk (i := 4) rfl ?_
    try simp only [Act.put, pj]
    refine tkk (i := 5) rfl ?_
    try simp only [Act.put, pj]
    refine tkk (i := 6) rfl ?_
    try simp only [Act.put, pj]
    refine tkk (i := 7) rfl ?_
    try simp only [Act.put, pj]
    refine tkk (i := 8) rfl ?_
    try simp only [Act.put, pj]
    refine tkk (i := 9) rfl ?_
    try simp only [Act.put, pj]
    refine tkk (i := 10) rfl ?_
    try simp only [Act.put, pj]
    refine tkk (i := 11) rfl ?_
    try simp only [Act.put, pj]
    refine tkk (i := 12) rfl ?_
    try simp only [Act.put, pj]
    refine tkk (i := 13) rfl ?_
    try simp only [Act.put, pj]
    refine tkk (i := 14) rfl ?_
    try simp only [Act.put, pj]
    refine wpAnyH_done (by kernel_rfl) ?_ _
    have HB2 := Lib.hid (bel_then HB.out hb3 HB.out.size)
    clear hb hb3 hHeld
    go_wp2
    go_ret
    exact ⟨by rw [HV.out]; rfl, HB2.out⟩
end Go.Proofs.YtklgjjmcflgjeaaGreat.Cnt
namespace Go.Proofs.YtklgjjmcflgjeaaGreat.Mach
open Go.ChangeShapes Go.WideShapes Go.ChangeAt Go.RowKit
open LK Pods EngV EngCnt Eng Seg
theorem maL_en (lk ot : Int) (r : Run) (A : Option Addr) (n c : Nat) (E : Option Addr) (m k : Nat) : ((maL lk ot r A n c E m k).drop 2).take (enL { r.e with tr := ot } A n c).length = enL { r.e with tr := ot } A n c := rfl
def cntV (e : Eng) (oth : Bool) : List Value := [.int .i64 (live e oth : Int), .int .i64 (good e oth : Int)]
theorem countT_ok {e : Eng} (h : e.okB = true) (oth : Bool) : CountP.countT e.sp.x0 e.sp.x1 e.sp.x2 e.sp.x3 e.sp.x4 e.sp.x5 e.sp.x6 e.sp.x7 e.sp.x8 e.sp.x9 e.sp.x10 oth e.tg e.now (e.ps, e.nx) = .tuple #[.agg (cntV e oth).toArray, .bool true] := by
  simp only [CountP.countT]
  rw [if_pos (cab_ok h)]
  rfl
set_option maxRecDepth 100000 in
set_option maxHeartbeats 12800000 in
theorem counts_any (w : World) (S : Nat → Prop) (b : Nat) (lk ot : Int) (r : Run) (h : Mach w S b lk ot r) (hok : r.e.okB = true) :
    Calls Tryz.prog 254 #[.pointer (some ⟨b, 0, none⟩)] w (Says (.tuple #[.agg (cntV r.e false).toArray, .agg (cntV r.e true).toArray, .int .i64 (going r.e : Int)]) w) := by
  obtain ⟨A, n, c, E, m, k, h⟩ := h
  have hn : n ≤ 1048576 := by have := h.ps.1; have := (okB_t hok).2.1.1; omega
  have HP : Hid (IsPods w w.heap.size A n r.e.ps) := h.ps.podsAll
  have hbw : b < w.heap.size := h.lt
  have HOK := Lib.hid hok
  clear hok
  obtain ⟨f1, hf1⟩ : ∃ x : Int, x = (live r.e false : Int) := ⟨_, rfl⟩
  obtain ⟨f2, hf2⟩ : ∃ x : Int, x = (good r.e false : Int) := ⟨_, rfl⟩
  obtain ⟨o1, ho1⟩ : ∃ x : Int, x = (live r.e true : Int) := ⟨_, rfl⟩
  obtain ⟨o2, ho2⟩ : ∃ x : Int, x = (good r.e true : Int) := ⟨_, rfl⟩
  obtain ⟨gg, hgg⟩ : ∃ x : Int, x = (going r.e : Int) := ⟨_, rfl⟩
  have T0 := Lib.hid (countT_ok HOK.out false)
  have T1 := Lib.hid (countT_ok HOK.out true)
  have TG := Lib.hid (EngCnt.going_eq (EngCnt.okB_t HOK.out).2.1)
  simp only [cntV] at T0 T1 ⊢
  rw [← hf1, ← hf2] at T0
  rw [← ho1, ← ho2] at T1
  rw [← hgg] at TG
  rw [← hf1, ← hf2, ← ho1, ← ho2, ← hgg]
  clear hf1 hf2 ho1 ho2 hgg
  obtain ⟨V, hV⟩ : ∃ V, V = (w.alloc (.cells #[.int .i64 0, .int .i64 0] 231)).alloc (.cells #[.int .i64 0, .int .i64 0] 231) := ⟨_, rfl⟩
  have HB : Hid (Below w.heap.size w V) := by rw [hV]; exact bel2 _ _ _
  have KF : Hid (V.heap[w.heap.size]? = some (.cells [.int .i64 0, .int .i64 0].toArray 231 (0, 0))) := by rw [hV]; exact box_alloc (box_new w _) _
  have KO : Hid (V.heap[w.heap.size + 1]? = some (.cells [.int .i64 0, .int .i64 0].toArray 231 (0, 0))) := by rw [hV]; have h := box_new (w.alloc (.cells #[.int .i64 0, .int .i64 0] 231)) (.cells #[.int .i64 0, .int .i64 0] 231); simp only [World.size_alloc] at h; exact h
  have hs : V.heap.size = w.heap.size + 1 + 1 := by rw [hV]; simp
  have H := Lib.hid (h.below HB.out)
  clear h
  go_enter Tryz.func254, Tryz.ntmps254
  go_upto_region 1 with fail
  rw [← hV]
  clear hV
  have hlt2 : w.heap.size + 1 < V.heap.size := by omega
  have HS := Lib.hid hs
  clear hs
  have KZ : Hid ((V.alloc (.cells (enL zeroE none 0 0).toArray 36)).heap[V.heap.size]? = some (.cells (enL zeroE none 0 0).toArray 36 (0, 0))) := box_new V _
  go_upto_region 2 with (first | (refine wpList_get rfl 36 _ rfl b 2 rfl H.out.box (enL { r.e with tr := ot } A n c) (maL_en lk ot r A n c E m k) Tryz.underlying36 rfl (by kernel_rfl) ?_) | (refine wpList_put rfl rfl 36 _ _ rfl V.heap.size 0 (enL { r.e with tr := ot } A n c) rfl rfl KZ.out (by kernel_rfl) (enL { r.e with tr := ot } A n c) rfl (Nat.le_of_ble_eq_true rfl) (enL_one _ _ _ _) ?_))
  obtain ⟨V1, hV1⟩ : ∃ X, X = (V.alloc (.cells #[.int .i64 0, .int .i64 0, .int .i64 0, .int .i64 0, .int .i64 0, .int .i64 0, .int .i64 0, .int .i64 0, .int .i64 0, .int .i64 0, .int .i64 0, .int .i64 0, .int .i64 0, .int .i64 0, .int .i64 0, .slice none 0 0, .int .i64 0, .int .i64 0, .int .i64 0, .int .i64 0] 36)).setRow V.heap.size (enL { r.e with tr := ot } A n c).toArray := ⟨_, rfl⟩
  have KE : Hid (V1.heap[V.heap.size]? = some (.cells (enL { r.e with tr := ot } A n c).toArray 36 (0, 0))) := by rw [hV1]; exact row_box KZ.out
  have KF1 : Hid (V1.heap[w.heap.size]? = some (.cells [.int .i64 0, .int .i64 0].toArray 231 (0, 0))) := by rw [hV1]; exact row_far (box_alloc KF.out _) (by omega)
  have KO1 : Hid (V1.heap[w.heap.size + 1]? = some (.cells [.int .i64 0, .int .i64 0].toArray 231 (0, 0))) := by rw [hV1]; exact row_far (box_alloc KO.out _) (by omega)
  have hbv1 : Below V.heap.size V V1 := by rw [hV1]; exact row_below (bel1 V _) _ _ (Nat.le_refl _) (by simp)
  have HB1 := Lib.hid (bel_then HB.out hbv1 HB.out.size)
  rw [← hV1]
  clear hV1 KZ KF KO HB hbv1 H
  have c13 : V1.cell? ⟨V.heap.size, 13, none⟩ = some (.int .i64 r.e.tg) := box_cell KE.out 13 _ rfl
  have c11 : V1.cell? ⟨V.heap.size, 11, none⟩ = some (.int .i64 r.e.now) := box_cell KE.out 11 _ rfl
  go_wp2_with (first | (refine wpList_get rfl 25 _ rfl V.heap.size 0 rfl KE.out (spL r.e.sp) rfl Tryz.underlying25 rfl (by kernel_rfl) ?_) | (refine wpList_get rfl 34 _ rfl V.heap.size 15 rfl KE.out (flL A n c r.e.nx) rfl Tryz.underlying34 rfl (by kernel_rfl) ?_))
  refine (CountP.CountOf_any r.e.sp.x0 r.e.sp.x1 r.e.sp.x2 r.e.sp.x3 r.e.sp.x4 r.e.sp.x5 r.e.sp.x6 r.e.sp.x7 r.e.sp.x8 r.e.sp.x9 r.e.sp.x10 r.e.tg r.e.now A n c r.e.nx r.e.ps w.heap.size _ (HP.out.below HB1.out (Nat.le_refl _)) HB1.out.size hn).mono ?_
  rw [T0.out]
  rintro e w2 ⟨rfl, hb⟩
  have KE2 := Lib.hid (box_below KE.out hb)
  have KF2 := Lib.hid (box_below KF1.out hb)
  have KO2 := Lib.hid (box_below KO1.out hb)
  have HB2 := Lib.hid (bel_then HB1.out hb HB1.out.size)
  have hlt3 : V.heap.size < w2.heap.size := box_lt KE2.out
  clear KE KF1 KO1 HB1 hb c13 c11 T0
  go_upto_region 3 with (refine wpList_put rfl rfl 231 _ _ rfl w.heap.size 0 [.int .i64 f1, .int .i64 f2] rfl rfl KF2.out (by kernel_rfl) [.int .i64 f1, .int .i64 f2] rfl (Nat.le_of_ble_eq_true rfl) (by simp [Value.oneCell']) ?_)
  obtain ⟨V3, hV3⟩ : ∃ X, X = w2.setRow w.heap.size [.int .i64 f1, .int .i64 f2].toArray := ⟨_, rfl⟩
  have KF3 : Hid (V3.heap[w.heap.size]? = some (.cells [.int .i64 f1, .int .i64 f2].toArray 231 (0, 0))) := by rw [hV3]; exact row_box KF2.out
  have KO3 : Hid (V3.heap[w.heap.size + 1]? = some (.cells [.int .i64 0, .int .i64 0].toArray 231 (0, 0))) := by rw [hV3]; exact row_far KO2.out (by omega)
  have KE3 : Hid (V3.heap[V.heap.size]? = some (.cells (enL { r.e with tr := ot } A n c).toArray 36 (0, 0))) := by rw [hV3]; exact row_far KE2.out (by omega)
  have HB3 : Hid (Below w.heap.size w V3) := by rw [hV3]; exact row_below HB2.out _ _ (Nat.le_refl _) HB2.out.size
  rw [← hV3]
  clear hV3 KF2 KO2 KE2 HB2
  have c13 : V3.cell? ⟨V.heap.size, 13, none⟩ = some (.int .i64 r.e.tg) := box_cell KE3.out 13 _ rfl
  have c11 : V3.cell? ⟨V.heap.size, 11, none⟩ = some (.int .i64 r.e.now) := box_cell KE3.out 11 _ rfl
  go_wp2_with (first | (refine wpList_get rfl 25 _ rfl V.heap.size 0 rfl KE3.out (spL r.e.sp) rfl Tryz.underlying25 rfl (by kernel_rfl) ?_) | (refine wpList_get rfl 34 _ rfl V.heap.size 15 rfl KE3.out (flL A n c r.e.nx) rfl Tryz.underlying34 rfl (by kernel_rfl) ?_))
  refine (CountP.RestOf_any r.e.sp.x0 r.e.sp.x1 r.e.sp.x2 r.e.sp.x3 r.e.sp.x4 r.e.sp.x5 r.e.sp.x6 r.e.sp.x7 r.e.sp.x8 r.e.sp.x9 r.e.sp.x10 r.e.tg r.e.now A n c r.e.nx r.e.ps w.heap.size _ (HP.out.below HB3.out (Nat.le_refl _)) HB3.out.size hn).mono ?_
  rw [T1.out]
  rintro e w4 ⟨rfl, hb⟩
  have KE4 := Lib.hid (box_below KE3.out hb)
  have KF4 := Lib.hid (box_below KF3.out hb)
  have KO4 := Lib.hid (box_below KO3.out hb)
  have HB4 := Lib.hid (bel_then HB3.out hb HB3.out.size)
  clear KE3 KF3 KO3 HB3 hb c13 c11 T1 hlt3
  have hlt4 : V.heap.size < w4.heap.size := box_lt KE4.out
  go_upto_region 4 with (refine wpList_put rfl rfl 231 _ _ rfl (w.heap.size + 1) 0 [.int .i64 o1, .int .i64 o2] rfl rfl KO4.out (by kernel_rfl) [.int .i64 o1, .int .i64 o2] rfl (Nat.le_of_ble_eq_true rfl) (by simp [Value.oneCell']) ?_)
  obtain ⟨V5, hV5⟩ : ∃ X, X = w4.setRow (w.heap.size + 1) [.int .i64 o1, .int .i64 o2].toArray := ⟨_, rfl⟩
  have KO5 : Hid (V5.heap[w.heap.size + 1]? = some (.cells [.int .i64 o1, .int .i64 o2].toArray 231 (0, 0))) := by rw [hV5]; exact row_box KO4.out
  have KF5 : Hid (V5.heap[w.heap.size]? = some (.cells [.int .i64 f1, .int .i64 f2].toArray 231 (0, 0))) := by rw [hV5]; exact row_far KF4.out (by omega)
  have KE5 : Hid (V5.heap[V.heap.size]? = some (.cells (enL { r.e with tr := ot } A n c).toArray 36 (0, 0))) := by rw [hV5]; exact row_far KE4.out (by omega)
  have HB5 : Hid (Below w.heap.size w V5) := by rw [hV5]; exact row_below HB4.out _ _ (by omega) HB4.out.size
  rw [← hV5]
  clear hV5 KF4 KO4 KE4 HB4
  go_wp2_with fail
  refine wp_region_held_drew (S := fun w' => w'.rangeAt w.heap.size 0 [.int .i64 f1, .int .i64 f2] ∧ w'.rangeAt (w.heap.size + 1) 0 [.int .i64 o1, .int .i64 o2] ∧ w'.rangeAt V.heap.size 15 (flL A n c r.e.nx)) (by kernel_rfl) ⟨range_of KF5.out rfl, range_of KO5.out rfl, range_of KE5.out rfl⟩ (fun hHeld => ?_)
  refine tkj (i := 0) (v := .agg ([.int .i64 f1, .int .i64 f2]).toArray) rfl (yieldsIf_load_mid (by rfl) 231 _ rfl w.heap.size 0 rfl ([.int .i64 f1, .int .i64 f2]) _ (fun w' h => h.1) Tryz.underlying231 rfl (by kernel_rfl)) ?_
  try simp only [Act.put, pj]
  refine tkj (i := 1) (v := .agg ([.int .i64 o1, .int .i64 o2]).toArray) rfl (yieldsIf_load_mid (by rfl) 231 _ rfl (w.heap.size + 1) 0 rfl ([.int .i64 o1, .int .i64 o2]) _ (fun w' h => h.2.1) Tryz.underlying231 rfl (by kernel_rfl)) ?_
  try simp only [Act.put, pj]
  refine tkk (i := 2) rfl ?_
  try simp only [Act.put, pj]
  refine tkj (i := 3) (v := .agg (flL A n c r.e.nx).toArray) rfl (yieldsIf_load_mid (by rfl) 34 _ rfl V.heap.size 15 rfl (flL A n c r.e.nx) _ (fun w' h => h.2.2) Tryz.underlying34 rfl (by kernel_rfl)) ?_
  try simp only [Act.put, pj]
  refine wpAnyH_ready (rs := [4]) (by kernel_rfl) (by simp) (AllReadyH.cons rfl (fun K hK => ?_) AllReadyH.nil)
  go_simp
  refine (Crew.countPods_any A n c r.e.nx 0 4 r.e.ps w.heap.size _ (HP.out.below HB5.out.drew (Nat.le_refl _)) (by exact HB5.out.size) hn).mono ?_
  rw [TG.out]
  rintro e w6 ⟨rfl, hb⟩
  have hb' : Below V5.heap.size V5 w6 := undrew hb
  have KE6 := Lib.hid (box_below KE5.out hb')
  have KF6 := Lib.hid (box_below KF5.out hb')
  have KO6 := Lib.hid (box_below KO5.out hb')
  have HB6 := Lib.hid (bel_then HB5.out hb' HB5.out.size)
  clear hb hb' KE5 KF5 KO5 HB5 hHeld
  refine hK _ _ (by exact ⟨range_of KF6.out rfl, range_of KO6.out rfl, range_of KE6.out rfl⟩) (fun hHeld => ?_)
  clear hK K
  try simp only [Act.put, pj]
  refine wpAnyH_ready (rs := [5]) (by kernel_rfl) (by simp) (AllReadyH.cons rfl (fun K hK => ?_) AllReadyH.nil)
  refine wp_put rfl 231 _ _ rfl w.heap.size 0 [.int .i64 f1, .int .i64 f2] rfl rfl KF6.out (by kernel_rfl) [.int .i64 f1, .int .i64 f2] rfl (Nat.le_of_ble_eq_true rfl) (by simp [Value.oneCell']) ?_
  rw [setRow_self _ _ _ _ _ KF6.out]
  refine hK _ _ (by exact hHeld) (fun hHeld => ?_)
  clear hK K
  try simp only [Act.put, pj]
  refine wpAnyH_ready (rs := [6]) (by kernel_rfl) (by simp) (AllReadyH.cons rfl (fun K hK => ?_) AllReadyH.nil)
  refine wp_put rfl 231 _ _ rfl (w.heap.size + 1) 0 [.int .i64 o1, .int .i64 o2] rfl rfl KO6.out (by kernel_rfl) [.int .i64 o1, .int .i64 o2] rfl (Nat.le_of_ble_eq_true rfl) (by simp [Value.oneCell']) ?_
  rw [setRow_self _ _ _ _ _ KO6.out]
  refine hK _ _ (by exact hHeld) (fun hHeld => ?_)
  clear hK K
  try simp only [Act.put, pj]
  refine tkk (i := 7) rfl ?_
  try simp only [Act.put, pj]
  refine wpAnyH_done (by kernel_rfl) ?_ _
  clear hHeld
  have r0 := box_cell KF6.out 0 _ rfl
  have r1 := box_cell KF6.out 1 _ rfl
  have r2 := box_cell KO6.out 0 _ rfl
  have r3 := box_cell KO6.out 1 _ rfl
  go_wp2
  exact bodyPost_ret (v := .tuple #[.agg #[.int .i64 f1, .int .i64 f2], .agg #[.int .i64 o1, .int .i64 o2], .int .i64 gg]) (by simp [results, Tryz.results254, go_sem, r0, r1, r2, r3]) rfl ⟨rfl, HB6.out⟩
end Go.Proofs.YtklgjjmcflgjeaaGreat.Mach
namespace Go.Proofs.YtklgjjmcflgjeaaGreat.Mach
open Go.ChangeShapes Go.WideShapes Go.ChangeAt Go.RowKit
open LK Pods EngV EngCnt Eng Seg
theorem limS_bd {e : Eng} (h : e.okB = true) : 0 ≤ limS e ∧ limS e ≤ e.sp.x0 := by
  have hs := Sp.specB_t (show Sp.specB e.sp.x0 e.sp.x1 e.sp.x2 e.sp.x3 e.sp.x4 e.sp.x5 e.sp.x6 e.sp.x7 e.sp.x8 e.sp.x9 e.sp.x10 = true from (okB_t h).1)
  have h1 : Sp.specB e.sp.x0 e.sp.x1 e.sp.x2 e.sp.x3 e.sp.x4 e.sp.x5 e.sp.x6 e.sp.x7 e.sp.x8 e.sp.x9 e.sp.x10 = true := (okB_t h).1
  unfold limS
  split
  · simp only [Cnt.limV, h1, if_true]
    split <;> omega
  · omega
theorem planT_ok {e : Eng} (h : e.okB = true) : Cnt.planT e.sp.x0 e.sp.x1 e.sp.x2 e.sp.x3 e.sp.x4 e.sp.x5 e.sp.x6 e.sp.x7 e.sp.x8 e.sp.x9 e.sp.x10 (live e false) (good e false) (live e true) (good e true) (going e) (limS e) = .tuple #[.agg #[.int .i64 (plCr e), .int .i64 (plDr e), .int .i64 (plDa e), .int .i64 (plDf e)], .bool true] := by
  have h1 : Sp.specB e.sp.x0 e.sp.x1 e.sp.x2 e.sp.x3 e.sp.x4 e.sp.x5 e.sp.x6 e.sp.x7 e.sp.x8 e.sp.x9 e.sp.x10 = true := (okB_t h).1
  have hp := EngCnt.part e
  have g0 := good_le e false
  have g1 := good_le e true
  have hl := (okB_t h).2.1.1
  have hb := limS_bd h
  have hB : Cnt.planB e.sp.x0 e.sp.x1 e.sp.x2 e.sp.x3 e.sp.x4 e.sp.x5 e.sp.x6 e.sp.x7 e.sp.x8 e.sp.x9 e.sp.x10 (live e false) (good e false) (live e true) (good e true) (going e) (limS e) = true := by
    simp only [Cnt.planB, Cnt.countB, Tick.inB, h1, Bool.true_and, Bool.and_eq_true, decide_eq_true_eq]
    omega
  simp only [Cnt.planT, hB, if_true]
  rfl
set_option maxRecDepth 100000 in
set_option maxHeartbeats 12800000 in
theorem limit_any (w : World) (S : Nat → Prop) (b : Nat) (lk ot : Int) (r : Run) (h : Mach w S b lk ot r) (hok : r.e.okB = true) (hn3 : r.e.ph ≠ 3) :
    Calls Tryz.prog 256 #[.pointer (some ⟨b, 0, none⟩)] w (Says (.int .i64 (limS r.e)) w) := by
  obtain ⟨A, n, c, E, m, k, h⟩ := h
  have hn : n ≤ 1048576 := by have := h.ps.1; have := (okB_t hok).2.1.1; omega
  have HP : Hid (IsPods w w.heap.size A n r.e.ps) := h.ps.podsAll
  have hbw : b < w.heap.size := h.lt
  have HPH : Hid (0 ≤ r.e.ph ∧ r.e.ph ≤ 3 ∧ r.e.ph ≠ 3) := ⟨(okB_t hok).2.2.2.2.2.1.1, (okB_t hok).2.2.2.2.2.1.2, hn3⟩
  have H := Lib.hid h
  clear h hok hn3
  obtain ⟨R, hR⟩ : ∃ R, R = limS r.e := ⟨_, rfl⟩
  rw [← hR]
  have HR := Lib.hid hR
  clear hR
  have KZ : Hid ((w.alloc (.cells (enL zeroE none 0 0).toArray 36)).heap[w.heap.size]? = some (.cells (enL zeroE none 0 0).toArray 36 (0, 0))) := box_new w _
  go_enter Tryz.func256, Tryz.ntmps256
  go_upto_region 2 with (first | (refine wpList_get rfl 36 _ rfl b 2 rfl H.out.box (enL { r.e with tr := ot } A n c) (maL_en lk ot r A n c E m k) Tryz.underlying36 rfl (by kernel_rfl) ?_) | (refine wpList_put rfl rfl 36 _ _ rfl w.heap.size 0 (enL { r.e with tr := ot } A n c) rfl rfl KZ.out (by kernel_rfl) (enL { r.e with tr := ot } A n c) rfl (Nat.le_of_ble_eq_true rfl) (enL_one _ _ _ _) ?_))
  obtain ⟨V1, hV1⟩ : ∃ X, X = (w.alloc (.cells #[.int .i64 0, .int .i64 0, .int .i64 0, .int .i64 0, .int .i64 0, .int .i64 0, .int .i64 0, .int .i64 0, .int .i64 0, .int .i64 0, .int .i64 0, .int .i64 0, .int .i64 0, .int .i64 0, .int .i64 0, .slice none 0 0, .int .i64 0, .int .i64 0, .int .i64 0, .int .i64 0] 36)).setRow w.heap.size (enL { r.e with tr := ot } A n c).toArray := ⟨_, rfl⟩
  have KE : Hid (V1.heap[w.heap.size]? = some (.cells (enL { r.e with tr := ot } A n c).toArray 36 (0, 0))) := by rw [hV1]; exact row_box KZ.out
  have HB1 : Hid (Below w.heap.size w V1) := by rw [hV1]; exact row_below (bel1 w _) _ _ (Nat.le_refl _) (by simp)
  rw [← hV1]
  clear hV1 KZ H
  have c12 : V1.cell? ⟨w.heap.size, 12, none⟩ = some (.int .i64 r.e.ph) := box_cell KE.out 12 _ rfl
  by_cases hp : r.e.ph = 1
  case neg =>
    have c0 : V1.cell? ⟨w.heap.size, 0, none⟩ = some (.int .i64 r.e.sp.x0) := box_cell KE.out 0 _ rfl
    have HF : Hid (R = r.e.sp.x0) := by show _ = _; rw [HR.out, limS, if_neg hp]
    by_cases h2 : r.e.ph = 2
    · have hq : (r.e.ph == 2) = true := by simp [h2]
      clear hp h2
      go_wp2
      go_ret
      exact ⟨by rw [HF.out]; rfl, HB1.out⟩
    have hq : (r.e.ph == 2) = false := by simp [h2]
    have h0 : r.e.ph = 0 := by have := HPH.out; omega
    have hq0 : (r.e.ph == 0) = true := by simp [h0]
    clear hp h2 h0
    go_wp2
    go_ret
    exact ⟨by rw [HF.out]; rfl, HB1.out⟩
  have hq : (r.e.ph == 2) = false := by simp [hp]
  have hq0 : (r.e.ph == 0) = false := by simp [hp]
  have HF : Hid (R = Cnt.limV r.e.sp.x0 r.e.sp.x1 r.e.sp.x2 r.e.sp.x3 r.e.sp.x4 r.e.sp.x5 r.e.sp.x6 r.e.sp.x7 r.e.sp.x8 r.e.sp.x9 r.e.sp.x10 (bakS r.e)) := by show _ = _; rw [HR.out, limS, if_pos hp]
  clear hp HR
  go_wp2_with fail
  clear c12
  refine wp_region_held_drew (S := fun w' => w'.rangeAt w.heap.size 0 (spL r.e.sp) ∧ w'.rangeAt w.heap.size 15 (flL A n c r.e.nx) ∧ w'.cell? ⟨w.heap.size, 13, none⟩ = some (.int .i64 r.e.tg) ∧ w'.cell? ⟨w.heap.size, 11, none⟩ = some (.int .i64 r.e.now)) (by kernel_rfl) ⟨range_of KE.out rfl, range_of KE.out rfl, box_cell KE.out 13 _ rfl, box_cell KE.out 11 _ rfl⟩ (fun hHeld => ?_)
  refine tkk (i := 0) rfl ?_
  try simp only [Act.put, pj]
  refine tkj (i := 1) (v := .agg (spL r.e.sp).toArray) rfl (yieldsIf_load_mid (by rfl) 25 _ rfl w.heap.size 0 rfl (spL r.e.sp) _ (fun w' h => h.1) Tryz.underlying25 rfl (by kernel_rfl)) ?_
  try simp only [Act.put, pj]
  refine tkk (i := 2) rfl ?_
  try simp only [Act.put, pj]
  refine tkj (i := 3) (v := .agg (spL r.e.sp).toArray) rfl (yieldsIf_load_mid (by rfl) 25 _ rfl w.heap.size 0 rfl (spL r.e.sp) _ (fun w' h => h.1) Tryz.underlying25 rfl (by kernel_rfl)) ?_
  try simp only [Act.put, pj]
  refine tkk (i := 4) rfl ?_
  try simp only [Act.put, pj]
  refine tkj (i := 5) (v := .agg (flL A n c r.e.nx).toArray) rfl (yieldsIf_load_mid (by rfl) 34 _ rfl w.heap.size 15 rfl (flL A n c r.e.nx) _ (fun w' h => h.2.1) Tryz.underlying34 rfl (by kernel_rfl)) ?_
  try simp only [Act.put, pj]
  refine tkk (i := 6) rfl ?_
  try simp only [Act.put, pj]
  refine tkk (i := 7) rfl ?_
  try simp only [Act.put, pj]
  refine tkk (i := 8) rfl ?_
  try simp only [Act.put, pj]
  refine tkk (i := 9) rfl ?_
  try simp only [Act.put, pj]
  refine wpAnyH_ready (rs := [10]) (by kernel_rfl) (by simp) (AllReadyH.cons rfl (fun K hK => ?_) AllReadyH.nil)
  go_simp
  refine (BakI.baked_any r.e.sp.x0 r.e.sp.x1 r.e.sp.x2 r.e.sp.x3 r.e.sp.x4 r.e.sp.x5 r.e.sp.x6 r.e.sp.x7 r.e.sp.x8 r.e.sp.x9 r.e.sp.x10 r.e.tg r.e.now A n c r.e.nx r.e.ps w.heap.size _ (HP.out.below HB1.out.drew (Nat.le_refl _)) (by exact HB1.out.size) hn).mono ?_
  obtain ⟨q, hq1⟩ : ∃ q, q = bakS r.e := ⟨_, rfl⟩
  rw [← hq1] at HF
  rw [show BakI.bakedV r.e.sp.x0 r.e.sp.x1 r.e.sp.x2 r.e.sp.x3 r.e.sp.x4 r.e.sp.x5 r.e.sp.x6 r.e.sp.x7 r.e.sp.x8 r.e.sp.x9 r.e.sp.x10 r.e.tg r.e.now (r.e.ps, r.e.nx) = q from hq1.symm]
  clear hq1
  rintro e w2 ⟨rfl, hb⟩
  have hb' : Below V1.heap.size V1 w2 := undrew hb
  have KE2 := Lib.hid (box_below KE.out hb')
  have HB2 := Lib.hid (bel_then HB1.out hb' HB1.out.size)
  clear hb hb' KE HB1 hHeld
  refine hK _ _ (by exact ⟨range_of KE2.out rfl, range_of KE2.out rfl, box_cell KE2.out 13 _ rfl, box_cell KE2.out 11 _ rfl⟩) (fun hHeld => ?_)
  clear hK K
  try simp only [Act.put, pj]
  refine wpAnyH_ready (rs := [11]) (by kernel_rfl) (by simp) (AllReadyH.cons rfl (fun K hK => ?_) AllReadyH.nil)
  go_simp
  refine (Cnt.LimitOf_any r.e.sp.x0 r.e.sp.x1 r.e.sp.x2 r.e.sp.x3 r.e.sp.x4 r.e.sp.x5 r.e.sp.x6 r.e.sp.x7 r.e.sp.x8 r.e.sp.x9 r.e.sp.x10 q _).mono ?_
  rw [← HF.out]
  rintro e w3 ⟨rfl, hb⟩
  have KE3 := Lib.hid (box_below KE2.out hb)
  have HB3 := Lib.hid (bel_then HB2.out hb HB2.out.size)
  clear hb KE2 HB2 hHeld
  refine hK _ _ (by exact ⟨range_of KE3.out rfl, range_of KE3.out rfl, box_cell KE3.out 13 _ rfl, box_cell KE3.out 11 _ rfl⟩) (fun hHeld => ?_)
  clear hK K
  try simp only [Act.put, pj]
  refine tkk (i := 12) rfl ?_
  try simp only [Act.put, pj]
  refine wpAnyH_done (by kernel_rfl) ?_ _
  clear hHeld
  go_wp2
  go_ret
  exact ⟨rfl, HB3.out⟩
end Go.Proofs.YtklgjjmcflgjeaaGreat.Mach
