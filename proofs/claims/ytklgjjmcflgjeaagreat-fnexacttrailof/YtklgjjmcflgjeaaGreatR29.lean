import Derived.Test.YtklgjjmcflgjeaaGreatQ
import Derived.Test.YtklgjjmcflgjeaaGreatR05
import Derived.Test.YtklgjjmcflgjeaaGreatR06
import Derived.Test.YtklgjjmcflgjeaaGreatR07
import Derived.Test.YtklgjjmcflgjeaaGreatR14
import Derived.Test.YtklgjjmcflgjeaaGreatR27
import Derived.Test.YtklgjjmcflgjeaaGreatR28
set_option linter.unusedVariables false
set_option linter.unusedSimpArgs false
namespace Go.Proofs.YtklgjjmcflgjeaaGreat.EngInv
open Tick (inB in_t tokB tok_t sinceV)
open Pods
open FleetV hiding goodB
open EngV Eng
open EngCnt (live good going okB_t)
open Crew (goD goP addD takeD takeV)
open Mach (IdsOk ActOk)
theorem ids_of {ps : PList} {nx : Int} (h : FGood ps nx) : IdsOk ps := fun p hp => Crew.id_wf (by have := (h.2.2.1 p hp).1.1; omega)
theorem sp4 {s : Spc} (h : s.ok = true) : 0 ≤ s.x4 ∧ s.x4 ≤ 20 := (Sp.specB_t h).2.2.2.2.2.1
theorem act_all {r : Run} (h : Gd r r.e.sp.x4) (hn : r.ev.length ≤ 700000) : (r.e.ph ≠ 3 → ActOk r) ∧ Gd r.act r.act.e.sp.x4 ∧ r.act.ev.length ≤ r.ev.length + 1300 ∧ r.act.e.sp = r.e.sp := by
  have hs := sp4 h.sp
  have hl := h.fl.1
  obtain ⟨a1, b1, c1⟩ := loseAll_all r.e.ps r
  have g1 : Gd r.giveUp (r.e.sp.x4 + r.e.ps.length) := c1 r.e.sp.x4 (by omega) h
  have a1 : Kp r r.giveUp r.e.ps.length := a1
  have b1 : r.giveUp.e.ps.length = r.e.ps.length := b1
  have a2 := stuck_kp r.giveUp
  have g2 := stuck_gd g1
  have b2 := stuck_ps r.giveUp
  obtain ⟨g3, l3, p3, s3⟩ := judge_all g2
  have l1 := a1.ev
  have l2 := a2.ev
  have hsp : r.giveUp.tellStuck.judge.e.sp = r.e.sp := s3.trans (a2.sp.trans a1.sp)
  have hpl : r.giveUp.tellStuck.judge.e.ps.length = r.e.ps.length := by rw [p3, b2, b1]
  have pb := Mach.plan_bd g3.ok
  obtain ⟨a4, t4, o4⟩ := carry_all r.giveUp.tellStuck.judge (plCr r.giveUp.tellStuck.judge.e) (plDr r.giveUp.tellStuck.judge.e) (plDa r.giveUp.tellStuck.judge.e) (plDf r.giveUp.tellStuck.judge.e) pb.1.2 (by omega)
  have a4 : Kp r.giveUp.tellStuck.judge r.giveUp.tellStuck.judge.plan 1120 := a4
  have t4 : r.giveUp.tellStuck.judge.plan.e.tr = r.giveUp.tellStuck.judge.e.tr := t4
  have o4 : r.giveUp.tellStuck.judge.plan.e.okB = true := o4 g3.ok
  have l4 := a4.ev
  have g4 : Gd r.giveUp.tellStuck.judge.plan r.e.sp.x4 := gd_of o4 (fun hm => by rw [t4, ← hsp]; exact g3.t1 (by rw [← a4.ph]; exact hm))
  obtain ⟨g5, l5⟩ := over_all g4
  have s5 : r.giveUp.tellStuck.judge.plan.over.e.sp = r.giveUp.tellStuck.judge.plan.e.sp := by
    unfold Run.over Run.makeGood
    split
    · split
      · split <;> rfl
      · split <;> rfl
    · rfl
  refine ⟨fun _ => ⟨hn, by omega, ⟨h.t0.1, by have := h.t0.2; omega⟩, ids_of h.fl, by omega, by omega, by omega, by omega, fun _ => g3.ok, by omega, ids_of g3.fl, fun _ => by omega, fun _ => o4⟩, ?_⟩
  unfold Run.act
  split
  · exact ⟨h, by omega, rfl⟩
  · simp only []
    split
    · exact ⟨g3, by omega, hsp⟩
    · have e : r.giveUp.tellStuck.judge.plan.over.e.sp = r.e.sp := s5.trans (a4.sp.trans hsp)
      refine ⟨?_, by omega, e⟩
      rw [e]; exact g5
theorem step_all {r : Run} (h : Gd r r.e.sp.x4) (hn : r.ev.length ≤ 600000) (o : Op4) : Gd (r.step o).1 (r.step o).1.e.sp.x4 ∧ (r.step o).1.ev.length ≤ r.ev.length + 1400 := by
  unfold Run.step
  split
  · split
    · rename_i hb
      have hb := in_t hb
      obtain ⟨_, g, l, _⟩ := act_all (r := ({ r with e := { r.e with now := Tick.addV r.e.now o.2.1 } } : Run)) ⟨h.sp, h.fl, addV_tok h.now (by omega), h.st, h.wt, h.ph, h.tg, h.gd, h.t0, h.t1⟩ (by show r.ev.length ≤ _; omega)
      exact ⟨g, by have l : _ ≤ r.ev.length + 1300 := l; show (Run.act _).ev.length ≤ _; omega⟩
    · exact ⟨h, by show r.ev.length ≤ _; omega⟩
  · split
    · split
      · rename_i hb
        simp only [Bool.and_eq_true] at hb
        have ht := in_t hb.1
        have hs := sp4 hb.2
        have g0 : Gd (({ r with e := { r.e with sp := reps r.e.sp o.2.2.1 } } : Run).start 1 o.2.1) (reps r.e.sp o.2.2.1).x4 :=
          ⟨hb.2, h.fl, h.now, h.now, (show tokB 0 = true from rfl), by show (0 : Int) ≤ 1 ∧ (1 : Int) ≤ 3; omega, ht, h.gd, by show (0 : Int) ≤ 0 ∧ (0 : Int) ≤ 200; omega, fun _ => by show (0 : Int) ≤ _; omega⟩
        have hl : (({ r with e := { r.e with sp := reps r.e.sp o.2.2.1 } } : Run).start 1 o.2.1).ev.length = r.ev.length + 1 := by simp [Run.start, Run.enter, Run.tell]
        obtain ⟨_, g, l, _⟩ := act_all g0 (by omega)
        exact ⟨g, by show (Run.act _).ev.length ≤ _; omega⟩
      · exact ⟨h, by show r.ev.length ≤ _; omega⟩
    · split
      · split
        · obtain ⟨_, g, l, _⟩ := act_all (r := r.setFl (takeD r.fl o.2.1 o.2.2.1 o.2.2.2 r.e.now)) ⟨h.sp, good_takeD h.fl, h.now, h.st, h.wt, h.ph, h.tg, h.gd, h.t0, h.t1⟩ (by show r.ev.length ≤ _; omega)
          exact ⟨g, by have l : _ ≤ r.ev.length + 1300 := l; show (Run.act _).ev.length ≤ _; omega⟩
        · exact ⟨h, by show r.ev.length ≤ _; omega⟩
      · exact ⟨h, by show r.ev.length ≤ _; omega⟩
theorem gd_tick {r : Run} {k A : Int} (h : Gd r k) (hA : inB A 0 2000 = true) : Gd ({ r with e := { r.e with now := Tick.addV r.e.now A } } : Run) k :=
  ⟨h.sp, h.fl, addV_tok h.now (by have := in_t hA; omega), h.st, h.wt, h.ph, h.tg, h.gd, h.t0, h.t1⟩
theorem gd_edit {r : Run} {k A B : Int} (h : Gd r k) (hA : inB A 1 1000 = true) (hs : (reps r.e.sp B).ok = true) : Gd (({ r with e := { r.e with sp := reps r.e.sp B } } : Run).start 1 A) (reps r.e.sp B).x4 :=
  ⟨hs, h.fl, h.now, h.now, (show tokB 0 = true from rfl), by show (0 : Int) ≤ 1 ∧ (1 : Int) ≤ 3; omega, in_t hA, h.gd, by show (0 : Int) ≤ 0 ∧ (0 : Int) ≤ 200; omega, fun _ => by show (0 : Int) ≤ _; exact (sp4 hs).1⟩
theorem gd_take {r : Run} {k a b c : Int} (h : Gd r k) : Gd (r.setFl (takeD r.fl a b c r.e.now)) k :=
  ⟨h.sp, good_takeD h.fl, h.now, h.st, h.wt, h.ph, h.tg, h.gd, h.t0, h.t1⟩
end Go.Proofs.YtklgjjmcflgjeaaGreat.EngInv
namespace Go.Proofs.YtklgjjmcflgjeaaGreat.NewFl
open Go.ChangeShapes Go.WideShapes Go.ChangeAt Go.RowKit
open LK Pods
theorem newFleet_any (w : World) : Calls Tryz.prog 129 #[] w (Made FleetTy.fty ([], 1) w) := by
  go_enter Tryz.func129, Tryz.ntmps129
  go_wp2
  refine bodyPost_ret (v := .agg #[.slice none 0 0, .int .i64 1]) (by simp [results, Tryz.results129, go_sem]) rfl ?_
  exact FleetTy.made_of (lo := w.heap.size) (Below.refl _ _) (OwnP.nil w w.heap.size) (Nat.le_refl _) (S := fun _ => False) (fun _ h => h.elim) (Turned.of_below (bel1 _ _))
theorem specNewFleet_any (w : World) : Calls Tryz.prog 100 #[] w (Made FleetTy.fty ([], 1) w) := by
  go_enter Tryz.func100, Tryz.ntmps100
  go_wp2
  refine bodyPost_ret (v := .agg #[.slice none 0 0, .int .i64 1]) (by simp [results, Tryz.results100, go_sem]) rfl ?_
  exact FleetTy.made_of (lo := w.heap.size) (Below.refl _ _) (OwnP.nil w w.heap.size) (Nat.le_refl _) (S := fun _ => False) (fun _ h => h.elim) (Turned.of_below (bel1 _ _))
end Go.Proofs.YtklgjjmcflgjeaaGreat.NewFl
namespace Go.Proofs.YtklgjjmcflgjeaaGreat.EngNew
open Go.ChangeShapes Go.WideShapes Go.ChangeAt Go.RowKit
open LK Pods FleetV EngV EngTy Seg
open Tick (inB l01In_any)
open Crew (revOk_any)
def newD (s : Spc) (rev : Int) : Eng := if newB s rev then newE s rev else zeroE
set_option maxRecDepth 100000 in
set_option maxHeartbeats 6400000 in
theorem newEngine_any (s : Spc) (rev : Int) (w : World) : Calls Tryz.prog 81 #[.agg (spL s).toArray, .int .i64 rev] w (Made1 ety (newD s rev) (.bool (newB s rev)) w) := by
  obtain ⟨r, hr⟩ : ∃ r, r = newB s rev := ⟨_, rfl⟩
  obtain ⟨D, hD⟩ : ∃ D, D = newD s rev := ⟨_, rfl⟩
  rw [← hr, ← hD]
  have HR := Lib.hid hr
  have HD := Lib.hid hD
  clear hr hD
  obtain ⟨V, hV⟩ : ∃ V, V = (w.alloc (.cells (spL s).toArray 25)).alloc (.cells #[.int .i64 0, .int .i64 0, .int .i64 0, .int .i64 0, .int .i64 0, .int .i64 0, .int .i64 0, .int .i64 0, .int .i64 0, .int .i64 0, .int .i64 0, .int .i64 0, .int .i64 0, .int .i64 0, .int .i64 0, .slice none 0 0, .int .i64 0, .int .i64 0, .int .i64 0, .int .i64 0] 36) := ⟨_, rfl⟩
  have HB : Hid (Below w.heap.size w V) := by rw [hV]; exact bel2 _ _ _
  have K : Hid (V.heap[w.heap.size]? = some (.cells (spL s).toArray 25 (0, 0))) := by rw [hV]; exact box_alloc (box_new w _) _
  have KR : Hid (V.heap[w.heap.size + 1]? = some (.cells (enL zeroE none 0 0).toArray 36 (0, 0))) := by rw [hV]; have h := box_new (w.alloc (.cells (spL s).toArray 25)) (.cells #[.int .i64 0, .int .i64 0, .int .i64 0, .int .i64 0, .int .i64 0, .int .i64 0, .int .i64 0, .int .i64 0, .int .i64 0, .int .i64 0, .int .i64 0, .int .i64 0, .int .i64 0, .int .i64 0, .int .i64 0, .slice none 0 0, .int .i64 0, .int .i64 0, .int .i64 0, .int .i64 0] 36); simp only [World.size_alloc] at h; exact h
  go_enter Tryz.func81, Tryz.ntmps81
  go_upto_region 1 with fail
  rw [← hV]
  clear hV
  go_wp2_with (refine wpList_get rfl 25 _ rfl w.heap.size 0 rfl K.out (spL s) List.take_length Tryz.underlying25 rfl (by kernel_rfl) ?_)
  refine (Sp.specOk_any s.x0 s.x1 s.x2 s.x3 s.x4 s.x5 s.x6 s.x7 s.x8 s.x9 s.x10 _).mono ?_
  rintro e w1 ⟨rfl, hb⟩
  have K1 := Lib.hid (box_below K.out hb)
  have KR1 := Lib.hid (box_below KR.out hb)
  have HB1 := Lib.hid (bel_then HB.out hb HB.out.size)
  clear K KR HB hb
  have hs0 : Sp.specB s.x0 s.x1 s.x2 s.x3 s.x4 s.x5 s.x6 s.x7 s.x8 s.x9 s.x10 = s.ok := rfl
  rw [hs0]
  clear hs0
  have NO : Hid (r = false → Made1 ety D (.bool r) w (.returned (.tuple #[.agg (enL zeroE none 0 0).toArray, .bool false])) (w1.setRow (w.heap.size + 1) (enL zeroE none 0 0).toArray)) := fun h => by
    have e1 : D = zeroE := by rw [HD.out]; unfold newD; rw [← HR.out, h]; rfl
    rw [h, e1]
    have hl : w.heap.size + 1 < w1.heap.size := box_lt KR1.out
    refine ⟨_, fun _ => False, rfl, ⟨⟨none, 0, rfl, OwnP.nil _ _, fun k hk => by simp [Value.ownBlock] at hk⟩, fun k hk => hk.elim, ?_⟩, row_below HB1.out _ _ (by omega) HB1.out.size⟩
    exact Nat.le_refl _
  cases h0 : s.ok
  · have HF : Hid (r = false) := by show _ = _; rw [HR.out]; simp [newB, h0]
    clear h0
    go_wp2_with (refine wpList_put rfl rfl 36 _ _ rfl (w.heap.size + 1) 0 (enL zeroE none 0 0) rfl rfl KR1.out (by kernel_rfl) (enL zeroE none 0 0) rfl (Nat.le_of_ble_eq_true rfl) (enL_one _ _ _ _) ?_)
    exact bodyPost_ret (v := .tuple #[.agg (enL zeroE none 0 0).toArray, .bool false]) (results_box_tmp Tryz.results81 _ rfl rfl (row_box KR1.out) Tryz.underlying36 rfl (by kernel_rfl)) rfl (NO.out HF.out)
  have H0 := Lib.hid h0
  clear h0
  go_wp2_with fail
  refine (revOk_any rev _).mono ?_
  rintro e w' ⟨rfl, rfl⟩
  cases h1 : inB rev 1 1000
  · have HF : Hid (r = false) := by show _ = _; rw [HR.out]; simp [newB, h1]
    clear h1
    go_wp2_with (refine wpList_put rfl rfl 36 _ _ rfl (w.heap.size + 1) 0 (enL zeroE none 0 0) rfl rfl KR1.out (by kernel_rfl) (enL zeroE none 0 0) rfl (Nat.le_of_ble_eq_true rfl) (enL_one _ _ _ _) ?_)
    exact bodyPost_ret (v := .tuple #[.agg (enL zeroE none 0 0).toArray, .bool false]) (results_box_tmp Tryz.results81 _ rfl rfl (row_box KR1.out) Tryz.underlying36 rfl (by kernel_rfl)) rfl (NO.out HF.out)
  have HT : Hid (r = true) := by show _ = _; rw [HR.out]; simp [newB, H0.out, h1]
  have HE : Hid (D = newE s rev) := by show _ = _; rw [HD.out]; unfold newD; rw [← HR.out, HT.out]; rfl
  clear h1
  go_wp2_with fail
  refine wp_region_held_drew (S := fun w' => w'.rangeAt w.heap.size 0 (spL s)) (by kernel_rfl) (range_of K1.out List.take_length) (fun hHeld => ?_)
  refine tkj (i := 0) (v := .agg ([.int .i64 s.x0, .int .i64 s.x1, .int .i64 s.x2, .int .i64 s.x3, .int .i64 s.x4, .int .i64 s.x5, .int .i64 s.x6, .int .i64 s.x7, .int .i64 s.x8, .int .i64 s.x9, .int .i64 s.x10]).toArray) rfl (yieldsIf_load_mid (by rfl) 25 _ rfl w.heap.size 0 rfl ([.int .i64 s.x0, .int .i64 s.x1, .int .i64 s.x2, .int .i64 s.x3, .int .i64 s.x4, .int .i64 s.x5, .int .i64 s.x6, .int .i64 s.x7, .int .i64 s.x8, .int .i64 s.x9, .int .i64 s.x10]) _ (fun w' h => h) Tryz.underlying25 rfl (by kernel_rfl)) ?_
  try simp only [Act.put, pj]
  refine tkk (i := 1) rfl ?_
  try simp only [Act.put, pj]
  refine tkk (i := 2) rfl ?_
  try simp only [Act.put, pj]
  refine wpAnyH_ready (rs := [3]) (by kernel_rfl) (by simp) (AllReadyH.cons rfl (fun K hK => ?_) AllReadyH.nil)
  go_simp
  refine (NewFl.newFleet_any _).mono ?_
  rintro e w2 ⟨v, S, rfl, hO, hb⟩
  obtain ⟨A, c, rfl, ho, hs⟩ := hO.own
  have hb' : Below w1.heap.size w1 w2 := undrew hb
  have K2 := Lib.hid (box_below K1.out hb')
  have KR2 := Lib.hid (box_below KR1.out hb')
  have HB2 := Lib.hid (bel_then HB1.out hb' HB1.out.size)
  have HO := Lib.hid ho
  have HS := Lib.hid hs
  have HI := Lib.hid hO.inn
  have hl1 : w.heap.size + 1 < w1.heap.size := box_lt KR1.out
  clear K1 KR1 HB1 hb hb' hHeld hO ho hs
  refine hK _ _ (by exact range_of K2.out List.take_length) (fun hHeld => ?_)
  clear hK K
  try simp only [Act.put, pj]
  refine tkk (i := 4) rfl ?_
  try simp only [Act.put, pj]
  refine wpAnyH_ready (rs := [5]) (by kernel_rfl) (by simp) (AllReadyH.cons rfl (fun K hK => ?_) AllReadyH.nil)
  refine wp_put rfl 36 _ _ rfl (w.heap.size + 1) 0 (enL (newE s rev) A 0 c) rfl rfl KR2.out (by kernel_rfl) (enL (newE s rev) A 0 c) rfl (Nat.le_of_ble_eq_true rfl) (enL_one _ _ _ _) ?_
  refine hK _ _ (by exact range_of (row_far K2.out (by omega)) List.take_length) (fun hHeld => ?_)
  clear hK K
  try simp only [Act.put, pj]
  refine tkk (i := 6) rfl ?_
  try simp only [Act.put, pj]
  refine wpAnyH_done (by kernel_rfl) ?_ _
  clear hHeld
  go_wp2
  refine bodyPost_ret (v := .tuple #[.agg (enL (newE s rev) A 0 c).toArray, .bool true]) (results_box_tmp Tryz.results81 _ rfl rfl (row_box KR2.out) Tryz.underlying36 rfl (by kernel_rfl)) rfl ?_
  rw [HT.out, HE.out]
  refine ⟨_, S, rfl, ⟨⟨A, c, rfl, HO.out.same fun k hk => setRow_other _ _ _ _ ?_, HS.out⟩, fun k hk => ?_, ?_⟩, row_below HB2.out _ _ (by omega) HB2.out.size⟩
  · have := HI.out k (HS.out k hk)
    simp only [World.size_drew] at this
    omega
  · have := HI.out k hk
    simp only [World.size_drew] at this
    simp
    omega
  · exact Nat.le_refl _
set_option maxRecDepth 100000 in
set_option maxHeartbeats 6400000 in
theorem specNewEngine_any (s : Spc) (rev : Int) (w : World) : Calls Tryz.prog 53 #[.agg (spL s).toArray, .int .i64 rev] w (Made1 ety (newD s rev) (.bool (newB s rev)) w) := by
  obtain ⟨r, hr⟩ : ∃ r, r = newB s rev := ⟨_, rfl⟩
  obtain ⟨D, hD⟩ : ∃ D, D = newD s rev := ⟨_, rfl⟩
  rw [← hr, ← hD]
  have HR := Lib.hid hr
  have HD := Lib.hid hD
  clear hr hD
  obtain ⟨V, hV⟩ : ∃ V, V = (w.alloc (.cells (spL s).toArray 25)).alloc (.cells #[.int .i64 0, .int .i64 0, .int .i64 0, .int .i64 0, .int .i64 0, .int .i64 0, .int .i64 0, .int .i64 0, .int .i64 0, .int .i64 0, .int .i64 0, .int .i64 0, .int .i64 0, .int .i64 0, .int .i64 0, .slice none 0 0, .int .i64 0, .int .i64 0, .int .i64 0, .int .i64 0] 36) := ⟨_, rfl⟩
  have HB : Hid (Below w.heap.size w V) := by rw [hV]; exact bel2 _ _ _
  have K : Hid (V.heap[w.heap.size]? = some (.cells (spL s).toArray 25 (0, 0))) := by rw [hV]; exact box_alloc (box_new w _) _
  have KR : Hid (V.heap[w.heap.size + 1]? = some (.cells (enL zeroE none 0 0).toArray 36 (0, 0))) := by rw [hV]; have h := box_new (w.alloc (.cells (spL s).toArray 25)) (.cells #[.int .i64 0, .int .i64 0, .int .i64 0, .int .i64 0, .int .i64 0, .int .i64 0, .int .i64 0, .int .i64 0, .int .i64 0, .int .i64 0, .int .i64 0, .int .i64 0, .int .i64 0, .int .i64 0, .int .i64 0, .slice none 0 0, .int .i64 0, .int .i64 0, .int .i64 0, .int .i64 0] 36); simp only [World.size_alloc] at h; exact h
  go_enter Tryz.func53, Tryz.ntmps53
  go_upto_region 1 with fail
  rw [← hV]
  clear hV
  go_wp2_with (refine wpList_get rfl 25 _ rfl w.heap.size 0 rfl K.out (spL s) List.take_length Tryz.underlying25 rfl (by kernel_rfl) ?_)
  refine (Sp.specSpecOk_any s.x0 s.x1 s.x2 s.x3 s.x4 s.x5 s.x6 s.x7 s.x8 s.x9 s.x10 _).mono ?_
  rintro e w1 ⟨rfl, hb⟩
  have K1 := Lib.hid (box_below K.out hb)
  have KR1 := Lib.hid (box_below KR.out hb)
  have HB1 := Lib.hid (bel_then HB.out hb HB.out.size)
  clear K KR HB hb
  have hs0 : Sp.specB s.x0 s.x1 s.x2 s.x3 s.x4 s.x5 s.x6 s.x7 s.x8 s.x9 s.x10 = s.ok := rfl
  rw [hs0]
  clear hs0
  have NO : Hid (r = false → Made1 ety D (.bool r) w (.returned (.tuple #[.agg (enL zeroE none 0 0).toArray, .bool false])) (w1.setRow (w.heap.size + 1) (enL zeroE none 0 0).toArray)) := fun h => by
    have e1 : D = zeroE := by rw [HD.out]; unfold newD; rw [← HR.out, h]; rfl
    rw [h, e1]
    have hl : w.heap.size + 1 < w1.heap.size := box_lt KR1.out
    refine ⟨_, fun _ => False, rfl, ⟨⟨none, 0, rfl, OwnP.nil _ _, fun k hk => by simp [Value.ownBlock] at hk⟩, fun k hk => hk.elim, ?_⟩, row_below HB1.out _ _ (by omega) HB1.out.size⟩
    exact Nat.le_refl _
  cases h0 : s.ok
  · have HF : Hid (r = false) := by show _ = _; rw [HR.out]; simp [newB, h0]
    clear h0
    go_wp2_with (refine wpList_put rfl rfl 36 _ _ rfl (w.heap.size + 1) 0 (enL zeroE none 0 0) rfl rfl KR1.out (by kernel_rfl) (enL zeroE none 0 0) rfl (Nat.le_of_ble_eq_true rfl) (enL_one _ _ _ _) ?_)
    exact bodyPost_ret (v := .tuple #[.agg (enL zeroE none 0 0).toArray, .bool false]) (results_box_tmp Tryz.results53 _ rfl rfl (row_box KR1.out) Tryz.underlying36 rfl (by kernel_rfl)) rfl (NO.out HF.out)
  have H0 := Lib.hid h0
  clear h0
  go_wp2_with fail
  refine (l01In_any rev 1 1000 _).mono ?_
  rintro e w' ⟨rfl, rfl⟩
  cases h1 : inB rev 1 1000
  · have HF : Hid (r = false) := by show _ = _; rw [HR.out]; simp [newB, h1]
    clear h1
    go_wp2_with (refine wpList_put rfl rfl 36 _ _ rfl (w.heap.size + 1) 0 (enL zeroE none 0 0) rfl rfl KR1.out (by kernel_rfl) (enL zeroE none 0 0) rfl (Nat.le_of_ble_eq_true rfl) (enL_one _ _ _ _) ?_)
    exact bodyPost_ret (v := .tuple #[.agg (enL zeroE none 0 0).toArray, .bool false]) (results_box_tmp Tryz.results53 _ rfl rfl (row_box KR1.out) Tryz.underlying36 rfl (by kernel_rfl)) rfl (NO.out HF.out)
  have HT : Hid (r = true) := by show _ = _; rw [HR.out]; simp [newB, H0.out, h1]
  have HE : Hid (D = newE s rev) := by show _ = _; rw [HD.out]; unfold newD; rw [← HR.out, HT.out]; rfl
  clear h1
  go_wp2_with fail
  refine wp_region_held_drew (S := fun w' => w'.rangeAt w.heap.size 0 (spL s)) (by kernel_rfl) (range_of K1.out List.take_length) (fun hHeld => ?_)
  refine tkj (i := 0) (v := .agg ([.int .i64 s.x0, .int .i64 s.x1, .int .i64 s.x2, .int .i64 s.x3, .int .i64 s.x4, .int .i64 s.x5, .int .i64 s.x6, .int .i64 s.x7, .int .i64 s.x8, .int .i64 s.x9, .int .i64 s.x10]).toArray) rfl (yieldsIf_load_mid (by rfl) 25 _ rfl w.heap.size 0 rfl ([.int .i64 s.x0, .int .i64 s.x1, .int .i64 s.x2, .int .i64 s.x3, .int .i64 s.x4, .int .i64 s.x5, .int .i64 s.x6, .int .i64 s.x7, .int .i64 s.x8, .int .i64 s.x9, .int .i64 s.x10]) _ (fun w' h => h) Tryz.underlying25 rfl (by kernel_rfl)) ?_
  try simp only [Act.put, pj]
  refine tkk (i := 1) rfl ?_
  try simp only [Act.put, pj]
  refine tkk (i := 2) rfl ?_
  try simp only [Act.put, pj]
  refine wpAnyH_ready (rs := [3]) (by kernel_rfl) (by simp) (AllReadyH.cons rfl (fun K hK => ?_) AllReadyH.nil)
  go_simp
  refine (NewFl.specNewFleet_any _).mono ?_
  rintro e w2 ⟨v, S, rfl, hO, hb⟩
  obtain ⟨A, c, rfl, ho, hs⟩ := hO.own
  have hb' : Below w1.heap.size w1 w2 := undrew hb
  have K2 := Lib.hid (box_below K1.out hb')
  have KR2 := Lib.hid (box_below KR1.out hb')
  have HB2 := Lib.hid (bel_then HB1.out hb' HB1.out.size)
  have HO := Lib.hid ho
  have HS := Lib.hid hs
  have HI := Lib.hid hO.inn
  have hl1 : w.heap.size + 1 < w1.heap.size := box_lt KR1.out
  clear K1 KR1 HB1 hb hb' hHeld hO ho hs
  refine hK _ _ (by exact range_of K2.out List.take_length) (fun hHeld => ?_)
  clear hK K
  try simp only [Act.put, pj]
  refine tkk (i := 4) rfl ?_
  try simp only [Act.put, pj]
  refine wpAnyH_ready (rs := [5]) (by kernel_rfl) (by simp) (AllReadyH.cons rfl (fun K hK => ?_) AllReadyH.nil)
  refine wp_put rfl 36 _ _ rfl (w.heap.size + 1) 0 (enL (newE s rev) A 0 c) rfl rfl KR2.out (by kernel_rfl) (enL (newE s rev) A 0 c) rfl (Nat.le_of_ble_eq_true rfl) (enL_one _ _ _ _) ?_
  refine hK _ _ (by exact range_of (row_far K2.out (by omega)) List.take_length) (fun hHeld => ?_)
  clear hK K
  try simp only [Act.put, pj]
  refine tkk (i := 6) rfl ?_
  try simp only [Act.put, pj]
  refine wpAnyH_done (by kernel_rfl) ?_ _
  clear hHeld
  go_wp2
  refine bodyPost_ret (v := .tuple #[.agg (enL (newE s rev) A 0 c).toArray, .bool true]) (results_box_tmp Tryz.results53 _ rfl rfl (row_box KR2.out) Tryz.underlying36 rfl (by kernel_rfl)) rfl ?_
  rw [HT.out, HE.out]
  refine ⟨_, S, rfl, ⟨⟨A, c, rfl, HO.out.same fun k hk => setRow_other _ _ _ _ ?_, HS.out⟩, fun k hk => ?_, ?_⟩, row_below HB2.out _ _ (by omega) HB2.out.size⟩
  · have := HI.out k (HS.out k hk)
    simp only [World.size_drew] at this
    omega
  · have := HI.out k hk
    simp only [World.size_drew] at this
    simp
    omega
  · exact Nat.le_refl _
end Go.Proofs.YtklgjjmcflgjeaaGreat.EngNew
