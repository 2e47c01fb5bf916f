/-
  THE PROGRAM'S AND THE MODEL'S NewEngine (with few texts ahead of it) over this seat's translation.
-/
import Derived.Test.YtklgjjmcflgjeaaEngTy
import Derived.Test.YtklgjjmcflgjeaaNewFl
namespace Go.Proofs.Ytklgjjmcflgjeaa.EngNew
open Go.ChangeShapes Go.WideShapes Go.ChangeAt Go.RowKit
open Go.Proofs.Ytklgjjmcflgjeaa.LK Go.Proofs.Ytklgjjmcflgjeaa.Pods Go.Proofs.Ytklgjjmcflgjeaa.FleetV Go.Proofs.Ytklgjjmcflgjeaa.EngV Go.Proofs.Ytklgjjmcflgjeaa.EngTy Go.Proofs.Ytklgjjmcflgjeaa.Seg
open Go.Proofs.Ytklgjjmcflgjeaa.Tick (inB l01In_any)
set_option linter.unusedVariables false
set_option linter.unusedSimpArgs false
theorem within_any (x lo hi : Int) (w : World) :
    Calls Try.prog 52 #[.int .i64 x, .int .i64 lo, .int .i64 hi] w fun e w' => e = .returned (.bool (inB x lo hi)) ∧ w = w' := by
  by_cases h0 : lo ≤ x <;> by_cases h1 : x ≤ hi
  all_goals
    go_enter Try.func52, Try.ntmps52
    go_wp2
    go_ret
    simp [inB, h0, h1]
theorem revOk_any (x : Int) (w : World) :
    Calls Try.prog 43 #[.int .i64 x] w fun e w' => e = .returned (.bool (inB x 1 1000)) ∧ w = w' := by
  go_enter Try.func43, Try.ntmps43
  go_wp2_with (go_at_call 52; refine (within_any _ _ _ _).mono ?_; rintro e w' ⟨rfl, rfl⟩)
  go_ret
  exact ⟨rfl, rfl⟩
def newD (s : Spc) (rev : Int) : Eng := if newB s rev then newE s rev else zeroE
set_option maxRecDepth 100000 in
set_option maxHeartbeats 6400000 in
theorem newEngine_any (s : Spc) (rev : Int) (w : World) : Calls Try.prog 24 #[.agg (spL s).toArray, .int .i64 rev] w (Made1 ety (newD s rev) (.bool (newB s rev)) w) := by
  obtain ⟨r, hr⟩ : ∃ r, r = newB s rev := ⟨_, rfl⟩
  obtain ⟨D, hD⟩ : ∃ D, D = newD s rev := ⟨_, rfl⟩
  rw [← hr, ← hD]
  have HR := Lib.hid hr
  have HD := Lib.hid hD
  clear hr hD
  obtain ⟨V, hV⟩ : ∃ V, V = (w.alloc (.cells (spL s).toArray 24)).alloc (.cells #[.int .i64 0, .int .i64 0, .int .i64 0, .int .i64 0, .int .i64 0, .int .i64 0, .int .i64 0, .int .i64 0, .int .i64 0, .int .i64 0, .int .i64 0, .int .i64 0, .int .i64 0, .int .i64 0, .int .i64 0, .slice none 0 0, .int .i64 0, .int .i64 0, .int .i64 0, .int .i64 0] 32) := ⟨_, rfl⟩
  have HB : Hid (Below w.heap.size w V) := by rw [hV]; exact bel2 _ _ _
  have K : Hid (V.heap[w.heap.size]? = some (.cells (spL s).toArray 24 (0, 0))) := by rw [hV]; exact box_alloc (box_new w _) _
  have KR : Hid (V.heap[w.heap.size + 1]? = some (.cells (enL zeroE none 0 0).toArray 32 (0, 0))) := by rw [hV]; have h := box_new (w.alloc (.cells (spL s).toArray 24)) (.cells #[.int .i64 0, .int .i64 0, .int .i64 0, .int .i64 0, .int .i64 0, .int .i64 0, .int .i64 0, .int .i64 0, .int .i64 0, .int .i64 0, .int .i64 0, .int .i64 0, .int .i64 0, .int .i64 0, .int .i64 0, .slice none 0 0, .int .i64 0, .int .i64 0, .int .i64 0, .int .i64 0] 32); simp only [World.size_alloc] at h; exact h
  go_enter Try.func24, Try.ntmps24
  go_upto_region 1 with fail
  rw [← hV]
  clear hV
  go_wp2_with (refine wpList_get rfl 24 _ rfl w.heap.size 0 rfl K.out (spL s) List.take_length Try.underlying24 rfl (by kernel_rfl) ?_)
  refine (Sp.specOk_any s.x0 s.x1 s.x2 s.x3 s.x4 s.x5 s.x6 s.x7 s.x8 s.x9 s.x10 _).mono ?_
  rintro e w1 ⟨rfl, hb⟩
  have K1 := Lib.hid (box_below K.out hb)
  have KR1 := Lib.hid (box_below KR.out hb)
  have HB1 := Lib.hid (bel_then HB.out hb HB.out.size)
  clear K KR HB hb
  have hs0 : Sp.specB s.x0 s.x1 s.x2 s.x3 s.x4 s.x5 s.x6 s.x7 s.x8 s.x9 s.x10 = s.ok := rfl
  rw [hs0]
  clear hs0
  have NO : Hid (r = false → Made1 ety D (.bool r) w (.returned (.tuple #[.agg (enL zeroE none 0 0).toArray, .bool false])) (w1.setRow (w.heap.size + 1) (enL zeroE none 0 0).toArray)) := fun h => by
    have e1 : D = zeroE := by rw [HD.out]; unfold newD; rw [← HR.out, h]; rfl
    rw [h, e1]
    have hl : w.heap.size + 1 < w1.heap.size := box_lt KR1.out
    refine ⟨_, fun _ => False, rfl, ⟨⟨none, 0, rfl, OwnP.nil _ _, fun k hk => by simp [Value.ownBlock] at hk⟩, fun k hk => hk.elim, ?_⟩, row_below HB1.out _ _ (by omega) HB1.out.size⟩
    exact Nat.le_refl _
  cases h0 : s.ok
  · have HF : Hid (r = false) := by show _ = _; rw [HR.out]; simp [newB, h0]
    clear h0
    go_wp2_with (refine wpList_put rfl rfl 32 _ _ rfl (w.heap.size + 1) 0 (enL zeroE none 0 0) rfl rfl KR1.out (by kernel_rfl) (enL zeroE none 0 0) rfl (Nat.le_of_ble_eq_true rfl) (enL_one _ _ _ _) ?_)
    exact bodyPost_ret (v := .tuple #[.agg (enL zeroE none 0 0).toArray, .bool false]) (results_box_tmp Try.results24 _ rfl rfl (row_box KR1.out) Try.underlying32 rfl (by kernel_rfl)) rfl (NO.out HF.out)
  have H0 := Lib.hid h0
  clear h0
  go_wp2_with fail
  refine (revOk_any rev _).mono ?_
  rintro e w' ⟨rfl, rfl⟩
  cases h1 : inB rev 1 1000
  · have HF : Hid (r = false) := by show _ = _; rw [HR.out]; simp [newB, h1]
    clear h1
    go_wp2_with (refine wpList_put rfl rfl 32 _ _ rfl (w.heap.size + 1) 0 (enL zeroE none 0 0) rfl rfl KR1.out (by kernel_rfl) (enL zeroE none 0 0) rfl (Nat.le_of_ble_eq_true rfl) (enL_one _ _ _ _) ?_)
    exact bodyPost_ret (v := .tuple #[.agg (enL zeroE none 0 0).toArray, .bool false]) (results_box_tmp Try.results24 _ rfl rfl (row_box KR1.out) Try.underlying32 rfl (by kernel_rfl)) rfl (NO.out HF.out)
  have HT : Hid (r = true) := by show _ = _; rw [HR.out]; simp [newB, H0.out, h1]
  have HE : Hid (D = newE s rev) := by show _ = _; rw [HD.out]; unfold newD; rw [← HR.out, HT.out]; rfl
  clear h1
  go_wp2_with fail
  refine wp_region_held_drew (S := fun w' => w'.rangeAt w.heap.size 0 (spL s)) (by kernel_rfl) (range_of K1.out List.take_length) (fun hHeld => ?_)
  refine wpAnyH_take (i := 0) (v := .agg ([.int .i64 s.x0, .int .i64 s.x1, .int .i64 s.x2, .int .i64 s.x3, .int .i64 s.x4, .int .i64 s.x5, .int .i64 s.x6, .int .i64 s.x7, .int .i64 s.x8, .int .i64 s.x9, .int .i64 s.x10]).toArray) rfl (by kernel_rfl) (by kernel_rfl) (by kernel_rfl) (fun _ _ _ h => h) (yieldsIf_load_mid (by rfl) 24 _ rfl w.heap.size 0 rfl ([.int .i64 s.x0, .int .i64 s.x1, .int .i64 s.x2, .int .i64 s.x3, .int .i64 s.x4, .int .i64 s.x5, .int .i64 s.x6, .int .i64 s.x7, .int .i64 s.x8, .int .i64 s.x9, .int .i64 s.x10]) _ (fun w' h => h) Try.underlying24 rfl (by kernel_rfl)) (by assumption) ?_
  try simp only [Act.put, List.getElem_toArray, List.getElem_cons_zero, List.getElem_cons_succ, List.setIfInBounds_toArray, List.set_cons_zero, List.set_cons_succ]
  refine wpAnyH_take (i := 1) (v := ?v1) rfl (by kernel_rfl) (by kernel_rfl) (by kernel_rfl) (fun _ _ _ h => h) (Or.inl ⟨by rfl, ?hy1⟩) (by assumption) ?_
  case hy1 => (intro w0 hSw; (try dsimp only at hSw); go_simp <;> with_reducible rfl)
  try simp only [Act.put, List.getElem_toArray, List.getElem_cons_zero, List.getElem_cons_succ, List.setIfInBounds_toArray, List.set_cons_zero, List.set_cons_succ]
  refine wpAnyH_take (i := 2) (v := ?v2) rfl (by kernel_rfl) (by kernel_rfl) (by kernel_rfl) (fun _ _ _ h => h) (Or.inl ⟨by rfl, ?hy2⟩) (by assumption) ?_
  case hy2 => (intro w0 hSw; (try dsimp only at hSw); go_simp <;> with_reducible rfl)
  try simp only [Act.put, List.getElem_toArray, List.getElem_cons_zero, List.getElem_cons_succ, List.setIfInBounds_toArray, List.set_cons_zero, List.set_cons_succ]
  refine wpAnyH_ready (rs := [3]) (by kernel_rfl) (by simp) (AllReadyH.cons rfl (fun K hK => ?_) AllReadyH.nil)
  go_simp
  refine (NewFl.newFleet_any _).mono ?_
  rintro e w2 ⟨v, S, rfl, hO, hb⟩
  obtain ⟨A, c, rfl, ho, hs⟩ := hO.own
  have hb' : Below w1.heap.size w1 w2 := undrew hb
  have K2 := Lib.hid (box_below K1.out hb')
  have KR2 := Lib.hid (box_below KR1.out hb')
  have HB2 := Lib.hid (bel_then HB1.out hb' HB1.out.size)
  have HO := Lib.hid ho
  have HS := Lib.hid hs
  have HI := Lib.hid hO.inn
  have hl1 : w.heap.size + 1 < w1.heap.size := box_lt KR1.out
  clear K1 KR1 HB1 hb hb' hHeld hO ho hs
  refine hK _ _ (by exact range_of K2.out List.take_length) (fun hHeld => ?_)
  clear hK K
  try simp only [Act.put, List.getElem_toArray, List.getElem_cons_zero, List.getElem_cons_succ, List.setIfInBounds_toArray, List.set_cons_zero, List.set_cons_succ]
  refine wpAnyH_take (i := 4) (v := ?v4) rfl (by kernel_rfl) (by kernel_rfl) (by kernel_rfl) (fun _ _ _ h => h) (Or.inl ⟨by rfl, ?hy4⟩) (by assumption) ?_
  case hy4 => (intro w0 hSw; (try dsimp only at hSw); go_simp <;> with_reducible rfl)
  try simp only [Act.put, List.getElem_toArray, List.getElem_cons_zero, List.getElem_cons_succ, List.setIfInBounds_toArray, List.set_cons_zero, List.set_cons_succ]
  refine wpAnyH_ready (rs := [5]) (by kernel_rfl) (by simp) (AllReadyH.cons rfl (fun K hK => ?_) AllReadyH.nil)
  refine wp_put rfl 32 _ _ rfl (w.heap.size + 1) 0 (enL (newE s rev) A 0 c) rfl rfl KR2.out (by kernel_rfl) (enL (newE s rev) A 0 c) rfl (Nat.le_of_ble_eq_true rfl) (enL_one _ _ _ _) ?_
  refine hK _ _ (by exact range_of (row_far K2.out (by omega)) List.take_length) (fun hHeld => ?_)
  clear hK K
  try simp only [Act.put, List.getElem_toArray, List.getElem_cons_zero, List.getElem_cons_succ, List.setIfInBounds_toArray, List.set_cons_zero, List.set_cons_succ]
  refine wpAnyH_take (i := 6) (v := ?v6) rfl (by kernel_rfl) (by kernel_rfl) (by kernel_rfl) (fun _ _ _ h => h) (Or.inl ⟨by rfl, ?hy6⟩) (by assumption) ?_
  case hy6 => (intro w0 hSw; (try dsimp only at hSw); go_simp <;> with_reducible rfl)
  try simp only [Act.put, List.getElem_toArray, List.getElem_cons_zero, List.getElem_cons_succ, List.setIfInBounds_toArray, List.set_cons_zero, List.set_cons_succ]
  refine wpAnyH_done (by kernel_rfl) ?_ _
  clear hHeld
  go_wp2
  refine bodyPost_ret (v := .tuple #[.agg (enL (newE s rev) A 0 c).toArray, .bool true]) (results_box_tmp Try.results24 _ rfl rfl (row_box KR2.out) Try.underlying32 rfl (by kernel_rfl)) rfl ?_
  rw [HT.out, HE.out]
  refine ⟨_, S, rfl, ⟨⟨A, c, rfl, HO.out.same fun k hk => setRow_other _ _ _ _ ?_, HS.out⟩, fun k hk => ?_, ?_⟩, row_below HB2.out _ _ (by omega) HB2.out.size⟩
  · have := HI.out k (HS.out k hk)
    simp only [World.size_drew] at this
    omega
  · have := HI.out k hk
    simp only [World.size_drew] at this
    simp
    omega
  · exact Nat.le_refl _
set_option maxRecDepth 100000 in
set_option maxHeartbeats 6400000 in
theorem specNewEngine_any (s : Spc) (rev : Int) (w : World) : Calls Try.prog 23 #[.agg (spL s).toArray, .int .i64 rev] w (Made1 ety (newD s rev) (.bool (newB s rev)) w) := by
  obtain ⟨r, hr⟩ : ∃ r, r = newB s rev := ⟨_, rfl⟩
  obtain ⟨D, hD⟩ : ∃ D, D = newD s rev := ⟨_, rfl⟩
  rw [← hr, ← hD]
  have HR := Lib.hid hr
  have HD := Lib.hid hD
  clear hr hD
  obtain ⟨V, hV⟩ : ∃ V, V = (w.alloc (.cells (spL s).toArray 24)).alloc (.cells #[.int .i64 0, .int .i64 0, .int .i64 0, .int .i64 0, .int .i64 0, .int .i64 0, .int .i64 0, .int .i64 0, .int .i64 0, .int .i64 0, .int .i64 0, .int .i64 0, .int .i64 0, .int .i64 0, .int .i64 0, .slice none 0 0, .int .i64 0, .int .i64 0, .int .i64 0, .int .i64 0] 32) := ⟨_, rfl⟩
  have HB : Hid (Below w.heap.size w V) := by rw [hV]; exact bel2 _ _ _
  have K : Hid (V.heap[w.heap.size]? = some (.cells (spL s).toArray 24 (0, 0))) := by rw [hV]; exact box_alloc (box_new w _) _
  have KR : Hid (V.heap[w.heap.size + 1]? = some (.cells (enL zeroE none 0 0).toArray 32 (0, 0))) := by rw [hV]; have h := box_new (w.alloc (.cells (spL s).toArray 24)) (.cells #[.int .i64 0, .int .i64 0, .int .i64 0, .int .i64 0, .int .i64 0, .int .i64 0, .int .i64 0, .int .i64 0, .int .i64 0, .int .i64 0, .int .i64 0, .int .i64 0, .int .i64 0, .int .i64 0, .int .i64 0, .slice none 0 0, .int .i64 0, .int .i64 0, .int .i64 0, .int .i64 0] 32); simp only [World.size_alloc] at h; exact h
  go_enter Try.func23, Try.ntmps23
  go_upto_region 1 with fail
  rw [← hV]
  clear hV
  go_wp2_with (refine wpList_get rfl 24 _ rfl w.heap.size 0 rfl K.out (spL s) List.take_length Try.underlying24 rfl (by kernel_rfl) ?_)
  refine (Sp.specSpecOk_any s.x0 s.x1 s.x2 s.x3 s.x4 s.x5 s.x6 s.x7 s.x8 s.x9 s.x10 _).mono ?_
  rintro e w1 ⟨rfl, hb⟩
  have K1 := Lib.hid (box_below K.out hb)
  have KR1 := Lib.hid (box_below KR.out hb)
  have HB1 := Lib.hid (bel_then HB.out hb HB.out.size)
  clear K KR HB hb
  have hs0 : Sp.specB s.x0 s.x1 s.x2 s.x3 s.x4 s.x5 s.x6 s.x7 s.x8 s.x9 s.x10 = s.ok := rfl
  rw [hs0]
  clear hs0
  have NO : Hid (r = false → Made1 ety D (.bool r) w (.returned (.tuple #[.agg (enL zeroE none 0 0).toArray, .bool false])) (w1.setRow (w.heap.size + 1) (enL zeroE none 0 0).toArray)) := fun h => by
    have e1 : D = zeroE := by rw [HD.out]; unfold newD; rw [← HR.out, h]; rfl
    rw [h, e1]
    have hl : w.heap.size + 1 < w1.heap.size := box_lt KR1.out
    refine ⟨_, fun _ => False, rfl, ⟨⟨none, 0, rfl, OwnP.nil _ _, fun k hk => by simp [Value.ownBlock] at hk⟩, fun k hk => hk.elim, ?_⟩, row_below HB1.out _ _ (by omega) HB1.out.size⟩
    exact Nat.le_refl _
  cases h0 : s.ok
  · have HF : Hid (r = false) := by show _ = _; rw [HR.out]; simp [newB, h0]
    clear h0
    go_wp2_with (refine wpList_put rfl rfl 32 _ _ rfl (w.heap.size + 1) 0 (enL zeroE none 0 0) rfl rfl KR1.out (by kernel_rfl) (enL zeroE none 0 0) rfl (Nat.le_of_ble_eq_true rfl) (enL_one _ _ _ _) ?_)
    exact bodyPost_ret (v := .tuple #[.agg (enL zeroE none 0 0).toArray, .bool false]) (results_box_tmp Try.results23 _ rfl rfl (row_box KR1.out) Try.underlying32 rfl (by kernel_rfl)) rfl (NO.out HF.out)
  have H0 := Lib.hid h0
  clear h0
  go_wp2_with fail
  refine (l01In_any rev 1 1000 _).mono ?_
  rintro e w' ⟨rfl, rfl⟩
  cases h1 : inB rev 1 1000
  · have HF : Hid (r = false) := by show _ = _; rw [HR.out]; simp [newB, h1]
    clear h1
    go_wp2_with (refine wpList_put rfl rfl 32 _ _ rfl (w.heap.size + 1) 0 (enL zeroE none 0 0) rfl rfl KR1.out (by kernel_rfl) (enL zeroE none 0 0) rfl (Nat.le_of_ble_eq_true rfl) (enL_one _ _ _ _) ?_)
    exact bodyPost_ret (v := .tuple #[.agg (enL zeroE none 0 0).toArray, .bool false]) (results_box_tmp Try.results23 _ rfl rfl (row_box KR1.out) Try.underlying32 rfl (by kernel_rfl)) rfl (NO.out HF.out)
  have HT : Hid (r = true) := by show _ = _; rw [HR.out]; simp [newB, H0.out, h1]
  have HE : Hid (D = newE s rev) := by show _ = _; rw [HD.out]; unfold newD; rw [← HR.out, HT.out]; rfl
  clear h1
  go_wp2_with fail
  refine wp_region_held_drew (S := fun w' => w'.rangeAt w.heap.size 0 (spL s)) (by kernel_rfl) (range_of K1.out List.take_length) (fun hHeld => ?_)
  refine wpAnyH_take (i := 0) (v := .agg ([.int .i64 s.x0, .int .i64 s.x1, .int .i64 s.x2, .int .i64 s.x3, .int .i64 s.x4, .int .i64 s.x5, .int .i64 s.x6, .int .i64 s.x7, .int .i64 s.x8, .int .i64 s.x9, .int .i64 s.x10]).toArray) rfl (by kernel_rfl) (by kernel_rfl) (by kernel_rfl) (fun _ _ _ h => h) (yieldsIf_load_mid (by rfl) 24 _ rfl w.heap.size 0 rfl ([.int .i64 s.x0, .int .i64 s.x1, .int .i64 s.x2, .int .i64 s.x3, .int .i64 s.x4, .int .i64 s.x5, .int .i64 s.x6, .int .i64 s.x7, .int .i64 s.x8, .int .i64 s.x9, .int .i64 s.x10]) _ (fun w' h => h) Try.underlying24 rfl (by kernel_rfl)) (by assumption) ?_
  try simp only [Act.put, List.getElem_toArray, List.getElem_cons_zero, List.getElem_cons_succ, List.setIfInBounds_toArray, List.set_cons_zero, List.set_cons_succ]
  refine wpAnyH_take (i := 1) (v := ?v7) rfl (by kernel_rfl) (by kernel_rfl) (by kernel_rfl) (fun _ _ _ h => h) (Or.inl ⟨by rfl, ?hy7⟩) (by assumption) ?_
  case hy7 => (intro w0 hSw; (try dsimp only at hSw); go_simp <;> with_reducible rfl)
  try simp only [Act.put, List.getElem_toArray, List.getElem_cons_zero, List.getElem_cons_succ, List.setIfInBounds_toArray, List.set_cons_zero, List.set_cons_succ]
  refine wpAnyH_take (i := 2) (v := ?v8) rfl (by kernel_rfl) (by kernel_rfl) (by kernel_rfl) (fun _ _ _ h => h) (Or.inl ⟨by rfl, ?hy8⟩) (by assumption) ?_
  case hy8 => (intro w0 hSw; (try dsimp only at hSw); go_simp <;> with_reducible rfl)
  try simp only [Act.put, List.getElem_toArray, List.getElem_cons_zero, List.getElem_cons_succ, List.setIfInBounds_toArray, List.set_cons_zero, List.set_cons_succ]
  refine wpAnyH_ready (rs := [3]) (by kernel_rfl) (by simp) (AllReadyH.cons rfl (fun K hK => ?_) AllReadyH.nil)
  go_simp
  refine (NewFl.specNewFleet_any _).mono ?_
  rintro e w2 ⟨v, S, rfl, hO, hb⟩
  obtain ⟨A, c, rfl, ho, hs⟩ := hO.own
  have hb' : Below w1.heap.size w1 w2 := undrew hb
  have K2 := Lib.hid (box_below K1.out hb')
  have KR2 := Lib.hid (box_below KR1.out hb')
  have HB2 := Lib.hid (bel_then HB1.out hb' HB1.out.size)
  have HO := Lib.hid ho
  have HS := Lib.hid hs
  have HI := Lib.hid hO.inn
  have hl1 : w.heap.size + 1 < w1.heap.size := box_lt KR1.out
  clear K1 KR1 HB1 hb hb' hHeld hO ho hs
  refine hK _ _ (by exact range_of K2.out List.take_length) (fun hHeld => ?_)
  clear hK K
  try simp only [Act.put, List.getElem_toArray, List.getElem_cons_zero, List.getElem_cons_succ, List.setIfInBounds_toArray, List.set_cons_zero, List.set_cons_succ]
  refine wpAnyH_take (i := 4) (v := ?v10) rfl (by kernel_rfl) (by kernel_rfl) (by kernel_rfl) (fun _ _ _ h => h) (Or.inl ⟨by rfl, ?hy10⟩) (by assumption) ?_
  case hy10 => (intro w0 hSw; (try dsimp only at hSw); go_simp <;> with_reducible rfl)
  try simp only [Act.put, List.getElem_toArray, List.getElem_cons_zero, List.getElem_cons_succ, List.setIfInBounds_toArray, List.set_cons_zero, List.set_cons_succ]
  refine wpAnyH_ready (rs := [5]) (by kernel_rfl) (by simp) (AllReadyH.cons rfl (fun K hK => ?_) AllReadyH.nil)
  refine wp_put rfl 32 _ _ rfl (w.heap.size + 1) 0 (enL (newE s rev) A 0 c) rfl rfl KR2.out (by kernel_rfl) (enL (newE s rev) A 0 c) rfl (Nat.le_of_ble_eq_true rfl) (enL_one _ _ _ _) ?_
  refine hK _ _ (by exact range_of (row_far K2.out (by omega)) List.take_length) (fun hHeld => ?_)
  clear hK K
  try simp only [Act.put, List.getElem_toArray, List.getElem_cons_zero, List.getElem_cons_succ, List.setIfInBounds_toArray, List.set_cons_zero, List.set_cons_succ]
  refine wpAnyH_take (i := 6) (v := ?v12) rfl (by kernel_rfl) (by kernel_rfl) (by kernel_rfl) (fun _ _ _ h => h) (Or.inl ⟨by rfl, ?hy12⟩) (by assumption) ?_
  case hy12 => (intro w0 hSw; (try dsimp only at hSw); go_simp <;> with_reducible rfl)
  try simp only [Act.put, List.getElem_toArray, List.getElem_cons_zero, List.getElem_cons_succ, List.setIfInBounds_toArray, List.set_cons_zero, List.set_cons_succ]
  refine wpAnyH_done (by kernel_rfl) ?_ _
  clear hHeld
  go_wp2
  refine bodyPost_ret (v := .tuple #[.agg (enL (newE s rev) A 0 c).toArray, .bool true]) (results_box_tmp Try.results23 _ rfl rfl (row_box KR2.out) Try.underlying32 rfl (by kernel_rfl)) rfl ?_
  rw [HT.out, HE.out]
  refine ⟨_, S, rfl, ⟨⟨A, c, rfl, HO.out.same fun k hk => setRow_other _ _ _ _ ?_, HS.out⟩, fun k hk => ?_, ?_⟩, row_below HB2.out _ _ (by omega) HB2.out.size⟩
  · have := HI.out k (HS.out k hk)
    simp only [World.size_drew] at this
    omega
  · have := HI.out k hk
    simp only [World.size_drew] at this
    simp
    omega
  · exact Nat.le_refl _
end Go.Proofs.Ytklgjjmcflgjeaa.EngNew
