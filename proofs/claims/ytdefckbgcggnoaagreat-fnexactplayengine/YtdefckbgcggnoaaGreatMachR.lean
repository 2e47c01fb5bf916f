/-
  THE MACHINE's plan over this seat's translation.
-/
import Derived.Test.YtdefckbgcggnoaaGreatMachQ
import Derived.Test.YtdefckbgcggnoaaGreatPlanI
namespace Go.Proofs.YtdefckbgcggnoaaGreat.Mach
open Go.ChangeShapes Go.WideShapes Go.ChangeAt Go.RowKit
open Go.Proofs.YtdefckbgcggnoaaGreat.LK Go.Proofs.YtdefckbgcggnoaaGreat.Pods Go.Proofs.YtdefckbgcggnoaaGreat.EngV Go.Proofs.YtdefckbgcggnoaaGreat.EngCnt Go.Proofs.YtdefckbgcggnoaaGreat.Eng Go.Proofs.YtdefckbgcggnoaaGreat.Seg
set_option linter.unusedVariables false
set_option linter.unusedSimpArgs false
set_option maxRecDepth 100000 in
set_option maxHeartbeats 12800000 in
theorem plan_any (w : World) (S : Nat → Prop) (b : Nat) (lk ot : Int) (r : Run) (h : Mach w S b lk ot r) (hok : r.e.okB = true) :
    Calls Tryz.prog 183 #[.pointer (some ⟨b, 0, none⟩)] w (Says (.agg #[.int .i64 (plCr r.e), .int .i64 (plDr r.e), .int .i64 (plDa r.e), .int .i64 (plDf r.e)]) w) := by
  obtain ⟨f1, hf1⟩ : ∃ x : Int, x = (live r.e false : Int) := ⟨_, rfl⟩
  obtain ⟨f2, hf2⟩ : ∃ x : Int, x = (good r.e false : Int) := ⟨_, rfl⟩
  obtain ⟨o1, ho1⟩ : ∃ x : Int, x = (live r.e true : Int) := ⟨_, rfl⟩
  obtain ⟨o2, ho2⟩ : ∃ x : Int, x = (good r.e true : Int) := ⟨_, rfl⟩
  obtain ⟨gg, hgg⟩ : ∃ x : Int, x = (going r.e : Int) := ⟨_, rfl⟩
  obtain ⟨li, hli⟩ : ∃ x : Int, x = limS r.e := ⟨_, rfl⟩
  obtain ⟨p1, hp1⟩ : ∃ x : Int, x = plCr r.e := ⟨_, rfl⟩
  obtain ⟨p2, hp2⟩ : ∃ x : Int, x = plDr r.e := ⟨_, rfl⟩
  obtain ⟨p3, hp3⟩ : ∃ x : Int, x = plDa r.e := ⟨_, rfl⟩
  obtain ⟨p4, hp4⟩ : ∃ x : Int, x = plDf r.e := ⟨_, rfl⟩
  have T := Lib.hid (planT_ok hok)
  rw [← hf1, ← hf2, ← ho1, ← ho2, ← hgg, ← hli, ← hp1, ← hp2, ← hp3, ← hp4] at T
  have CT : Hid (∀ W, Mach W S b lk ot r → Calls Tryz.prog 206 #[.pointer (some ⟨b, 0, none⟩)] W (Says (.tuple #[.agg #[.int .i64 f1, .int .i64 f2], .agg #[.int .i64 o1, .int .i64 o2], .int .i64 gg]) W)) := fun W hW => by
    have h := counts_any W S b lk ot r hW hok
    simp only [cntV, List.toArray] at h
    rw [← hf1, ← hf2, ← ho1, ← ho2, ← hgg] at h
    exact h
  have CL : Hid (∀ W, Mach W S b lk ot r → Calls Tryz.prog 208 #[.pointer (some ⟨b, 0, none⟩)] W (Says (.int .i64 li) W)) := fun W hW => by
    have h := limit_any W S b lk ot r hW hok
    rw [← hli] at h
    exact h
  have CP : Hid (∀ W, Calls Tryz.prog 207 #[.agg (spL r.e.sp).toArray, .agg #[.int .i64 f1, .int .i64 f2], .agg #[.int .i64 o1, .int .i64 o2], .int .i64 gg, .int .i64 li] W (Says (.tuple #[.agg #[.int .i64 p1, .int .i64 p2, .int .i64 p3, .int .i64 p4], .bool true]) W)) := fun W => by
    have h := PlanI.planStep_any r.e.sp.x0 r.e.sp.x1 r.e.sp.x2 r.e.sp.x3 r.e.sp.x4 r.e.sp.x5 r.e.sp.x6 r.e.sp.x7 r.e.sp.x8 r.e.sp.x9 r.e.sp.x10 f1 f2 o1 o2 gg li W
    rw [T.out] at h
    exact h
  rw [← hp1, ← hp2, ← hp3, ← hp4]
  clear hf1 hf2 ho1 ho2 hgg hli hp1 hp2 hp3 hp4 T hok
  have hbw : b < w.heap.size := by obtain ⟨A, n, c, E, m, k, h⟩ := h; exact h.lt
  obtain ⟨V, hV⟩ : ∃ V, V = w.alloc (.cells #[.int .i64 0, .int .i64 0, .int .i64 0, .int .i64 0] 196) := ⟨_, rfl⟩
  have HB : Hid (Below w.heap.size w V) := by rw [hV]; exact bel1 _ _
  have KR : Hid (V.heap[w.heap.size]? = some (.cells [.int .i64 0, .int .i64 0, .int .i64 0, .int .i64 0].toArray 196 (0, 0))) := by rw [hV]; exact box_new w _
  have H := Lib.hid (h.below HB.out)
  have hs : w.heap.size < V.heap.size := box_lt KR.out
  clear h
  go_enter Tryz.func183, Tryz.ntmps183
  go_upto_region 1 with fail
  rw [← hV]
  clear hV
  go_wp2_with fail
  refine (CT.out V H.out).mono ?_
  rintro e w1 ⟨rfl, hb⟩
  have KR1 := Lib.hid (box_below KR.out hb)
  have HB1 := Lib.hid (bel_then HB.out hb HB.out.size)
  have H1 := Lib.hid (H.out.below hb)
  have hs1 : w.heap.size < w1.heap.size := box_lt KR1.out
  clear hb KR HB H CT hs
  have KF : Hid (((w1.alloc (.cells #[.int .i64 0, .int .i64 0] 190)).alloc (.cells #[.int .i64 0, .int .i64 0] 190)).heap[w1.heap.size]? = some (.cells [.int .i64 0, .int .i64 0].toArray 190 (0, 0))) := box_alloc (box_new w1 _) _
  have KO : Hid ((((w1.alloc (.cells #[.int .i64 0, .int .i64 0] 190)).alloc (.cells #[.int .i64 0, .int .i64 0] 190)).setRow w1.heap.size [.int .i64 f1, .int .i64 f2].toArray).heap[w1.heap.size + 1]? = some (.cells [.int .i64 0, .int .i64 0].toArray 190 (0, 0))) := by
    refine row_far ?_ (by omega)
    have h := box_new (w1.alloc (.cells #[.int .i64 0, .int .i64 0] 190)) (.cells #[.int .i64 0, .int .i64 0] 190); simp only [World.size_alloc] at h; exact h
  go_upto_region 2 with (first | (refine wpList_put rfl rfl 190 _ _ rfl w1.heap.size 0 [.int .i64 f1, .int .i64 f2] rfl rfl KF.out (by kernel_rfl) [.int .i64 f1, .int .i64 f2] rfl (Nat.le_of_ble_eq_true rfl) (by simp [Value.oneCell']) ?_) | (refine wpList_put rfl rfl 190 _ _ rfl (w1.heap.size + 1) 0 [.int .i64 o1, .int .i64 o2] rfl rfl KO.out (by kernel_rfl) [.int .i64 o1, .int .i64 o2] rfl (Nat.le_of_ble_eq_true rfl) (by simp [Value.oneCell']) ?_))
  obtain ⟨V2, hV2⟩ : ∃ X, X = (((w1.alloc (.cells #[.int .i64 0, .int .i64 0] 190)).alloc (.cells #[.int .i64 0, .int .i64 0] 190)).setRow w1.heap.size [.int .i64 f1, .int .i64 f2].toArray).setRow (w1.heap.size + 1) [.int .i64 o1, .int .i64 o2].toArray := ⟨_, rfl⟩
  have hbV : Below w1.heap.size w1 V2 := by rw [hV2]; exact row_below (row_below (bel2 w1 _ _) _ _ (Nat.le_refl _) (by simp; omega)) _ _ (by omega) (by simp; omega)
  have KO2 : Hid (V2.heap[w1.heap.size + 1]? = some (.cells [.int .i64 o1, .int .i64 o2].toArray 190 (0, 0))) := by rw [hV2]; exact row_box KO.out
  have KF2 : Hid (V2.heap[w1.heap.size]? = some (.cells [.int .i64 f1, .int .i64 f2].toArray 190 (0, 0))) := by rw [hV2]; exact row_far (row_box KF.out) (by omega)
  rw [← hV2]
  clear hV2 KF KO
  have KR2 := Lib.hid (box_below KR1.out hbV)
  have HB2 := Lib.hid (bel_then HB1.out hbV HB1.out.size)
  have H2 := Lib.hid (H1.out.below hbV)
  have hs2 : w1.heap.size + 1 < V2.heap.size := box_lt KO2.out
  clear hbV KR1 HB1 H1
  obtain ⟨F, hF⟩ : ∃ F, F = w1.heap.size := ⟨_, rfl⟩
  rw [← hF] at KO2 KF2 hs2 hs1
  rw [← hF]
  clear hF
  obtain ⟨A, n, c, E, m, k, h2⟩ := H2.out
  have KM2 := Lib.hid h2.box
  clear h2
  go_wp2_with fail
  refine wp_region_held_drew (S := fun w' => w'.rangeAt b 2 (spL r.e.sp) ∧ w'.rangeAt F 0 [.int .i64 f1, .int .i64 f2] ∧ w'.rangeAt (F + 1) 0 [.int .i64 o1, .int .i64 o2]) (by kernel_rfl) ⟨range_of KM2.out (maL_sp lk ot r A n c E m k), range_of KF2.out rfl, range_of KO2.out rfl⟩ (fun hHeld => ?_)
  refine wpAnyH_take (i := 0) (v := ?v1) rfl (by kernel_rfl) (by kernel_rfl) (by kernel_rfl) (fun _ _ _ h => h) (Or.inl ⟨by rfl, ?hy1⟩) (by assumption) ?_
  case hy1 => (intro w0 hSw; (try dsimp only at hSw); go_simp <;> with_reducible rfl)
  try simp only [Act.put, List.getElem_toArray, List.getElem_cons_zero, List.getElem_cons_succ, List.setIfInBounds_toArray, List.set_cons_zero, List.set_cons_succ]
  refine wpAnyH_take (i := 1) (v := ?v2) rfl (by kernel_rfl) (by kernel_rfl) (by kernel_rfl) (fun _ _ _ h => h) (Or.inl ⟨by rfl, ?hy2⟩) (by assumption) ?_
  case hy2 => (intro w0 hSw; (try dsimp only at hSw); go_simp <;> with_reducible rfl)
  try simp only [Act.put, List.getElem_toArray, List.getElem_cons_zero, List.getElem_cons_succ, List.setIfInBounds_toArray, List.set_cons_zero, List.set_cons_succ]
  refine wpAnyH_take (i := 2) (v := ?v3) rfl (by kernel_rfl) (by kernel_rfl) (by kernel_rfl) (fun _ _ _ h => h) (Or.inl ⟨by rfl, ?hy3⟩) (by assumption) ?_
  case hy3 => (intro w0 hSw; (try dsimp only at hSw); go_simp <;> with_reducible rfl)
  try simp only [Act.put, List.getElem_toArray, List.getElem_cons_zero, List.getElem_cons_succ, List.setIfInBounds_toArray, List.set_cons_zero, List.set_cons_succ]
  refine wpAnyH_take (i := 3) (v := ?v4) rfl (by kernel_rfl) (by kernel_rfl) (by kernel_rfl) (fun _ _ _ h => h) (Or.inl ⟨by rfl, ?hy4⟩) (by assumption) ?_
  case hy4 => (intro w0 hSw; (try dsimp only at hSw); go_simp <;> with_reducible rfl)
  try simp only [Act.put, List.getElem_toArray, List.getElem_cons_zero, List.getElem_cons_succ, List.setIfInBounds_toArray, List.set_cons_zero, List.set_cons_succ]
  refine wpAnyH_take (i := 4) (v := .agg (spL r.e.sp).toArray) rfl (by kernel_rfl) (by kernel_rfl) (by kernel_rfl) (fun _ _ _ h => h) (yieldsIf_load_mid (by rfl) 25 _ rfl b 2 rfl (spL r.e.sp) _ (fun w' h => h.1) Tryz.underlying25 rfl (by kernel_rfl)) (by assumption) ?_
  try simp only [Act.put, List.getElem_toArray, List.getElem_cons_zero, List.getElem_cons_succ, List.setIfInBounds_toArray, List.set_cons_zero, List.set_cons_succ]
  refine wpAnyH_take (i := 5) (v := .agg ([.int .i64 f1, .int .i64 f2]).toArray) rfl (by kernel_rfl) (by kernel_rfl) (by kernel_rfl) (fun _ _ _ h => h) (yieldsIf_load_mid (by rfl) 190 _ rfl F 0 rfl ([.int .i64 f1, .int .i64 f2]) _ (fun w' h => h.2.1) Tryz.underlying190 rfl (by kernel_rfl)) (by assumption) ?_
  try simp only [Act.put, List.getElem_toArray, List.getElem_cons_zero, List.getElem_cons_succ, List.setIfInBounds_toArray, List.set_cons_zero, List.set_cons_succ]
  refine wpAnyH_take (i := 6) (v := .agg ([.int .i64 o1, .int .i64 o2]).toArray) rfl (by kernel_rfl) (by kernel_rfl) (by kernel_rfl) (fun _ _ _ h => h) (yieldsIf_load_mid (by rfl) 190 _ rfl (F + 1) 0 rfl ([.int .i64 o1, .int .i64 o2]) _ (fun w' h => h.2.2) Tryz.underlying190 rfl (by kernel_rfl)) (by assumption) ?_
  try simp only [Act.put, List.getElem_toArray, List.getElem_cons_zero, List.getElem_cons_succ, List.setIfInBounds_toArray, List.set_cons_zero, List.set_cons_succ]
  refine wpAnyH_take (i := 7) (v := ?v5) rfl (by kernel_rfl) (by kernel_rfl) (by kernel_rfl) (fun _ _ _ h => h) (Or.inl ⟨by rfl, ?hy5⟩) (by assumption) ?_
  case hy5 => (intro w0 hSw; (try dsimp only at hSw); go_simp <;> with_reducible rfl)
  try simp only [Act.put, List.getElem_toArray, List.getElem_cons_zero, List.getElem_cons_succ, List.setIfInBounds_toArray, List.set_cons_zero, List.set_cons_succ]
  refine wpAnyH_take (i := 8) (v := ?v6) rfl (by kernel_rfl) (by kernel_rfl) (by kernel_rfl) (fun _ _ _ h => h) (Or.inl ⟨by rfl, ?hy6⟩) (by assumption) ?_
  case hy6 => (intro w0 hSw; (try dsimp only at hSw); go_simp <;> with_reducible rfl)
  try simp only [Act.put, List.getElem_toArray, List.getElem_cons_zero, List.getElem_cons_succ, List.setIfInBounds_toArray, List.set_cons_zero, List.set_cons_succ]
  have hbd : Below V2.heap.size V2 V2.drew := undrew (Below.refl _ _)
  have KM3 := Lib.hid (box_below KM2.out hbd)
  have KF3 := Lib.hid (box_below KF2.out hbd)
  have KO3 := Lib.hid (box_below KO2.out hbd)
  have KR3 := Lib.hid (box_below KR2.out hbd)
  have HB3 := Lib.hid (bel_then HB2.out hbd HB2.out.size)
  have H3 := Lib.hid (H2.out.below hbd)
  have hs3 : F + 1 < V2.drew.heap.size := hs2
  clear hbd KM2 KF2 KO2 KR2 HB2 H2
  refine wpAnyH_ready (rs := [9, 14]) (by kernel_rfl) (by simp) (AllReadyH.cons rfl (fun K hK => ?_) (AllReadyH.cons rfl (fun K hK => ?_) AllReadyH.nil))
  · go_simp
    refine (CL.out _ H3.out).mono ?_
    rintro e w3l ⟨rfl, hbc⟩
    have KM3l := Lib.hid (box_below KM3.out hbc)
    have KF3l := Lib.hid (box_below KF3.out hbc)
    have KO3l := Lib.hid (box_below KO3.out hbc)
    have KR3l := Lib.hid (box_below KR3.out hbc)
    have HB3l := Lib.hid (bel_then HB3.out hbc HB3.out.size)
    have H3l := Lib.hid (H3.out.below hbc)
    clear hbc KM3 KF3 KO3 KR3 HB3 H3 hHeld
    refine hK _ _ (by exact ⟨range_of KM3l.out (maL_sp lk ot r A n c E m k), range_of KF3l.out rfl, range_of KO3l.out rfl⟩) (fun hHeld => ?_)
    clear hK K
    try simp only [Act.put, List.getElem_toArray, List.getElem_cons_zero, List.getElem_cons_succ, List.setIfInBounds_toArray, List.set_cons_zero, List.set_cons_succ]
    refine wpAnyH_ready (rs := [10, 14]) (by kernel_rfl) (by simp) (AllReadyH.cons rfl (fun K hK => ?_) (AllReadyH.cons rfl (fun K hK => ?_) AllReadyH.nil))
    · go_simp
      refine (CP.out _).mono ?_
      rintro e w3ls ⟨rfl, hbc⟩
      have KM3ls := Lib.hid (box_below KM3l.out hbc)
      have KF3ls := Lib.hid (box_below KF3l.out hbc)
      have KO3ls := Lib.hid (box_below KO3l.out hbc)
      have KR3ls := Lib.hid (box_below KR3l.out hbc)
      have HB3ls := Lib.hid (bel_then HB3l.out hbc HB3l.out.size)
      have H3ls := Lib.hid (H3l.out.below hbc)
      clear hbc KM3l KF3l KO3l KR3l HB3l H3l hHeld
      refine hK _ _ (by exact ⟨range_of KM3ls.out (maL_sp lk ot r A n c E m k), range_of KF3ls.out rfl, range_of KO3ls.out rfl⟩) (fun hHeld => ?_)
      clear hK K
      try simp only [Act.put, List.getElem_toArray, List.getElem_cons_zero, List.getElem_cons_succ, List.setIfInBounds_toArray, List.set_cons_zero, List.set_cons_succ]
      refine wpAnyH_take (i := 11) (v := ?v7) rfl (by kernel_rfl) (by kernel_rfl) (by kernel_rfl) (fun _ _ _ h => h) (Or.inl ⟨by rfl, ?hy7⟩) (by assumption) ?_
      case hy7 => (intro w0 hSw; (try dsimp only at hSw); go_simp <;> with_reducible rfl)
      try simp only [Act.put, List.getElem_toArray, List.getElem_cons_zero, List.getElem_cons_succ, List.setIfInBounds_toArray, List.set_cons_zero, List.set_cons_succ]
      refine wpAnyH_take (i := 12) (v := ?v8) rfl (by kernel_rfl) (by kernel_rfl) (by kernel_rfl) (fun _ _ _ h => h) (Or.inl ⟨by rfl, ?hy8⟩) (by assumption) ?_
      case hy8 => (intro w0 hSw; (try dsimp only at hSw); go_simp <;> with_reducible rfl)
      try simp only [Act.put, List.getElem_toArray, List.getElem_cons_zero, List.getElem_cons_succ, List.setIfInBounds_toArray, List.set_cons_zero, List.set_cons_succ]
      refine wpAnyH_take (i := 13) (v := ?v9) rfl (by kernel_rfl) (by kernel_rfl) (by kernel_rfl) (fun _ _ _ h => h) (Or.inl ⟨by rfl, ?hy9⟩) (by assumption) ?_
      case hy9 => (intro w0 hSw; (try dsimp only at hSw); go_simp <;> with_reducible rfl)
      try simp only [Act.put, List.getElem_toArray, List.getElem_cons_zero, List.getElem_cons_succ, List.setIfInBounds_toArray, List.set_cons_zero, List.set_cons_succ]
      refine wpAnyH_ready (rs := [14]) (by kernel_rfl) (by simp) (AllReadyH.cons rfl (fun K hK => ?_) AllReadyH.nil)
      go_simp
      have hbp := bel1 w3ls (.cells #[.int .i64 0, .int .i64 0, .int .i64 0, .int .i64 0] 196)
      have KM3lsp := Lib.hid (box_below KM3ls.out hbp)
      have KF3lsp := Lib.hid (box_below KF3ls.out hbp)
      have KO3lsp := Lib.hid (box_below KO3ls.out hbp)
      have KR3lsp := Lib.hid (box_below KR3ls.out hbp)
      have HB3lsp := Lib.hid (bel_then HB3ls.out hbp HB3ls.out.size)
      have H3lsp := Lib.hid (H3ls.out.below hbp)
      have KP3lsp := Lib.hid (box_new w3ls (.cells #[.int .i64 0, .int .i64 0, .int .i64 0, .int .i64 0] 196))
      have hsP : F + 1 < w3ls.heap.size := box_lt KO3ls.out
      clear hbp KM3ls KF3ls KO3ls KR3ls HB3ls H3ls hHeld
      refine hK _ _ (by exact ⟨range_of KM3lsp.out (maL_sp lk ot r A n c E m k), range_of KF3lsp.out rfl, range_of KO3lsp.out rfl⟩) (fun hHeld => ?_)
      clear hK K
      try simp only [Act.put, List.getElem_toArray, List.getElem_cons_zero, List.getElem_cons_succ, List.setIfInBounds_toArray, List.set_cons_zero, List.set_cons_succ]
      refine wpAnyH_ready (rs := [15]) (by kernel_rfl) (by simp) (AllReadyH.cons rfl (fun K hK => ?_) AllReadyH.nil)
      refine wp_put rfl 196 _ _ rfl w3ls.heap.size 0 [.int .i64 p1, .int .i64 p2, .int .i64 p3, .int .i64 p4] rfl rfl KP3lsp.out (by kernel_rfl) [.int .i64 p1, .int .i64 p2, .int .i64 p3, .int .i64 p4] rfl (Nat.le_of_ble_eq_true rfl) (by simp [Value.oneCell']) ?_
      have hs9 : F + 1 < w3ls.heap.size := hsP
      refine hK _ _ (by exact ⟨range_of (row_far KM3lsp.out (by omega)) (maL_sp lk ot r A n c E m k), range_of (row_far KF3lsp.out (by omega)) rfl, range_of (row_far KO3lsp.out (by omega)) rfl⟩) (fun hHeld => ?_)
      clear hK K
      try simp only [Act.put, List.getElem_toArray, List.getElem_cons_zero, List.getElem_cons_succ, List.setIfInBounds_toArray, List.set_cons_zero, List.set_cons_succ]
      refine wpAnyH_take (i := 16) (v := ?v12) rfl (by kernel_rfl) (by kernel_rfl) (by kernel_rfl) (fun _ _ _ h => h) (Or.inl ⟨by rfl, ?hy12⟩) (by assumption) ?_
      case hy12 => (intro w0 hSw; (try dsimp only at hSw); go_simp <;> with_reducible rfl)
      try simp only [Act.put, List.getElem_toArray, List.getElem_cons_zero, List.getElem_cons_succ, List.setIfInBounds_toArray, List.set_cons_zero, List.set_cons_succ]
      refine wpAnyH_done (by kernel_rfl) ?_ _
      clear hHeld
      have KP9 := Lib.hid (row_box (vs := [.int .i64 p1, .int .i64 p2, .int .i64 p3, .int .i64 p4].toArray) KP3lsp.out)
      have KR9 := Lib.hid (row_far (vs := [.int .i64 p1, .int .i64 p2, .int .i64 p3, .int .i64 p4].toArray) (b := w3ls.heap.size) KR3lsp.out (by omega))
      have HB9 := Lib.hid (row_below HB3lsp.out (w3ls.heap.size) [.int .i64 p1, .int .i64 p2, .int .i64 p3, .int .i64 p4].toArray (by omega) HB3lsp.out.size)
      clear KM3lsp KF3lsp KO3lsp KR3lsp KP3lsp HB3lsp H3lsp
      go_wp2_with (first | (refine wpList_get rfl 196 _ rfl (w3ls.heap.size) 0 rfl KP9.out [.int .i64 p1, .int .i64 p2, .int .i64 p3, .int .i64 p4] rfl Tryz.underlying196 rfl (by kernel_rfl) ?_) | (refine wpList_put rfl rfl 196 _ _ rfl w.heap.size 0 [.int .i64 p1, .int .i64 p2, .int .i64 p3, .int .i64 p4] rfl rfl KR9.out (by kernel_rfl) [.int .i64 p1, .int .i64 p2, .int .i64 p3, .int .i64 p4] rfl (Nat.le_of_ble_eq_true rfl) (by simp [Value.oneCell']) ?_))
      exact bodyPost_ret (v := .agg #[.int .i64 p1, .int .i64 p2, .int .i64 p3, .int .i64 p4]) (results_box rfl _ rfl (row_box KR9.out) Tryz.underlying196 rfl (by kernel_rfl)) rfl ⟨rfl, row_below HB9.out _ _ (Nat.le_refl _) HB9.out.size⟩
    · go_simp
      have hbp := bel1 w3l (.cells #[.int .i64 0, .int .i64 0, .int .i64 0, .int .i64 0] 196)
      have KM3lp := Lib.hid (box_below KM3l.out hbp)
      have KF3lp := Lib.hid (box_below KF3l.out hbp)
      have KO3lp := Lib.hid (box_below KO3l.out hbp)
      have KR3lp := Lib.hid (box_below KR3l.out hbp)
      have HB3lp := Lib.hid (bel_then HB3l.out hbp HB3l.out.size)
      have H3lp := Lib.hid (H3l.out.below hbp)
      have KP3lp := Lib.hid (box_new w3l (.cells #[.int .i64 0, .int .i64 0, .int .i64 0, .int .i64 0] 196))
      have hsP : F + 1 < w3l.heap.size := box_lt KO3l.out
      clear hbp KM3l KF3l KO3l KR3l HB3l H3l hHeld
      refine hK _ _ (by exact ⟨range_of KM3lp.out (maL_sp lk ot r A n c E m k), range_of KF3lp.out rfl, range_of KO3lp.out rfl⟩) (fun hHeld => ?_)
      clear hK K
      try simp only [Act.put, List.getElem_toArray, List.getElem_cons_zero, List.getElem_cons_succ, List.setIfInBounds_toArray, List.set_cons_zero, List.set_cons_succ]
      refine wpAnyH_ready (rs := [10]) (by kernel_rfl) (by simp) (AllReadyH.cons rfl (fun K hK => ?_) AllReadyH.nil)
      go_simp
      refine (CP.out _).mono ?_
      rintro e w3lps ⟨rfl, hbc⟩
      have KM3lps := Lib.hid (box_below KM3lp.out hbc)
      have KF3lps := Lib.hid (box_below KF3lp.out hbc)
      have KO3lps := Lib.hid (box_below KO3lp.out hbc)
      have KR3lps := Lib.hid (box_below KR3lp.out hbc)
      have KP3lps := Lib.hid (box_below KP3lp.out hbc)
      have HB3lps := Lib.hid (bel_then HB3lp.out hbc HB3lp.out.size)
      have H3lps := Lib.hid (H3lp.out.below hbc)
      clear hbc KM3lp KF3lp KO3lp KR3lp HB3lp H3lp hHeld KP3lp
      refine hK _ _ (by exact ⟨range_of KM3lps.out (maL_sp lk ot r A n c E m k), range_of KF3lps.out rfl, range_of KO3lps.out rfl⟩) (fun hHeld => ?_)
      clear hK K
      try simp only [Act.put, List.getElem_toArray, List.getElem_cons_zero, List.getElem_cons_succ, List.setIfInBounds_toArray, List.set_cons_zero, List.set_cons_succ]
      refine wpAnyH_take (i := 11) (v := ?v14) rfl (by kernel_rfl) (by kernel_rfl) (by kernel_rfl) (fun _ _ _ h => h) (Or.inl ⟨by rfl, ?hy14⟩) (by assumption) ?_
      case hy14 => (intro w0 hSw; (try dsimp only at hSw); go_simp <;> with_reducible rfl)
      try simp only [Act.put, List.getElem_toArray, List.getElem_cons_zero, List.getElem_cons_succ, List.setIfInBounds_toArray, List.set_cons_zero, List.set_cons_succ]
      refine wpAnyH_take (i := 12) (v := ?v15) rfl (by kernel_rfl) (by kernel_rfl) (by kernel_rfl) (fun _ _ _ h => h) (Or.inl ⟨by rfl, ?hy15⟩) (by assumption) ?_
      case hy15 => (intro w0 hSw; (try dsimp only at hSw); go_simp <;> with_reducible rfl)
      try simp only [Act.put, List.getElem_toArray, List.getElem_cons_zero, List.getElem_cons_succ, List.setIfInBounds_toArray, List.set_cons_zero, List.set_cons_succ]
      refine wpAnyH_take (i := 13) (v := ?v16) rfl (by kernel_rfl) (by kernel_rfl) (by kernel_rfl) (fun _ _ _ h => h) (Or.inl ⟨by rfl, ?hy16⟩) (by assumption) ?_
      case hy16 => (intro w0 hSw; (try dsimp only at hSw); go_simp <;> with_reducible rfl)
      try simp only [Act.put, List.getElem_toArray, List.getElem_cons_zero, List.getElem_cons_succ, List.setIfInBounds_toArray, List.set_cons_zero, List.set_cons_succ]
      refine wpAnyH_ready (rs := [15]) (by kernel_rfl) (by simp) (AllReadyH.cons rfl (fun K hK => ?_) AllReadyH.nil)
      refine wp_put rfl 196 _ _ rfl w3l.heap.size 0 [.int .i64 p1, .int .i64 p2, .int .i64 p3, .int .i64 p4] rfl rfl KP3lps.out (by kernel_rfl) [.int .i64 p1, .int .i64 p2, .int .i64 p3, .int .i64 p4] rfl (Nat.le_of_ble_eq_true rfl) (by simp [Value.oneCell']) ?_
      have hs9 : F + 1 < w3l.heap.size := hsP
      refine hK _ _ (by exact ⟨range_of (row_far KM3lps.out (by omega)) (maL_sp lk ot r A n c E m k), range_of (row_far KF3lps.out (by omega)) rfl, range_of (row_far KO3lps.out (by omega)) rfl⟩) (fun hHeld => ?_)
      clear hK K
      try simp only [Act.put, List.getElem_toArray, List.getElem_cons_zero, List.getElem_cons_succ, List.setIfInBounds_toArray, List.set_cons_zero, List.set_cons_succ]
      refine wpAnyH_take (i := 16) (v := ?v18) rfl (by kernel_rfl) (by kernel_rfl) (by kernel_rfl) (fun _ _ _ h => h) (Or.inl ⟨by rfl, ?hy18⟩) (by assumption) ?_
      case hy18 => (intro w0 hSw; (try dsimp only at hSw); go_simp <;> with_reducible rfl)
      try simp only [Act.put, List.getElem_toArray, List.getElem_cons_zero, List.getElem_cons_succ, List.setIfInBounds_toArray, List.set_cons_zero, List.set_cons_succ]
      refine wpAnyH_done (by kernel_rfl) ?_ _
      clear hHeld
      have KP9 := Lib.hid (row_box (vs := [.int .i64 p1, .int .i64 p2, .int .i64 p3, .int .i64 p4].toArray) KP3lps.out)
      have KR9 := Lib.hid (row_far (vs := [.int .i64 p1, .int .i64 p2, .int .i64 p3, .int .i64 p4].toArray) (b := w3l.heap.size) KR3lps.out (by omega))
      have HB9 := Lib.hid (row_below HB3lps.out (w3l.heap.size) [.int .i64 p1, .int .i64 p2, .int .i64 p3, .int .i64 p4].toArray (by omega) HB3lps.out.size)
      clear KM3lps KF3lps KO3lps KR3lps KP3lps HB3lps H3lps
      go_wp2_with (first | (refine wpList_get rfl 196 _ rfl (w3l.heap.size) 0 rfl KP9.out [.int .i64 p1, .int .i64 p2, .int .i64 p3, .int .i64 p4] rfl Tryz.underlying196 rfl (by kernel_rfl) ?_) | (refine wpList_put rfl rfl 196 _ _ rfl w.heap.size 0 [.int .i64 p1, .int .i64 p2, .int .i64 p3, .int .i64 p4] rfl rfl KR9.out (by kernel_rfl) [.int .i64 p1, .int .i64 p2, .int .i64 p3, .int .i64 p4] rfl (Nat.le_of_ble_eq_true rfl) (by simp [Value.oneCell']) ?_))
      exact bodyPost_ret (v := .agg #[.int .i64 p1, .int .i64 p2, .int .i64 p3, .int .i64 p4]) (results_box rfl _ rfl (row_box KR9.out) Tryz.underlying196 rfl (by kernel_rfl)) rfl ⟨rfl, row_below HB9.out _ _ (Nat.le_refl _) HB9.out.size⟩
  · go_simp
    have hbp := bel1 V2.drew (.cells #[.int .i64 0, .int .i64 0, .int .i64 0, .int .i64 0] 196)
    have KM3p := Lib.hid (box_below KM3.out hbp)
    have KF3p := Lib.hid (box_below KF3.out hbp)
    have KO3p := Lib.hid (box_below KO3.out hbp)
    have KR3p := Lib.hid (box_below KR3.out hbp)
    have HB3p := Lib.hid (bel_then HB3.out hbp HB3.out.size)
    have H3p := Lib.hid (H3.out.below hbp)
    have KP3p := Lib.hid (box_new V2.drew (.cells #[.int .i64 0, .int .i64 0, .int .i64 0, .int .i64 0] 196))
    have hsP : F + 1 < V2.drew.heap.size := box_lt KO3.out
    clear hbp KM3 KF3 KO3 KR3 HB3 H3 hHeld
    refine hK _ _ (by exact ⟨range_of KM3p.out (maL_sp lk ot r A n c E m k), range_of KF3p.out rfl, range_of KO3p.out rfl⟩) (fun hHeld => ?_)
    clear hK K
    try simp only [Act.put, List.getElem_toArray, List.getElem_cons_zero, List.getElem_cons_succ, List.setIfInBounds_toArray, List.set_cons_zero, List.set_cons_succ]
    refine wpAnyH_ready (rs := [9]) (by kernel_rfl) (by simp) (AllReadyH.cons rfl (fun K hK => ?_) AllReadyH.nil)
    go_simp
    refine (CL.out _ H3p.out).mono ?_
    rintro e w3pl ⟨rfl, hbc⟩
    have KM3pl := Lib.hid (box_below KM3p.out hbc)
    have KF3pl := Lib.hid (box_below KF3p.out hbc)
    have KO3pl := Lib.hid (box_below KO3p.out hbc)
    have KR3pl := Lib.hid (box_below KR3p.out hbc)
    have KP3pl := Lib.hid (box_below KP3p.out hbc)
    have HB3pl := Lib.hid (bel_then HB3p.out hbc HB3p.out.size)
    have H3pl := Lib.hid (H3p.out.below hbc)
    clear hbc KM3p KF3p KO3p KR3p HB3p H3p hHeld KP3p
    refine hK _ _ (by exact ⟨range_of KM3pl.out (maL_sp lk ot r A n c E m k), range_of KF3pl.out rfl, range_of KO3pl.out rfl⟩) (fun hHeld => ?_)
    clear hK K
    try simp only [Act.put, List.getElem_toArray, List.getElem_cons_zero, List.getElem_cons_succ, List.setIfInBounds_toArray, List.set_cons_zero, List.set_cons_succ]
    refine wpAnyH_ready (rs := [10]) (by kernel_rfl) (by simp) (AllReadyH.cons rfl (fun K hK => ?_) AllReadyH.nil)
    go_simp
    refine (CP.out _).mono ?_
    rintro e w3pls ⟨rfl, hbc⟩
    have KM3pls := Lib.hid (box_below KM3pl.out hbc)
    have KF3pls := Lib.hid (box_below KF3pl.out hbc)
    have KO3pls := Lib.hid (box_below KO3pl.out hbc)
    have KR3pls := Lib.hid (box_below KR3pl.out hbc)
    have KP3pls := Lib.hid (box_below KP3pl.out hbc)
    have HB3pls := Lib.hid (bel_then HB3pl.out hbc HB3pl.out.size)
    have H3pls := Lib.hid (H3pl.out.below hbc)
    clear hbc KM3pl KF3pl KO3pl KR3pl HB3pl H3pl hHeld KP3pl
    refine hK _ _ (by exact ⟨range_of KM3pls.out (maL_sp lk ot r A n c E m k), range_of KF3pls.out rfl, range_of KO3pls.out rfl⟩) (fun hHeld => ?_)
    clear hK K
    try simp only [Act.put, List.getElem_toArray, List.getElem_cons_zero, List.getElem_cons_succ, List.setIfInBounds_toArray, List.set_cons_zero, List.set_cons_succ]
    refine wpAnyH_take (i := 11) (v := ?v21) rfl (by kernel_rfl) (by kernel_rfl) (by kernel_rfl) (fun _ _ _ h => h) (Or.inl ⟨by rfl, ?hy21⟩) (by assumption) ?_
    case hy21 => (intro w0 hSw; (try dsimp only at hSw); go_simp <;> with_reducible rfl)
    try simp only [Act.put, List.getElem_toArray, List.getElem_cons_zero, List.getElem_cons_succ, List.setIfInBounds_toArray, List.set_cons_zero, List.set_cons_succ]
    refine wpAnyH_take (i := 12) (v := ?v22) rfl (by kernel_rfl) (by kernel_rfl) (by kernel_rfl) (fun _ _ _ h => h) (Or.inl ⟨by rfl, ?hy22⟩) (by assumption) ?_
    case hy22 => (intro w0 hSw; (try dsimp only at hSw); go_simp <;> with_reducible rfl)
    try simp only [Act.put, List.getElem_toArray, List.getElem_cons_zero, List.getElem_cons_succ, List.setIfInBounds_toArray, List.set_cons_zero, List.set_cons_succ]
    refine wpAnyH_take (i := 13) (v := ?v23) rfl (by kernel_rfl) (by kernel_rfl) (by kernel_rfl) (fun _ _ _ h => h) (Or.inl ⟨by rfl, ?hy23⟩) (by assumption) ?_
    case hy23 => (intro w0 hSw; (try dsimp only at hSw); go_simp <;> with_reducible rfl)
    try simp only [Act.put, List.getElem_toArray, List.getElem_cons_zero, List.getElem_cons_succ, List.setIfInBounds_toArray, List.set_cons_zero, List.set_cons_succ]
    refine wpAnyH_ready (rs := [15]) (by kernel_rfl) (by simp) (AllReadyH.cons rfl (fun K hK => ?_) AllReadyH.nil)
    refine wp_put rfl 196 _ _ rfl V2.drew.heap.size 0 [.int .i64 p1, .int .i64 p2, .int .i64 p3, .int .i64 p4] rfl rfl KP3pls.out (by kernel_rfl) [.int .i64 p1, .int .i64 p2, .int .i64 p3, .int .i64 p4] rfl (Nat.le_of_ble_eq_true rfl) (by simp [Value.oneCell']) ?_
    have hs9 : F + 1 < V2.drew.heap.size := hsP
    refine hK _ _ (by exact ⟨range_of (row_far KM3pls.out (by omega)) (maL_sp lk ot r A n c E m k), range_of (row_far KF3pls.out (by omega)) rfl, range_of (row_far KO3pls.out (by omega)) rfl⟩) (fun hHeld => ?_)
    clear hK K
    try simp only [Act.put, List.getElem_toArray, List.getElem_cons_zero, List.getElem_cons_succ, List.setIfInBounds_toArray, List.set_cons_zero, List.set_cons_succ]
    refine wpAnyH_take (i := 16) (v := ?v25) rfl (by kernel_rfl) (by kernel_rfl) (by kernel_rfl) (fun _ _ _ h => h) (Or.inl ⟨by rfl, ?hy25⟩) (by assumption) ?_
    case hy25 => (intro w0 hSw; (try dsimp only at hSw); go_simp <;> with_reducible rfl)
    try simp only [Act.put, List.getElem_toArray, List.getElem_cons_zero, List.getElem_cons_succ, List.setIfInBounds_toArray, List.set_cons_zero, List.set_cons_succ]
    refine wpAnyH_done (by kernel_rfl) ?_ _
    clear hHeld
    have KP9 := Lib.hid (row_box (vs := [.int .i64 p1, .int .i64 p2, .int .i64 p3, .int .i64 p4].toArray) KP3pls.out)
    have KR9 := Lib.hid (row_far (vs := [.int .i64 p1, .int .i64 p2, .int .i64 p3, .int .i64 p4].toArray) (b := V2.drew.heap.size) KR3pls.out (by omega))
    have HB9 := Lib.hid (row_below HB3pls.out (V2.drew.heap.size) [.int .i64 p1, .int .i64 p2, .int .i64 p3, .int .i64 p4].toArray (by omega) HB3pls.out.size)
    clear KM3pls KF3pls KO3pls KR3pls KP3pls HB3pls H3pls
    go_wp2_with (first | (refine wpList_get rfl 196 _ rfl (V2.drew.heap.size) 0 rfl KP9.out [.int .i64 p1, .int .i64 p2, .int .i64 p3, .int .i64 p4] rfl Tryz.underlying196 rfl (by kernel_rfl) ?_) | (refine wpList_put rfl rfl 196 _ _ rfl w.heap.size 0 [.int .i64 p1, .int .i64 p2, .int .i64 p3, .int .i64 p4] rfl rfl KR9.out (by kernel_rfl) [.int .i64 p1, .int .i64 p2, .int .i64 p3, .int .i64 p4] rfl (Nat.le_of_ble_eq_true rfl) (by simp [Value.oneCell']) ?_))
    exact bodyPost_ret (v := .agg #[.int .i64 p1, .int .i64 p2, .int .i64 p3, .int .i64 p4]) (results_box rfl _ rfl (row_box KR9.out) Tryz.underlying196 rfl (by kernel_rfl)) rfl ⟨rfl, row_below HB9.out _ _ (Nat.le_refl _) HB9.out.size⟩
end Go.Proofs.YtdefckbgcggnoaaGreat.Mach
