import Derived.Test.YtklgjjmcflgjeaaGreatQ
import Derived.Test.YtklgjjmcflgjeaaGreatR21
import Derived.Test.YtklgjjmcflgjeaaGreatR22
set_option linter.unusedVariables false
set_option linter.unusedSimpArgs false
namespace Go.Proofs.YtklgjjmcflgjeaaGreat.Mach
open Go.ChangeShapes Go.WideShapes Go.ChangeAt Go.RowKit
open LK Pods EngV EngCnt Eng Seg
set_option maxRecDepth 100000 in
set_option maxHeartbeats 12800000 in
theorem plan_any (w : World) (S : Nat → Prop) (b : Nat) (lk ot : Int) (r : Run) (h : Mach w S b lk ot r) (hok : r.e.okB = true) (hn3 : r.e.ph ≠ 3) :
    Calls Tryz.prog 231 #[.pointer (some ⟨b, 0, none⟩)] w (Says (.agg #[.int .i64 (plCr r.e), .int .i64 (plDr r.e), .int .i64 (plDa r.e), .int .i64 (plDf r.e)]) w) := by
  obtain ⟨f1, hf1⟩ : ∃ x : Int, x = (live r.e false : Int) := ⟨_, rfl⟩
  obtain ⟨f2, hf2⟩ : ∃ x : Int, x = (good r.e false : Int) := ⟨_, rfl⟩
  obtain ⟨o1, ho1⟩ : ∃ x : Int, x = (live r.e true : Int) := ⟨_, rfl⟩
  obtain ⟨o2, ho2⟩ : ∃ x : Int, x = (good r.e true : Int) := ⟨_, rfl⟩
  obtain ⟨gg, hgg⟩ : ∃ x : Int, x = (going r.e : Int) := ⟨_, rfl⟩
  obtain ⟨li, hli⟩ : ∃ x : Int, x = limS r.e := ⟨_, rfl⟩
  obtain ⟨p1, hp1⟩ : ∃ x : Int, x = plCr r.e := ⟨_, rfl⟩
  obtain ⟨p2, hp2⟩ : ∃ x : Int, x = plDr r.e := ⟨_, rfl⟩
  obtain ⟨p3, hp3⟩ : ∃ x : Int, x = plDa r.e := ⟨_, rfl⟩
  obtain ⟨p4, hp4⟩ : ∃ x : Int, x = plDf r.e := ⟨_, rfl⟩
  have T := Lib.hid (planT_ok hok)
  rw [← hf1, ← hf2, ← ho1, ← ho2, ← hgg, ← hli, ← hp1, ← hp2, ← hp3, ← hp4] at T
  have CT : Hid (∀ W, Mach W S b lk ot r → Calls Tryz.prog 254 #[.pointer (some ⟨b, 0, none⟩)] W (Says (.tuple #[.agg #[.int .i64 f1, .int .i64 f2], .agg #[.int .i64 o1, .int .i64 o2], .int .i64 gg]) W)) := fun W hW => by
    have h := counts_any W S b lk ot r hW hok
    simp only [cntV, List.toArray] at h
    rw [← hf1, ← hf2, ← ho1, ← ho2, ← hgg] at h
    exact h
  have CL : Hid (∀ W, Mach W S b lk ot r → Calls Tryz.prog 256 #[.pointer (some ⟨b, 0, none⟩)] W (Says (.int .i64 li) W)) := fun W hW => by
    have h := limit_any W S b lk ot r hW hok hn3
    rw [← hli] at h
    exact h
  have CP : Hid (∀ W, Calls Tryz.prog 255 #[.agg (spL r.e.sp).toArray, .agg #[.int .i64 f1, .int .i64 f2], .agg #[.int .i64 o1, .int .i64 o2], .int .i64 gg, .int .i64 li] W (Says (.tuple #[.agg #[.int .i64 p1, .int .i64 p2, .int .i64 p3, .int .i64 p4], .bool true]) W)) := fun W => by
    have h := PlanI.planStep_any r.e.sp.x0 r.e.sp.x1 r.e.sp.x2 r.e.sp.x3 r.e.sp.x4 r.e.sp.x5 r.e.sp.x6 r.e.sp.x7 r.e.sp.x8 r.e.sp.x9 r.e.sp.x10 f1 f2 o1 o2 gg li W
    rw [T.out] at h
    exact h
  rw [← hp1, ← hp2, ← hp3, ← hp4]
  clear hf1 hf2 ho1 ho2 hgg hli hp1 hp2 hp3 hp4 T hok
  have hbw : b < w.heap.size := by obtain ⟨A, n, c, E, m, k, h⟩ := h; exact h.lt
  obtain ⟨V, hV⟩ : ∃ V, V = w.alloc (.cells #[.int .i64 0, .int .i64 0, .int .i64 0, .int .i64 0] 237) := ⟨_, rfl⟩
  have HB : Hid (Below w.heap.size w V) := by rw [hV]; exact bel1 _ _
  have KR : Hid (V.heap[w.heap.size]? = some (.cells [.int .i64 0, .int .i64 0, .int .i64 0, .int .i64 0].toArray 237 (0, 0))) := by rw [hV]; exact box_new w _
  have H := Lib.hid (h.below HB.out)
  have hs : w.heap.size < V.heap.size := box_lt KR.out
  clear h
  go_enter Tryz.func231, Tryz.ntmps231
  go_upto_region 1 with fail
  rw [← hV]
  clear hV
  go_wp2_with fail
  refine (CT.out V H.out).mono ?_
  rintro e w1 ⟨rfl, hb⟩
  have KR1 := Lib.hid (box_below KR.out hb)
  have HB1 := Lib.hid (bel_then HB.out hb HB.out.size)
  have H1 := Lib.hid (H.out.below hb)
  have hs1 : w.heap.size < w1.heap.size := box_lt KR1.out
  clear hb KR HB H CT hs
  have KF : Hid (((w1.alloc (.cells #[.int .i64 0, .int .i64 0] 231)).alloc (.cells #[.int .i64 0, .int .i64 0] 231)).heap[w1.heap.size]? = some (.cells [.int .i64 0, .int .i64 0].toArray 231 (0, 0))) := box_alloc (box_new w1 _) _
  have KO : Hid ((((w1.alloc (.cells #[.int .i64 0, .int .i64 0] 231)).alloc (.cells #[.int .i64 0, .int .i64 0] 231)).setRow w1.heap.size [.int .i64 f1, .int .i64 f2].toArray).heap[w1.heap.size + 1]? = some (.cells [.int .i64 0, .int .i64 0].toArray 231 (0, 0))) := by
    refine row_far ?_ (by omega)
    have h := box_new (w1.alloc (.cells #[.int .i64 0, .int .i64 0] 231)) (.cells #[.int .i64 0, .int .i64 0] 231); simp only [World.size_alloc] at h; exact h
  go_upto_region 2 with (first | (refine wpList_put rfl rfl 231 _ _ rfl w1.heap.size 0 [.int .i64 f1, .int .i64 f2] rfl rfl KF.out (by kernel_rfl) [.int .i64 f1, .int .i64 f2] rfl (Nat.le_of_ble_eq_true rfl) (by simp [Value.oneCell']) ?_) | (refine wpList_put rfl rfl 231 _ _ rfl (w1.heap.size + 1) 0 [.int .i64 o1, .int .i64 o2] rfl rfl KO.out (by kernel_rfl) [.int .i64 o1, .int .i64 o2] rfl (Nat.le_of_ble_eq_true rfl) (by simp [Value.oneCell']) ?_))
  obtain ⟨V2, hV2⟩ : ∃ X, X = (((w1.alloc (.cells #[.int .i64 0, .int .i64 0] 231)).alloc (.cells #[.int .i64 0, .int .i64 0] 231)).setRow w1.heap.size [.int .i64 f1, .int .i64 f2].toArray).setRow (w1.heap.size + 1) [.int .i64 o1, .int .i64 o2].toArray := ⟨_, rfl⟩
  have hbV : Below w1.heap.size w1 V2 := by rw [hV2]; exact row_below (row_below (bel2 w1 _ _) _ _ (Nat.le_refl _) (by simp; omega)) _ _ (by omega) (by simp; omega)
  have KO2 : Hid (V2.heap[w1.heap.size + 1]? = some (.cells [.int .i64 o1, .int .i64 o2].toArray 231 (0, 0))) := by rw [hV2]; exact row_box KO.out
  have KF2 : Hid (V2.heap[w1.heap.size]? = some (.cells [.int .i64 f1, .int .i64 f2].toArray 231 (0, 0))) := by rw [hV2]; exact row_far (row_box KF.out) (by omega)
  rw [← hV2]
  clear hV2 KF KO
  have KR2 := Lib.hid (box_below KR1.out hbV)
  have HB2 := Lib.hid (bel_then HB1.out hbV HB1.out.size)
  have H2 := Lib.hid (H1.out.below hbV)
  have hs2 : w1.heap.size + 1 < V2.heap.size := box_lt KO2.out
  clear hbV KR1 HB1 H1
  obtain ⟨F, hF⟩ : ∃ F, F = w1.heap.size := ⟨_, rfl⟩
  rw [← hF] at KO2 KF2 hs2 hs1
  rw [← hF]
  clear hF
  obtain ⟨A, n, c, E, m, k, h2⟩ := H2.out
  have KM2 := Lib.hid h2.box
  clear h2
  go_wp2_with fail
  refine wp_region_held_drew (S := fun w' => w'.rangeAt b 2 (spL r.e.sp) ∧ w'.rangeAt F 0 [.int .i64 f1, .int .i64 f2] ∧ w'.rangeAt (F + 1) 0 [.int .i64 o1, .int .i64 o2]) (by kernel_rfl) ⟨range_of KM2.out (maL_sp lk ot r A n c E m k), range_of KF2.out rfl, range_of KO2.out rfl⟩ (fun hHeld => ?_)
  refine tkk (i := 0) rfl ?_
  try simp only [Act.put, pj]
  refine tkk (i := 1) rfl ?_
  try simp only [Act.put, pj]
  refine tkk (i := 2) rfl ?_
  try simp only [Act.put, pj]
  refine tkk (i := 3) rfl ?_
  try simp only [Act.put, pj]
  refine tkj (i := 4) (v := .agg (spL r.e.sp).toArray) rfl (yieldsIf_load_mid (by rfl) 25 _ rfl b 2 rfl (spL r.e.sp) _ (fun w' h => h.1) Tryz.underlying25 rfl (by kernel_rfl)) ?_
  try simp only [Act.put, pj]
  refine tkj (i := 5) (v := .agg ([.int .i64 f1, .int .i64 f2]).toArray) rfl (yieldsIf_load_mid (by rfl) 231 _ rfl F 0 rfl ([.int .i64 f1, .int .i64 f2]) _ (fun w' h => h.2.1) Tryz.underlying231 rfl (by kernel_rfl)) ?_
  try simp only [Act.put, pj]
  refine tkj (i := 6) (v := .agg ([.int .i64 o1, .int .i64 o2]).toArray) rfl (yieldsIf_load_mid (by rfl) 231 _ rfl (F + 1) 0 rfl ([.int .i64 o1, .int .i64 o2]) _ (fun w' h => h.2.2) Tryz.underlying231 rfl (by kernel_rfl)) ?_
  try simp only [Act.put, pj]
  refine tkk (i := 7) rfl ?_
  try simp only [Act.put, pj]
  refine tkk (i := 8) rfl ?_
  try simp only [Act.put, pj]
  have hbd : Below V2.heap.size V2 V2.drew := undrew (Below.refl _ _)
  have KM3 := Lib.hid (box_below KM2.out hbd)
  have KF3 := Lib.hid (box_below KF2.out hbd)
  have KO3 := Lib.hid (box_below KO2.out hbd)
  have KR3 := Lib.hid (box_below KR2.out hbd)
  have HB3 := Lib.hid (bel_then HB2.out hbd HB2.out.size)
  have H3 := Lib.hid (H2.out.below hbd)
  have hs3 : F + 1 < V2.drew.heap.size := hs2
  clear hbd KM2 KF2 KO2 KR2 HB2 H2
  refine wpAnyH_ready (rs := [9, 14]) (by kernel_rfl) (by simp) (AllReadyH.cons rfl (fun K hK => ?_) (AllReadyH.cons rfl (fun K hK => ?_) AllReadyH.nil))
  · go_simp
    refine (CL.out _ H3.out).mono ?_
    rintro e w3l ⟨rfl, hbc⟩
    have KM3l := Lib.hid (box_below KM3.out hbc)
    have KF3l := Lib.hid (box_below KF3.out hbc)
    have KO3l := Lib.hid (box_below KO3.out hbc)
    have KR3l := Lib.hid (box_below KR3.out hbc)
    have HB3l := Lib.hid (bel_then HB3.out hbc HB3.out.size)
    have H3l := Lib.hid (H3.out.below hbc)
    clear hbc KM3 KF3 KO3 KR3 HB3 H3 hHeld
    refine hK _ _ (by exact ⟨range_of KM3l.out (maL_sp lk ot r A n c E m k), range_of KF3l.out rfl, range_of KO3l.out rfl⟩) (fun hHeld => ?_)
    clear hK K
    try simp only [Act.put, pj]
    refine wpAnyH_ready (rs := [10, 14]) (by kernel_rfl) (by simp) (AllReadyH.cons rfl (fun K hK => ?_) (AllReadyH.cons rfl (fun K hK => ?_) AllReadyH.nil))
    · go_simp
      refine (CP.out _).mono ?_
      rintro e w3ls ⟨rfl, hbc⟩
      have KM3ls := Lib.hid (box_below KM3l.out hbc)
      have KF3ls := Lib.hid (box_below KF3l.out hbc)
      have KO3ls := Lib.hid (box_below KO3l.out hbc)
      have KR3ls := Lib.hid (box_below KR3l.out hbc)
      have HB3ls := Lib.hid (bel_then HB3l.out hbc HB3l.out.size)
      have H3ls := Lib.hid (H3l.out.below hbc)
      clear hbc KM3l KF3l KO3l KR3l HB3l H3l hHeld
      refine hK _ _ (by exact ⟨range_of KM3ls.out (maL_sp lk ot r A n c E m k), range_of KF3ls.out rfl, range_of KO3ls.out rfl⟩) (fun hHeld => ?_)
      clear hK K
      try simp only [Act.put, pj]
      refine tkk (i := 11) rfl ?_
      try simp only [Act.put, pj]
      refine tkk (i := 12) rfl ?_
      try simp only [Act.put, pj]
      refine tkk (i := 13) rfl ?_
      try simp only [Act.put, pj]
      refine wpAnyH_ready (rs := [14]) (by kernel_rfl) (by simp) (AllReadyH.cons rfl (fun K hK => ?_) AllReadyH.nil)
      go_simp
      have hbp := bel1 w3ls (.cells #[.int .i64 0, .int .i64 0, .int .i64 0, .int .i64 0] 237)
      have KM3lsp := Lib.hid (box_below KM3ls.out hbp)
      have KF3lsp := Lib.hid (box_below KF3ls.out hbp)
      have KO3lsp := Lib.hid (box_below KO3ls.out hbp)
      have KR3lsp := Lib.hid (box_below KR3ls.out hbp)
      have HB3lsp := Lib.hid (bel_then HB3ls.out hbp HB3ls.out.size)
      have H3lsp := Lib.hid (H3ls.out.below hbp)
      have KP3lsp := Lib.hid (box_new w3ls (.cells #[.int .i64 0, .int .i64 0, .int .i64 0, .int .i64 0] 237))
      have hsP : F + 1 < w3ls.heap.size := box_lt KO3ls.out
      clear hbp KM3ls KF3ls KO3ls KR3ls HB3ls H3ls hHeld
      refine hK _ _ (by exact ⟨range_of KM3lsp.out (maL_sp lk ot r A n c E m k), range_of KF3lsp.out rfl, range_of KO3lsp.out rfl⟩) (fun hHeld => ?_)
      clear hK K
      try simp only [Act.put, pj]
      refine wpAnyH_ready (rs := [15]) (by kernel_rfl) (by simp) (AllReadyH.cons rfl (fun K hK => ?_) AllReadyH.nil)
      refine wp_put rfl 237 _ _ rfl w3ls.heap.size 0 [.int .i64 p1, .int .i64 p2, .int .i64 p3, .int .i64 p4] rfl rfl KP3lsp.out (by kernel_rfl) [.int .i64 p1, .int .i64 p2, .int .i64 p3, .int .i64 p4] rfl (Nat.le_of_ble_eq_true rfl) (by simp [Value.oneCell']) ?_
      have hs9 : F + 1 < w3ls.heap.size := hsP
      refine hK _ _ (by exact ⟨range_of (row_far KM3lsp.out (by omega)) (maL_sp lk ot r A n c E m k), range_of (row_far KF3lsp.out (by omega)) rfl, range_of (row_far KO3lsp.out (by omega)) rfl⟩) (fun hHeld => ?_)
      clear hK K
      try simp only [Act.put, pj]
      refine tkk (i := 16) rfl ?_
      try simp only [Act.put, pj]
      refine wpAnyH_done (by kernel_rfl) ?_ _
      clear hHeld
      have KP9 := Lib.hid (row_box (vs := [.int .i64 p1, .int .i64 p2, .int .i64 p3, .int .i64 p4].toArray) KP3lsp.out)
      have KR9 := Lib.hid (row_far (vs := [.int .i64 p1, .int .i64 p2, .int .i64 p3, .int .i64 p4].toArray) (b := w3ls.heap.size) KR3lsp.out (by omega))
      have HB9 := Lib.hid (row_below HB3lsp.out (w3ls.heap.size) [.int .i64 p1, .int .i64 p2, .int .i64 p3, .int .i64 p4].toArray (by omega) HB3lsp.out.size)
      clear KM3lsp KF3lsp KO3lsp KR3lsp KP3lsp HB3lsp H3lsp
      go_wp2_with (first | (refine wpList_get rfl 237 _ rfl (w3ls.heap.size) 0 rfl KP9.out [.int .i64 p1, .int .i64 p2, .int .i64 p3, .int .i64 p4] rfl Tryz.underlying237 rfl (by kernel_rfl) ?_) | (refine wpList_put rfl rfl 237 _ _ rfl w.heap.size 0 [.int .i64 p1, .int .i64 p2, .int .i64 p3, .int .i64 p4] rfl rfl KR9.out (by kernel_rfl) [.int .i64 p1, .int .i64 p2, .int .i64 p3, .int .i64 p4] rfl (Nat.le_of_ble_eq_true rfl) (by simp [Value.oneCell']) ?_))
      exact bodyPost_ret (v := .agg #[.int .i64 p1, .int .i64 p2, .int .i64 p3, .int .i64 p4]) (results_box rfl _ rfl (row_box KR9.out) Tryz.underlying237 rfl (by kernel_rfl)) rfl ⟨rfl, row_below HB9.out _ _ (Nat.le_refl _) HB9.out.size⟩
    · go_simp
      have hbp := bel1 w3l (.cells #[.int .i64 0, .int .i64 0, .int .i64 0, .int .i64 0] 237)
      have KM3lp := Lib.hid (box_below KM3l.out hbp)
      have KF3lp := Lib.hid (box_below KF3l.out hbp)
      have KO3lp := Lib.hid (box_below KO3l.out hbp)
      have KR3lp := Lib.hid (box_below KR3l.out hbp)
      have HB3lp := Lib.hid (bel_then HB3l.out hbp HB3l.out.size)
      have H3lp := Lib.hid (H3l.out.below hbp)
      have KP3lp := Lib.hid (box_new w3l (.cells #[.int .i64 0, .int .i64 0, .int .i64 0, .int .i64 0] 237))
      have hsP : F + 1 < w3l.heap.size := box_lt KO3l.out
      clear hbp KM3l KF3l KO3l KR3l HB3l H3l hHeld
      refine hK _ _ (by exact ⟨range_of KM3lp.out (maL_sp lk ot r A n c E m k), range_of KF3lp.out rfl, range_of KO3lp.out rfl⟩) (fun hHeld => ?_)
      clear hK K
      try simp only [Act.put, pj]
      refine wpAnyH_ready (rs := [10]) (by kernel_rfl) (by simp) (AllReadyH.cons rfl (fun K hK => ?_) AllReadyH.nil)
      go_simp
      refine (CP.out _).mono ?_
      rintro e w3lps ⟨rfl, hbc⟩
      have KM3lps := Lib.hid (box_below KM3lp.out hbc)
      have KF3lps := Lib.hid (box_below KF3lp.out hbc)
      have KO3lps := Lib.hid (box_below KO3lp.out hbc)
      have KR3lps := Lib.hid (box_below KR3lp.out hbc)
      have KP3lps := Lib.hid (box_below KP3lp.out hbc)
      have HB3lps := Lib.hid (bel_then HB3lp.out hbc HB3lp.out.size)
      have H3lps := Lib.hid (H3lp.out.below hbc)
      clear hbc KM3lp KF3lp KO3lp KR3lp HB3lp H3lp hHeld KP3lp
      refine hK _ _ (by exact ⟨range_of KM3lps.out (maL_sp lk ot r A n c E m k), range_of KF3lps.out rfl, range_of KO3lps.out rfl⟩) (fun hHeld => ?_)
      clear hK K
      try simp only [Act.put, pj]
      refine tkk (i := 11) rfl ?_
      try simp only [Act.put, pj]
      refine tkk (i := 12) rfl ?_
      try simp only [Act.put, pj]
      refine tkk (i := 13) rfl ?_
      try simp only [Act.put, pj]
      refine wpAnyH_ready (rs := [15]) (by kernel_rfl) (by simp) (AllReadyH.cons rfl (fun K hK => ?_) AllReadyH.nil)
      refine wp_put rfl 237 _ _ rfl w3l.heap.size 0 [.int .i64 p1, .int .i64 p2, .int .i64 p3, .int .i64 p4] rfl rfl KP3lps.out (by kernel_rfl) [.int .i64 p1, .int .i64 p2, .int .i64 p3, .int .i64 p4] rfl (Nat.le_of_ble_eq_true rfl) (by simp [Value.oneCell']) ?_
      have hs9 : F + 1 < w3l.heap.size := hsP
      refine hK _ _ (by exact ⟨range_of (row_far KM3lps.out (by omega)) (maL_sp lk ot r A n c E m k), range_of (row_far KF3lps.out (by omega)) rfl, range_of (row_far KO3lps.out (by omega)) rfl⟩) (fun hHeld => ?_)
      clear hK K
      try simp only [Act.put, pj]
      refine tkk (i := 16) rfl ?_
      try simp only [Act.put, pj]
      refine wpAnyH_done (by kernel_rfl) ?_ _
      clear hHeld
      have KP9 := Lib.hid (row_box (vs := [.int .i64 p1, .int .i64 p2, .int .i64 p3, .int .i64 p4].toArray) KP3lps.out)
      have KR9 := Lib.hid (row_far (vs := [.int .i64 p1, .int .i64 p2, .int .i64 p3, .int .i64 p4].toArray) (b := w3l.heap.size) KR3lps.out (by omega))
      have HB9 := Lib.hid (row_below HB3lps.out (w3l.heap.size) [.int .i64 p1, .int .i64 p2, .int .i64 p3, .int .i64 p4].toArray (by omega) HB3lps.out.size)
      clear KM3lps KF3lps KO3lps KR3lps KP3lps HB3lps H3lps
      go_wp2_with (first | (refine wpList_get rfl 237 _ rfl (w3l.heap.size) 0 rfl KP9.out [.int .i64 p1, .int .i64 p2, .int .i64 p3, .int .i64 p4] rfl Tryz.underlying237 rfl (by kernel_rfl) ?_) | (refine wpList_put rfl rfl 237 _ _ rfl w.heap.size 0 [.int .i64 p1, .int .i64 p2, .int .i64 p3, .int .i64 p4] rfl rfl KR9.out (by kernel_rfl) [.int .i64 p1, .int .i64 p2, .int .i64 p3, .int .i64 p4] rfl (Nat.le_of_ble_eq_true rfl) (by simp [Value.oneCell']) ?_))
      exact bodyPost_ret (v := .agg #[.int .i64 p1, .int .i64 p2, .int .i64 p3, .int .i64 p4]) (results_box rfl _ rfl (row_box KR9.out) Tryz.underlying237 rfl (by kernel_rfl)) rfl ⟨rfl, row_below HB9.out _ _ (Nat.le_refl _) HB9.out.size⟩
  · go_simp
    have hbp := bel1 V2.drew (.cells #[.int .i64 0, .int .i64 0, .int .i64 0, .int .i64 0] 237)
    have KM3p := Lib.hid (box_below KM3.out hbp)
    have KF3p := Lib.hid (box_below KF3.out hbp)
    have KO3p := Lib.hid (box_below KO3.out hbp)
    have KR3p := Lib.hid (box_below KR3.out hbp)
    have HB3p := Lib.hid (bel_then HB3.out hbp HB3.out.size)
    have H3p := Lib.hid (H3.out.below hbp)
    have KP3p := Lib.hid (box_new V2.drew (.cells #[.int .i64 0, .int .i64 0, .int .i64 0, .int .i64 0] 237))
    have hsP : F + 1 < V2.drew.heap.size := box_lt KO3.out
    clear hbp KM3 KF3 KO3 KR3 HB3 H3 hHeld
    refine hK _ _ (by exact ⟨range_of KM3p.out (maL_sp lk ot r A n c E m k), range_of KF3p.out rfl, range_of KO3p.out rfl⟩) (fun hHeld => ?_)
    clear hK K
    try simp only [Act.put, pj]
    refine wpAnyH_ready (rs := [9]) (by kernel_rfl) (by simp) (AllReadyH.cons rfl (fun K hK => ?_) AllReadyH.nil)
    go_simp
    refine (CL.out _ H3p.out).mono ?_
    rintro e w3pl ⟨rfl, hbc⟩
    have KM3pl := Lib.hid (box_below KM3p.out hbc)
    have KF3pl := Lib.hid (box_below KF3p.out hbc)
    have KO3pl := Lib.hid (box_below KO3p.out hbc)
    have KR3pl := Lib.hid (box_below KR3p.out hbc)
    have KP3pl := Lib.hid (box_below KP3p.out hbc)
    have HB3pl := Lib.hid (bel_then HB3p.out hbc HB3p.out.size)
    have H3pl := Lib.hid (H3p.out.below hbc)
    clear hbc KM3p KF3p KO3p KR3p HB3p H3p hHeld KP3p
    refine hK _ _ (by exact ⟨range_of KM3pl.out (maL_sp lk ot r A n c E m k), range_of KF3pl.out rfl, range_of KO3pl.out rfl⟩) (fun hHeld => ?_)
    clear hK K
    try simp only [Act.put, pj]
    refine wpAnyH_ready (rs := [10]) (by kernel_rfl) (by simp) (AllReadyH.cons rfl (fun K hK => ?_) AllReadyH.nil)
    go_simp
    refine (CP.out _).mono ?_
    rintro e w3pls ⟨rfl, hbc⟩
    have KM3pls := Lib.hid (box_below KM3pl.out hbc)
    have KF3pls := Lib.hid (box_below KF3pl.out hbc)
    have KO3pls := Lib.hid (box_below KO3pl.out hbc)
    have KR3pls := Lib.hid (box_below KR3pl.out hbc)
    have KP3pls := Lib.hid (box_below KP3pl.out hbc)
    have HB3pls := Lib.hid (bel_then HB3pl.out hbc HB3pl.out.size)
    have H3pls := Lib.hid (H3pl.out.below hbc)
    clear hbc KM3pl KF3pl KO3pl KR3pl HB3pl H3pl hHeld KP3pl
    refine hK _ _ (by exact ⟨range_of KM3pls.out (maL_sp lk ot r A n c E m k), range_of KF3pls.out rfl, range_of KO3pls.out rfl⟩) (fun hHeld => ?_)
    clear hK K
    try simp only [Act.put, pj]
    refine tkk (i := 11) rfl ?_
    try simp only [Act.put, pj]
    refine tkk (i := 12) rfl ?_
    try simp only [Act.put, pj]
    refine tkk (i := 13) rfl ?_
    try simp only [Act.put, pj]
    refine wpAnyH_ready (rs := [15]) (by kernel_rfl) (by simp) (AllReadyH.cons rfl (fun K hK => ?_) AllReadyH.nil)
    refine wp_put rfl 237 _ _ rfl V2.drew.heap.size 0 [.int .i64 p1, .int .i64 p2, .int .i64 p3, .int .i64 p4] rfl rfl KP3pls.out (by kernel_rfl) [.int .i64 p1, .int .i64 p2, .int .i64 p3, .int .i64 p4] rfl (Nat.le_of_ble_eq_true rfl) (by simp [Value.oneCell']) ?_
    have hs9 : F + 1 < V2.drew.heap.size := hsP
    refine hK _ _ (by exact ⟨range_of (row_far KM3pls.out (by omega)) (maL_sp lk ot r A n c E m k), range_of (row_far KF3pls.out (by omega)) rfl, range_of (row_far KO3pls.out (by omega)) rfl⟩) (fun hHeld => ?_)
    clear hK K
    try simp only [Act.put, pj]
    refine tkk (i := 16) rfl ?_
    try simp only [Act.put, pj]
    refine wpAnyH_done (by kernel_rfl) ?_ _
    clear hHeld
    have KP9 := Lib.hid (row_box (vs := [.int .i64 p1, .int .i64 p2, .int .i64 p3, .int .i64 p4].toArray) KP3pls.out)
    have KR9 := Lib.hid (row_far (vs := [.int .i64 p1, .int .i64 p2, .int .i64 p3, .int .i64 p4].toArray) (b := V2.drew.heap.size) KR3pls.out (by omega))
    have HB9 := Lib.hid (row_below HB3pls.out (V2.drew.heap.size) [.int .i64 p1, .int .i64 p2, .int .i64 p3, .int .i64 p4].toArray (by omega) HB3pls.out.size)
    clear KM3pls KF3pls KO3pls KR3pls KP3pls HB3pls H3pls
    go_wp2_with (first | (refine wpList_get rfl 237 _ rfl (V2.drew.heap.size) 0 rfl KP9.out [.int .i64 p1, .int .i64 p2, .int .i64 p3, .int .i64 p4] rfl Tryz.underlying237 rfl (by kernel_rfl) ?_) | (refine wpList_put rfl rfl 237 _ _ rfl w.heap.size 0 [.int .i64 p1, .int .i64 p2, .int .i64 p3, .int .i64 p4] rfl rfl KR9.out (by kernel_rfl) [.int .i64 p1, .int .i64 p2, .int .i64 p3, .int .i64 p4] rfl (Nat.le_of_ble_eq_true rfl) (by simp [Value.oneCell']) ?_))
    exact bodyPost_ret (v := .agg #[.int .i64 p1, .int .i64 p2, .int .i64 p3, .int .i64 p4]) (results_box rfl _ rfl (row_box KR9.out) Tryz.underlying237 rfl (by kernel_rfl)) rfl ⟨rfl, row_below HB9.out _ _ (Nat.le_refl _) HB9.out.size⟩
end Go.Proofs.YtklgjjmcflgjeaaGreat.Mach
namespace Go.Proofs.YtklgjjmcflgjeaaGreat.Mach
open Go.ChangeShapes Go.WideShapes Go.ChangeAt Go.RowKit
open LK Pods EngV EngCnt Eng Seg
theorem drop_few (r : Run) (p : Pd) (h : r.e.ps.length ≤ 1048576) : (r.drop p).e.ps.length ≤ 1048576 := Crew.few_go (d := r.fl) p.1 r.e.now h
theorem drop_ev (r : Run) (p : Pd) : (r.drop p).ev.length = r.ev.length + 1 := by simp [Run.drop, Run.tell, Run.setFl]
def Amid (w : World) (S : Nat → Prop) (b : Nat) (lk ot : Int) (q : Run) (wr : World) : Prop := ∃ S' : Nat → Prop, Mach wr S' b lk ot q ∧ (∀ k, S' k → S k ∨ w.heap.size ≤ k) ∧ Turned S w wr ∧ Kept w wr
theorem Amid.start {w : World} {S : Nat → Prop} {b : Nat} {lk ot : Int} {q : Run} (h : Mach w S b lk ot q) : Amid w S b lk ot q w := ⟨S, h, fun _ h => .inl h, Turned.of_below (Below.refl _ _), Kept.refl w⟩
theorem Amid.fin {w wr : World} {S : Nat → Prop} {b : Nat} {lk ot : Int} {q : Run} {res : Value} (h : Amid w S b lk ot q wr) : Moved b lk ot q res S w (.returned res) wr := by
  obtain ⟨S', h1, h2, h3, h4⟩ := h
  exact ⟨rfl, S', h1, h2, h3, h4⟩
theorem Amid.below {w wr w' : World} {S : Nat → Prop} {b : Nat} {lk ot : Int} {q : Run} (h : Amid w S b lk ot q wr) (hb : Below wr.heap.size wr w') : Amid w S b lk ot q w' := by
  obtain ⟨S', h1, h2, h3, h4⟩ := h
  exact ⟨S', h1.below hb, h2, h3.trans (Turned.of_below hb), h4.trans (Kept.below hb)⟩
theorem Amid.call {w wr w' : World} {S S' : Nat → Prop} {b : Nat} {lk2 ot2 : Int} {q' : Run} {res : Value} {e : Ending} (h2 : ∀ k, S' k → S k ∨ w.heap.size ≤ k) (h3 : Turned S w wr) (h4 : Kept w wr) (hm : Moved b lk2 ot2 q' res S' wr e w') : e = .returned res ∧ Amid w S b lk2 ot2 q' w' := by
  obtain ⟨he, S2, ha, hb, hc, hd⟩ := Moved.step h2 h3 h4 hm
  exact ⟨he, S2, ha, hb, hc, hd⟩
set_option maxRecDepth 100000 in
set_option maxHeartbeats 12800000 in
theorem giveUp_any (w : World) (S : Nat → Prop) (b : Nat) (lk ot : Int) (r : Run) (h : Mach w S b lk ot r) (hev : r.ev.length ≤ 900000) (hn : r.e.ps.length ≤ 1000) (htr : 0 ≤ r.e.tr ∧ r.e.tr ≤ 900000) (hid : ∀ p ∈ r.e.ps, (Lit.int .i64 p.1).wf = true) :
    Calls Tryz.prog 227 #[.pointer (some ⟨b, 0, none⟩)] w (Moved b lk ot r.giveUp (.tuple #[]) S w) := by
  obtain ⟨R, hR⟩ : ∃ R, R = r.giveUp := ⟨_, rfl⟩
  rw [← hR]
  have HR0 : Hid (R = r.loseAll (r.e.ps.drop 0)) := hR
  clear hR
  have HA0 := Lib.hid (Amid.start h)
  obtain ⟨A, n, c, E, m0, k0, h⟩ := h
  have HO := Lib.hid h.ps
  have hnl : r.e.ps.length = n := h.ps.1
  have HN := Lib.hid hnl
  have hn1 : n ≤ 1000 := by omega
  have H := Lib.hid h
  have HID := Lib.hid hid
  have HB0 : Hid (r.ev.length ≤ 900000 + 0 ∧ r.e.ps.length ≤ 1048576 ∧ 0 ≤ r.e.tr ∧ r.e.tr ≤ 900000 + (0 : Nat)) := ⟨by omega, by omega, by omega, by omega⟩
  clear h hid hev hn htr hnl
  obtain ⟨PS, hPS⟩ : ∃ PS, PS = r.e.ps := ⟨_, rfl⟩
  rw [← hPS] at HR0 HO HN HID
  go_enter Tryz.func227, Tryz.ntmps227
  have c17 : w.cell? ⟨b, 17, none⟩ = some (.slice A n c) := box_cell H.out.box 17 _ rfl
  go_wp2_with fail
  clear c17
  go_loopw [11] (fun i wr => ∃ (k : Nat) (q : Run), k ≤ n ∧ i = .int .i64 k ∧ Hid (Amid w S b lk ot q wr) ∧ Hid (R = q.loseAll (PS.drop k)) ∧ Hid (q.ev.length ≤ 900000 + k ∧ q.e.ps.length ≤ 1048576 ∧ 0 ≤ q.e.tr ∧ q.e.tr ≤ 900000 + (k : Nat))) (fun i _ => n - (RowKit.intOf i).toNat)
  case atStart => exact ⟨0, r, Nat.zero_le _, rfl, HA0, HR0, HB0⟩
  case round =>
    obtain ⟨k, q, hk, rfl, HA, HR, HB⟩ := hrel
    clear HR0 HB0 HA0 H hPS
    by_cases hlt : k < n
    case neg =>
      have HK : Hid (k = n) := (by omega : k = n)
      go_wp2
      go_end0
      have h := HR.out
      rw [List.drop_of_length_le (by rw [HN.out, HK.out]; exact Nat.le_refl _)] at h
      rw [show R = q from h]
      exact HA.out.fin
    obtain ⟨S1, hm1, hs1, ht1, hk1⟩ := HA.out
    have HO1 := Lib.hid (hk1.pods HO.out)
    have HS1 := Lib.hid hs1
    have HM1 := Lib.hid hm1
    have HT1 := Lib.hid ht1
    have HK1 := Lib.hid hk1
    have hbr : b < wr.heap.size := by obtain ⟨_, _, _, _, _, _, h⟩ := hm1; exact h.lt
    clear hm1 hs1 ht1 hk1 HA
    obtain ⟨bb, off, y0, y1, y2, y3, y4, rfl, hbB, hz, hc0, hc1, hc2, hc3, hc4⟩ := HO1.out.podsAll.at_ hlt
    have hmem : PS.getD k z5 ∈ PS := by rw [show PS.getD k z5 = PS[k]'(by rw [HN.out]; exact hlt) from by simp [List.getD, HN.out, hlt]]; exact List.getElem_mem _
    have HW : Hid ((Lit.int .i64 y0).wf = true) := by have h := HID.out _ hmem; rw [hz] at h; exact h
    have HS : Hid (R = Run.loseAll (if loP q.e.sp q.e.now (y0, y1, y2, y3, y4) then q.lose (y0, y1, y2, y3, y4) else q) (PS.drop (k + 1))) := by
      show _ = _
      rw [HR.out, List.drop_eq_getElem_cons (by rw [HN.out]; exact hlt), show PS[k]'(by rw [HN.out]; exact hlt) = (y0, y1, y2, y3, y4) from by rw [← hz]; simp [List.getD, HN.out, hlt]]
      rfl
    clear hz hmem HO1 HR
    obtain ⟨Q, hQ⟩ : ∃ Q, Q = loP q.e.sp q.e.now (y0, y1, y2, y3, y4) := ⟨_, rfl⟩
    have HQ : Hid (∀ W : World, Calls Tryz.prog 241 #[.agg (spL q.e.sp).toArray, .agg #[.int .i64 y0, .int .i64 y1, .int .i64 y2, .int .i64 y3, .int .i64 y4], .int .i64 q.e.now] W (Says (.bool Q) W)) := fun W => by rw [hQ]; exact Hl.isLost_any q.e.sp.x0 q.e.sp.x1 q.e.sp.x2 q.e.sp.x3 q.e.sp.x4 q.e.sp.x5 q.e.sp.x6 q.e.sp.x7 q.e.sp.x8 q.e.sp.x9 q.e.sp.x10 y0 y1 y2 y3 y4 q.e.now W
    rw [← hQ] at HS
    clear hQ
    obtain ⟨A1, n1, c1, E1, m1, k1, h1⟩ := HM1.out
    have KM := Lib.hid (box_alloc h1.box (.cells #[.int .i64 y0, .int .i64 y1, .int .i64 y2, .int .i64 y3, .int .i64 y4] 85))
    have KP : Hid ((wr.alloc (.cells #[.int .i64 y0, .int .i64 y1, .int .i64 y2, .int .i64 y3, .int .i64 y4] 85)).heap[wr.heap.size]? = some (.cells [.int .i64 y0, .int .i64 y1, .int .i64 y2, .int .i64 y3, .int .i64 y4].toArray 85 (0, 0))) := box_new wr _
    clear h1
    have hp : (wr.alloc (.cells #[.int .i64 y0, .int .i64 y1, .int .i64 y2, .int .i64 y3, .int .i64 y4] 85)).heap.size = wr.heap.size + 1 := by simp
    have HBA : Hid (Below wr.heap.size wr (wr.alloc (.cells #[.int .i64 y0, .int .i64 y1, .int .i64 y2, .int .i64 y3, .int .i64 y4] 85))) := bel1 _ _
    clear hp
    go_upto_region 3 with fail
    obtain ⟨V, hV⟩ : ∃ V, V = wr.alloc (.cells #[.int .i64 y0, .int .i64 y1, .int .i64 y2, .int .i64 y3, .int .i64 y4] 85) := ⟨_, rfl⟩
    rw [← hV] at KM KP HBA
    rw [← hV]
    clear hV hc0 hc1 hc2 hc3 hc4
    refine wp_region_held_drew (S := fun w' => w'.rangeAt b 2 (spL q.e.sp) ∧ w'.rangeAt wr.heap.size 0 [.int .i64 y0, .int .i64 y1, .int .i64 y2, .int .i64 y3, .int .i64 y4] ∧ w'.cell? ⟨b, 13, none⟩ = some (.int .i64 q.e.now)) (by kernel_rfl) ⟨range_of KM.out (maL_sp lk ot q A1 n1 c1 E1 m1 k1), range_of KP.out rfl, box_cell KM.out 13 _ rfl⟩ (fun hHeld => ?_)
    refine tkk (i := 0) rfl ?_
    try simp only [Act.put, pj]
    refine tkk (i := 1) rfl ?_
    try simp only [Act.put, pj]
    refine tkk (i := 2) rfl ?_
    try simp only [Act.put, pj]
    refine tkk (i := 3) rfl ?_
    try simp only [Act.put, pj]
    refine tkj (i := 4) (v := .agg (spL q.e.sp).toArray) rfl (yieldsIf_load_mid (by rfl) 25 _ rfl b 2 rfl (spL q.e.sp) _ (fun w' h => h.1) Tryz.underlying25 rfl (by kernel_rfl)) ?_
    try simp only [Act.put, pj]
    refine tkj (i := 5) (v := .agg ([.int .i64 y0, .int .i64 y1, .int .i64 y2, .int .i64 y3, .int .i64 y4]).toArray) rfl (yieldsIf_load_mid (by rfl) 85 _ rfl wr.heap.size 0 rfl ([.int .i64 y0, .int .i64 y1, .int .i64 y2, .int .i64 y3, .int .i64 y4]) _ (fun w' h => h.2.1) Tryz.underlying85 rfl (by kernel_rfl)) ?_
    try simp only [Act.put, pj]
    refine tkk (i := 6) rfl ?_
    try simp only [Act.put, pj]
    refine tkk (i := 7) rfl ?_
    try simp only [Act.put, pj]
    refine tkk (i := 8) rfl ?_
    try simp only [Act.put, pj]
    refine tkk (i := 9) rfl ?_
    try simp only [Act.put, pj]
    refine tkk (i := 10) rfl ?_
    try simp only [Act.put, pj]
    refine wpAnyH_ready (rs := [11]) (by kernel_rfl) (by simp) (AllReadyH.cons rfl (fun K hK => ?_) AllReadyH.nil)
    go_simp
    refine (HQ.out _).mono ?_
    rintro e w2 ⟨rfl, hb⟩
    have hb' : Below V.heap.size V w2 := undrew hb
    have KM2 := Lib.hid (box_below KM.out hb')
    have KP2 := Lib.hid (box_below KP.out hb')
    have HB2 : Hid (Below wr.heap.size wr w2) := bel_then HBA.out hb' HBA.out.size
    clear hb hb' KM KP HBA hHeld
    refine hK _ _ (by exact ⟨range_of KM2.out (maL_sp lk ot q A1 n1 c1 E1 m1 k1), range_of KP2.out rfl, box_cell KM2.out 13 _ rfl⟩) (fun hHeld => ?_)
    clear hK K
    try simp only [Act.put, pj]
    refine tkk (i := 12) rfl ?_
    try simp only [Act.put, pj]
    refine wpAnyH_done (by kernel_rfl) ?_ _
    clear hHeld
    have HM2 := Lib.hid (HM1.out.below HB2.out)
    have HT2 : Hid (Turned S w w2) := HT1.out.trans (Turned.of_below HB2.out)
    have HK2 : Hid (Kept w w2) := HK1.out.trans (Kept.below HB2.out)
    clear HM1 HT1 HK1 KM2
    cases Q
    · have HS2 : Hid (R = q.loseAll (PS.drop (k + 1))) := HS.out
      have HA2 : Hid (Amid w S b lk ot q w2) := ⟨S1, HM2.out, HS1.out, HT2.out, HK2.out⟩
      have HB3 : Hid (q.ev.length ≤ 900000 + (k + 1) ∧ q.e.ps.length ≤ 1048576 ∧ 0 ≤ q.e.tr ∧ q.e.tr ≤ 900000 + (k + 1 : Nat)) := by have h := HB.out; exact ⟨by omega, h.2.1, h.2.2.1, by omega⟩
      clear HS HM2 HT2 HK2 KP2 HB HB2
      go_wp2
      go_roundw
      case rel => exact ⟨k + 1, q, by omega, by go_num, HA2, HS2, HB3⟩
      case measure => simp [RowKit.intOf]; omega
    have HS2 : Hid (R = (q.lose (y0, y1, y2, y3, y4)).loseAll (PS.drop (k + 1))) := HS.out
    clear HS
    have e0 : w2.cell? ⟨wr.heap.size, 0, none⟩ = some (.int .i64 y0) := box_cell KP2.out 0 _ rfl
    have e1 : w2.cell? ⟨wr.heap.size, 1, none⟩ = some (.int .i64 y1) := box_cell KP2.out 1 _ rfl
    have e2 : w2.cell? ⟨wr.heap.size, 2, none⟩ = some (.int .i64 y2) := box_cell KP2.out 2 _ rfl
    have e3 : w2.cell? ⟨wr.heap.size, 3, none⟩ = some (.int .i64 y3) := box_cell KP2.out 3 _ rfl
    have e4 : w2.cell? ⟨wr.heap.size, 4, none⟩ = some (.int .i64 y4) := box_cell KP2.out 4 _ rfl
    go_wp2_with fail
    refine (drop_any w2 S1 b lk ot q y0 y1 y2 y3 y4 HM2.out (by have h := HB.out; omega) HB.out.2.1 HW.out).mono ?_
    intro e w3 hmv
    have HPK := Lib.hid (hmv.2.choose_spec.2.2.2 _ _ _ KP2.out)
    obtain ⟨rfl, ha⟩ := Amid.call HS1.out HT2.out HK2.out hmv
    obtain ⟨q1, hq1⟩ : ∃ q1, q1 = q.drop (y0, y1, y2, y3, y4) := ⟨_, rfl⟩
    rw [← hq1] at ha
    have HA3 := Lib.hid ha
    have HB1 : Hid (q1.ev.length ≤ 900000 + (k + 1) ∧ q1.e.ps.length ≤ 1048576 ∧ 0 ≤ q1.e.tr ∧ q1.e.tr ≤ 900000 + (k : Nat)) := by
      have h := HB.out
      rw [hq1]
      refine ⟨by rw [drop_ev]; omega, drop_few _ _ h.2.1, h.2.2.1, h.2.2.2⟩
    have HL : Hid (q.lose (y0, y1, y2, y3, y4) = if mvB q1.e.ph && decide (y1 = q1.e.tg) then q1.tryOn else q1) := by rw [hq1]; rfl
    rw [HL.out] at HS2
    clear hmv ha hq1 HL HM2 HT2 HK2 KP2 HB2 HB HS1 HW e0 e1 e2 e3 e4
    obtain ⟨S3, hm3, hs3, ht3, hk3⟩ := HA3.out
    have HM3 := Lib.hid hm3
    have HS3 := Lib.hid hs3
    have HT3 := Lib.hid ht3
    have HK3 := Lib.hid hk3
    clear hm3 hs3 ht3 hk3
    obtain ⟨A3, n3, c3, E3, m3, k3, h3⟩ := HM3.out
    have KM3 := Lib.hid h3.box
    clear h3
    have f1 : w3.cell? ⟨wr.heap.size, 1, none⟩ = some (.int .i64 y1) := box_cell HPK.out 1 _ rfl
    have c14 : w3.cell? ⟨b, 14, none⟩ = some (.int .i64 q1.e.ph) := box_cell KM3.out 14 _ rfl
    have c15 : w3.cell? ⟨b, 15, none⟩ = some (.int .i64 q1.e.tg) := box_cell KM3.out 15 _ rfl
    clear KM3 HPK
    obtain ⟨g, hg⟩ : ∃ g, (y1 == q1.e.tg) = g := ⟨_, rfl⟩
    have HG : Hid (decide (y1 = q1.e.tg) = g) := by rw [← hg]; rfl
    go_wp2_with fail
    refine wp_region_held_drew (S := fun w' => w'.cell? ⟨b, 14, none⟩ = some (.int .i64 q1.e.ph) ∧ w'.cell? ⟨b, 15, none⟩ = some (.int .i64 q1.e.tg) ∧ w'.cell? ⟨wr.heap.size, 1, none⟩ = some (.int .i64 y1)) (by kernel_rfl) ⟨c14, c15, f1⟩ (fun hHeld => ?_)
    refine tkk (i := 0) rfl ?_
    try simp only [Act.put, pj]
    refine tkk (i := 1) rfl ?_
    try simp only [Act.put, pj]
    refine tkk (i := 2) rfl ?_
    try simp only [Act.put, pj]
    refine tkk (i := 3) rfl ?_
    try simp only [Act.put, pj]
    refine tkk (i := 4) rfl ?_
    try simp only [Act.put, pj]
    refine wpAnyH_ready (rs := [5]) (by kernel_rfl) (by simp) (AllReadyH.cons rfl (fun K hK => ?_) AllReadyH.nil)
    go_simp
    refine (EngSet.underWay_any q1.e.ph _).mono ?_
    rintro e w' ⟨rfl, rfl⟩
    refine hK _ _ (by exact hHeld) (fun hHeld => ?_)
    clear hK K
    try simp only [Act.put, pj]
    cases hmv : mvB q1.e.ph
    · have HS4 : Hid (R = q1.loseAll (PS.drop (k + 1))) := by have h := HS2.out; rw [hmv] at h; exact h
      have HB4 : Hid (q1.ev.length ≤ 900000 + (k + 1) ∧ q1.e.ps.length ≤ 1048576 ∧ 0 ≤ q1.e.tr ∧ q1.e.tr ≤ 900000 + (k + 1 : Nat)) := by have h := HB1.out; exact ⟨h.1, h.2.1, h.2.2.1, by omega⟩
      refine tkk (i := 6) rfl ?_
      try simp only [Act.put, pj]
      refine tkj (i := 7) (v := undef) rfl (Or.inr ⟨by rfl, rfl⟩) ?_
      try simp only [Act.put, pj]
      refine tkj (i := 8) (v := undef) rfl (Or.inr ⟨by rfl, rfl⟩) ?_
      try simp only [Act.put, pj]
      refine tkj (i := 9) (v := undef) rfl (Or.inr ⟨by rfl, rfl⟩) ?_
      try simp only [Act.put, pj]
      refine tkj (i := 10) (v := undef) rfl (Or.inr ⟨by rfl, rfl⟩) ?_
      try simp only [Act.put, pj]
      refine tkj (i := 11) (v := undef) rfl (Or.inr ⟨by rfl, rfl⟩) ?_
      try simp only [Act.put, pj]
      refine tkj (i := 12) (v := undef) rfl (Or.inr ⟨by rfl, rfl⟩) ?_
      try simp only [Act.put, pj]
      refine tkj (i := 13) (v := undef) rfl (Or.inr ⟨by rfl, rfl⟩) ?_
      try simp only [Act.put, pj]
      refine tkj (i := 14) (v := undef) rfl (Or.inr ⟨by rfl, rfl⟩) ?_
      try simp only [Act.put, pj]
      refine tkk (i := 15) rfl ?_
      try simp only [Act.put, pj]
      refine wpAnyH_done (by kernel_rfl) ?_ _
      clear hHeld c14 c15 f1 HS2 HB1 hmv
      have HA4 : Hid (Amid w S b lk ot q1 w3.drew) := HA3.out.below (undrew (Below.refl _ _))
      go_wp2
      go_roundw
      case rel => exact ⟨k + 1, q1, by omega, by go_num, HA4, HS4, HB4⟩
      case measure => simp [RowKit.intOf]; omega
    refine tkk (i := 6) rfl ?_
    try simp only [Act.put, pj]
    refine tkk (i := 7) rfl ?_
    try simp only [Act.put, pj]
    refine tkk (i := 8) rfl ?_
    try simp only [Act.put, pj]
    refine tkk (i := 9) rfl ?_
    try simp only [Act.put, pj]
    refine tkk (i := 10) rfl ?_
    try simp only [Act.put, pj]
    refine tkk (i := 11) rfl ?_
    try simp only [Act.put, pj]
    refine tkk (i := 12) rfl ?_
    try simp only [Act.put, pj]
    refine tkk (i := 13) rfl ?_
    try simp only [Act.put, pj]
    refine tkk (i := 14) rfl ?_
    try simp only [Act.put, pj]
    refine tkk (i := 15) rfl ?_
    try simp only [Act.put, pj]
    refine wpAnyH_done (by kernel_rfl) ?_ _
    clear hHeld c14 c15 f1
    cases g
    · have HS4 : Hid (R = q1.loseAll (PS.drop (k + 1))) := by have h := HS2.out; rw [hmv, HG.out] at h; exact h
      have HB4 : Hid (q1.ev.length ≤ 900000 + (k + 1) ∧ q1.e.ps.length ≤ 1048576 ∧ 0 ≤ q1.e.tr ∧ q1.e.tr ≤ 900000 + (k + 1 : Nat)) := by have h := HB1.out; exact ⟨h.1, h.2.1, h.2.2.1, by omega⟩
      have HA4 : Hid (Amid w S b lk ot q1 w3.drew) := HA3.out.below (undrew (Below.refl _ _))
      clear HS2 HB1 hmv HG HM3 HS3 HT3 HK3
      go_wp2
      go_roundw
      case rel => exact ⟨k + 1, q1, by omega, by go_num, HA4, HS4, HB4⟩
      case measure => simp [RowKit.intOf]; omega
    have HS4 : Hid (R = q1.tryOn.loseAll (PS.drop (k + 1))) := by have h := HS2.out; rw [hmv, HG.out] at h; exact h
    have HB4 : Hid (q1.tryOn.ev.length ≤ 900000 + (k + 1) ∧ q1.tryOn.e.ps.length ≤ 1048576 ∧ 0 ≤ q1.tryOn.e.tr ∧ q1.tryOn.e.tr ≤ 900000 + (k + 1 : Nat)) := by have h := HB1.out; refine ⟨h.1, h.2.1, ?_, ?_⟩ <;> simp only [Run.tryOn] <;> omega
    clear HS2 hmv HG
    go_wp2_with fail
    refine (waitForRetry_any w3.drew S3 b lk ot q1 (HM3.out.below (undrew (Below.refl _ _))) (by have h := HB1.out; omega)).mono ?_
    intro e w5 hmv
    obtain ⟨rfl, ha⟩ := Amid.call HS3.out (HT3.out.trans (Turned.of_below (undrew (Below.refl _ _)))) (HK3.out.trans (Kept.below (undrew (Below.refl _ _)))) hmv
    have HA5 := Lib.hid ha
    clear hmv ha HM3 HS3 HT3 HK3 HA3 HB1
    go_wp2
    go_roundw
    case rel => exact ⟨k + 1, q1.tryOn, by omega, by go_num, HA5, HS4, HB4⟩
    case measure => simp [RowKit.intOf]; omega
end Go.Proofs.YtklgjjmcflgjeaaGreat.Mach
