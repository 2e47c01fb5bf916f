/-
  THE MACHINE's makeGood and end over this seat's translation.
-/
import Derived.Test.YtdefckbgcggnoaaGreatMachT
import Derived.Test.YtdefckbgcggnoaaGreatOverI
import Derived.Test.YtdefckbgcggnoaaGreatMachJ
namespace Go.Proofs.YtdefckbgcggnoaaGreat.Mach
open Go.ChangeShapes Go.WideShapes Go.ChangeAt Go.RowKit
open Go.Proofs.YtdefckbgcggnoaaGreat.LK Go.Proofs.YtdefckbgcggnoaaGreat.Pods Go.Proofs.YtdefckbgcggnoaaGreat.EngV Go.Proofs.YtdefckbgcggnoaaGreat.EngCnt Go.Proofs.YtdefckbgcggnoaaGreat.Eng Go.Proofs.YtdefckbgcggnoaaGreat.Seg
set_option linter.unusedVariables false
set_option linter.unusedSimpArgs false
set_option maxRecDepth 100000 in
set_option maxHeartbeats 6400000 in
theorem makeGood_any (w : World) (S : Nat → Prop) (b : Nat) (lk ot : Int) (r : Run) (h : Mach w S b lk ot r) (hl : r.ev.length ≤ 1000000) :
    Calls Tryz.prog 210 #[.pointer (some ⟨b, 0, none⟩)] w (Moved b lk ot r.makeGood (.tuple #[]) S w) := by
  obtain ⟨A, n, c, E, m, k, h⟩ := h
  have H := Lib.hid h
  have d15 : w.cell? ⟨b, 15, none⟩ = some (.int .i64 r.e.tg) := box_cell h.box 15 _ rfl
  have d16 : w.cell? ⟨b, 16, none⟩ = some (.int .i64 r.e.gd) := box_cell h.box 16 _ rfl
  have f16 := box_frozen h.box 16
  clear h
  go_enter Tryz.func210, Tryz.ntmps210
  by_cases hg : r.e.gd = r.e.tg
  · have hq : (r.e.gd == r.e.tg) = true := by simp [hg]
    have HE : Hid (r.makeGood = r) := by show _ = _; simp [Run.makeGood, hg]
    clear hg
    go_wp2
    go_end0
    rw [HE.out]
    exact ⟨rfl, S, ⟨A, n, c, E, m, k, H.out⟩, fun q hq => .inl hq, Turned.of_below (Below.refl _ _), Kept.refl w⟩
  have hq : (r.e.gd == r.e.tg) = false := by simp [hg]
  have HE : Hid (r.makeGood = ({ r with e := { r.e with gd := r.e.tg } } : Run).tell 3 r.e.tg r.e.gd) := by show _ = _; simp [Run.makeGood, hg]
  clear hg
  go_upto_region 3 with fail
  obtain ⟨W, hW⟩ : ∃ W, W = w.setCell ⟨b, 16, none⟩ (.int .i64 r.e.tg) := ⟨_, rfl⟩
  have hset := set_row (i := 16) H.out.box (.int .i64 r.e.tg) (maL lk ot ({ r with e := { r.e with gd := r.e.tg } } : Run) A n c E m k) rfl
  have HM : Hid (MachAt W S b lk ot ({ r with e := { r.e with gd := r.e.tg } } : Run) A n c E m k) := by rw [hW, hset]; exact H.out.row rfl rfl
  have HT : Hid (Turned S w W) := by rw [hW, hset]; exact turned_row H.out _
  have HKP : Hid (Kept w W) := by rw [hW]; exact Kept.set H.out.box (by decide) _
  rw [← hW]
  clear hW hset d15 d16 f16 hq
  have c16 : W.cell? ⟨b, 16, none⟩ = some (.int .i64 r.e.tg) := box_cell HM.out.box 16 _ rfl
  go_wp2_with fail
  refine (tell_any W S b lk ot ({ r with e := { r.e with gd := r.e.tg } } : Run) 3 r.e.tg r.e.gd ⟨A, n, c, E, m, k, HM.out⟩ hl).mono ?_
  intro e w2 hmv
  rw [← HE.out] at hmv
  have HMV := Lib.hid (Moved.step (fun q hq => .inl hq) HT.out HKP.out hmv)
  obtain ⟨rfl, _⟩ := hmv
  clear c16
  go_wp2
  go_end0
  exact HMV.out
theorem good_ev (r : Run) : r.makeGood.ev.length ≤ r.ev.length + 1 := by
  unfold Run.makeGood
  split
  · omega
  · simp [Run.tell]
theorem over_same (e : Eng) : Cnt.overI e.sp.x0 (live e false : Int) (good e false : Int) (live e true : Int) (going e : Int) = overE e := by
  simp [Cnt.overI, overE]
set_option maxRecDepth 100000 in
set_option maxHeartbeats 12800000 in
theorem over_any (w : World) (S : Nat → Prop) (b : Nat) (lk ot : Int) (r : Run) (h : Mach w S b lk ot r) (hok : r.e.okB = true) (hl : r.ev.length ≤ 900000) :
    Calls Tryz.prog 184 #[.pointer (some ⟨b, 0, none⟩)] w (Moved b lk ot r.over (.tuple #[]) S w) := by
  obtain ⟨R, hR⟩ : ∃ R, R = r.over := ⟨_, rfl⟩
  rw [← hR]
  have HRR := Lib.hid hR
  clear hR
  obtain ⟨f1, hf1⟩ : ∃ x : Int, x = (live r.e false : Int) := ⟨_, rfl⟩
  obtain ⟨f2, hf2⟩ : ∃ x : Int, x = (good r.e false : Int) := ⟨_, rfl⟩
  obtain ⟨o1, ho1⟩ : ∃ x : Int, x = (live r.e true : Int) := ⟨_, rfl⟩
  obtain ⟨o2, ho2⟩ : ∃ x : Int, x = (good r.e true : Int) := ⟨_, rfl⟩
  obtain ⟨gg, hgg⟩ : ∃ x : Int, x = (going r.e : Int) := ⟨_, rfl⟩
  obtain ⟨ov, hov⟩ : ∃ v, v = overE r.e := ⟨_, rfl⟩
  have HOV := Lib.hid hov
  have CT : Hid (∀ W, Mach W S b lk ot r → Calls Tryz.prog 206 #[.pointer (some ⟨b, 0, none⟩)] W (Says (.tuple #[.agg #[.int .i64 f1, .int .i64 f2], .agg #[.int .i64 o1, .int .i64 o2], .int .i64 gg]) W)) := fun W hW => by
    have h := counts_any W S b lk ot r hW hok
    simp only [cntV, List.toArray] at h
    rw [← hf1, ← hf2, ← ho1, ← ho2, ← hgg] at h
    exact h
  have CP : Hid (∀ W, Calls Tryz.prog 209 #[.agg (spL r.e.sp).toArray, .agg #[.int .i64 f1, .int .i64 f2], .agg #[.int .i64 o1, .int .i64 o2], .int .i64 gg] W (Says (.bool ov) W)) := fun W => by
    have h := Cnt.PlanOver_any r.e.sp.x0 r.e.sp.x1 r.e.sp.x2 r.e.sp.x3 r.e.sp.x4 r.e.sp.x5 r.e.sp.x6 r.e.sp.x7 r.e.sp.x8 r.e.sp.x9 r.e.sp.x10 f1 f2 o1 o2 gg W
    rw [hov, ← over_same, ← hf1, ← hf2, ← ho1, ← hgg]
    exact h
  clear hf1 hf2 ho1 ho2 hgg hok hov
  have hbw : b < w.heap.size := by obtain ⟨A, n, c, E, m, k, h⟩ := h; exact h.lt
  have H := Lib.hid h
  clear h
  go_enter Tryz.func184, Tryz.ntmps184
  go_wp2_with fail
  refine (CT.out w H.out).mono ?_
  rintro e w1 ⟨rfl, hb⟩
  have HB1 := Lib.hid hb
  have hs1 : w.heap.size ≤ w1.heap.size := hb.size
  clear hb CT
  have KF : Hid (((w1.alloc (.cells #[.int .i64 0, .int .i64 0] 190)).alloc (.cells #[.int .i64 0, .int .i64 0] 190)).heap[w1.heap.size]? = some (.cells [.int .i64 0, .int .i64 0].toArray 190 (0, 0))) := box_alloc (box_new w1 _) _
  have KO : Hid ((((w1.alloc (.cells #[.int .i64 0, .int .i64 0] 190)).alloc (.cells #[.int .i64 0, .int .i64 0] 190)).setRow w1.heap.size [.int .i64 f1, .int .i64 f2].toArray).heap[w1.heap.size + 1]? = some (.cells [.int .i64 0, .int .i64 0].toArray 190 (0, 0))) := by
    refine row_far ?_ (by omega)
    have h := box_new (w1.alloc (.cells #[.int .i64 0, .int .i64 0] 190)) (.cells #[.int .i64 0, .int .i64 0] 190); simp only [World.size_alloc] at h; exact h
  go_upto_region 1 with (first | (refine wpList_put rfl rfl 190 _ _ rfl w1.heap.size 0 [.int .i64 f1, .int .i64 f2] rfl rfl KF.out (by kernel_rfl) [.int .i64 f1, .int .i64 f2] rfl (Nat.le_of_ble_eq_true rfl) (by simp [Value.oneCell']) ?_) | (refine wpList_put rfl rfl 190 _ _ rfl (w1.heap.size + 1) 0 [.int .i64 o1, .int .i64 o2] rfl rfl KO.out (by kernel_rfl) [.int .i64 o1, .int .i64 o2] rfl (Nat.le_of_ble_eq_true rfl) (by simp [Value.oneCell']) ?_))
  obtain ⟨V2, hV2⟩ : ∃ X, X = (((w1.alloc (.cells #[.int .i64 0, .int .i64 0] 190)).alloc (.cells #[.int .i64 0, .int .i64 0] 190)).setRow w1.heap.size [.int .i64 f1, .int .i64 f2].toArray).setRow (w1.heap.size + 1) [.int .i64 o1, .int .i64 o2].toArray := ⟨_, rfl⟩
  have hbV : Below w1.heap.size w1 V2 := by rw [hV2]; exact row_below (row_below (bel2 w1 _ _) _ _ (Nat.le_refl _) (by simp; omega)) _ _ (by omega) (by simp; omega)
  have KO2 : Hid (V2.heap[w1.heap.size + 1]? = some (.cells [.int .i64 o1, .int .i64 o2].toArray 190 (0, 0))) := by rw [hV2]; exact row_box KO.out
  have KF2 : Hid (V2.heap[w1.heap.size]? = some (.cells [.int .i64 f1, .int .i64 f2].toArray 190 (0, 0))) := by rw [hV2]; exact row_far (row_box KF.out) (by omega)
  rw [← hV2]
  clear hV2 KF KO
  have HB2 := Lib.hid (bel_then HB1.out hbV hs1)
  have H2 := Lib.hid (H.out.below HB2.out)
  clear hbV HB1 H
  obtain ⟨A, n, c, E, m, k, h2⟩ := H2.out
  have KM2 := Lib.hid h2.box
  clear h2
  refine wp_region_held_drew (S := fun w' => w'.rangeAt b 2 (spL r.e.sp) ∧ w'.rangeAt w1.heap.size 0 [.int .i64 f1, .int .i64 f2] ∧ w'.rangeAt (w1.heap.size + 1) 0 [.int .i64 o1, .int .i64 o2]) (by kernel_rfl) ⟨range_of KM2.out (maL_sp lk ot r A n c E m k), range_of KF2.out rfl, range_of KO2.out rfl⟩ (fun hHeld => ?_)
  refine wpAnyH_take (i := 0) (v := ?v1) rfl (by kernel_rfl) (by kernel_rfl) (by kernel_rfl) (fun _ _ _ h => h) (Or.inl ⟨by rfl, ?hy1⟩) (by assumption) ?_
  case hy1 => (intro w0 hSw; (try dsimp only at hSw); go_simp <;> with_reducible rfl)
  try simp only [Act.put, List.getElem_toArray, List.getElem_cons_zero, List.getElem_cons_succ, List.setIfInBounds_toArray, List.set_cons_zero, List.set_cons_succ]
  refine wpAnyH_take (i := 1) (v := ?v2) rfl (by kernel_rfl) (by kernel_rfl) (by kernel_rfl) (fun _ _ _ h => h) (Or.inl ⟨by rfl, ?hy2⟩) (by assumption) ?_
  case hy2 => (intro w0 hSw; (try dsimp only at hSw); go_simp <;> with_reducible rfl)
  try simp only [Act.put, List.getElem_toArray, List.getElem_cons_zero, List.getElem_cons_succ, List.setIfInBounds_toArray, List.set_cons_zero, List.set_cons_succ]
  refine wpAnyH_take (i := 2) (v := ?v3) rfl (by kernel_rfl) (by kernel_rfl) (by kernel_rfl) (fun _ _ _ h => h) (Or.inl ⟨by rfl, ?hy3⟩) (by assumption) ?_
  case hy3 => (intro w0 hSw; (try dsimp only at hSw); go_simp <;> with_reducible rfl)
  try simp only [Act.put, List.getElem_toArray, List.getElem_cons_zero, List.getElem_cons_succ, List.setIfInBounds_toArray, List.set_cons_zero, List.set_cons_succ]
  refine wpAnyH_take (i := 3) (v := ?v4) rfl (by kernel_rfl) (by kernel_rfl) (by kernel_rfl) (fun _ _ _ h => h) (Or.inl ⟨by rfl, ?hy4⟩) (by assumption) ?_
  case hy4 => (intro w0 hSw; (try dsimp only at hSw); go_simp <;> with_reducible rfl)
  try simp only [Act.put, List.getElem_toArray, List.getElem_cons_zero, List.getElem_cons_succ, List.setIfInBounds_toArray, List.set_cons_zero, List.set_cons_succ]
  refine wpAnyH_take (i := 4) (v := .agg (spL r.e.sp).toArray) rfl (by kernel_rfl) (by kernel_rfl) (by kernel_rfl) (fun _ _ _ h => h) (yieldsIf_load_mid (by rfl) 25 _ rfl b 2 rfl (spL r.e.sp) _ (fun w' h => h.1) Tryz.underlying25 rfl (by kernel_rfl)) (by assumption) ?_
  try simp only [Act.put, List.getElem_toArray, List.getElem_cons_zero, List.getElem_cons_succ, List.setIfInBounds_toArray, List.set_cons_zero, List.set_cons_succ]
  refine wpAnyH_take (i := 5) (v := .agg ([.int .i64 f1, .int .i64 f2]).toArray) rfl (by kernel_rfl) (by kernel_rfl) (by kernel_rfl) (fun _ _ _ h => h) (yieldsIf_load_mid (by rfl) 190 _ rfl w1.heap.size 0 rfl ([.int .i64 f1, .int .i64 f2]) _ (fun w' h => h.2.1) Tryz.underlying190 rfl (by kernel_rfl)) (by assumption) ?_
  try simp only [Act.put, List.getElem_toArray, List.getElem_cons_zero, List.getElem_cons_succ, List.setIfInBounds_toArray, List.set_cons_zero, List.set_cons_succ]
  refine wpAnyH_take (i := 6) (v := .agg ([.int .i64 o1, .int .i64 o2]).toArray) rfl (by kernel_rfl) (by kernel_rfl) (by kernel_rfl) (fun _ _ _ h => h) (yieldsIf_load_mid (by rfl) 190 _ rfl (w1.heap.size + 1) 0 rfl ([.int .i64 o1, .int .i64 o2]) _ (fun w' h => h.2.2) Tryz.underlying190 rfl (by kernel_rfl)) (by assumption) ?_
  try simp only [Act.put, List.getElem_toArray, List.getElem_cons_zero, List.getElem_cons_succ, List.setIfInBounds_toArray, List.set_cons_zero, List.set_cons_succ]
  refine wpAnyH_take (i := 7) (v := ?v5) rfl (by kernel_rfl) (by kernel_rfl) (by kernel_rfl) (fun _ _ _ h => h) (Or.inl ⟨by rfl, ?hy5⟩) (by assumption) ?_
  case hy5 => (intro w0 hSw; (try dsimp only at hSw); go_simp <;> with_reducible rfl)
  try simp only [Act.put, List.getElem_toArray, List.getElem_cons_zero, List.getElem_cons_succ, List.setIfInBounds_toArray, List.set_cons_zero, List.set_cons_succ]
  refine wpAnyH_ready (rs := [8]) (by kernel_rfl) (by simp) (AllReadyH.cons rfl (fun K hK => ?_) AllReadyH.nil)
  go_simp
  refine (CP.out _).mono ?_
  rintro e w3 ⟨rfl, hb⟩
  have hb' : Below V2.heap.size V2 w3 := undrew hb
  have KM3 := Lib.hid (box_below KM2.out hb')
  have KF3 := Lib.hid (box_below KF2.out hb')
  have KO3 := Lib.hid (box_below KO2.out hb')
  have HB3 := Lib.hid (bel_then HB2.out hb' HB2.out.size)
  have H3 := Lib.hid (H2.out.below hb')
  clear hb hb' KM2 KF2 KO2 HB2 H2 hHeld CP
  refine hK _ _ (by exact ⟨range_of KM3.out (maL_sp lk ot r A n c E m k), range_of KF3.out rfl, range_of KO3.out rfl⟩) (fun hHeld => ?_)
  clear hK K
  try simp only [Act.put, List.getElem_toArray, List.getElem_cons_zero, List.getElem_cons_succ, List.setIfInBounds_toArray, List.set_cons_zero, List.set_cons_succ]
  refine wpAnyH_take (i := 9) (v := ?v7) rfl (by kernel_rfl) (by kernel_rfl) (by kernel_rfl) (fun _ _ _ h => h) (Or.inl ⟨by rfl, ?hy7⟩) (by assumption) ?_
  case hy7 => (intro w0 hSw; (try dsimp only at hSw); go_simp <;> with_reducible rfl)
  try simp only [Act.put, List.getElem_toArray, List.getElem_cons_zero, List.getElem_cons_succ, List.setIfInBounds_toArray, List.set_cons_zero, List.set_cons_succ]
  refine wpAnyH_done (by kernel_rfl) ?_ _
  clear hHeld KF3 KO3
  have HT3 : Hid (Turned S w w3) := Turned.of_below HB3.out
  have HK3 : Hid (Kept w w3) := Kept.below HB3.out
  clear HB3
  cases ov
  · have HE : Hid (R = r) := by show _ = _; rw [HRR.out, Run.over, ← HOV.out]; rfl
    clear HOV HRR KM3
    go_wp2
    go_end0
    exact moved_rfl H3.out HE.out HT3.out HK3.out
  have HRE : Hid (R = if r.e.ph = 1 then r.makeGood.enter 0 else if r.e.ph = 2 then r.enter 3 else r) := by show _ = _; rw [HRR.out, Run.over, ← HOV.out]; rfl
  clear HOV HRR
  have c14 : w3.cell? ⟨b, 14, none⟩ = some (.int .i64 r.e.ph) := box_cell KM3.out 14 _ rfl
  clear KM3
  by_cases h1 : r.e.ph = 1
  · have hq1 : (r.e.ph == 1) = true := by simp [h1]
    have HE : Hid (R = r.makeGood.enter 0) := by show _ = _; rw [HRE.out, if_pos h1]
    clear h1 HRE
    go_wp2_with fail
    refine (makeGood_any w3 S b lk ot r H3.out (by omega)).mono ?_
    intro e w4 hmv
    obtain ⟨rfl, S4, hm4, hs4, ht4, hk4⟩ := Moved.step (fun q hq => .inl hq) HT3.out HK3.out hmv
    have HM4 := Lib.hid hm4
    have HS4 := Lib.hid hs4
    have HT4 := Lib.hid ht4
    have HK4 := Lib.hid hk4
    clear hmv hm4 hs4 ht4 hk4 H3 HT3 HK3 c14 hq1
    go_wp2_with fail
    refine (enter_any w4 S4 b lk ot r.makeGood 0 HM4.out (Nat.le_trans (good_ev r) (by omega))).mono ?_
    intro e w5 hmv
    have HMV := Lib.hid (Moved.step HS4.out HT4.out HK4.out hmv)
    obtain ⟨rfl, _⟩ := hmv
    go_wp2
    go_end0
    rw [HE.out]
    exact HMV.out
  have hq1 : (r.e.ph == 1) = false := by simp [h1]
  by_cases h2 : r.e.ph = 2
  · have hq2 : (r.e.ph == 2) = true := by simp [h2]
    have HE : Hid (R = r.enter 3) := by show _ = _; rw [HRE.out, if_neg h1, if_pos h2]
    clear h1 h2 HRE
    go_wp2_with fail
    refine (enter_any w3 S b lk ot r 3 H3.out (by omega)).mono ?_
    intro e w5 hmv
    have HMV := Lib.hid (Moved.step (fun q hq => .inl hq) HT3.out HK3.out hmv)
    obtain ⟨rfl, _⟩ := hmv
    clear c14 hq1 hq2
    go_wp2
    go_end0
    rw [HE.out]
    exact HMV.out
  have hq2 : (r.e.ph == 2) = false := by simp [h2]
  have HE : Hid (R = r) := by show _ = _; rw [HRE.out, if_neg h1, if_neg h2]
  clear h1 h2 HRE
  go_wp2
  go_end0
  exact moved_rfl H3.out HE.out HT3.out HK3.out
end Go.Proofs.YtdefckbgcggnoaaGreat.Mach
