import Derived.Test.YtklgjjmcflgjeaaGreatQ
import Derived.Test.YtklgjjmcflgjeaaGreatR16
import Derived.Test.YtklgjjmcflgjeaaGreatR38
set_option linter.unusedVariables false
set_option linter.unusedSimpArgs false
namespace Go.Proofs.YtklgjjmcflgjeaaGreat.Mod
open Go.ChangeShapes Go.WideShapes Go.ChangeAt Go.RowKit
open LK Pods EngV Eng Seg
def failB (r : Run) : Bool := mvB r.e.ph && !decide (faultV r.e = 0) && decide (r.e.ph = 2)
theorem moved_rfl {w w' : World} {S : Nat → Prop} {b : Nat} {r r' : Run} {x y : Bool} (h : Mod w' S b r) (he : r' = r) (hx : x = y) (ht : Turned S w w') (hk : Kept w w') : Moved b r' (.bool x) S w (.returned (.bool y)) w' := by
  rw [he, hx]
  exact ⟨rfl, S, h, fun q hq => .inl hq, ht, hk⟩
theorem moved_eq {w w' : World} {S : Nat → Prop} {b : Nat} {r r' : Run} {x y : Value} {e : Ending} (h : Moved b r x S w e w') (he : r' = r) (hx : y = x) : Moved b r' y S w e w' := by
  rw [he, hx]
  exact h
set_option maxRecDepth 100000 in
set_option maxHeartbeats 12800000 in
theorem fails_any (w : World) (S : Nat → Prop) (b : Nat) (r : Run) (h : Mod w S b r) (hl : r.ev.length ≤ 900000) :
    Calls Tryz.prog 143 #[.pointer (some ⟨b, 0, none⟩)] w (Moved b r.judge (.bool (failB r)) S w) := by
  obtain ⟨R, hR⟩ : ∃ R, R = r.judge := ⟨_, rfl⟩
  obtain ⟨F, hF⟩ : ∃ F, F = failB r := ⟨_, rfl⟩
  rw [← hR, ← hF]
  have HR := Lib.hid hR
  have HF := Lib.hid hF
  clear hR hF
  obtain ⟨A, n, c, E, m, k, h⟩ := h
  have H := Lib.hid h
  clear h
  go_enter Tryz.func143, Tryz.ntmps143
  go_wp2_with (refine wpList_get rfl 36 _ rfl b 0 rfl H.out.box (enL r.e A n c) (moL_en r A n c E m k) Tryz.underlying36 rfl (by kernel_rfl) ?_)
  refine (EngSet.l08Moves_any A n c r.e _).mono ?_
  rintro e w1 ⟨rfl, hb⟩
  have H1 := Lib.hid (H.out.below hb)
  have HT1 : Hid (Turned S w w1) := Turned.of_below hb
  have HK1 : Hid (Kept w w1) := Kept.below hb
  clear hb H
  cases hm : mvB r.e.ph
  · have HE : Hid (R = r ∧ F = false) := ⟨by rw [HR.out]; simp [Run.judge, hm], by rw [HF.out]; simp [failB, hm]⟩
    clear hm
    go_wp2
    go_ret
    exact moved_rfl ⟨_, _, _, _, _, _, H1.out⟩ HE.out.1 HE.out.2 HT1.out HK1.out
  have HMV := Lib.hid hm
  clear hm
  go_wp2_with fail
  obtain ⟨q1, hq1⟩ : ∃ q1, decide (r.e.sp.x4 < r.e.tr) = q1 := ⟨_, rfl⟩
  have hbd : Below w1.heap.size w1 w1.drew := undrew (Below.refl _ _)
  have HBD := Lib.hid hbd
  clear hbd
  refine wp_region_held_drew (S := fun w' => w'.cell? ⟨b, 18, none⟩ = some (.int .i64 r.e.tr) ∧ w'.cell? ⟨b, 4, none⟩ = some (.int .i64 r.e.sp.x4)) (by kernel_rfl) ⟨box_cell H1.out.box 18 _ rfl, box_cell H1.out.box 4 _ rfl⟩ (fun hHeld => ?_)
  refine tkk (i := 0) rfl ?_
  try simp only [Act.put, pj]
  refine tkk (i := 1) rfl ?_
  try simp only [Act.put, pj]
  refine tkk (i := 2) rfl ?_
  try simp only [Act.put, pj]
  refine tkk (i := 3) rfl ?_
  try simp only [Act.put, pj]
  refine tkk (i := 4) rfl ?_
  try simp only [Act.put, pj]
  refine tkk (i := 5) rfl ?_
  try simp only [Act.put, pj]
  refine tkk (i := 6) rfl ?_
  try simp only [Act.put, pj]
  refine tkk (i := 7) rfl ?_
  try simp only [Act.put, pj]
  refine tkk (i := 8) rfl ?_
  try simp only [Act.put, pj]
  refine tkk (i := 9) rfl ?_
  try simp only [Act.put, pj]
  refine tkk (i := 10) rfl ?_
  try simp only [Act.put, pj]
  refine tkk (i := 11) rfl ?_
  try simp only [Act.put, pj]
  refine wpAnyH_done (by kernel_rfl) ?_ _
  clear hHeld
  have H2 := Lib.hid (H1.out.below HBD.out)
  have HT2 : Hid (Turned S w w1.drew) := HT1.out.trans (Turned.of_below HBD.out)
  have HK2 : Hid (Kept w w1.drew) := HK1.out.trans (Kept.below HBD.out)
  clear H1 HT1 HK1 HBD
  obtain ⟨V, hV⟩ : ∃ V, V = w1.drew := ⟨_, rfl⟩
  rw [← hV] at H2 HT2 HK2 ⊢
  clear hV
  have HQ1 := Lib.hid hq1
  go_upto_if 21 with fail
  go_cut [3] (fun s3 wx => s3 = .int .i64 (faultV r.e) ∧ Hid (Below V.heap.size V wx))
  case first =>
    cases q1
    · have h1 : ¬ r.e.sp.x4 < r.e.tr := of_decide_eq_false hq1
      have HFV : Hid (faultV r.e = if r.e.sp.x8 ≤ Tick.sinceV r.e.st r.e.now then 2 else 0) := by show _ = _; rw [faultV, if_neg h1]
      clear h1 hq1
      have hbd : Below V.heap.size V V.drew := undrew (Below.refl _ _)
      go_wp2_with fail
      refine wp_region_held_drew (S := fun w' => w'.cell? ⟨b, 17, none⟩ = some (.int .i64 r.e.st) ∧ w'.cell? ⟨b, 11, none⟩ = some (.int .i64 r.e.now) ∧ w'.cell? ⟨b, 8, none⟩ = some (.int .i64 r.e.sp.x8)) (by kernel_rfl) ⟨box_cell H2.out.box 17 _ rfl, box_cell H2.out.box 11 _ rfl, box_cell H2.out.box 8 _ rfl⟩ (fun hHeld => ?_)
      refine tkk (i := 0) rfl ?_
      try simp only [Act.put, pj]
      refine tkk (i := 1) rfl ?_
      try simp only [Act.put, pj]
      refine tkk (i := 2) rfl ?_
      try simp only [Act.put, pj]
      refine tkk (i := 3) rfl ?_
      try simp only [Act.put, pj]
      refine tkk (i := 4) rfl ?_
      try simp only [Act.put, pj]
      refine tkk (i := 5) rfl ?_
      try simp only [Act.put, pj]
      refine tkk (i := 6) rfl ?_
      try simp only [Act.put, pj]
      refine tkk (i := 7) rfl ?_
      try simp only [Act.put, pj]
      refine tkk (i := 8) rfl ?_
      try simp only [Act.put, pj]
      refine tkk (i := 9) rfl ?_
      try simp only [Act.put, pj]
      refine tkk (i := 11) rfl ?_
      try simp only [Act.put, pj]
      refine tkk (i := 12) rfl ?_
      try simp only [Act.put, pj]
      refine tkk (i := 13) rfl ?_
      try simp only [Act.put, pj]
      refine tkk (i := 14) rfl ?_
      try simp only [Act.put, pj]
      refine tkk (i := 15) rfl ?_
      try simp only [Act.put, pj]
      refine tkk (i := 16) rfl ?_
      try simp only [Act.put, pj]
      refine wpAnyH_ready (rs := [10]) (by kernel_rfl) (by simp) (AllReadyH.cons rfl (fun K hK => ?_) AllReadyH.nil)
      go_simp
      refine (Tick.specSince_any r.e.st r.e.now _).mono ?_
      rintro e w3 ⟨rfl, rfl⟩
      obtain ⟨z, hz⟩ : ∃ z, z = Tick.sinceV r.e.st r.e.now := ⟨_, rfl⟩
      rw [← hz]
      rw [← hz] at HFV
      clear hz
      obtain ⟨q2, hq2⟩ : ∃ q2, decide (r.e.sp.x8 ≤ z) = q2 := ⟨_, rfl⟩
      refine hK _ _ (by exact hHeld) (fun hHeld => ?_)
      clear hK K
      try simp only [Act.put, pj]
      refine tkk (i := 17) rfl ?_
      try simp only [Act.put, pj]
      refine wpAnyH_done (by kernel_rfl) ?_ _
      clear hHeld
      cases q2
      · have h2 : ¬ r.e.sp.x8 ≤ z := of_decide_eq_false hq2
        have HE : Hid (faultV r.e = 0) := by show _ = _; rw [HFV.out, if_neg h2]
        clear h2 HFV hq2
        go_wp2_with fail
        go_meet
        case rel => exact ⟨by rw [HE.out], hbd⟩
      · have h2 : r.e.sp.x8 ≤ z := of_decide_eq_true hq2
        have HE : Hid (faultV r.e = 2) := by show _ = _; rw [HFV.out, if_pos h2]
        clear h2 HFV hq2
        go_wp2_with fail
        go_meet
        case rel => exact ⟨by rw [HE.out], hbd⟩
    · have h1 : r.e.sp.x4 < r.e.tr := of_decide_eq_true hq1
      have HE : Hid (faultV r.e = 1) := by show _ = _; rw [faultV, if_pos h1]
      clear h1 hq1
      go_wp2_with fail
      go_meet
      case rel => exact ⟨by rw [HE.out], Below.refl _ _⟩
  obtain ⟨rfl, HBX⟩ := hcut
  clear hq1 HQ1
  obtain ⟨X, hX⟩ : ∃ X, X = wc := ⟨_, rfl⟩
  rw [← hX] at HBX ⊢
  clear hX
  obtain ⟨f, hf⟩ : ∃ f, f = faultV r.e := ⟨_, rfl⟩
  rw [← hf]
  have HFV := Lib.hid hf
  clear hf
  have H3 := Lib.hid (H2.out.below HBX.out)
  have HT3 : Hid (Turned S w X) := HT2.out.trans (Turned.of_below HBX.out)
  have HK3 : Hid (Kept w X) := HK2.out.trans (Kept.below HBX.out)
  clear H2 HT2 HK2 HBX
  by_cases hf0 : f = 0
  · have hq0 : (f == 0) = true := by simp [hf0]
    have HE : Hid (R = r ∧ F = false) := ⟨by rw [HR.out]; simp [Run.judge, ← HFV.out, hf0], by rw [HF.out]; simp [failB, ← HFV.out, hf0]⟩
    clear hf0
    go_wp2
    go_ret
    exact moved_rfl ⟨_, _, _, _, _, _, H3.out⟩ HE.out.1 HE.out.2 HT3.out HK3.out
  have hq0 : (f == 0) = false := by simp [hf0]
  have HF0 := Lib.hid hf0
  clear hf0
  have c13 : X.cell? ⟨b, 13, none⟩ = some (.int .i64 r.e.tg) := box_cell H3.out.box 13 _ rfl
  go_wp2_with fail
  refine (tell_any X S b r 4 r.e.tg f ⟨_, _, _, _, _, _, H3.out⟩ (by omega)).mono ?_
  intro e w4 hmv
  obtain ⟨rfl, ha⟩ := Amid.call (fun q hq => .inl hq) HT3.out HK3.out hmv
  obtain ⟨r1, hr1⟩ : ∃ r1, r1 = r.tell 4 r.e.tg f := ⟨_, rfl⟩
  rw [← hr1] at ha
  have HA := Lib.hid ha
  have HR1 := Lib.hid hr1
  have hl1 : r1.ev.length ≤ 900001 := by rw [hr1]; simp [Run.tell]; omega
  have he1 : r1.e = r.e := by rw [hr1]; rfl
  have HE1 := Lib.hid he1
  clear hmv ha hr1 he1 c13 H3 HT3 HK3 hq0
  obtain ⟨S1, hm1, hs1, ht1, hk1⟩ := HA.out
  have HS1 := Lib.hid hs1
  have HT1 := Lib.hid ht1
  have HK1 := Lib.hid hk1
  obtain ⟨A1, n1, c1, E1, m1, k1, h1⟩ := hm1
  have HM1 := Lib.hid h1
  clear hs1 ht1 hk1 h1 HA
  have c12 : w4.cell? ⟨b, 12, none⟩ = some (.int .i64 r1.e.ph) := box_cell HM1.out.box 12 _ rfl
  by_cases hp2 : r1.e.ph = 2
  · have hq2 : (r1.e.ph == 2) = true := by simp [hp2]
    have HE : Hid (R = r1.enter 3 ∧ F = true) := by
      rw [HE1.out] at hp2
      refine ⟨?_, by rw [HF.out]; simp [failB, mvB, ← HFV.out, HF0.out, hp2]⟩
      rw [HR.out, HR1.out]
      simp [Run.judge, mvB, ← HFV.out, HF0.out, hp2]
    clear hp2
    go_wp2_with fail
    refine (phase_any w4 S1 b r1 3 ⟨_, _, _, _, _, _, HM1.out⟩ (by omega)).mono ?_
    intro e w5 hmv
    obtain ⟨rfl, ha⟩ := Amid.call HS1.out HT1.out HK1.out hmv
    have HA := Lib.hid ha
    clear hmv ha c12 HM1 HS1 HT1 HK1
    go_wp2
    go_ret
    exact moved_eq (Amid.fin HA.out) HE.out.1 (by rw [HE.out.2]; rfl)
  have hq2 : (r1.e.ph == 2) = false := by simp [hp2]
  have HE : Hid (R = ({ r1 with e := { r1.e with tg := r1.e.gd, st := r1.e.now, tr := 0, wt := 0 } } : Run).enter 2 ∧ F = false) := by
    have h1 := HMV.out
    rw [HE1.out] at hp2
    have hp1 : r.e.ph = 1 := by
      simp only [mvB, Bool.or_eq_true, decide_eq_true_eq] at h1
      rcases h1 with h | h
      · exact h
      · exact absurd h hp2
    refine ⟨?_, by rw [HF.out]; simp [failB, hp2]⟩
    rw [HR.out, HR1.out]
    simp [Run.judge, mvB, ← HFV.out, HF0.out, hp1, Run.start, Run.tell]
  clear hp2
  have c14 : w4.cell? ⟨b, 14, none⟩ = some (.int .i64 r1.e.gd) := box_cell HM1.out.box 14 _ rfl
  have c13 : w4.cell? ⟨b, 13, none⟩ = some (.int .i64 r1.e.tg) := box_cell HM1.out.box 13 _ rfl
  have c11 : w4.cell? ⟨b, 11, none⟩ = some (.int .i64 r1.e.now) := box_cell HM1.out.box 11 _ rfl
  have c17 : w4.cell? ⟨b, 17, none⟩ = some (.int .i64 r1.e.st) := box_cell HM1.out.box 17 _ rfl
  have c18 : w4.cell? ⟨b, 18, none⟩ = some (.int .i64 r1.e.tr) := box_cell HM1.out.box 18 _ rfl
  have c19 : w4.cell? ⟨b, 19, none⟩ = some (.int .i64 r1.e.wt) := box_cell HM1.out.box 19 _ rfl
  have f13 := box_frozen HM1.out.box 13
  have f17 := box_frozen HM1.out.box 17
  have f18 := box_frozen HM1.out.box 18
  have f19 := box_frozen HM1.out.box 19
  go_upto_region 18 with fail
  obtain ⟨W, hW⟩ : ∃ W, W = (((w4.setCell ⟨b, 13, none⟩ (.int .i64 r1.e.gd)).setCell ⟨b, 17, none⟩ (.int .i64 r1.e.now)).setCell ⟨b, 18, none⟩ (.int .i64 0)).setCell ⟨b, 19, none⟩ (.int .i64 0) := ⟨_, rfl⟩
  obtain ⟨r2, hr2⟩ : ∃ r2 : Run, r2 = { r1 with e := { r1.e with tg := r1.e.gd, st := r1.e.now, tr := 0, wt := 0 } } := ⟨_, rfl⟩
  have HM2 : Hid (ModAt W S1 b r2 A1 n1 c1 E1 m1 k1) := by
    rw [hW, hr2, set_row (i := 13) HM1.out.box (.int .i64 r1.e.gd) (moL ({ r1 with e := { r1.e with tg := r1.e.gd } } : Run) A1 n1 c1 E1 m1 k1) rfl,
      set_row (i := 17) (row_box HM1.out.box) (.int .i64 r1.e.now) (moL ({ r1 with e := { r1.e with tg := r1.e.gd, st := r1.e.now } } : Run) A1 n1 c1 E1 m1 k1) rfl, row_row,
      set_row (i := 18) (row_box HM1.out.box) (.int .i64 0) (moL ({ r1 with e := { r1.e with tg := r1.e.gd, st := r1.e.now, tr := 0 } } : Run) A1 n1 c1 E1 m1 k1) rfl, row_row,
      set_row (i := 19) (row_box HM1.out.box) (.int .i64 0) (moL ({ r1 with e := { r1.e with tg := r1.e.gd, st := r1.e.now, tr := 0, wt := 0 } } : Run) A1 n1 c1 E1 m1 k1) rfl, row_row]
    exact HM1.out.row rfl rfl
  have HT2 : Hid (Turned S w W) := by rw [hW]; exact turned_then HS1.out HT1.out ((((Turned.set _ _ _ HM1.out.sb).trans (Turned.set _ _ _ HM1.out.sb)).trans (Turned.set _ _ _ HM1.out.sb)).trans (Turned.set _ _ _ HM1.out.sb))
  have HK2 : Hid (Kept w W) := by rw [hW]; exact HK1.out.trans ((((Kept.set HM1.out.box (.inl rfl) _).trans (Kept.set (set_box HM1.out.box _) (.inl rfl) _)).trans (Kept.set (set_box (set_box HM1.out.box _) _) (.inl rfl) _)).trans (Kept.set (set_box (set_box (set_box HM1.out.box _) _) _) (.inl rfl) _))
  have hl2 : r2.ev.length ≤ 900001 := by rw [hr2]; exact hl1
  rw [← hr2] at HE
  rw [← hW]
  clear hW hr2 c11 c12 c13 c14 c17 c18 c19 f13 f17 f18 f19 HM1 HT1 HK1
  go_wp2_with fail
  refine (phase_any W S1 b r2 2 ⟨_, _, _, _, _, _, HM2.out⟩ (by omega)).mono ?_
  intro e w5 hmv
  obtain ⟨rfl, ha⟩ := Amid.call HS1.out HT2.out HK2.out hmv
  have HA := Lib.hid ha
  clear hmv ha HM2 HS1 HT2 HK2
  go_wp2
  go_ret
  exact moved_eq (Amid.fin HA.out) HE.out.1 (by rw [HE.out.2]; rfl)
end Go.Proofs.YtklgjjmcflgjeaaGreat.Mod
