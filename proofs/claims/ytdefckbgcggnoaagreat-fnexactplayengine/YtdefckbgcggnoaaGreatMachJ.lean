/-
  THE MACHINE's fault and judge over this seat's translation.
-/
import Derived.Test.YtdefckbgcggnoaaGreatMach
import Derived.Test.YtdefckbgcggnoaaGreatEngSet
namespace Go.Proofs.YtdefckbgcggnoaaGreat.Mach
open Go.ChangeShapes Go.WideShapes Go.ChangeAt Go.RowKit
open Go.Proofs.YtdefckbgcggnoaaGreat.LK Go.Proofs.YtdefckbgcggnoaaGreat.Pods Go.Proofs.YtdefckbgcggnoaaGreat.EngV Go.Proofs.YtdefckbgcggnoaaGreat.Eng Go.Proofs.YtdefckbgcggnoaaGreat.Seg
set_option linter.unusedVariables false
set_option linter.unusedSimpArgs false
set_option maxRecDepth 100000 in
set_option maxHeartbeats 6400000 in
theorem fault_any (w : World) (S : Nat → Prop) (b : Nat) (lk ot : Int) (r : Run) (h : Mach w S b lk ot r) :
    Calls Tryz.prog 198 #[.pointer (some ⟨b, 0, none⟩)] w (Says (.int .i64 (faultV r.e)) w) := by
  obtain ⟨A, n, c, E, m, k, h⟩ := h
  have H := Lib.hid h
  clear h
  obtain ⟨R, hR⟩ : ∃ R, R = faultV r.e := ⟨_, rfl⟩
  rw [← hR]
  have HR := Lib.hid hR
  clear hR
  obtain ⟨q1, hq1⟩ : ∃ q1, decide (r.e.sp.x4 < r.e.tr) = q1 := ⟨_, rfl⟩
  go_enter Tryz.func198, Tryz.ntmps198
  go_wp2_with fail
  refine wp_region_held_drew (S := fun w' => w'.cell? ⟨b, 6, none⟩ = some (.int .i64 r.e.sp.x4) ∧ w'.cell? ⟨b, 23, none⟩ = some (.int .i64 r.e.tr)) (by kernel_rfl) ⟨box_cell H.out.box 6 _ rfl, box_cell H.out.box 23 _ rfl⟩ (fun hHeld => ?_)
  refine wpAnyH_take (i := 0) (v := ?v1) rfl (by kernel_rfl) (by kernel_rfl) (by kernel_rfl) (fun _ _ _ h => h) (Or.inl ⟨by rfl, ?hy1⟩) (by assumption) ?_
  case hy1 => (intro w0 hSw; (try dsimp only at hSw); go_simp <;> with_reducible rfl)
  try simp only [Act.put, List.getElem_toArray, List.getElem_cons_zero, List.getElem_cons_succ, List.setIfInBounds_toArray, List.set_cons_zero, List.set_cons_succ]
  refine wpAnyH_take (i := 1) (v := ?v2) rfl (by kernel_rfl) (by kernel_rfl) (by kernel_rfl) (fun _ _ _ h => h) (Or.inl ⟨by rfl, ?hy2⟩) (by assumption) ?_
  case hy2 => (intro w0 hSw; (try dsimp only at hSw); go_simp <;> with_reducible rfl)
  try simp only [Act.put, List.getElem_toArray, List.getElem_cons_zero, List.getElem_cons_succ, List.setIfInBounds_toArray, List.set_cons_zero, List.set_cons_succ]
  refine wpAnyH_take (i := 2) (v := ?v3) rfl (by kernel_rfl) (by kernel_rfl) (by kernel_rfl) (fun _ _ _ h => h) (Or.inl ⟨by rfl, ?hy3⟩) (by assumption) ?_
  case hy3 => (intro w0 hSw; (try dsimp only at hSw); go_simp <;> with_reducible rfl)
  try simp only [Act.put, List.getElem_toArray, List.getElem_cons_zero, List.getElem_cons_succ, List.setIfInBounds_toArray, List.set_cons_zero, List.set_cons_succ]
  refine wpAnyH_take (i := 4) (v := ?v4) rfl (by kernel_rfl) (by kernel_rfl) (by kernel_rfl) (fun _ _ _ h => h) (Or.inl ⟨by rfl, ?hy4⟩) (by assumption) ?_
  case hy4 => (intro w0 hSw; (try dsimp only at hSw); go_simp <;> with_reducible rfl)
  try simp only [Act.put, List.getElem_toArray, List.getElem_cons_zero, List.getElem_cons_succ, List.setIfInBounds_toArray, List.set_cons_zero, List.set_cons_succ]
  refine wpAnyH_take (i := 5) (v := ?v5) rfl (by kernel_rfl) (by kernel_rfl) (by kernel_rfl) (fun _ _ _ h => h) (Or.inl ⟨by rfl, ?hy5⟩) (by assumption) ?_
  case hy5 => (intro w0 hSw; (try dsimp only at hSw); go_simp <;> with_reducible rfl)
  try simp only [Act.put, List.getElem_toArray, List.getElem_cons_zero, List.getElem_cons_succ, List.setIfInBounds_toArray, List.set_cons_zero, List.set_cons_succ]
  refine wpAnyH_take (i := 6) (v := ?v6) rfl (by kernel_rfl) (by kernel_rfl) (by kernel_rfl) (fun _ _ _ h => h) (Or.inl ⟨by rfl, ?hy6⟩) (by assumption) ?_
  case hy6 => (intro w0 hSw; (try dsimp only at hSw); go_simp <;> with_reducible rfl)
  try simp only [Act.put, List.getElem_toArray, List.getElem_cons_zero, List.getElem_cons_succ, List.setIfInBounds_toArray, List.set_cons_zero, List.set_cons_succ]
  refine wpAnyH_take (i := 7) (v := ?v7) rfl (by kernel_rfl) (by kernel_rfl) (by kernel_rfl) (fun _ _ _ h => h) (Or.inl ⟨by rfl, ?hy7⟩) (by assumption) ?_
  case hy7 => (intro w0 hSw; (try dsimp only at hSw); go_simp <;> with_reducible rfl)
  try simp only [Act.put, List.getElem_toArray, List.getElem_cons_zero, List.getElem_cons_succ, List.setIfInBounds_toArray, List.set_cons_zero, List.set_cons_succ]
  refine wpAnyH_take (i := 8) (v := ?v8) rfl (by kernel_rfl) (by kernel_rfl) (by kernel_rfl) (fun _ _ _ h => h) (Or.inl ⟨by rfl, ?hy8⟩) (by assumption) ?_
  case hy8 => (intro w0 hSw; (try dsimp only at hSw); go_simp <;> with_reducible rfl)
  try simp only [Act.put, List.getElem_toArray, List.getElem_cons_zero, List.getElem_cons_succ, List.setIfInBounds_toArray, List.set_cons_zero, List.set_cons_succ]
  refine wpAnyH_take (i := 9) (v := ?v9) rfl (by kernel_rfl) (by kernel_rfl) (by kernel_rfl) (fun _ _ _ h => h) (Or.inl ⟨by rfl, ?hy9⟩) (by assumption) ?_
  case hy9 => (intro w0 hSw; (try dsimp only at hSw); go_simp <;> with_reducible rfl)
  try simp only [Act.put, List.getElem_toArray, List.getElem_cons_zero, List.getElem_cons_succ, List.setIfInBounds_toArray, List.set_cons_zero, List.set_cons_succ]
  refine wpAnyH_ready (rs := [3]) (by kernel_rfl) (by simp) (AllReadyH.cons rfl (fun K hK => ?_) AllReadyH.nil)
  go_simp
  refine (load64 b 23 r.e.tr _ (by exact hHeld.2)).mono ?_
  rintro e w1 ⟨rfl, rfl⟩
  refine hK _ _ (by exact hHeld) (fun hHeld => ?_)
  clear hK K
  try simp only [Act.put, List.getElem_toArray, List.getElem_cons_zero, List.getElem_cons_succ, List.setIfInBounds_toArray, List.set_cons_zero, List.set_cons_succ]
  refine wpAnyH_take (i := 10) (v := ?v11) rfl (by kernel_rfl) (by kernel_rfl) (by kernel_rfl) (fun _ _ _ h => h) (Or.inl ⟨by rfl, ?hy11⟩) (by assumption) ?_
  case hy11 => (intro w0 hSw; (try dsimp only at hSw); go_simp <;> with_reducible rfl)
  try simp only [Act.put, List.getElem_toArray, List.getElem_cons_zero, List.getElem_cons_succ, List.setIfInBounds_toArray, List.set_cons_zero, List.set_cons_succ]
  refine wpAnyH_take (i := 11) (v := ?v12) rfl (by kernel_rfl) (by kernel_rfl) (by kernel_rfl) (fun _ _ _ h => h) (Or.inl ⟨by rfl, ?hy12⟩) (by assumption) ?_
  case hy12 => (intro w0 hSw; (try dsimp only at hSw); go_simp <;> with_reducible rfl)
  try simp only [Act.put, List.getElem_toArray, List.getElem_cons_zero, List.getElem_cons_succ, List.setIfInBounds_toArray, List.set_cons_zero, List.set_cons_succ]
  refine wpAnyH_done (by kernel_rfl) ?_ _
  clear hHeld
  rcases Bool.eq_false_or_eq_true q1 with h0 | h0 <;> subst h0
  · have h1 : r.e.sp.x4 < r.e.tr := of_decide_eq_true hq1
    have HF : Hid (R = 1) := by show _ = _; rw [HR.out]; simp [faultV, h1]
    clear h1 hq1
    go_wp2
    go_ret
    exact ⟨by rw [HF.out]; rfl, (Below.refl _ _).drew⟩
  have h1 : ¬ r.e.sp.x4 < r.e.tr := of_decide_eq_false hq1
  have HR2 : Hid (R = if r.e.sp.x8 ≤ Tick.sinceV r.e.st r.e.now then 2 else 0) := by show _ = _; rw [HR.out, faultV, if_neg h1]
  clear h1 HR hq1
  have hdr : Below w.heap.size w w.drew := (Below.refl _ _).drew
  have H2 := Lib.hid (H.out.below hdr)
  go_wp2_with fail
  refine wp_region_held_drew (S := fun w' => w'.cell? ⟨b, 19, none⟩ = some (.int .i64 r.e.st) ∧ w'.cell? ⟨b, 13, none⟩ = some (.int .i64 r.e.now) ∧ w'.cell? ⟨b, 10, none⟩ = some (.int .i64 r.e.sp.x8)) (by kernel_rfl) ⟨box_cell H2.out.box 19 _ rfl, box_cell H2.out.box 13 _ rfl, box_cell H2.out.box 10 _ rfl⟩ (fun hHeld => ?_)
  refine wpAnyH_take (i := 0) (v := ?v13) rfl (by kernel_rfl) (by kernel_rfl) (by kernel_rfl) (fun _ _ _ h => h) (Or.inl ⟨by rfl, ?hy13⟩) (by assumption) ?_
  case hy13 => (intro w0 hSw; (try dsimp only at hSw); go_simp <;> with_reducible rfl)
  try simp only [Act.put, List.getElem_toArray, List.getElem_cons_zero, List.getElem_cons_succ, List.setIfInBounds_toArray, List.set_cons_zero, List.set_cons_succ]
  refine wpAnyH_take (i := 1) (v := ?v14) rfl (by kernel_rfl) (by kernel_rfl) (by kernel_rfl) (fun _ _ _ h => h) (Or.inl ⟨by rfl, ?hy14⟩) (by assumption) ?_
  case hy14 => (intro w0 hSw; (try dsimp only at hSw); go_simp <;> with_reducible rfl)
  try simp only [Act.put, List.getElem_toArray, List.getElem_cons_zero, List.getElem_cons_succ, List.setIfInBounds_toArray, List.set_cons_zero, List.set_cons_succ]
  refine wpAnyH_take (i := 2) (v := ?v15) rfl (by kernel_rfl) (by kernel_rfl) (by kernel_rfl) (fun _ _ _ h => h) (Or.inl ⟨by rfl, ?hy15⟩) (by assumption) ?_
  case hy15 => (intro w0 hSw; (try dsimp only at hSw); go_simp <;> with_reducible rfl)
  try simp only [Act.put, List.getElem_toArray, List.getElem_cons_zero, List.getElem_cons_succ, List.setIfInBounds_toArray, List.set_cons_zero, List.set_cons_succ]
  refine wpAnyH_take (i := 3) (v := ?v16) rfl (by kernel_rfl) (by kernel_rfl) (by kernel_rfl) (fun _ _ _ h => h) (Or.inl ⟨by rfl, ?hy16⟩) (by assumption) ?_
  case hy16 => (intro w0 hSw; (try dsimp only at hSw); go_simp <;> with_reducible rfl)
  try simp only [Act.put, List.getElem_toArray, List.getElem_cons_zero, List.getElem_cons_succ, List.setIfInBounds_toArray, List.set_cons_zero, List.set_cons_succ]
  refine wpAnyH_take (i := 4) (v := ?v17) rfl (by kernel_rfl) (by kernel_rfl) (by kernel_rfl) (fun _ _ _ h => h) (Or.inl ⟨by rfl, ?hy17⟩) (by assumption) ?_
  case hy17 => (intro w0 hSw; (try dsimp only at hSw); go_simp <;> with_reducible rfl)
  try simp only [Act.put, List.getElem_toArray, List.getElem_cons_zero, List.getElem_cons_succ, List.setIfInBounds_toArray, List.set_cons_zero, List.set_cons_succ]
  refine wpAnyH_take (i := 5) (v := ?v18) rfl (by kernel_rfl) (by kernel_rfl) (by kernel_rfl) (fun _ _ _ h => h) (Or.inl ⟨by rfl, ?hy18⟩) (by assumption) ?_
  case hy18 => (intro w0 hSw; (try dsimp only at hSw); go_simp <;> with_reducible rfl)
  try simp only [Act.put, List.getElem_toArray, List.getElem_cons_zero, List.getElem_cons_succ, List.setIfInBounds_toArray, List.set_cons_zero, List.set_cons_succ]
  refine wpAnyH_take (i := 6) (v := ?v19) rfl (by kernel_rfl) (by kernel_rfl) (by kernel_rfl) (fun _ _ _ h => h) (Or.inl ⟨by rfl, ?hy19⟩) (by assumption) ?_
  case hy19 => (intro w0 hSw; (try dsimp only at hSw); go_simp <;> with_reducible rfl)
  try simp only [Act.put, List.getElem_toArray, List.getElem_cons_zero, List.getElem_cons_succ, List.setIfInBounds_toArray, List.set_cons_zero, List.set_cons_succ]
  refine wpAnyH_take (i := 7) (v := ?v20) rfl (by kernel_rfl) (by kernel_rfl) (by kernel_rfl) (fun _ _ _ h => h) (Or.inl ⟨by rfl, ?hy20⟩) (by assumption) ?_
  case hy20 => (intro w0 hSw; (try dsimp only at hSw); go_simp <;> with_reducible rfl)
  try simp only [Act.put, List.getElem_toArray, List.getElem_cons_zero, List.getElem_cons_succ, List.setIfInBounds_toArray, List.set_cons_zero, List.set_cons_succ]
  refine wpAnyH_take (i := 8) (v := ?v21) rfl (by kernel_rfl) (by kernel_rfl) (by kernel_rfl) (fun _ _ _ h => h) (Or.inl ⟨by rfl, ?hy21⟩) (by assumption) ?_
  case hy21 => (intro w0 hSw; (try dsimp only at hSw); go_simp <;> with_reducible rfl)
  try simp only [Act.put, List.getElem_toArray, List.getElem_cons_zero, List.getElem_cons_succ, List.setIfInBounds_toArray, List.set_cons_zero, List.set_cons_succ]
  refine wpAnyH_take (i := 9) (v := ?v22) rfl (by kernel_rfl) (by kernel_rfl) (by kernel_rfl) (fun _ _ _ h => h) (Or.inl ⟨by rfl, ?hy22⟩) (by assumption) ?_
  case hy22 => (intro w0 hSw; (try dsimp only at hSw); go_simp <;> with_reducible rfl)
  try simp only [Act.put, List.getElem_toArray, List.getElem_cons_zero, List.getElem_cons_succ, List.setIfInBounds_toArray, List.set_cons_zero, List.set_cons_succ]
  refine wpAnyH_take (i := 11) (v := ?v23) rfl (by kernel_rfl) (by kernel_rfl) (by kernel_rfl) (fun _ _ _ h => h) (Or.inl ⟨by rfl, ?hy23⟩) (by assumption) ?_
  case hy23 => (intro w0 hSw; (try dsimp only at hSw); go_simp <;> with_reducible rfl)
  try simp only [Act.put, List.getElem_toArray, List.getElem_cons_zero, List.getElem_cons_succ, List.setIfInBounds_toArray, List.set_cons_zero, List.set_cons_succ]
  refine wpAnyH_take (i := 12) (v := ?v24) rfl (by kernel_rfl) (by kernel_rfl) (by kernel_rfl) (fun _ _ _ h => h) (Or.inl ⟨by rfl, ?hy24⟩) (by assumption) ?_
  case hy24 => (intro w0 hSw; (try dsimp only at hSw); go_simp <;> with_reducible rfl)
  try simp only [Act.put, List.getElem_toArray, List.getElem_cons_zero, List.getElem_cons_succ, List.setIfInBounds_toArray, List.set_cons_zero, List.set_cons_succ]
  refine wpAnyH_take (i := 13) (v := ?v25) rfl (by kernel_rfl) (by kernel_rfl) (by kernel_rfl) (fun _ _ _ h => h) (Or.inl ⟨by rfl, ?hy25⟩) (by assumption) ?_
  case hy25 => (intro w0 hSw; (try dsimp only at hSw); go_simp <;> with_reducible rfl)
  try simp only [Act.put, List.getElem_toArray, List.getElem_cons_zero, List.getElem_cons_succ, List.setIfInBounds_toArray, List.set_cons_zero, List.set_cons_succ]
  refine wpAnyH_take (i := 14) (v := ?v26) rfl (by kernel_rfl) (by kernel_rfl) (by kernel_rfl) (fun _ _ _ h => h) (Or.inl ⟨by rfl, ?hy26⟩) (by assumption) ?_
  case hy26 => (intro w0 hSw; (try dsimp only at hSw); go_simp <;> with_reducible rfl)
  try simp only [Act.put, List.getElem_toArray, List.getElem_cons_zero, List.getElem_cons_succ, List.setIfInBounds_toArray, List.set_cons_zero, List.set_cons_succ]
  refine wpAnyH_take (i := 15) (v := ?v27) rfl (by kernel_rfl) (by kernel_rfl) (by kernel_rfl) (fun _ _ _ h => h) (Or.inl ⟨by rfl, ?hy27⟩) (by assumption) ?_
  case hy27 => (intro w0 hSw; (try dsimp only at hSw); go_simp <;> with_reducible rfl)
  try simp only [Act.put, List.getElem_toArray, List.getElem_cons_zero, List.getElem_cons_succ, List.setIfInBounds_toArray, List.set_cons_zero, List.set_cons_succ]
  refine wpAnyH_take (i := 16) (v := ?v28) rfl (by kernel_rfl) (by kernel_rfl) (by kernel_rfl) (fun _ _ _ h => h) (Or.inl ⟨by rfl, ?hy28⟩) (by assumption) ?_
  case hy28 => (intro w0 hSw; (try dsimp only at hSw); go_simp <;> with_reducible rfl)
  try simp only [Act.put, List.getElem_toArray, List.getElem_cons_zero, List.getElem_cons_succ, List.setIfInBounds_toArray, List.set_cons_zero, List.set_cons_succ]
  refine wpAnyH_ready (rs := [10]) (by kernel_rfl) (by simp) (AllReadyH.cons rfl (fun K hK => ?_) AllReadyH.nil)
  go_simp
  refine (Tick.sinceI_any r.e.st r.e.now _).mono ?_
  rintro e w1 ⟨rfl, rfl⟩
  obtain ⟨z, hz⟩ : ∃ z, z = Tick.sinceV r.e.st r.e.now := ⟨_, rfl⟩
  rw [← hz]
  rw [← hz] at HR2
  clear hz
  obtain ⟨q2, hq2⟩ : ∃ q2, decide (r.e.sp.x8 ≤ z) = q2 := ⟨_, rfl⟩
  refine hK _ _ (by exact hHeld) (fun hHeld => ?_)
  clear hK K
  try simp only [Act.put, List.getElem_toArray, List.getElem_cons_zero, List.getElem_cons_succ, List.setIfInBounds_toArray, List.set_cons_zero, List.set_cons_succ]
  refine wpAnyH_take (i := 17) (v := ?v30) rfl (by kernel_rfl) (by kernel_rfl) (by kernel_rfl) (fun _ _ _ h => h) (Or.inl ⟨by rfl, ?hy30⟩) (by assumption) ?_
  case hy30 => (intro w0 hSw; (try dsimp only at hSw); go_simp <;> with_reducible rfl)
  try simp only [Act.put, List.getElem_toArray, List.getElem_cons_zero, List.getElem_cons_succ, List.setIfInBounds_toArray, List.set_cons_zero, List.set_cons_succ]
  refine wpAnyH_take (i := 18) (v := ?v31) rfl (by kernel_rfl) (by kernel_rfl) (by kernel_rfl) (fun _ _ _ h => h) (Or.inl ⟨by rfl, ?hy31⟩) (by assumption) ?_
  case hy31 => (intro w0 hSw; (try dsimp only at hSw); go_simp <;> with_reducible rfl)
  try simp only [Act.put, List.getElem_toArray, List.getElem_cons_zero, List.getElem_cons_succ, List.setIfInBounds_toArray, List.set_cons_zero, List.set_cons_succ]
  refine wpAnyH_done (by kernel_rfl) ?_ _
  clear hHeld
  rcases Bool.eq_false_or_eq_true q2 with h0 | h0 <;> subst h0
  · have h2 : r.e.sp.x8 ≤ z := of_decide_eq_true hq2
    have HF : Hid (R = 2) := by show _ = _; rw [HR2.out, if_pos h2]
    clear h2 HR2 hq2
    go_wp2
    go_ret
    exact ⟨by rw [HF.out]; rfl, ((Below.refl _ _).drew).drew⟩
  · have h2 : ¬ r.e.sp.x8 ≤ z := of_decide_eq_false hq2
    have HF : Hid (R = 0) := by show _ = _; rw [HR2.out, if_neg h2]
    clear h2 HR2 hq2
    go_wp2
    go_ret
    exact ⟨by rw [HF.out]; rfl, ((Below.refl _ _).drew).drew⟩
theorem moved_rfl {w w' : World} {S : Nat → Prop} {b : Nat} {lk ot : Int} {r r' : Run} {res : Value} (h : Mach w' S b lk ot r) (he : r' = r) (ht : Turned S w w') (hk : Kept w w') : Moved b lk ot r' res S w (.returned res) w' := by
  rw [he]
  exact ⟨rfl, S, h, fun q hq => .inl hq, ht, hk⟩
set_option maxRecDepth 100000 in
set_option maxHeartbeats 6400000 in
theorem judge_any (w : World) (S : Nat → Prop) (b : Nat) (lk ot : Int) (r : Run) (h : Mach w S b lk ot r) (hl : r.ev.length ≤ 900000) :
    Calls Tryz.prog 181 #[.pointer (some ⟨b, 0, none⟩)] w (Moved b lk ot r.judge (.tuple #[]) S w) := by
  have H := Lib.hid h
  obtain ⟨R, hR⟩ : ∃ R, R = r.judge := ⟨_, rfl⟩
  rw [← hR]
  have HR := Lib.hid hR
  clear hR
  go_enter Tryz.func181, Tryz.ntmps181
  go_wp2_with fail
  refine (fault_any w S b lk ot r H.out).mono ?_
  rintro e w1 ⟨rfl, hb⟩
  have H1 := Lib.hid (H.out.below hb)
  have HT1 : Hid (Turned S w w1) := Turned.of_below hb
  have HK1 : Hid (Kept w w1) := Kept.below hb
  obtain ⟨f, hf⟩ : ∃ f, f = faultV r.e := ⟨_, rfl⟩
  rw [← hf]
  have HF := Lib.hid hf
  clear hf hb h H
  obtain ⟨A, n, c, E, m, k, h1⟩ := H1.out
  have c14 : w1.cell? ⟨b, 14, none⟩ = some (.int .i64 r.e.ph) := box_cell h1.box 14 _ rfl
  have c15 : w1.cell? ⟨b, 15, none⟩ = some (.int .i64 r.e.tg) := box_cell h1.box 15 _ rfl
  clear h1
  go_wp2_with fail
  refine (EngSet.underWay_any r.e.ph _).mono ?_
  rintro e w' ⟨rfl, rfl⟩
  cases hm : mvB r.e.ph
  · have HE : Hid (R = r) := by show _ = _; rw [HR.out]; simp [Run.judge, hm]
    clear hm
    go_wp2
    go_end0
    exact moved_rfl H1.out HE.out HT1.out HK1.out
  by_cases hf0 : f = 0
  · have hq0 : (f == 0) = true := by simp [hf0]
    have HE : Hid (R = r) := by show _ = _; rw [HR.out]; simp [Run.judge, ← HF.out, hf0]
    clear hf0 hm
    go_wp2
    go_end0
    exact moved_rfl H1.out HE.out HT1.out HK1.out
  have hq0 : (f == 0) = false := by simp [hf0]
  have HE : Hid (R = if r.e.ph = 1 then (r.tell 4 r.e.tg f).start 2 r.e.gd else (r.tell 4 r.e.tg f).enter 3) := by
    show _ = _; rw [HR.out]; simp [Run.judge, hm, ← HF.out, hf0]
  clear hm hf0 HR HF
  go_wp2_with fail
  refine (tell_any w1 S b lk ot r 4 r.e.tg f H1.out (by omega)).mono ?_
  rintro e w2 ⟨rfl, S2, hm2, hs2, ht2, hk2⟩
  have HS2 : Hid (∀ q, S2 q → S q ∨ w.heap.size ≤ q) := fun q hq => by
    rcases hs2 q hq with h1 | h1
    · exact .inl h1
    · exact .inr (Nat.le_trans HT1.out.size h1)
  have H2 := Lib.hid hm2
  have HT2 : Hid (Turned S w w2) := HT1.out.trans ht2
  have HK2 : Hid (Kept w w2) := HK1.out.trans hk2
  clear hm2 hs2 ht2 hk2 H1 HT1 HK1 c14 c15
  obtain ⟨A2, n2, c2, E2, m2, k2, h2⟩ := H2.out
  have hl2 : (r.tell 4 r.e.tg f).ev.length ≤ 1000000 := by simp [Run.tell]; omega
  have c14 : w2.cell? ⟨b, 14, none⟩ = some (.int .i64 r.e.ph) := box_cell h2.box 14 _ rfl
  have c16 : w2.cell? ⟨b, 16, none⟩ = some (.int .i64 r.e.gd) := box_cell h2.box 16 _ rfl
  clear h2
  by_cases hp : r.e.ph = 1
  · have hq1 : (r.e.ph == 1) = true := by simp [hp]
    rw [if_pos hp] at HE
    clear hp
    go_wp2_with fail
    refine (start_any w2 S2 b lk ot (r.tell 4 r.e.tg f) 2 r.e.gd H2.out hl2).mono ?_
    intro e w3 hmv
    have HMV := Lib.hid (Moved.step HS2.out HT2.out HK2.out hmv)
    obtain ⟨rfl, _⟩ := hmv
    go_wp2
    go_end0
    rw [HE.out]
    exact HMV.out
  · have hq1 : (r.e.ph == 1) = false := by simp [hp]
    rw [if_neg hp] at HE
    clear hp
    go_wp2_with fail
    refine (enter_any w2 S2 b lk ot (r.tell 4 r.e.tg f) 3 H2.out hl2).mono ?_
    intro e w3 hmv
    have HMV := Lib.hid (Moved.step HS2.out HT2.out HK2.out hmv)
    obtain ⟨rfl, _⟩ := hmv
    go_wp2
    go_end0
    rw [HE.out]
    exact HMV.out
end Go.Proofs.YtdefckbgcggnoaaGreat.Mach
