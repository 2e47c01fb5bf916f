/-
  THE MACHINE's drop and waitForRetry over this seat's translation.
-/
import Derived.Test.YtdefckbgcggnoaaGreatMach
import Derived.Test.YtdefckbgcggnoaaGreatFleetGo
import Derived.Test.YtdefckbgcggnoaaGreatRw
namespace Go.Proofs.YtdefckbgcggnoaaGreat.Mach
open Go.ChangeShapes Go.WideShapes Go.ChangeAt Go.RowKit
open Go.Proofs.YtdefckbgcggnoaaGreat.LK Go.Proofs.YtdefckbgcggnoaaGreat.Pods Go.Proofs.YtdefckbgcggnoaaGreat.EngV Go.Proofs.YtdefckbgcggnoaaGreat.Eng Go.Proofs.YtdefckbgcggnoaaGreat.Seg
set_option linter.unusedVariables false
set_option linter.unusedSimpArgs false
theorem maL_sp (lk ot : Int) (r : Run) (A : Option Addr) (n c : Nat) (E : Option Addr) (m k : Nat) : ((maL lk ot r A n c E m k).drop 2).take (spL r.e.sp).length = spL r.e.sp := rfl
theorem maL_fl (lk ot : Int) (r : Run) (A : Option Addr) (n c : Nat) (E : Option Addr) (m k : Nat) : ((maL lk ot r A n c E m k).drop 17).take (flL A n c r.e.nx).length = flL A n c r.e.nx := rfl
/-- Another fleet is laid in. -/
theorem MachAt.pods {w : World} {S S' : Nat → Prop} {b : Nat} {lk ot : Int} {r : Run} {A A' : Option Addr} {n c n' c' : Nat} {E : Option Addr} {m k : Nat} {d : PList × Int} (h : MachAt w S b lk ot r A n c E m k) (hp : OwnP w 0 A' n' c' d.1) (hS : ∀ q, S q → S' q) (hs : ∀ q, (Value.slice A' n' c').ownBlock = some q → S' q) :
    MachAt (w.setRow b (maL lk ot (r.setFl d) A' n' c' E m k).toArray) S' b lk ot (r.setFl d) A' n' c' E m k :=
  ⟨row_box h.box, hp.same fun q hq => setRow_other _ _ _ _ (own_ne hp.2 h.box (by decide) q hq), h.ev.same fun q hq => setRow_other _ _ _ _ (h.nee q hq), hS _ h.sb, hs, fun q hq => hS _ (h.se q hq)⟩

set_option maxRecDepth 100000 in
set_option maxHeartbeats 6400000 in
theorem drop_any (w : World) (S : Nat → Prop) (b : Nat) (lk ot : Int) (r : Run) (y0 y1 y2 y3 y4 : Int) (h : Mach w S b lk ot r) (hl : r.ev.length ≤ 1000000) (hn : r.e.ps.length ≤ 1048576) (hid : (Lit.int .i64 y0).wf = true) :
    Calls Tryz.prog 194 #[.pointer (some ⟨b, 0, none⟩), .agg #[.int .i64 y0, .int .i64 y1, .int .i64 y2, .int .i64 y3, .int .i64 y4]] w (Moved b lk ot (r.drop (y0, y1, y2, y3, y4)) (.tuple #[]) S w) := by
  obtain ⟨A, n, c, E, m, k, h⟩ := h
  have hn2 : n ≤ 1048576 := by rw [← h.ps.1]; exact hn
  obtain ⟨V, hV⟩ : ∃ V, V = w.alloc (.cells #[.int .i64 y0, .int .i64 y1, .int .i64 y2, .int .i64 y3, .int .i64 y4] 77) := ⟨_, rfl⟩
  have hbv : Below w.heap.size w V := by rw [hV]; exact bel1 _ _
  have H := Lib.hid (h.below hbv)
  have KP : Hid (V.heap[w.heap.size]? = some (.cells [.int .i64 y0, .int .i64 y1, .int .i64 y2, .int .i64 y3, .int .i64 y4].toArray 77 (0, 0))) := by rw [hV]; exact box_new w _
  have hbw : b < w.heap.size := h.lt
  have HBV := Lib.hid hbv
  clear h hbv
  go_enter Tryz.func194, Tryz.ntmps194
  go_upto_region 1 with fail
  rw [← hV]
  clear hV
  refine wp_region_held_drew (S := fun w' => w'.cell? ⟨w.heap.size, 0, none⟩ = some (.int .i64 y0) ∧ w'.cell? ⟨b, 13, none⟩ = some (.int .i64 r.e.now)) (by kernel_rfl) ⟨box_cell KP.out 0 _ rfl, box_cell H.out.box 13 _ rfl⟩ (fun hHeld => ?_)
  refine wpAnyH_take (i := 0) (v := ?v1) rfl (by kernel_rfl) (by kernel_rfl) (by kernel_rfl) (fun _ _ _ h => h) (Or.inl ⟨by rfl, ?hy1⟩) (by assumption) ?_
  case hy1 => (intro w0 hSw; (try dsimp only at hSw); go_simp <;> with_reducible rfl)
  try simp only [Act.put, List.getElem_toArray, List.getElem_cons_zero, List.getElem_cons_succ, List.setIfInBounds_toArray, List.set_cons_zero, List.set_cons_succ]
  refine wpAnyH_take (i := 1) (v := ?v2) rfl (by kernel_rfl) (by kernel_rfl) (by kernel_rfl) (fun _ _ _ h => h) (Or.inl ⟨by rfl, ?hy2⟩) (by assumption) ?_
  case hy2 => (intro w0 hSw; (try dsimp only at hSw); go_simp <;> with_reducible rfl)
  try simp only [Act.put, List.getElem_toArray, List.getElem_cons_zero, List.getElem_cons_succ, List.setIfInBounds_toArray, List.set_cons_zero, List.set_cons_succ]
  refine wpAnyH_take (i := 2) (v := ?v3) rfl (by kernel_rfl) (by kernel_rfl) (by kernel_rfl) (fun _ _ _ h => h) (Or.inl ⟨by rfl, ?hy3⟩) (by assumption) ?_
  case hy3 => (intro w0 hSw; (try dsimp only at hSw); go_simp <;> with_reducible rfl)
  try simp only [Act.put, List.getElem_toArray, List.getElem_cons_zero, List.getElem_cons_succ, List.setIfInBounds_toArray, List.set_cons_zero, List.set_cons_succ]
  refine wpAnyH_take (i := 3) (v := ?v4) rfl (by kernel_rfl) (by kernel_rfl) (by kernel_rfl) (fun _ _ _ h => h) (Or.inl ⟨by rfl, ?hy4⟩) (by assumption) ?_
  case hy4 => (intro w0 hSw; (try dsimp only at hSw); go_simp <;> with_reducible rfl)
  try simp only [Act.put, List.getElem_toArray, List.getElem_cons_zero, List.getElem_cons_succ, List.setIfInBounds_toArray, List.set_cons_zero, List.set_cons_succ]
  refine wpAnyH_take (i := 4) (v := ?v5) rfl (by kernel_rfl) (by kernel_rfl) (by kernel_rfl) (fun _ _ _ h => h) (Or.inl ⟨by rfl, ?hy5⟩) (by assumption) ?_
  case hy5 => (intro w0 hSw; (try dsimp only at hSw); go_simp <;> with_reducible rfl)
  try simp only [Act.put, List.getElem_toArray, List.getElem_cons_zero, List.getElem_cons_succ, List.setIfInBounds_toArray, List.set_cons_zero, List.set_cons_succ]
  refine wpAnyH_take (i := 6) (v := ?v6) rfl (by kernel_rfl) (by kernel_rfl) (by kernel_rfl) (fun _ _ _ h => h) (Or.inl ⟨by rfl, ?hy6⟩) (by assumption) ?_
  case hy6 => (intro w0 hSw; (try dsimp only at hSw); go_simp <;> with_reducible rfl)
  try simp only [Act.put, List.getElem_toArray, List.getElem_cons_zero, List.getElem_cons_succ, List.setIfInBounds_toArray, List.set_cons_zero, List.set_cons_succ]
  refine wpAnyH_take (i := 7) (v := ?v7) rfl (by kernel_rfl) (by kernel_rfl) (by kernel_rfl) (fun _ _ _ h => h) (Or.inl ⟨by rfl, ?hy7⟩) (by assumption) ?_
  case hy7 => (intro w0 hSw; (try dsimp only at hSw); go_simp <;> with_reducible rfl)
  try simp only [Act.put, List.getElem_toArray, List.getElem_cons_zero, List.getElem_cons_succ, List.setIfInBounds_toArray, List.set_cons_zero, List.set_cons_succ]
  refine wpAnyH_take (i := 8) (v := ?v8) rfl (by kernel_rfl) (by kernel_rfl) (by kernel_rfl) (fun _ _ _ h => h) (Or.inl ⟨by rfl, ?hy8⟩) (by assumption) ?_
  case hy8 => (intro w0 hSw; (try dsimp only at hSw); go_simp <;> with_reducible rfl)
  try simp only [Act.put, List.getElem_toArray, List.getElem_cons_zero, List.getElem_cons_succ, List.setIfInBounds_toArray, List.set_cons_zero, List.set_cons_succ]
  refine wpAnyH_take (i := 9) (v := ?v9) rfl (by kernel_rfl) (by kernel_rfl) (by kernel_rfl) (fun _ _ _ h => h) (Or.inl ⟨by rfl, ?hy9⟩) (by assumption) ?_
  case hy9 => (intro w0 hSw; (try dsimp only at hSw); go_simp <;> with_reducible rfl)
  try simp only [Act.put, List.getElem_toArray, List.getElem_cons_zero, List.getElem_cons_succ, List.setIfInBounds_toArray, List.set_cons_zero, List.set_cons_succ]
  refine wpAnyH_take (i := 10) (v := ?v10) rfl (by kernel_rfl) (by kernel_rfl) (by kernel_rfl) (fun _ _ _ h => h) (Or.inl ⟨by rfl, ?hy10⟩) (by assumption) ?_
  case hy10 => (intro w0 hSw; (try dsimp only at hSw); go_simp <;> with_reducible rfl)
  try simp only [Act.put, List.getElem_toArray, List.getElem_cons_zero, List.getElem_cons_succ, List.setIfInBounds_toArray, List.set_cons_zero, List.set_cons_succ]
  refine wpAnyH_take (i := 11) (v := ?v11) rfl (by kernel_rfl) (by kernel_rfl) (by kernel_rfl) (fun _ _ _ h => h) (Or.inl ⟨by rfl, ?hy11⟩) (by assumption) ?_
  case hy11 => (intro w0 hSw; (try dsimp only at hSw); go_simp <;> with_reducible rfl)
  try simp only [Act.put, List.getElem_toArray, List.getElem_cons_zero, List.getElem_cons_succ, List.setIfInBounds_toArray, List.set_cons_zero, List.set_cons_succ]
  refine wpAnyH_take (i := 12) (v := ?v12) rfl (by kernel_rfl) (by kernel_rfl) (by kernel_rfl) (fun _ _ _ h => h) (Or.inl ⟨by rfl, ?hy12⟩) (by assumption) ?_
  case hy12 => (intro w0 hSw; (try dsimp only at hSw); go_simp <;> with_reducible rfl)
  try simp only [Act.put, List.getElem_toArray, List.getElem_cons_zero, List.getElem_cons_succ, List.setIfInBounds_toArray, List.set_cons_zero, List.set_cons_succ]
  refine wpAnyH_ready (rs := [5]) (by kernel_rfl) (by simp) (AllReadyH.cons rfl (fun K hK => ?_) AllReadyH.nil)
  refine wp_load_mid 34 _ rfl b 17 rfl (flL A n c r.e.nx) _ (range_of H.out.box (maL_fl lk ot r A n c E m k)) Tryz.underlying34 rfl (by kernel_rfl) ?_
  refine hK _ _ (by exact ⟨box_cell KP.out 0 _ rfl, box_cell H.out.box 13 _ rfl⟩) (fun hHeld => ?_)
  clear hK K
  try simp only [Act.put, List.getElem_toArray, List.getElem_cons_zero, List.getElem_cons_succ, List.setIfInBounds_toArray, List.set_cons_zero, List.set_cons_succ]
  refine wpAnyH_ready (rs := [13]) (by kernel_rfl) (by simp) (AllReadyH.cons rfl (fun K hK => ?_) AllReadyH.nil)
  go_simp
  refine (Crew.markGoing_any A n c r.e.nx y0 r.e.now r.e.ps V.heap.size _ (by exact H.out.ps.podsAll) (by exact Nat.le_refl _) hn2 hid).mono ?_
  rintro e w2 ⟨v, S2, rfl, hO, hb⟩
  have hb' : Below V.heap.size V w2 := undrew hb
  obtain ⟨A2, c2, rfl, ho, hs⟩ := hO.own
  have hin := hO.inn
  have H2 := Lib.hid (H.out.below hb')
  have KP2 := Lib.hid (box_below KP.out hb')
  have HT2 : Hid (Turned S w w2) := Turned.of_below (bel_then HBV.out hb' HBV.out.size)
  have HK2 : Hid (Kept w w2) := Kept.below (bel_then HBV.out hb' HBV.out.size)
  have HO := Lib.hid ho
  have HS := Lib.hid hs
  have HI : Hid (∀ q, S2 q → w.heap.size ≤ q) := fun q hq => by have := (hin q hq).1; have h2 := HBV.out.size; simp only [World.size_drew] at this; omega
  have hwp : w.heap.size < w2.heap.size := box_lt KP2.out
  clear hb hb' hO ho hs hin H KP HBV hHeld
  refine hK _ _ (by exact ⟨box_cell KP2.out 0 _ rfl, box_cell H2.out.box 13 _ rfl⟩) (fun hHeld => ?_)
  clear hK K
  try simp only [Act.put, List.getElem_toArray, List.getElem_cons_zero, List.getElem_cons_succ, List.setIfInBounds_toArray, List.set_cons_zero, List.set_cons_succ]
  refine wpAnyH_take (i := 14) (v := ?v15) rfl (by kernel_rfl) (by kernel_rfl) (by kernel_rfl) (fun _ _ _ h => h) (Or.inl ⟨by rfl, ?hy15⟩) (by assumption) ?_
  case hy15 => (intro w0 hSw; (try dsimp only at hSw); go_simp <;> with_reducible rfl)
  try simp only [Act.put, List.getElem_toArray, List.getElem_cons_zero, List.getElem_cons_succ, List.setIfInBounds_toArray, List.set_cons_zero, List.set_cons_succ]
  refine wpAnyH_take (i := 15) (v := ?v16) rfl (by kernel_rfl) (by kernel_rfl) (by kernel_rfl) (fun _ _ _ h => h) (Or.inl ⟨by rfl, ?hy16⟩) (by assumption) ?_
  case hy16 => (intro w0 hSw; (try dsimp only at hSw); go_simp <;> with_reducible rfl)
  try simp only [Act.put, List.getElem_toArray, List.getElem_cons_zero, List.getElem_cons_succ, List.setIfInBounds_toArray, List.set_cons_zero, List.set_cons_succ]
  refine wpAnyH_take (i := 16) (v := ?v17) rfl (by kernel_rfl) (by kernel_rfl) (by kernel_rfl) (fun _ _ _ h => h) (Or.inl ⟨by rfl, ?hy17⟩) (by assumption) ?_
  case hy17 => (intro w0 hSw; (try dsimp only at hSw); go_simp <;> with_reducible rfl)
  try simp only [Act.put, List.getElem_toArray, List.getElem_cons_zero, List.getElem_cons_succ, List.setIfInBounds_toArray, List.set_cons_zero, List.set_cons_succ]
  refine wpAnyH_take (i := 17) (v := ?v18) rfl (by kernel_rfl) (by kernel_rfl) (by kernel_rfl) (fun _ _ _ h => h) (Or.inl ⟨by rfl, ?hy18⟩) (by assumption) ?_
  case hy18 => (intro w0 hSw; (try dsimp only at hSw); go_simp <;> with_reducible rfl)
  try simp only [Act.put, List.getElem_toArray, List.getElem_cons_zero, List.getElem_cons_succ, List.setIfInBounds_toArray, List.set_cons_zero, List.set_cons_succ]
  refine wpAnyH_take (i := 18) (v := ?v19) rfl (by kernel_rfl) (by kernel_rfl) (by kernel_rfl) (fun _ _ _ h => h) (Or.inl ⟨by rfl, ?hy19⟩) (by assumption) ?_
  case hy19 => (intro w0 hSw; (try dsimp only at hSw); go_simp <;> with_reducible rfl)
  try simp only [Act.put, List.getElem_toArray, List.getElem_cons_zero, List.getElem_cons_succ, List.setIfInBounds_toArray, List.set_cons_zero, List.set_cons_succ]
  refine wpAnyH_take (i := 19) (v := ?v20) rfl (by kernel_rfl) (by kernel_rfl) (by kernel_rfl) (fun _ _ _ h => h) (Or.inl ⟨by rfl, ?hy20⟩) (by assumption) ?_
  case hy20 => (intro w0 hSw; (try dsimp only at hSw); go_simp <;> with_reducible rfl)
  try simp only [Act.put, List.getElem_toArray, List.getElem_cons_zero, List.getElem_cons_succ, List.setIfInBounds_toArray, List.set_cons_zero, List.set_cons_succ]
  refine wpAnyH_ready (rs := [20]) (by kernel_rfl) (by simp) (AllReadyH.cons rfl (fun K hK => ?_) AllReadyH.nil)
  obtain ⟨D, hD⟩ : ∃ D, D = Crew.goD (r.e.ps, r.e.nx) y0 r.e.now := ⟨_, rfl⟩
  rw [← hD] at HO HS
  refine wp_put rfl 34 _ _ rfl b 17 (flL A2 D.1.length c2 D.2) rfl (by rw [hD]; rfl) H2.out.box (by kernel_rfl) (maL lk ot (r.setFl D) A2 D.1.length c2 E m k) rfl (Nat.le_of_ble_eq_true rfl) (flL_one _ _ _ _) ?_
  obtain ⟨W, hW⟩ : ∃ W, W = w2.setRow b (maL lk ot (r.setFl D) A2 D.1.length c2 E m k).toArray := ⟨_, rfl⟩
  have HM : Hid (MachAt W (fun q => S q ∨ w.heap.size ≤ q) b lk ot (r.setFl D) A2 D.1.length c2 E m k) := by
    rw [hW]
    exact H2.out.pods HO.out (fun q hq => .inl hq) (fun q hq => .inr (HI.out q (HS.out q hq)))
  have HT : Hid (Turned S w W) := by rw [hW]; exact HT2.out.trans (turned_row H2.out _)
  have HKP : Hid (Kept w W) := by rw [hW]; exact HK2.out.trans (Kept.row H2.out.box (by decide) _)
  have KP3 : Hid (W.heap[w.heap.size]? = some (.cells [.int .i64 y0, .int .i64 y1, .int .i64 y2, .int .i64 y3, .int .i64 y4].toArray 77 (0, 0))) := by rw [hW]; exact row_far KP2.out (by omega)
  rw [← hW]
  have HD := Lib.hid hD
  clear hW hD H2 KP2 HT2 HK2 HO HS HI hHeld
  refine hK _ _ (by exact ⟨box_cell KP3.out 0 _ rfl, box_cell HM.out.box 13 _ rfl⟩) (fun hHeld => ?_)
  clear hK K
  refine wpAnyH_done (by kernel_rfl) ?_ _
  clear hHeld
  have e0 : W.cell? ⟨w.heap.size, 0, none⟩ = some (.int .i64 y0) := box_cell KP3.out 0 _ rfl
  have e1 : W.cell? ⟨w.heap.size, 1, none⟩ = some (.int .i64 y1) := box_cell KP3.out 1 _ rfl
  clear KP3
  go_wp2_with fail
  refine (tell_any W (fun q => S q ∨ w.heap.size ≤ q) b lk ot (r.setFl D) 1 y0 y1 ⟨A2, D.1.length, c2, E, m, k, HM.out⟩ hl).mono ?_
  intro e w4 hmv
  have HMV := Lib.hid (Moved.step (fun q hq => hq) HT.out HKP.out hmv)
  obtain ⟨rfl, _⟩ := hmv
  clear e0 e1
  go_wp2
  go_end0
  rw [HD.out] at HMV
  exact HMV.out
set_option maxRecDepth 100000 in
set_option maxHeartbeats 6400000 in
theorem waitForRetry_any (w : World) (S : Nat → Prop) (b : Nat) (lk ot : Int) (r : Run) (h : Mach w S b lk ot r) (ht0 : 0 ≤ r.e.tr ∧ r.e.tr ≤ 1000000) :
    Calls Tryz.prog 196 #[.pointer (some ⟨b, 0, none⟩)] w (Moved b lk ot r.tryOn (.tuple #[]) S w) := by
  obtain ⟨A, n, c, E, m, k, h⟩ := h
  have H := Lib.hid h
  have hbw : b < w.heap.size := h.lt
  obtain ⟨q, hq⟩ : ∃ q, r.e.tr + 1 = q := ⟨_, rfl⟩
  have hqb : q ≤ 9223372036854775807 := by omega
  have HQ := Lib.hid hq
  have HTB := Lib.hid ht0
  clear h hq ht0
  go_enter Tryz.func196, Tryz.ntmps196
  go_wp2_with fail
  refine (add64 b 23 r.e.tr 1 q _ HQ.out (by have h1 := HTB.out; have h2 := HQ.out; omega) (box_cell H.out.box 23 _ rfl) (box_frozen H.out.box 23)).mono ?_
  rintro e W ⟨rfl, hW⟩
  have HM : Hid (MachAt W S b lk ot ({ r with e := { r.e with tr := q } } : Run) A n c E m k) := by
    rw [hW, set_row (i := 23) H.out.box (.int .i64 q) (maL lk ot ({ r with e := { r.e with tr := q } } : Run) A n c E m k) rfl]
    exact H.out.row rfl rfl
  have HT : Hid (Turned S w W) := by rw [hW]; exact Turned.set _ _ _ H.out.sb
  have HKP : Hid (Kept w W) := by rw [hW]; exact Kept.set H.out.box (by decide) _
  clear hW H
  go_wp2_with fail
  refine wp_region_held_drew (S := fun w' => w'.cell? ⟨b, 13, none⟩ = some (.int .i64 r.e.now) ∧ w'.rangeAt b 2 (spL r.e.sp)) (by kernel_rfl) ⟨box_cell HM.out.box 13 _ rfl, range_of HM.out.box (maL_sp lk ot _ A n c E m k)⟩ (fun hHeld => ?_)
  refine wpAnyH_take (i := 0) (v := ?v22) rfl (by kernel_rfl) (by kernel_rfl) (by kernel_rfl) (fun _ _ _ h => h) (Or.inl ⟨by rfl, ?hy22⟩) (by assumption) ?_
  case hy22 => (intro w0 hSw; (try dsimp only at hSw); go_simp <;> with_reducible rfl)
  try simp only [Act.put, List.getElem_toArray, List.getElem_cons_zero, List.getElem_cons_succ, List.setIfInBounds_toArray, List.set_cons_zero, List.set_cons_succ]
  refine wpAnyH_take (i := 1) (v := ?v23) rfl (by kernel_rfl) (by kernel_rfl) (by kernel_rfl) (fun _ _ _ h => h) (Or.inl ⟨by rfl, ?hy23⟩) (by assumption) ?_
  case hy23 => (intro w0 hSw; (try dsimp only at hSw); go_simp <;> with_reducible rfl)
  try simp only [Act.put, List.getElem_toArray, List.getElem_cons_zero, List.getElem_cons_succ, List.setIfInBounds_toArray, List.set_cons_zero, List.set_cons_succ]
  refine wpAnyH_take (i := 2) (v := ?v24) rfl (by kernel_rfl) (by kernel_rfl) (by kernel_rfl) (fun _ _ _ h => h) (Or.inl ⟨by rfl, ?hy24⟩) (by assumption) ?_
  case hy24 => (intro w0 hSw; (try dsimp only at hSw); go_simp <;> with_reducible rfl)
  try simp only [Act.put, List.getElem_toArray, List.getElem_cons_zero, List.getElem_cons_succ, List.setIfInBounds_toArray, List.set_cons_zero, List.set_cons_succ]
  refine wpAnyH_take (i := 3) (v := ?v25) rfl (by kernel_rfl) (by kernel_rfl) (by kernel_rfl) (fun _ _ _ h => h) (Or.inl ⟨by rfl, ?hy25⟩) (by assumption) ?_
  case hy25 => (intro w0 hSw; (try dsimp only at hSw); go_simp <;> with_reducible rfl)
  try simp only [Act.put, List.getElem_toArray, List.getElem_cons_zero, List.getElem_cons_succ, List.setIfInBounds_toArray, List.set_cons_zero, List.set_cons_succ]
  refine wpAnyH_take (i := 4) (v := ?v26) rfl (by kernel_rfl) (by kernel_rfl) (by kernel_rfl) (fun _ _ _ h => h) (Or.inl ⟨by rfl, ?hy26⟩) (by assumption) ?_
  case hy26 => (intro w0 hSw; (try dsimp only at hSw); go_simp <;> with_reducible rfl)
  try simp only [Act.put, List.getElem_toArray, List.getElem_cons_zero, List.getElem_cons_succ, List.setIfInBounds_toArray, List.set_cons_zero, List.set_cons_succ]
  refine wpAnyH_take (i := 5) (v := ?v27) rfl (by kernel_rfl) (by kernel_rfl) (by kernel_rfl) (fun _ _ _ h => h) (Or.inl ⟨by rfl, ?hy27⟩) (by assumption) ?_
  case hy27 => (intro w0 hSw; (try dsimp only at hSw); go_simp <;> with_reducible rfl)
  try simp only [Act.put, List.getElem_toArray, List.getElem_cons_zero, List.getElem_cons_succ, List.setIfInBounds_toArray, List.set_cons_zero, List.set_cons_succ]
  refine wpAnyH_take (i := 6) (v := ?v28) rfl (by kernel_rfl) (by kernel_rfl) (by kernel_rfl) (fun _ _ _ h => h) (Or.inl ⟨by rfl, ?hy28⟩) (by assumption) ?_
  case hy28 => (intro w0 hSw; (try dsimp only at hSw); go_simp <;> with_reducible rfl)
  try simp only [Act.put, List.getElem_toArray, List.getElem_cons_zero, List.getElem_cons_succ, List.setIfInBounds_toArray, List.set_cons_zero, List.set_cons_succ]
  refine wpAnyH_take (i := 7) (v := ?v29) rfl (by kernel_rfl) (by kernel_rfl) (by kernel_rfl) (fun _ _ _ h => h) (Or.inl ⟨by rfl, ?hy29⟩) (by assumption) ?_
  case hy29 => (intro w0 hSw; (try dsimp only at hSw); go_simp <;> with_reducible rfl)
  try simp only [Act.put, List.getElem_toArray, List.getElem_cons_zero, List.getElem_cons_succ, List.setIfInBounds_toArray, List.set_cons_zero, List.set_cons_succ]
  refine wpAnyH_take (i := 8) (v := ?v30) rfl (by kernel_rfl) (by kernel_rfl) (by kernel_rfl) (fun _ _ _ h => h) (Or.inl ⟨by rfl, ?hy30⟩) (by assumption) ?_
  case hy30 => (intro w0 hSw; (try dsimp only at hSw); go_simp <;> with_reducible rfl)
  try simp only [Act.put, List.getElem_toArray, List.getElem_cons_zero, List.getElem_cons_succ, List.setIfInBounds_toArray, List.set_cons_zero, List.set_cons_succ]
  refine wpAnyH_take (i := 9) (v := ?v31) rfl (by kernel_rfl) (by kernel_rfl) (by kernel_rfl) (fun _ _ _ h => h) (Or.inl ⟨by rfl, ?hy31⟩) (by assumption) ?_
  case hy31 => (intro w0 hSw; (try dsimp only at hSw); go_simp <;> with_reducible rfl)
  try simp only [Act.put, List.getElem_toArray, List.getElem_cons_zero, List.getElem_cons_succ, List.setIfInBounds_toArray, List.set_cons_zero, List.set_cons_succ]
  refine wpAnyH_take (i := 10) (v := .agg (spL r.e.sp).toArray) rfl (by kernel_rfl) (by kernel_rfl) (by kernel_rfl) (fun _ _ _ h => h) (yieldsIf_load_mid (by rfl) 25 _ rfl b 2 rfl (spL r.e.sp) _ (fun w' h => h.2) Tryz.underlying25 rfl (by kernel_rfl)) (by assumption) ?_
  try simp only [Act.put, List.getElem_toArray, List.getElem_cons_zero, List.getElem_cons_succ, List.setIfInBounds_toArray, List.set_cons_zero, List.set_cons_succ]
  refine wpAnyH_take (i := 11) (v := ?v32) rfl (by kernel_rfl) (by kernel_rfl) (by kernel_rfl) (fun _ _ _ h => h) (Or.inl ⟨by rfl, ?hy32⟩) (by assumption) ?_
  case hy32 => (intro w0 hSw; (try dsimp only at hSw); go_simp <;> with_reducible rfl)
  try simp only [Act.put, List.getElem_toArray, List.getElem_cons_zero, List.getElem_cons_succ, List.setIfInBounds_toArray, List.set_cons_zero, List.set_cons_succ]
  refine wpAnyH_ready (rs := [12]) (by kernel_rfl) (by simp) (AllReadyH.cons rfl (fun K hK => ?_) AllReadyH.nil)
  go_simp
  refine (Rw.retryWait_any r.e.sp.x0 r.e.sp.x1 r.e.sp.x2 r.e.sp.x3 r.e.sp.x4 r.e.sp.x5 r.e.sp.x6 r.e.sp.x7 r.e.sp.x8 r.e.sp.x9 r.e.sp.x10 q _ hqb).mono ?_
  rintro e w2 ⟨rfl, hb⟩
  have hb' : Below W.heap.size W w2 := undrew hb
  have H2 := Lib.hid (HM.out.below hb')
  have HT2 : Hid (Turned S w w2) := HT.out.trans (Turned.of_below hb')
  have HK2 : Hid (Kept w w2) := HKP.out.trans (Kept.below hb')
  obtain ⟨z, hz⟩ : ∃ z, z = waitS r.e.sp q := ⟨_, rfl⟩
  have HZ : Hid (z = waitS r.e.sp q) := hz
  rw [show Rw.waitV r.e.sp.x0 r.e.sp.x1 r.e.sp.x2 r.e.sp.x3 r.e.sp.x4 r.e.sp.x5 r.e.sp.x6 r.e.sp.x7 r.e.sp.x8 r.e.sp.x9 r.e.sp.x10 q = z from hz.symm]
  clear hb hb' HM HT HKP hHeld hz
  refine hK _ _ (by exact ⟨box_cell H2.out.box 13 _ rfl, range_of H2.out.box (maL_sp lk ot _ A n c E m k)⟩) (fun hHeld => ?_)
  clear hK K
  try simp only [Act.put, List.getElem_toArray, List.getElem_cons_zero, List.getElem_cons_succ, List.setIfInBounds_toArray, List.set_cons_zero, List.set_cons_succ]
  refine wpAnyH_ready (rs := [13]) (by kernel_rfl) (by simp) (AllReadyH.cons rfl (fun K hK => ?_) AllReadyH.nil)
  go_simp
  refine (Tick.addTick_any r.e.now z _).mono ?_
  rintro e w3 ⟨rfl, rfl⟩
  obtain ⟨t, ht⟩ : ∃ t, t = Tick.addV r.e.now z := ⟨_, rfl⟩
  rw [← ht]
  have HTT := Lib.hid ht
  clear ht
  refine hK _ _ (by exact hHeld) (fun hHeld => ?_)
  clear hK K
  try simp only [Act.put, List.getElem_toArray, List.getElem_cons_zero, List.getElem_cons_succ, List.setIfInBounds_toArray, List.set_cons_zero, List.set_cons_succ]
  refine wpAnyH_take (i := 14) (v := ?v35) rfl (by kernel_rfl) (by kernel_rfl) (by kernel_rfl) (fun _ _ _ h => h) (Or.inl ⟨by rfl, ?hy35⟩) (by assumption) ?_
  case hy35 => (intro w0 hSw; (try dsimp only at hSw); go_simp <;> with_reducible rfl)
  try simp only [Act.put, List.getElem_toArray, List.getElem_cons_zero, List.getElem_cons_succ, List.setIfInBounds_toArray, List.set_cons_zero, List.set_cons_succ]
  refine wpAnyH_take (i := 15) (v := ?v36) rfl (by kernel_rfl) (by kernel_rfl) (by kernel_rfl) (fun _ _ _ h => h) (Or.inl ⟨by rfl, ?hy36⟩) (by assumption) ?_
  case hy36 => (intro w0 hSw; (try dsimp only at hSw); go_simp <;> with_reducible rfl)
  try simp only [Act.put, List.getElem_toArray, List.getElem_cons_zero, List.getElem_cons_succ, List.setIfInBounds_toArray, List.set_cons_zero, List.set_cons_succ]
  refine wpAnyH_take (i := 16) (v := ?v37) rfl (by kernel_rfl) (by kernel_rfl) (by kernel_rfl) (fun _ _ _ h => h) (Or.inl ⟨by rfl, ?hy37⟩) (by assumption) ?_
  case hy37 => (intro w0 hSw; (try dsimp only at hSw); go_simp <;> with_reducible rfl)
  try simp only [Act.put, List.getElem_toArray, List.getElem_cons_zero, List.getElem_cons_succ, List.setIfInBounds_toArray, List.set_cons_zero, List.set_cons_succ]
  refine wpAnyH_ready (rs := [17]) (by kernel_rfl) (by simp) (AllReadyH.cons rfl (fun K hK => ?_) AllReadyH.nil)
  have d21 : w2.cell? ⟨b, 21, none⟩ = some (.int .i64 r.e.wt) := box_cell H2.out.box 21 _ rfl
  have f21 := box_frozen H2.out.box 21
  go_simp
  obtain ⟨W3, hW3⟩ : ∃ W, W = w2.setCell ⟨b, 21, none⟩ (.int .i64 t) := ⟨_, rfl⟩
  have HM3 : Hid (MachAt W3 S b lk ot r.tryOn A n c E m k) := by
    rw [hW3, set_row (i := 21) H2.out.box (.int .i64 t) (maL lk ot r.tryOn A n c E m k) (by rw [HTT.out, HZ.out, ← HQ.out]; rfl)]
    exact H2.out.row rfl rfl
  have HT3 : Hid (Turned S w W3) := by rw [hW3]; exact HT2.out.trans (Turned.set _ _ _ H2.out.sb)
  have HK3 : Hid (Kept w W3) := by rw [hW3]; exact HK2.out.trans (Kept.set H2.out.box (by decide) _)
  rw [← hW3]
  clear hW3 d21 f21 H2 HT2 HK2 hHeld
  refine hK _ _ (by exact ⟨box_cell HM3.out.box 13 _ rfl, range_of HM3.out.box (maL_sp lk ot _ A n c E m k)⟩) (fun hHeld => ?_)
  clear hK K
  refine wpAnyH_done (by kernel_rfl) ?_ _
  clear hHeld
  go_wp2
  go_end0
  exact moved_of HM3.out HT3.out HK3.out
end Go.Proofs.YtdefckbgcggnoaaGreat.Mach
