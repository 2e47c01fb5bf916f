/-
  THE WALK of laws.FnExactEngineText over this seat's translation: it answers true and turns nothing that was there, if the model and the program keep one contract.
-/
import Derived.Test.YtcedgjglpjgehaaDoorEngTy
namespace Go.Proofs.YtcedgjglpjgehaaDoor.LawEngineText
open Go.ChangeShapes Go.WideShapes Go.ChangeAt Go.RowKit
open Go.Proofs.YtcedgjglpjgehaaDoor.LK Go.Proofs.YtcedgjglpjgehaaDoor.EngV Go.Proofs.YtcedgjglpjgehaaDoor.EngTy Go.Proofs.YtcedgjglpjgehaaDoor.Seg
set_option linter.unusedVariables false
set_option linter.unusedSimpArgs false

set_option maxRecDepth 100000 in
set_option maxHeartbeats 6400000 in
theorem walk (A : Option Addr) (n c : Nat) (d : Eng) (r : ByteArray) (w : World) (hr : ety.Rd w w.heap.size (.agg (enL d A n c).toArray) d) (hz : SzC 4 ety (.agg (enL d A n c).toArray) d w)
    (hS : ety.Few d → ∀ (W : World) (B : Nat) (v : Value), Below w.heap.size w W → ety.Rd W B v d → B ≤ W.heap.size → Calls Tryd.prog 5 #[v] W (Says (.string r) W)) (hI : ety.Few d → ∀ (W : World) (B : Nat) (v : Value), Below w.heap.size w W → ety.Rd W B v d → B ≤ W.heap.size → Calls Tryd.prog 7 #[v] W (Says (.string r) W)) :
    Calls Tryd.prog 3 #[.agg (enL d A n c).toArray] w fun e w' => e = .returned (.bool true) ∧ Below w.heap.size w w' := by
  have HR := Lib.hid hr
  have HZ := Lib.hid hz
  have HS := Lib.hid hS
  have HI := Lib.hid hI
  clear hr hz hS hI
  have hbb : (r.toList == r.toList) = true := by simp
  obtain ⟨V, hV⟩ : ∃ V, V = w.alloc (.cells (enL d A n c).toArray 28) := ⟨_, rfl⟩
  have HB : Hid (Below w.heap.size w V) := by rw [hV]; exact bel1 _ _
  have KA : Hid (V.heap[w.heap.size]? = some (.cells (enL d A n c).toArray 28 (0, 0))) := by rw [hV]; exact box_new w _
  go_enter Tryd.func3, Tryd.ntmps3
  go_upto_region 1 with fail
  rw [← hV]
  clear hV
  go_wp2_with (refine wpList_get rfl 28 _ rfl w.heap.size 0 rfl KA.out (enL d A n c) (List.take_length) Tryd.underlying28 rfl (by kernel_rfl) ?_)
  refine (HZ.out _ 1048576 HB.out (by omega) (by omega)).mono ?_
  rintro e w1 ⟨z, rfl, hb, hz⟩
  have KA1 := Lib.hid (box_below KA.out hb)
  have HB1 := Lib.hid (bel_then HB.out hb HB.out.size)
  clear KA HB hb
  rcases hz with rfl | ⟨hza, hzb, hf⟩
  · go_wp2
    go_ret
    exact ⟨rfl, HB1.out⟩
  have HF := Lib.hid hf
  clear hf
  have hzd : decide (z < 0) = false := by simp; omega
  go_wp2_with (refine wpList_get rfl 28 _ rfl w.heap.size 0 rfl KA1.out (enL d A n c) (List.take_length) Tryd.underlying28 rfl (by kernel_rfl) ?_)
  refine (toEngine_any _ w.heap.size _ d (ety.rd_below HR.out HB1.out (Nat.le_refl _)) HB1.out.size HF.out).mono ?_
  rintro e w2 ⟨y, Sy, rfl, hO, hb⟩
  have KA2 := Lib.hid (box_below KA1.out hb)
  have HB2 := Lib.hid (bel_then HB1.out hb HB1.out.size)
  have HO := Lib.hid hO
  clear KA1 HB1 hb hO
  go_wp2_with fail
  refine (HS.out HF.out _ _ _ HB2.out HO.out.rd (Nat.le_refl _)).mono ?_
  rintro e w3 ⟨rfl, hb⟩
  have KA3 := Lib.hid (box_below KA2.out hb)
  have HB3 := Lib.hid (bel_then HB2.out hb HB2.out.size)
  clear KA2 HB2 hb HO
  go_wp2_with (refine wpList_get rfl 28 _ rfl w.heap.size 0 rfl KA3.out (enL d A n c) (List.take_length) Tryd.underlying28 rfl (by kernel_rfl) ?_)
  refine (toEngine_any _ w.heap.size _ d (ety.rd_below HR.out HB3.out (Nat.le_refl _)) HB3.out.size HF.out).mono ?_
  rintro e w4 ⟨x, Sx, rfl, hO, hb⟩
  obtain ⟨G, m, g, rfl⟩ := EngTy.shape hO
  have KA4 := Lib.hid (box_below KA3.out hb)
  have HB4 := Lib.hid (bel_then HB3.out hb HB3.out.size)
  have HO := Lib.hid hO
  have hlt : w.heap.size < w4.heap.size := box_lt KA4.out
  clear KA3 HB3 hb hO
  have KZ : Hid ((w4.alloc (.cells (enL zeroE none 0 0).toArray 36)).heap[w4.heap.size]? = some (.cells (enL zeroE none 0 0).toArray 36 (0, 0))) := box_new w4 _
  go_upto_region 7 with (refine wpList_put rfl rfl 36 _ _ rfl w4.heap.size 0 (enL d G m g) rfl rfl KZ.out (by kernel_rfl) (enL d G m g) rfl (Nat.le_of_ble_eq_true rfl) (enL_one _ _ _ _) ?_)
  obtain ⟨V5, hV5⟩ : ∃ V, V = (w4.alloc (.cells #[.int .i64 0, .int .i64 0, .int .i64 0, .int .i64 0, .int .i64 0, .int .i64 0, .int .i64 0, .int .i64 0, .int .i64 0, .int .i64 0, .int .i64 0, .int .i64 0, .int .i64 0, .int .i64 0, .int .i64 0, .slice none 0 0, .int .i64 0, .int .i64 0, .int .i64 0, .int .i64 0] 36)).setRow w4.heap.size (enL d G m g).toArray := ⟨_, rfl⟩
  have KX : Hid (V5.heap[w4.heap.size]? = some (.cells (enL d G m g).toArray 36 (0, 0))) := by rw [hV5]; exact row_box KZ.out
  have KA5 : Hid (V5.heap[w.heap.size]? = some (.cells (enL d A n c).toArray 28 (0, 0))) := by rw [hV5]; exact row_far (box_alloc KA4.out _) (by omega)
  have h45 : Below w4.heap.size w4 V5 := by rw [hV5]; exact row_below (bel1 w4 _) _ _ (Nat.le_refl _) (by simp)
  have HX := Lib.hid (HO.out.below h45)
  have HB5 := Lib.hid (bel_then HB4.out h45 HB4.out.size)
  have hlt5 : w.heap.size < V5.heap.size := by have := h45.size; omega
  rw [← hV5]
  clear hV5 KZ KA4 HB4 HO h45
  go_wp2_with (refine wpList_get rfl 36 _ rfl w4.heap.size 0 rfl KX.out (enL d G m g) (List.take_length) Tryd.underlying36 rfl (by kernel_rfl) ?_)
  refine (HI.out HF.out _ _ _ HB5.out HX.out.rd (Nat.le_refl _)).mono ?_
  rintro e w6 ⟨rfl, hb⟩
  have KA6 := Lib.hid (box_below KA5.out hb)
  have KX6 := Lib.hid (box_below KX.out hb)
  have HX6 := Lib.hid (HX.out.below hb)
  have HB6 := Lib.hid (bel_then HB5.out hb HB5.out.size)
  clear KA5 KX HX HB5 hb hlt5
  go_wp2_with fail
  refine wp_region_held_drew (S := fun w' => w'.rangeAt w4.heap.size 0 (enL d G m g) ∧ w'.rangeAt w.heap.size 0 (enL d A n c)) (by kernel_rfl) ⟨range_of KX6.out List.take_length, range_of KA6.out List.take_length⟩ (fun hHeld => ?_)
  refine wpAnyH_take (i := 0) (v := .agg (enL d G m g).toArray) rfl (by kernel_rfl) (by kernel_rfl) (by kernel_rfl) (fun _ _ _ h => h) (yieldsIf_load_mid (by rfl) 36 _ rfl w4.heap.size 0 rfl (enL d G m g) _ (fun w' h => h.1) Tryd.underlying36 rfl (by kernel_rfl)) (by assumption) ?_
  try simp only [Act.put, List.getElem_toArray, List.getElem_cons_zero, List.getElem_cons_succ, List.setIfInBounds_toArray, List.set_cons_zero, List.set_cons_succ]
  refine wpAnyH_take (i := 1) (v := .agg (enL d A n c).toArray) rfl (by kernel_rfl) (by kernel_rfl) (by kernel_rfl) (fun _ _ _ h => h) (yieldsIf_load_mid (by rfl) 28 _ rfl w.heap.size 0 rfl (enL d A n c) _ (fun w' h => h.2) Tryd.underlying28 rfl (by kernel_rfl)) (by assumption) ?_
  try simp only [Act.put, List.getElem_toArray, List.getElem_cons_zero, List.getElem_cons_succ, List.setIfInBounds_toArray, List.set_cons_zero, List.set_cons_succ]
  refine wpAnyH_ready (rs := [2]) (by kernel_rfl) (by simp) (AllReadyH.cons rfl (fun K hK => ?_) AllReadyH.nil)
  go_simp
  refine (toEngine_any _ w.heap.size _ d (ety.rd_below HR.out HB6.out.drew (Nat.le_refl _)) (by exact HB6.out.size) HF.out).mono ?_
  rintro e w7 ⟨t, St, rfl, hO, hb⟩
  have hb' : Below w6.heap.size w6 w7 := undrew hb
  have KA7 := Lib.hid (box_below KA6.out hb')
  have KX7 := Lib.hid (box_below KX6.out hb')
  have HX7 := Lib.hid (HX6.out.below hb')
  have HT := Lib.hid hO
  have HB7 := Lib.hid (bel_then HB6.out hb' HB6.out.size)
  clear KA6 KX6 HX6 HB6 hb hO hb' hHeld
  refine hK _ _ (by exact ⟨range_of KX7.out List.take_length, range_of KA7.out List.take_length⟩) (fun hHeld => ?_)
  clear hK K
  try simp only [Act.put, List.getElem_toArray, List.getElem_cons_zero, List.getElem_cons_succ, List.setIfInBounds_toArray, List.set_cons_zero, List.set_cons_succ]
  refine wpAnyH_ready (rs := [3]) (by kernel_rfl) (by simp) (AllReadyH.cons rfl (fun K hK => ?_) AllReadyH.nil)
  go_simp
  refine (eqEngine_any _ _ _ _ _ d HX7.out.rd HT.out.rd (Nat.le_refl _) (Nat.le_refl _) HF.out).mono ?_
  rintro e w8 ⟨rfl, hb⟩
  have KA8 := Lib.hid (box_below KA7.out hb)
  have KX8 := Lib.hid (box_below KX7.out hb)
  have HB8 := Lib.hid (bel_then HB7.out hb HB7.out.size)
  clear KA7 KX7 HX7 HB7 hb HT hHeld
  refine hK _ _ (by exact ⟨range_of KX8.out List.take_length, range_of KA8.out List.take_length⟩) (fun hHeld => ?_)
  clear hK K
  try simp only [Act.put, List.getElem_toArray, List.getElem_cons_zero, List.getElem_cons_succ, List.setIfInBounds_toArray, List.set_cons_zero, List.set_cons_succ]
  refine wpAnyH_take (i := 4) (v := ?v3) rfl (by kernel_rfl) (by kernel_rfl) (by kernel_rfl) (fun _ _ _ h => h) (Or.inl ⟨by rfl, ?hy3⟩) (by assumption) ?_
  case hy3 => (intro w0 hSw; (try dsimp only at hSw); go_simp <;> with_reducible rfl)
  try simp only [Act.put, List.getElem_toArray, List.getElem_cons_zero, List.getElem_cons_succ, List.setIfInBounds_toArray, List.set_cons_zero, List.set_cons_succ]
  refine wpAnyH_done (by kernel_rfl) ?_ _
  clear hHeld
  go_wp2
  go_ret
  exact ⟨rfl, HB8.out⟩
end Go.Proofs.YtcedgjglpjgehaaDoor.LawEngineText
