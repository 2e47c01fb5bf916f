/-
  THE WALK of laws.FnExactSameStore over this seat's translation: it answers true and turns nothing that was there, if the model and the program keep one contract.
-/
import Derived.Test.YtlghdmakaocokaaGreatDoorStoTD
namespace Go.Proofs.YtlghdmakaocokaaGreatDoor.LawSameStore
open Go.ChangeShapes Go.WideShapes Go.ChangeAt Go.RowKit
open Go.Proofs.YtlghdmakaocokaaGreatDoor.LK Go.Proofs.YtlghdmakaocokaaGreatDoor.EngV Go.Proofs.YtlghdmakaocokaaGreatDoor.StoTD Go.Proofs.YtlghdmakaocokaaGreatDoor.Seg
set_option linter.unusedVariables false
set_option linter.unusedSimpArgs false

set_option maxRecDepth 100000 in
set_option maxHeartbeats 12800000 in
theorem walk (A1 : Option Addr) (n1 c1 : Nat) (A2 : Option Addr) (n2 c2 : Nat) (A : Option Addr) (n c : Nat) (d : Sto) (B1 : Option Addr) (m1 e1 : Nat) (B2 : Option Addr) (m2 e2 : Nat) (B : Option Addr) (m e0 : Nat) (f : Sto) (b : Bool) (w : World) (hr : sty.Rd w w.heap.size (.agg (stL d A1 n1 c1 A2 n2 c2 A n c).toArray) d) (hz : SzC 4 sty (.agg (stL d A1 n1 c1 A2 n2 c2 A n c).toArray) d w) (hr2 : sty.Rd w w.heap.size (.agg (stL f B1 m1 e1 B2 m2 e2 B m e0).toArray) f) (hz2 : SzC 4 sty (.agg (stL f B1 m1 e1 B2 m2 e2 B m e0).toArray) f w) (hS : sty.Few d → sty.Few f → ∀ (W : World) (B B' : Nat) (v v' : Value), Below w.heap.size w W → sty.Rd W B v d → B ≤ W.heap.size → sty.Rd W B' v' f → B' ≤ W.heap.size → Calls Tryz.prog 5 #[v, v'] W (Says (.bool b) W)) (hI : sty.Few d → sty.Few f → ∀ (W : World) (B B' : Nat) (v v' : Value), Below w.heap.size w W → sty.Rd W B v d → B ≤ W.heap.size → sty.Rd W B' v' f → B' ≤ W.heap.size → Calls Tryz.prog 7 #[v, v'] W (Says (.bool b) W)) :
    Calls Tryz.prog 3 #[.agg (stL d A1 n1 c1 A2 n2 c2 A n c).toArray, .agg (stL f B1 m1 e1 B2 m2 e2 B m e0).toArray] w fun e w' => e = .returned (.bool true) ∧ Below w.heap.size w w' := by
  have HS0 := Lib.hid hS
  have HI0 := Lib.hid hI
  have HR := Lib.hid hr
  have HZ := Lib.hid hz
  have HR2 := Lib.hid hr2
  have HZ2 := Lib.hid hz2
  clear hS hI hr hz hr2 hz2
  have hbb : (b != b) = false := by simp
  obtain ⟨V, hV⟩ : ∃ V, V = (w.alloc (.cells (stL d A1 n1 c1 A2 n2 c2 A n c).toArray 33)).alloc (.cells (stL f B1 m1 e1 B2 m2 e2 B m e0).toArray 33) := ⟨_, rfl⟩
  have HB0 : Hid (Below w.heap.size w V) := by rw [hV]; exact bel2 _ _ _
  have KS0 : Hid (V.heap[w.heap.size]? = some (.cells (stL d A1 n1 c1 A2 n2 c2 A n c).toArray 33 (0, 0))) := by rw [hV]; exact box_alloc (box_new w _) _
  have KT0 : Hid (V.heap[w.heap.size + 1]? = some (.cells (stL f B1 m1 e1 B2 m2 e2 B m e0).toArray 33 (0, 0))) := by rw [hV]; have h := box_new (w.alloc (.cells (stL d A1 n1 c1 A2 n2 c2 A n c).toArray 33)) (.cells (stL f B1 m1 e1 B2 m2 e2 B m e0).toArray 33); simp only [World.size_alloc] at h; exact h
  have zV : w.heap.size + 1 < V.heap.size := box_lt KT0.out
  go_enter Tryz.func3, Tryz.ntmps3
  go_upto_region 1 with fail
  rw [← hV]
  clear hV
  go_wp2_with (refine wpList_get rfl 33 _ rfl w.heap.size 0 rfl KS0.out (stL d A1 n1 c1 A2 n2 c2 A n c) (stL_all _ _ _ _ _ _ _ _ _ _) Tryz.underlying33 rfl (by kernel_rfl) ?_)
  refine (HZ.out _ 1048576 HB0.out (by omega) (by omega)).mono ?_
  rintro e w1 ⟨z, rfl, hb, hz⟩
  have KS1 := Lib.hid (box_below KS0.out hb)
  have KT1 := Lib.hid (box_below KT0.out hb)
  have HB1 := Lib.hid (bel_then HB0.out hb HB0.out.size)
  have z1 : V.heap.size ≤ w1.heap.size := hb.size
  clear KS0 KT0 HB0 hb
  rcases hz with rfl | ⟨za, zb, hf⟩
  · go_wp2
    go_ret
    exact ⟨rfl, HB1.out⟩
  have HF := Lib.hid hf
  have zd : decide (z < 0) = false := by simp; omega
  clear hf
  go_wp2_with (refine wpList_get rfl 33 _ rfl (w.heap.size + 1) 0 rfl KT1.out (stL f B1 m1 e1 B2 m2 e2 B m e0) (stL_all _ _ _ _ _ _ _ _ _ _) Tryz.underlying33 rfl (by kernel_rfl) ?_)
  refine (HZ2.out _ z HB1.out (by omega) (by omega)).mono ?_
  rintro e w2 ⟨y, rfl, hb, hz⟩
  have KS2 := Lib.hid (box_below KS1.out hb)
  have KT2 := Lib.hid (box_below KT1.out hb)
  have HB2 := Lib.hid (bel_then HB1.out hb HB1.out.size)
  have z2 : w1.heap.size ≤ w2.heap.size := hb.size
  clear KS1 KT1 HB1 hb
  rcases hz with rfl | ⟨ya, yb, hg⟩
  · go_wp2
    go_ret
    exact ⟨rfl, HB2.out⟩
  have HG := Lib.hid hg
  have yd : decide (y < 0) = false := by simp; omega
  clear hg
  have HS := Lib.hid (HS0.out HF.out HG.out)
  have HI := Lib.hid (HI0.out HF.out HG.out)
  clear HS0 HI0
  go_wp2_with fail
  refine wp_region_held_drew (S := fun w' => w'.rangeAt w.heap.size 0 (stL d A1 n1 c1 A2 n2 c2 A n c) ∧ w'.rangeAt (w.heap.size + 1) 0 (stL f B1 m1 e1 B2 m2 e2 B m e0)) (by kernel_rfl) ⟨range_of KS2.out (stL_all _ _ _ _ _ _ _ _ _ _), range_of KT2.out (stL_all _ _ _ _ _ _ _ _ _ _)⟩ (fun hHeld => ?_)
  refine wpAnyH_take (i := 0) (v := .agg ((stL d A1 n1 c1 A2 n2 c2 A n c)).toArray) rfl (by kernel_rfl) (by kernel_rfl) (by kernel_rfl) (fun _ _ _ h => h) (yieldsIf_load_mid (by rfl) 33 _ rfl w.heap.size 0 rfl ((stL d A1 n1 c1 A2 n2 c2 A n c)) _ (fun w' h => h.1) Tryz.underlying33 rfl (by kernel_rfl)) (by assumption) ?_
  try simp only [Act.put, List.getElem_toArray, List.getElem_cons_zero, List.getElem_cons_succ, List.setIfInBounds_toArray, List.set_cons_zero, List.set_cons_succ]
  refine wpAnyH_take (i := 2) (v := .agg ((stL f B1 m1 e1 B2 m2 e2 B m e0)).toArray) rfl (by kernel_rfl) (by kernel_rfl) (by kernel_rfl) (fun _ _ _ h => h) (yieldsIf_load_mid (by rfl) 33 _ rfl (w.heap.size + 1) 0 rfl ((stL f B1 m1 e1 B2 m2 e2 B m e0)) _ (fun w' h => h.2) Tryz.underlying33 rfl (by kernel_rfl)) (by assumption) ?_
  try simp only [Act.put, List.getElem_toArray, List.getElem_cons_zero, List.getElem_cons_succ, List.setIfInBounds_toArray, List.set_cons_zero, List.set_cons_succ]
  refine wpAnyH_ready (rs := [1]) (by kernel_rfl) (by simp) (AllReadyH.cons rfl (fun K hK => ?_) AllReadyH.nil)
  go_simp
  have hbd : Below w2.heap.size w2 w2.drew := undrew (Below.refl _ _)
  refine (toStore_any _ w.heap.size _ d (sty.rd_below HR.out (bel_then HB2.out hbd HB2.out.size) (Nat.le_refl _)) (by exact HB2.out.size) HF.out).mono ?_
  rintro e w3 ⟨p, Sp, rfl, hO, hb⟩
  have hb' : Below w2.heap.size w2 w3 := undrew hb
  have Hp3 := Lib.hid hO
  clear hO hb hbd hHeld
  have KS3 := Lib.hid (box_below KS2.out hb')
  have KT3 := Lib.hid (box_below KT2.out hb')
  have HB3 := Lib.hid (bel_then HB2.out hb' HB2.out.size)
  have z3 : w2.heap.size ≤ w3.heap.size := hb'.size
  clear KS2 KT2 HB2 hb'
  refine hK _ _ (by exact ⟨range_of KS3.out (stL_all _ _ _ _ _ _ _ _ _ _), range_of KT3.out (stL_all _ _ _ _ _ _ _ _ _ _)⟩) (fun hHeld => ?_)
  clear hK K
  try simp only [Act.put, List.getElem_toArray, List.getElem_cons_zero, List.getElem_cons_succ, List.setIfInBounds_toArray, List.set_cons_zero, List.set_cons_succ]
  refine wpAnyH_ready (rs := [3]) (by kernel_rfl) (by simp) (AllReadyH.cons rfl (fun K hK => ?_) AllReadyH.nil)
  go_simp
  refine (toStore_any _ w.heap.size _ f (sty.rd_below HR2.out HB3.out (Nat.le_refl _)) (by exact HB3.out.size) HG.out).mono ?_
  rintro e w4 ⟨q, Sq, rfl, hO, hb⟩
  have hb' : Below w3.heap.size w3 w4 := hb
  have Hq4 := Lib.hid hO
  clear hO hb hHeld
  have KS4 := Lib.hid (box_below KS3.out hb')
  have KT4 := Lib.hid (box_below KT3.out hb')
  have Hp4 := Lib.hid (Hp3.out.below hb')
  have HB4 := Lib.hid (bel_then HB3.out hb' HB3.out.size)
  have z4 : w3.heap.size ≤ w4.heap.size := hb'.size
  clear KS3 KT3 Hp3 HB3 hb'
  refine hK _ _ (by exact ⟨range_of KS4.out (stL_all _ _ _ _ _ _ _ _ _ _), range_of KT4.out (stL_all _ _ _ _ _ _ _ _ _ _)⟩) (fun hHeld => ?_)
  clear hK K
  try simp only [Act.put, List.getElem_toArray, List.getElem_cons_zero, List.getElem_cons_succ, List.setIfInBounds_toArray, List.set_cons_zero, List.set_cons_succ]
  refine wpAnyH_ready (rs := [4]) (by kernel_rfl) (by simp) (AllReadyH.cons rfl (fun K hK => ?_) AllReadyH.nil)
  go_simp
  refine (HS.out _ _ _ _ _ HB4.out Hp4.out.rd (Nat.le_refl _) Hq4.out.rd (Nat.le_refl _)).mono ?_
  rintro e w5 ⟨rfl, hb⟩
  clear hHeld
  have KS5 := Lib.hid (box_below KS4.out hb)
  have KT5 := Lib.hid (box_below KT4.out hb)
  have Hp5 := Lib.hid (Hp4.out.below hb)
  have Hq5 := Lib.hid (Hq4.out.below hb)
  have HB5 := Lib.hid (bel_then HB4.out hb HB4.out.size)
  have z5 : w4.heap.size ≤ w5.heap.size := hb.size
  clear KS4 KT4 Hp4 Hq4 HB4 hb
  refine hK _ _ (by exact ⟨range_of KS5.out (stL_all _ _ _ _ _ _ _ _ _ _), range_of KT5.out (stL_all _ _ _ _ _ _ _ _ _ _)⟩) (fun hHeld => ?_)
  clear hK K
  try simp only [Act.put, List.getElem_toArray, List.getElem_cons_zero, List.getElem_cons_succ, List.setIfInBounds_toArray, List.set_cons_zero, List.set_cons_succ]
  refine wpAnyH_take (i := 5) (v := ?v4) rfl (by kernel_rfl) (by kernel_rfl) (by kernel_rfl) (fun _ _ _ h => h) (Or.inl ⟨by rfl, ?hy4⟩) (by assumption) ?_
  case hy4 => (intro w0 hSw; (try dsimp only at hSw); go_simp <;> with_reducible rfl)
  try simp only [Act.put, List.getElem_toArray, List.getElem_cons_zero, List.getElem_cons_succ, List.setIfInBounds_toArray, List.set_cons_zero, List.set_cons_succ]
  refine wpAnyH_done (by kernel_rfl) ?_ _
  clear hHeld
  clear Hp5 Hq5 HS
  go_wp2_with (refine wpList_get rfl 33 _ rfl w.heap.size 0 rfl KS5.out (stL d A1 n1 c1 A2 n2 c2 A n c) (stL_all _ _ _ _ _ _ _ _ _ _) Tryz.underlying33 rfl (by kernel_rfl) ?_)
  refine (toStore_any _ w.heap.size _ d (sty.rd_below HR.out HB5.out (Nat.le_refl _)) HB5.out.size HF.out).mono ?_
  rintro e w6 ⟨vX, SX, rfl, hO, hb⟩
  obtain ⟨A1X, n1X, c1X, A2X, n2X, c2X, AX, nX, cX, rfl⟩ := StoTD.shape hO
  have HO := Lib.hid hO
  clear hO
  have KS6 := Lib.hid (box_below KS5.out hb)
  have KT6 := Lib.hid (box_below KT5.out hb)
  have HB6 := Lib.hid (bel_then HB5.out hb HB5.out.size)
  have z6 : w5.heap.size ≤ w6.heap.size := hb.size
  clear KS5 KT5 HB5 hb
  have KZ : Hid ((w6.alloc (.cells (stL zeroS none 0 0 none 0 0 none 0 0).toArray 44)).heap[w6.heap.size]? = some (.cells (stL zeroS none 0 0 none 0 0 none 0 0).toArray 44 (0, 0))) := box_new w6 _
  go_upto_region 10 with (refine wpList_put rfl rfl 44 _ _ rfl w6.heap.size 0 (stL d A1X n1X c1X A2X n2X c2X AX nX cX) rfl rfl KZ.out (by kernel_rfl) (stL d A1X n1X c1X A2X n2X c2X AX nX cX) rfl (Nat.le_of_ble_eq_true rfl) (stL_one _ _ _ _ _ _ _ _ _ _) ?_)
  obtain ⟨VX, hV⟩ : ∃ V, V = (w6.alloc (.cells #[.int .i64 0, .int .i64 0, .int .i64 0, .int .i64 0, .int .i64 0, .int .i64 0, .int .i64 0, .int .i64 0, .int .i64 0, .int .i64 0, .int .i64 0, .int .i64 0, .slice none 0 0, .slice none 0 0, .int .i64 0, .int .i64 0, .int .i64 0, .int .i64 0, .int .i64 0, .int .i64 0, .int .i64 0, .int .i64 0, .int .i64 0, .int .i64 0, .int .i64 0, .int .i64 0, .int .i64 0, .int .i64 0, .int .i64 0, .int .i64 0, .slice none 0 0, .int .i64 0, .int .i64 0, .int .i64 0, .int .i64 0, .int .i64 0] 44)).setRow w6.heap.size (stL d A1X n1X c1X A2X n2X c2X AX nX cX).toArray := ⟨_, rfl⟩
  have hbv : Below w6.heap.size w6 VX := by rw [hV]; exact row_below (bel1 _ _) _ _ (Nat.le_refl _) (by simp)
  have KX7 : Hid (VX.heap[w6.heap.size]? = some (.cells (stL d A1X n1X c1X A2X n2X c2X AX nX cX).toArray 44 (0, 0))) := by rw [hV]; exact row_box KZ.out
  have HX7 := Lib.hid (HO.out.below hbv)
  rw [← hV]
  clear hV KZ HO
  have KS7 := Lib.hid (box_below KS6.out hbv)
  have KT7 := Lib.hid (box_below KT6.out hbv)
  have HB7 := Lib.hid (bel_then HB6.out hbv HB6.out.size)
  have z7 : w6.heap.size ≤ VX.heap.size := hbv.size
  clear KS6 KT6 HB6 hbv
  go_wp2_with (refine wpList_get rfl 33 _ rfl (w.heap.size + 1) 0 rfl KT7.out (stL f B1 m1 e1 B2 m2 e2 B m e0) (stL_all _ _ _ _ _ _ _ _ _ _) Tryz.underlying33 rfl (by kernel_rfl) ?_)
  refine (toStore_any _ w.heap.size _ f (sty.rd_below HR2.out HB7.out (Nat.le_refl _)) HB7.out.size HG.out).mono ?_
  rintro e w7 ⟨vY, SY, rfl, hO, hb⟩
  obtain ⟨A1Y, n1Y, c1Y, A2Y, n2Y, c2Y, AY, nY, cY, rfl⟩ := StoTD.shape hO
  have HO := Lib.hid hO
  clear hO
  have KS8 := Lib.hid (box_below KS7.out hb)
  have KT8 := Lib.hid (box_below KT7.out hb)
  have KX8 := Lib.hid (box_below KX7.out hb)
  have HX8 := Lib.hid (HX7.out.below hb)
  have HB8 := Lib.hid (bel_then HB7.out hb HB7.out.size)
  have z8 : VX.heap.size ≤ w7.heap.size := hb.size
  clear KS7 KT7 KX7 HX7 HB7 hb
  have KZ : Hid ((w7.alloc (.cells (stL zeroS none 0 0 none 0 0 none 0 0).toArray 44)).heap[w7.heap.size]? = some (.cells (stL zeroS none 0 0 none 0 0 none 0 0).toArray 44 (0, 0))) := box_new w7 _
  go_upto_region 11 with (refine wpList_put rfl rfl 44 _ _ rfl w7.heap.size 0 (stL f A1Y n1Y c1Y A2Y n2Y c2Y AY nY cY) rfl rfl KZ.out (by kernel_rfl) (stL f A1Y n1Y c1Y A2Y n2Y c2Y AY nY cY) rfl (Nat.le_of_ble_eq_true rfl) (stL_one _ _ _ _ _ _ _ _ _ _) ?_)
  obtain ⟨VY, hV⟩ : ∃ V, V = (w7.alloc (.cells #[.int .i64 0, .int .i64 0, .int .i64 0, .int .i64 0, .int .i64 0, .int .i64 0, .int .i64 0, .int .i64 0, .int .i64 0, .int .i64 0, .int .i64 0, .int .i64 0, .slice none 0 0, .slice none 0 0, .int .i64 0, .int .i64 0, .int .i64 0, .int .i64 0, .int .i64 0, .int .i64 0, .int .i64 0, .int .i64 0, .int .i64 0, .int .i64 0, .int .i64 0, .int .i64 0, .int .i64 0, .int .i64 0, .int .i64 0, .int .i64 0, .slice none 0 0, .int .i64 0, .int .i64 0, .int .i64 0, .int .i64 0, .int .i64 0] 44)).setRow w7.heap.size (stL f A1Y n1Y c1Y A2Y n2Y c2Y AY nY cY).toArray := ⟨_, rfl⟩
  have hbv : Below w7.heap.size w7 VY := by rw [hV]; exact row_below (bel1 _ _) _ _ (Nat.le_refl _) (by simp)
  have KY9 : Hid (VY.heap[w7.heap.size]? = some (.cells (stL f A1Y n1Y c1Y A2Y n2Y c2Y AY nY cY).toArray 44 (0, 0))) := by rw [hV]; exact row_box KZ.out
  have HY9 := Lib.hid (HO.out.below hbv)
  rw [← hV]
  clear hV KZ HO
  have KS9 := Lib.hid (box_below KS8.out hbv)
  have KT9 := Lib.hid (box_below KT8.out hbv)
  have KX9 := Lib.hid (box_below KX8.out hbv)
  have HX9 := Lib.hid (HX8.out.below hbv)
  have HB9 := Lib.hid (bel_then HB8.out hbv HB8.out.size)
  have z9 : w7.heap.size ≤ VY.heap.size := hbv.size
  clear KS8 KT8 KX8 HX8 HB8 hbv
  go_wp2_with (first | (refine wpList_get rfl 44 _ rfl w6.heap.size 0 rfl KX9.out (stL d A1X n1X c1X A2X n2X c2X AX nX cX) (stL_all _ _ _ _ _ _ _ _ _ _) Tryz.underlying44 rfl (by kernel_rfl) ?_) | (refine wpList_get rfl 44 _ rfl w7.heap.size 0 rfl KY9.out (stL f A1Y n1Y c1Y A2Y n2Y c2Y AY nY cY) (stL_all _ _ _ _ _ _ _ _ _ _) Tryz.underlying44 rfl (by kernel_rfl) ?_))
  refine (HI.out _ _ _ _ _ HB9.out HX9.out.rd (Nat.le_refl _) HY9.out.rd (Nat.le_refl _)).mono ?_
  rintro e w8 ⟨rfl, hb⟩
  have KS10 := Lib.hid (box_below KS9.out hb)
  have KT10 := Lib.hid (box_below KT9.out hb)
  have KX10 := Lib.hid (box_below KX9.out hb)
  have KY10 := Lib.hid (box_below KY9.out hb)
  have HX10 := Lib.hid (HX9.out.below hb)
  have HY10 := Lib.hid (HY9.out.below hb)
  have HB10 := Lib.hid (bel_then HB9.out hb HB9.out.size)
  have z10 : VY.heap.size ≤ w8.heap.size := hb.size
  clear KS9 KT9 KX9 KY9 HX9 HY9 HB9 hb
  go_wp2_with fail
  refine wp_region_held_drew (S := fun w' => w'.rangeAt w.heap.size 0 (stL d A1 n1 c1 A2 n2 c2 A n c) ∧ w'.rangeAt w6.heap.size 0 (stL d A1X n1X c1X A2X n2X c2X AX nX cX)) (by kernel_rfl) ⟨range_of KS10.out (stL_all _ _ _ _ _ _ _ _ _ _), range_of KX10.out (stL_all _ _ _ _ _ _ _ _ _ _)⟩ (fun hHeld => ?_)
  refine wpAnyH_take (i := 0) (v := .agg ((stL d A1X n1X c1X A2X n2X c2X AX nX cX)).toArray) rfl (by kernel_rfl) (by kernel_rfl) (by kernel_rfl) (fun _ _ _ h => h) (yieldsIf_load_mid (by rfl) 44 _ rfl w6.heap.size 0 rfl ((stL d A1X n1X c1X A2X n2X c2X AX nX cX)) _ (fun w' h => h.2) Tryz.underlying44 rfl (by kernel_rfl)) (by assumption) ?_
  try simp only [Act.put, List.getElem_toArray, List.getElem_cons_zero, List.getElem_cons_succ, List.setIfInBounds_toArray, List.set_cons_zero, List.set_cons_succ]
  refine wpAnyH_take (i := 1) (v := .agg ((stL d A1 n1 c1 A2 n2 c2 A n c)).toArray) rfl (by kernel_rfl) (by kernel_rfl) (by kernel_rfl) (fun _ _ _ h => h) (yieldsIf_load_mid (by rfl) 33 _ rfl w.heap.size 0 rfl ((stL d A1 n1 c1 A2 n2 c2 A n c)) _ (fun w' h => h.1) Tryz.underlying33 rfl (by kernel_rfl)) (by assumption) ?_
  try simp only [Act.put, List.getElem_toArray, List.getElem_cons_zero, List.getElem_cons_succ, List.setIfInBounds_toArray, List.set_cons_zero, List.set_cons_succ]
  refine wpAnyH_ready (rs := [2]) (by kernel_rfl) (by simp) (AllReadyH.cons rfl (fun K hK => ?_) AllReadyH.nil)
  go_simp
  have hbd : Below w8.heap.size w8 w8.drew := undrew (Below.refl _ _)
  refine (toStore_any _ w.heap.size _ d (sty.rd_below HR.out (bel_then HB10.out hbd HB10.out.size) (Nat.le_refl _)) (by exact HB10.out.size) HF.out).mono ?_
  rintro e w9 ⟨t, St, rfl, hO, hb⟩
  have hb' : Below w8.heap.size w8 w9 := undrew hb
  have Ht11 := Lib.hid hO
  clear hO hb hbd hHeld
  have KS11 := Lib.hid (box_below KS10.out hb')
  have KT11 := Lib.hid (box_below KT10.out hb')
  have KX11 := Lib.hid (box_below KX10.out hb')
  have KY11 := Lib.hid (box_below KY10.out hb')
  have HX11 := Lib.hid (HX10.out.below hb')
  have HY11 := Lib.hid (HY10.out.below hb')
  have HB11 := Lib.hid (bel_then HB10.out hb' HB10.out.size)
  have z11 : w8.heap.size ≤ w9.heap.size := hb'.size
  clear KS10 KT10 KX10 KY10 HX10 HY10 HB10 hb'
  refine hK _ _ (by exact ⟨range_of KS11.out (stL_all _ _ _ _ _ _ _ _ _ _), range_of KX11.out (stL_all _ _ _ _ _ _ _ _ _ _)⟩) (fun hHeld => ?_)
  clear hK K
  try simp only [Act.put, List.getElem_toArray, List.getElem_cons_zero, List.getElem_cons_succ, List.setIfInBounds_toArray, List.set_cons_zero, List.set_cons_succ]
  refine wpAnyH_ready (rs := [3]) (by kernel_rfl) (by simp) (AllReadyH.cons rfl (fun K hK => ?_) AllReadyH.nil)
  go_simp
  refine (eqStore_any _ _ _ _ _ d HX11.out.rd Ht11.out.rd (Nat.le_refl _) (Nat.le_refl _) HF.out).mono ?_
  rintro e w10 ⟨rfl, hb⟩
  clear hHeld
  have KS12 := Lib.hid (box_below KS11.out hb)
  have KT12 := Lib.hid (box_below KT11.out hb)
  have KX12 := Lib.hid (box_below KX11.out hb)
  have KY12 := Lib.hid (box_below KY11.out hb)
  have HX12 := Lib.hid (HX11.out.below hb)
  have HY12 := Lib.hid (HY11.out.below hb)
  have Ht12 := Lib.hid (Ht11.out.below hb)
  have HB12 := Lib.hid (bel_then HB11.out hb HB11.out.size)
  have z12 : w9.heap.size ≤ w10.heap.size := hb.size
  clear KS11 KT11 KX11 KY11 HX11 HY11 Ht11 HB11 hb
  refine hK _ _ (by exact ⟨range_of KS12.out (stL_all _ _ _ _ _ _ _ _ _ _), range_of KX12.out (stL_all _ _ _ _ _ _ _ _ _ _)⟩) (fun hHeld => ?_)
  clear hK K
  try simp only [Act.put, List.getElem_toArray, List.getElem_cons_zero, List.getElem_cons_succ, List.setIfInBounds_toArray, List.set_cons_zero, List.set_cons_succ]
  refine wpAnyH_take (i := 4) (v := ?v7) rfl (by kernel_rfl) (by kernel_rfl) (by kernel_rfl) (fun _ _ _ h => h) (Or.inl ⟨by rfl, ?hy7⟩) (by assumption) ?_
  case hy7 => (intro w0 hSw; (try dsimp only at hSw); go_simp <;> with_reducible rfl)
  try simp only [Act.put, List.getElem_toArray, List.getElem_cons_zero, List.getElem_cons_succ, List.setIfInBounds_toArray, List.set_cons_zero, List.set_cons_succ]
  refine wpAnyH_done (by kernel_rfl) ?_ _
  clear hHeld
  clear Ht12
  go_wp2_with fail
  refine wp_region_held_drew (S := fun w' => w'.rangeAt (w.heap.size + 1) 0 (stL f B1 m1 e1 B2 m2 e2 B m e0) ∧ w'.rangeAt w7.heap.size 0 (stL f A1Y n1Y c1Y A2Y n2Y c2Y AY nY cY)) (by kernel_rfl) ⟨range_of KT12.out (stL_all _ _ _ _ _ _ _ _ _ _), range_of KY12.out (stL_all _ _ _ _ _ _ _ _ _ _)⟩ (fun hHeld => ?_)
  refine wpAnyH_take (i := 0) (v := .agg ((stL f A1Y n1Y c1Y A2Y n2Y c2Y AY nY cY)).toArray) rfl (by kernel_rfl) (by kernel_rfl) (by kernel_rfl) (fun _ _ _ h => h) (yieldsIf_load_mid (by rfl) 44 _ rfl w7.heap.size 0 rfl ((stL f A1Y n1Y c1Y A2Y n2Y c2Y AY nY cY)) _ (fun w' h => h.2) Tryz.underlying44 rfl (by kernel_rfl)) (by assumption) ?_
  try simp only [Act.put, List.getElem_toArray, List.getElem_cons_zero, List.getElem_cons_succ, List.setIfInBounds_toArray, List.set_cons_zero, List.set_cons_succ]
  refine wpAnyH_take (i := 1) (v := .agg ((stL f B1 m1 e1 B2 m2 e2 B m e0)).toArray) rfl (by kernel_rfl) (by kernel_rfl) (by kernel_rfl) (fun _ _ _ h => h) (yieldsIf_load_mid (by rfl) 33 _ rfl (w.heap.size + 1) 0 rfl ((stL f B1 m1 e1 B2 m2 e2 B m e0)) _ (fun w' h => h.1) Tryz.underlying33 rfl (by kernel_rfl)) (by assumption) ?_
  try simp only [Act.put, List.getElem_toArray, List.getElem_cons_zero, List.getElem_cons_succ, List.setIfInBounds_toArray, List.set_cons_zero, List.set_cons_succ]
  refine wpAnyH_ready (rs := [2]) (by kernel_rfl) (by simp) (AllReadyH.cons rfl (fun K hK => ?_) AllReadyH.nil)
  go_simp
  have hbd : Below w10.heap.size w10 w10.drew := undrew (Below.refl _ _)
  refine (toStore_any _ w.heap.size _ f (sty.rd_below HR2.out (bel_then HB12.out hbd HB12.out.size) (Nat.le_refl _)) (by exact HB12.out.size) HG.out).mono ?_
  rintro e w11 ⟨t, St, rfl, hO, hb⟩
  have hb' : Below w10.heap.size w10 w11 := undrew hb
  have Ht13 := Lib.hid hO
  clear hO hb hbd hHeld
  have KS13 := Lib.hid (box_below KS12.out hb')
  have KT13 := Lib.hid (box_below KT12.out hb')
  have KX13 := Lib.hid (box_below KX12.out hb')
  have KY13 := Lib.hid (box_below KY12.out hb')
  have HX13 := Lib.hid (HX12.out.below hb')
  have HY13 := Lib.hid (HY12.out.below hb')
  have HB13 := Lib.hid (bel_then HB12.out hb' HB12.out.size)
  have z13 : w10.heap.size ≤ w11.heap.size := hb'.size
  clear KS12 KT12 KX12 KY12 HX12 HY12 HB12 hb'
  refine hK _ _ (by exact ⟨range_of KT13.out (stL_all _ _ _ _ _ _ _ _ _ _), range_of KY13.out (stL_all _ _ _ _ _ _ _ _ _ _)⟩) (fun hHeld => ?_)
  clear hK K
  try simp only [Act.put, List.getElem_toArray, List.getElem_cons_zero, List.getElem_cons_succ, List.setIfInBounds_toArray, List.set_cons_zero, List.set_cons_succ]
  refine wpAnyH_ready (rs := [3]) (by kernel_rfl) (by simp) (AllReadyH.cons rfl (fun K hK => ?_) AllReadyH.nil)
  go_simp
  refine (eqStore_any _ _ _ _ _ f HY13.out.rd Ht13.out.rd (Nat.le_refl _) (Nat.le_refl _) HG.out).mono ?_
  rintro e w12 ⟨rfl, hb⟩
  clear hHeld
  have KS14 := Lib.hid (box_below KS13.out hb)
  have KT14 := Lib.hid (box_below KT13.out hb)
  have KX14 := Lib.hid (box_below KX13.out hb)
  have KY14 := Lib.hid (box_below KY13.out hb)
  have HX14 := Lib.hid (HX13.out.below hb)
  have HY14 := Lib.hid (HY13.out.below hb)
  have Ht14 := Lib.hid (Ht13.out.below hb)
  have HB14 := Lib.hid (bel_then HB13.out hb HB13.out.size)
  have z14 : w11.heap.size ≤ w12.heap.size := hb.size
  clear KS13 KT13 KX13 KY13 HX13 HY13 Ht13 HB13 hb
  refine hK _ _ (by exact ⟨range_of KT14.out (stL_all _ _ _ _ _ _ _ _ _ _), range_of KY14.out (stL_all _ _ _ _ _ _ _ _ _ _)⟩) (fun hHeld => ?_)
  clear hK K
  try simp only [Act.put, List.getElem_toArray, List.getElem_cons_zero, List.getElem_cons_succ, List.setIfInBounds_toArray, List.set_cons_zero, List.set_cons_succ]
  refine wpAnyH_take (i := 4) (v := ?v10) rfl (by kernel_rfl) (by kernel_rfl) (by kernel_rfl) (fun _ _ _ h => h) (Or.inl ⟨by rfl, ?hy10⟩) (by assumption) ?_
  case hy10 => (intro w0 hSw; (try dsimp only at hSw); go_simp <;> with_reducible rfl)
  try simp only [Act.put, List.getElem_toArray, List.getElem_cons_zero, List.getElem_cons_succ, List.setIfInBounds_toArray, List.set_cons_zero, List.set_cons_succ]
  refine wpAnyH_done (by kernel_rfl) ?_ _
  clear hHeld
  clear Ht14
  go_wp2
  go_ret
  exact ⟨rfl, HB14.out⟩
end Go.Proofs.YtlghdmakaocokaaGreatDoor.LawSameStore
