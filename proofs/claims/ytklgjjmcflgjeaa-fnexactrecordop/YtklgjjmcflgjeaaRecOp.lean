/-
  RECORDOP, the program's and the model's, over this seat's translation.
-/
import Derived.Test.YtklgjjmcflgjeaaOpRec
import Derived.Deep.RegionHeld3
namespace Go.Proofs.Ytklgjjmcflgjeaa.OpR
open Go.ChangeShapes Go.WideShapes Go.ChangeAt Go.RowKit
open Go.Proofs.Ytklgjjmcflgjeaa.LK Go.Proofs.Ytklgjjmcflgjeaa.Seg Go.Proofs.Ytklgjjmcflgjeaa.Ints Go.Proofs.Ytklgjjmcflgjeaa.Has Go.Proofs.Ytklgjjmcflgjeaa.Rec
open Go.Proofs.Ytklgjjmcflgjeaa.Tick (inB in_t in_f l01In_any)
open Go.Proofs.Ytklgjjmcflgjeaa.Bytes (numB num_t num_f numberOk_any)
set_option linter.unusedVariables false
set_option linter.unusedSimpArgs false
theorem no_rec {k : Int} {zs : List Int} (h : recB k zs = false) : opV k zs = (0, 0, 0, 0) ∧ opW k zs = false := by
  by_cases h3 : zs.length = 3
  · obtain ⟨a, b, c, rfl⟩ := three h3
    have h1 : opB k a b c = false := by rw [opB_rec, h]; simp
    exact ⟨by simp [opV, h1], h1⟩
  · exact op_len h3
theorem no_in {k : Int} {zs : List Int} (h : inB k 0 2 = false) : opV k zs = (0, 0, 0, 0) ∧ opW k zs = false := by
  by_cases h3 : zs.length = 3
  · obtain ⟨a, b, c, rfl⟩ := three h3
    have h1 : opB k a b c = false := by rw [opB_rec, h]; simp
    exact ⟨by simp [opV, h1], h1⟩
  · exact op_len h3
set_option maxRecDepth 100000 in
set_option maxHeartbeats 3200000 in
theorem recordOp_any (k : Int) (A : Option Addr) (n cp : Nat) (zs : List Int) (B : Nat) (w : World) (hr : IsInts w B A n zs) (hB : B ≤ w.heap.size) (hn : n ≤ 1048576) :
    Calls Try.prog 21 #[.agg #[.int .i64 k, .slice A n cp]] w (Says (.tuple #[.agg #[.int .i64 (opV k zs).1, .int .i64 (opV k zs).2.1, .int .i64 (opV k zs).2.2.1, .int .i64 (opV k zs).2.2.2], .bool (opW k zs)]) w) := by
  obtain ⟨Y, hY⟩ : ∃ Y, Y = opV k zs := ⟨_, rfl⟩
  obtain ⟨z, hz⟩ : ∃ z, z = opW k zs := ⟨_, rfl⟩
  rw [← hY, ← hz]
  have HY := Lib.hid hY
  have HZ := Lib.hid hz
  have HL : Hid (zs.length = n) := hr.1
  clear hY hz
  obtain ⟨V, hV⟩ : ∃ V, V = (w.alloc (.cells [.int .i64 k, .slice A n cp].toArray 45)).alloc (.cells [.int .i64 0, .int .i64 0, .int .i64 0, .int .i64 0].toArray 48) := ⟨_, rfl⟩
  have HB : Hid (Below w.heap.size w V) := by rw [hV]; exact bel2 _ _ _
  have K : Hid (V.heap[w.heap.size]? = some (.cells [.int .i64 k, .slice A n cp].toArray 45 (0, 0))) := by rw [hV]; exact box_alloc (box_new w _) _
  have KR : Hid (V.heap[w.heap.size + 1]? = some (.cells [.int .i64 0, .int .i64 0, .int .i64 0, .int .i64 0].toArray 48 (0, 0))) := by rw [hV]; have h := box_new (w.alloc (.cells [.int .i64 k, .slice A n cp].toArray 45)) (.cells [.int .i64 0, .int .i64 0, .int .i64 0, .int .i64 0].toArray 48); simp only [World.size_alloc] at h; exact h
  have HR := Lib.hid (hr.below HB.out hB)
  have hlt : w.heap.size + 1 < V.heap.size := box_lt KR.out
  clear hr
  have NO : Hid (z = false → Y = (0, 0, 0, 0) → ∀ W, Below V.heap.size V W → Says (.tuple #[.agg #[.int .i64 Y.1, .int .i64 Y.2.1, .int .i64 Y.2.2.1, .int .i64 Y.2.2.2], .bool z]) w (.returned (.tuple #[.agg [.int .i64 0, .int .i64 0, .int .i64 0, .int .i64 0].toArray, .bool false])) (W.setRow (w.heap.size + 1) [.int .i64 0, .int .i64 0, .int .i64 0, .int .i64 0].toArray)) := fun h1 h2 W hW => by
    rw [h1, h2]
    have hb := bel_then HB.out hW HB.out.size
    exact ⟨rfl, row_below hb (w.heap.size + 1) _ (by omega) hb.size⟩
  go_enter Try.func21, Try.ntmps21
  go_upto_region 1 with fail
  rw [← hV]
  clear hV
  have c0 : V.cell? ⟨w.heap.size, 0, none⟩ = some (.int .i64 k) := box_cell K.out 0 _ rfl
  have c1 : V.cell? ⟨w.heap.size, 1, none⟩ = some (.slice A n cp) := box_cell K.out 1 _ rfl
  by_cases h3 : n = 3
  case neg =>
    have hq : ((n : Int) != 3) = true := by simp; omega
    have HN : Hid (z = false ∧ Y = (0, 0, 0, 0)) := by have h := op_len (k := k) (zs := zs) (by rw [HL.out]; exact h3); exact ⟨HZ.out.trans h.2, HY.out.trans h.1⟩
    clear h3
    go_wp2_with (refine wpList_put rfl rfl 48 _ _ rfl (w.heap.size + 1) 0 [.int .i64 0, .int .i64 0, .int .i64 0, .int .i64 0] rfl rfl KR.out (by kernel_rfl) [.int .i64 0, .int .i64 0, .int .i64 0, .int .i64 0] rfl (Nat.le_of_ble_eq_true rfl) (one4 _ _ _ _) ?_)
    exact bodyPost_ret (v := .tuple #[.agg [.int .i64 0, .int .i64 0, .int .i64 0, .int .i64 0].toArray, .bool false]) (results_box_tmp Try.results21 _ rfl rfl (row_box KR.out) Try.underlying48 rfl (by kernel_rfl)) rfl (NO.out HN.out.1 HN.out.2 _ (Below.refl _ _))
  subst h3
  obtain ⟨a, b, c, hz3⟩ := three HL.out
  subst hz3
  obtain ⟨g, off, hA, hgB, CE⟩ := HR.out.2 (by omega)
  subst hA
  have d0 : V.cell? ⟨g, off, none⟩ = some (.int .i64 a) := CE 0 (by omega)
  have d1 : V.cell? ⟨g, off + 1, none⟩ = some (.int .i64 b) := CE 1 (by omega)
  have d2 : V.cell? ⟨g, off + 2, none⟩ = some (.int .i64 c) := CE 2 (by omega)
  clear CE
  go_upto_region 3 with fail
  have nc0 := cell_keep (bel1 V (.cells #[.int .i64 0, .int .i64 0, .int .i64 0, .int .i64 0] 48)) c0
  have nc1 := cell_keep (bel1 V (.cells #[.int .i64 0, .int .i64 0, .int .i64 0, .int .i64 0] 48)) c1
  have nd0 := cell_keep (bel1 V (.cells #[.int .i64 0, .int .i64 0, .int .i64 0, .int .i64 0] 48)) d0
  have nd1 := cell_keep (bel1 V (.cells #[.int .i64 0, .int .i64 0, .int .i64 0, .int .i64 0] 48)) d1
  have nd2 := cell_keep (bel1 V (.cells #[.int .i64 0, .int .i64 0, .int .i64 0, .int .i64 0] 48)) d2
  have KN : ((V.alloc (.cells #[.int .i64 0, .int .i64 0, .int .i64 0, .int .i64 0] 48))).heap[V.heap.size]? = some (.cells #[.int .i64 0, .int .i64 0, .int .i64 0, .int .i64 0] 48 (0, 0)) := box_new V _
  have m0 : ((V.alloc (.cells #[.int .i64 0, .int .i64 0, .int .i64 0, .int .i64 0] 48))).cell? ⟨V.heap.size, 0, none⟩ = some (.int .i64 0) := box_cell KN 0 _ rfl
  have mf0 := box_frozen KN 0
  have m1 : ((V.alloc (.cells #[.int .i64 0, .int .i64 0, .int .i64 0, .int .i64 0] 48))).cell? ⟨V.heap.size, 1, none⟩ = some (.int .i64 0) := box_cell KN 1 _ rfl
  have mf1 := box_frozen KN 1
  have m2 : ((V.alloc (.cells #[.int .i64 0, .int .i64 0, .int .i64 0, .int .i64 0] 48))).cell? ⟨V.heap.size, 2, none⟩ = some (.int .i64 0) := box_cell KN 2 _ rfl
  have mf2 := box_frozen KN 2
  have m3 : ((V.alloc (.cells #[.int .i64 0, .int .i64 0, .int .i64 0, .int .i64 0] 48))).cell? ⟨V.heap.size, 3, none⟩ = some (.int .i64 0) := box_cell KN 3 _ rfl
  have mf3 := box_frozen KN 3
  go_region
  obtain ⟨X, hX⟩ : ∃ X, X = (V.alloc (.cells #[.int .i64 k, .int .i64 a, .int .i64 b, .int .i64 c] 48)).drew := ⟨_, rfl⟩
  have KX : Hid (X.heap[V.heap.size]? = some (.cells [.int .i64 k, .int .i64 a, .int .i64 b, .int .i64 c].toArray 48 (0, 0))) := by rw [hX]; exact box_new V _
  have HX : Hid (Below V.heap.size V X) := by rw [hX]; exact (bel1 V _).drew
  rw [← hX]
  clear hX nc0 nc1 nd0 nd1 nd2 KN m0 m1 m2 m3 mf0 mf1 mf2 mf3
  clear c0 c1 d0 d1 d2
  have KRX := Lib.hid (box_below KR.out HX.out)
  have HBX := Lib.hid (bel_then HB.out HX.out HB.out.size)
  clear K HR
  go_wp2_with (refine wpList_get rfl 48 _ rfl (V.heap.size) 0 rfl KX.out [.int .i64 k, .int .i64 a, .int .i64 b, .int .i64 c] List.take_length Try.underlying48 rfl (by kernel_rfl) ?_)
  refine (opOk_any k a b c _).mono ?_
  rintro e w2 ⟨rfl, hb⟩
  have KR2 := Lib.hid (box_below KRX.out hb)
  have KX2 := Lib.hid (box_below KX.out hb)
  have HB2 := Lib.hid (bel_then HBX.out hb HBX.out.size)
  have HV2 := Lib.hid (bel_then HX.out hb HX.out.size)
  clear hb KRX KX HBX
  cases hq : opB k a b c
  · have HN : Hid (z = false ∧ Y = (0, 0, 0, 0)) := ⟨by rw [HZ.out]; exact hq, by rw [HY.out]; simp [opV, hq]⟩
    clear hq
    go_wp2_with (refine wpList_put rfl rfl 48 _ _ rfl (w.heap.size + 1) 0 [.int .i64 0, .int .i64 0, .int .i64 0, .int .i64 0] rfl rfl KR2.out (by kernel_rfl) [.int .i64 0, .int .i64 0, .int .i64 0, .int .i64 0] rfl (Nat.le_of_ble_eq_true rfl) (one4 _ _ _ _) ?_)
    exact bodyPost_ret (v := .tuple #[.agg [.int .i64 0, .int .i64 0, .int .i64 0, .int .i64 0].toArray, .bool false]) (results_box_tmp Try.results21 _ rfl rfl (row_box KR2.out) Try.underlying48 rfl (by kernel_rfl)) rfl (NO.out HN.out.1 HN.out.2 _ HV2.out)
  · have HN : Hid (z = true ∧ Y = (k, a, b, c)) := ⟨by rw [HZ.out]; exact hq, by rw [HY.out]; simp [opV, hq]⟩
    clear hq
    go_wp2_with (first | (refine wpList_get rfl 48 _ rfl (V.heap.size) 0 rfl KX2.out [.int .i64 k, .int .i64 a, .int .i64 b, .int .i64 c] List.take_length Try.underlying48 rfl (by kernel_rfl) ?_) | (refine wpList_put rfl rfl 48 _ _ rfl (w.heap.size + 1) 0 [.int .i64 k, .int .i64 a, .int .i64 b, .int .i64 c] rfl rfl KR2.out (by kernel_rfl) [.int .i64 k, .int .i64 a, .int .i64 b, .int .i64 c] rfl (Nat.le_of_ble_eq_true rfl) (one4 _ _ _ _) ?_))
    refine bodyPost_ret (v := .tuple #[.agg [.int .i64 k, .int .i64 a, .int .i64 b, .int .i64 c].toArray, .bool true]) (results_box_tmp Try.results21 _ rfl rfl (row_box KR2.out) Try.underlying48 rfl (by kernel_rfl)) rfl ?_
    rw [HN.out.1, HN.out.2]
    exact ⟨rfl, row_below HB2.out (w.heap.size + 1) _ (by omega) HB2.out.size⟩
set_option maxRecDepth 100000 in
set_option maxHeartbeats 3200000 in
theorem specRecordOp_any (k : Int) (A : Option Addr) (n cp : Nat) (zs : List Int) (B : Nat) (w : World) (hr : IsInts w B A n zs) (hB : B ≤ w.heap.size) (hn : n ≤ 1048576) :
    Calls Try.prog 19 #[.agg #[.int .i64 k, .slice A n cp]] w (Says (.tuple #[.agg #[.int .i64 (opV k zs).1, .int .i64 (opV k zs).2.1, .int .i64 (opV k zs).2.2.1, .int .i64 (opV k zs).2.2.2], .bool (opW k zs)]) w) := by
  obtain ⟨Y, hY⟩ : ∃ Y, Y = opV k zs := ⟨_, rfl⟩
  obtain ⟨z, hz⟩ : ∃ z, z = opW k zs := ⟨_, rfl⟩
  rw [← hY, ← hz]
  have HY := Lib.hid hY
  have HZ := Lib.hid hz
  have HL : Hid (zs.length = n) := hr.1
  clear hY hz
  obtain ⟨V, hV⟩ : ∃ V, V = (w.alloc (.cells [.int .i64 k, .slice A n cp].toArray 45)).alloc (.cells [.int .i64 0, .int .i64 0, .int .i64 0, .int .i64 0].toArray 48) := ⟨_, rfl⟩
  have HB : Hid (Below w.heap.size w V) := by rw [hV]; exact bel2 _ _ _
  have K : Hid (V.heap[w.heap.size]? = some (.cells [.int .i64 k, .slice A n cp].toArray 45 (0, 0))) := by rw [hV]; exact box_alloc (box_new w _) _
  have KR : Hid (V.heap[w.heap.size + 1]? = some (.cells [.int .i64 0, .int .i64 0, .int .i64 0, .int .i64 0].toArray 48 (0, 0))) := by rw [hV]; have h := box_new (w.alloc (.cells [.int .i64 k, .slice A n cp].toArray 45)) (.cells [.int .i64 0, .int .i64 0, .int .i64 0, .int .i64 0].toArray 48); simp only [World.size_alloc] at h; exact h
  have HR := Lib.hid (hr.below HB.out hB)
  have hlt : w.heap.size + 1 < V.heap.size := box_lt KR.out
  clear hr
  have NO : Hid (z = false → Y = (0, 0, 0, 0) → ∀ W, Below V.heap.size V W → Says (.tuple #[.agg #[.int .i64 Y.1, .int .i64 Y.2.1, .int .i64 Y.2.2.1, .int .i64 Y.2.2.2], .bool z]) w (.returned (.tuple #[.agg [.int .i64 0, .int .i64 0, .int .i64 0, .int .i64 0].toArray, .bool false])) (W.setRow (w.heap.size + 1) [.int .i64 0, .int .i64 0, .int .i64 0, .int .i64 0].toArray)) := fun h1 h2 W hW => by
    rw [h1, h2]
    have hb := bel_then HB.out hW HB.out.size
    exact ⟨rfl, row_below hb (w.heap.size + 1) _ (by omega) hb.size⟩
  go_enter Try.func19, Try.ntmps19
  go_upto_region 1 with fail
  rw [← hV]
  clear hV
  go_wp2_with (refine wpList_get rfl 45 _ rfl (w.heap.size) 0 rfl K.out [.int .i64 k, .slice A n cp] List.take_length Try.underlying45 rfl (by kernel_rfl) ?_)
  refine (specRecordOk_any k A n cp zs B V HR.out (by omega) hn).mono ?_
  rintro e w2 ⟨rfl, hb⟩
  have KR2 := Lib.hid (box_below KR.out hb)
  have K2 := Lib.hid (box_below K.out hb)
  have HR2 := Lib.hid (HR.out.below hb (by omega))
  have HB2 := Lib.hid (bel_then HB.out hb HB.out.size)
  have HV2 := Lib.hid hb
  clear hb KR K HR
  cases hr : recB k zs
  case false =>
    have HN : Hid (z = false ∧ Y = (0, 0, 0, 0)) := ⟨HZ.out.trans (no_rec hr).2, HY.out.trans (no_rec hr).1⟩
    clear hr
    go_wp2_with (refine wpList_put rfl rfl 48 _ _ rfl (w.heap.size + 1) 0 [.int .i64 0, .int .i64 0, .int .i64 0, .int .i64 0] rfl rfl KR2.out (by kernel_rfl) [.int .i64 0, .int .i64 0, .int .i64 0, .int .i64 0] rfl (Nat.le_of_ble_eq_true rfl) (one4 _ _ _ _) ?_)
    exact bodyPost_ret (v := .tuple #[.agg [.int .i64 0, .int .i64 0, .int .i64 0, .int .i64 0].toArray, .bool false]) (results_box_tmp Try.results19 _ rfl rfl (row_box KR2.out) Try.underlying48 rfl (by kernel_rfl)) rfl (NO.out HN.out.1 HN.out.2 _ HV2.out)
  have HRB := Lib.hid hr
  clear hr
  have c0 : w2.cell? ⟨w.heap.size, 0, none⟩ = some (.int .i64 k) := box_cell K2.out 0 _ rfl
  have c1 : w2.cell? ⟨w.heap.size, 1, none⟩ = some (.slice A n cp) := box_cell K2.out 1 _ rfl
  go_wp2_with fail
  refine (l01In_any _ _ _ _).mono ?_
  rintro e w' ⟨rfl, rfl⟩
  cases hi : inB k 0 2
  case false =>
    have HN : Hid (z = false ∧ Y = (0, 0, 0, 0)) := ⟨HZ.out.trans (no_in hi).2, HY.out.trans (no_in hi).1⟩
    clear hi
    go_wp2_with (refine wpList_put rfl rfl 48 _ _ rfl (w.heap.size + 1) 0 [.int .i64 0, .int .i64 0, .int .i64 0, .int .i64 0] rfl rfl KR2.out (by kernel_rfl) [.int .i64 0, .int .i64 0, .int .i64 0, .int .i64 0] rfl (Nat.le_of_ble_eq_true rfl) (one4 _ _ _ _) ?_)
    exact bodyPost_ret (v := .tuple #[.agg [.int .i64 0, .int .i64 0, .int .i64 0, .int .i64 0].toArray, .bool false]) (results_box_tmp Try.results19 _ rfl rfl (row_box KR2.out) Try.underlying48 rfl (by kernel_rfl)) rfl (NO.out HN.out.1 HN.out.2 _ HV2.out)
  have HIN := Lib.hid hi
  clear hi
  by_cases h3 : n = 3
  case neg =>
    have hq : ((n : Int) != 3) = true := by simp; omega
    have HN : Hid (z = false ∧ Y = (0, 0, 0, 0)) := by have h := op_len (k := k) (zs := zs) (by rw [HL.out]; exact h3); exact ⟨HZ.out.trans h.2, HY.out.trans h.1⟩
    clear h3
    go_wp2_with (refine wpList_put rfl rfl 48 _ _ rfl (w.heap.size + 1) 0 [.int .i64 0, .int .i64 0, .int .i64 0, .int .i64 0] rfl rfl KR2.out (by kernel_rfl) [.int .i64 0, .int .i64 0, .int .i64 0, .int .i64 0] rfl (Nat.le_of_ble_eq_true rfl) (one4 _ _ _ _) ?_)
    exact bodyPost_ret (v := .tuple #[.agg [.int .i64 0, .int .i64 0, .int .i64 0, .int .i64 0].toArray, .bool false]) (results_box_tmp Try.results19 _ rfl rfl (row_box KR2.out) Try.underlying48 rfl (by kernel_rfl)) rfl (NO.out HN.out.1 HN.out.2 _ HV2.out)
  subst h3
  obtain ⟨a, b, c, hz3⟩ := three HL.out
  subst hz3
  have HN : Hid (z = true ∧ Y = (k, a, b, c)) := by
    have h : opB k a b c = true := by rw [opB_rec, HIN.out, HRB.out]; rfl
    exact ⟨by rw [HZ.out]; exact h, by rw [HY.out]; simp [opV, h]⟩
  obtain ⟨g, off, hA, hgB, CE⟩ := HR2.out.2 (by omega)
  subst hA
  have d0 : w2.cell? ⟨g, off, none⟩ = some (.int .i64 a) := CE 0 (by omega)
  have d1 : w2.cell? ⟨g, off + 1, none⟩ = some (.int .i64 b) := CE 1 (by omega)
  have d2 : w2.cell? ⟨g, off + 2, none⟩ = some (.int .i64 c) := CE 2 (by omega)
  clear CE
  have m0 : w2.cell? ⟨w.heap.size + 1, 0, none⟩ = some (.int .i64 0) := box_cell KR2.out 0 _ rfl
  have mf0 := box_frozen KR2.out 0
  have m1 : w2.cell? ⟨w.heap.size + 1, 1, none⟩ = some (.int .i64 0) := box_cell KR2.out 1 _ rfl
  have mf1 := box_frozen KR2.out 1
  have m2 : w2.cell? ⟨w.heap.size + 1, 2, none⟩ = some (.int .i64 0) := box_cell KR2.out 2 _ rfl
  have mf2 := box_frozen KR2.out 2
  have m3 : w2.cell? ⟨w.heap.size + 1, 3, none⟩ = some (.int .i64 0) := box_cell KR2.out 3 _ rfl
  have mf3 := box_frozen KR2.out 3
  go_upto_region 3 with fail
  go_region
  go_wp2
  have KW : Hid (((((w2.setCell ⟨w.heap.size + 1, 0, none⟩ (.int .i64 k)).setCell ⟨w.heap.size + 1, 1, none⟩ (.int .i64 a)).setCell ⟨w.heap.size + 1, 2, none⟩ (.int .i64 b)).setCell ⟨w.heap.size + 1, 3, none⟩ (.int .i64 c)).drew.heap[w.heap.size + 1]? = some (.cells [.int .i64 k, .int .i64 a, .int .i64 b, .int .i64 c].toArray 48 (0, 0))) := set_box (set_box (set_box (set_box KR2.out _) _) _) _
  refine bodyPost_ret (v := .tuple #[.agg [.int .i64 k, .int .i64 a, .int .i64 b, .int .i64 c].toArray, .bool true]) (results_box_tmp Try.results19 _ rfl rfl KW.out Try.underlying48 rfl (by kernel_rfl)) rfl ?_
  rw [HN.out.1, HN.out.2]
  exact ⟨rfl, (Turned.low HB2.out ((((Turned.set (S := fun k => k = w.heap.size + 1) _ _ _ rfl).trans (Turned.set _ _ _ rfl)).trans (Turned.set _ _ _ rfl)).trans (Turned.set _ _ _ rfl)) (fun k hk => by omega) HB2.out.size).drew⟩
end Go.Proofs.Ytklgjjmcflgjeaa.OpR
