/-
  THE CONTRACT of the laws' markRecordS over this seat's translation.
-/
import Derived.Test.YtpghccbknlokcaaDoorRecs
namespace Go.Proofs.YtpghccbknlokcaaDoor.Rec
open Go.ChangeShapes Go.WideShapes Go.ChangeAt Go.RowKit
open Go.Proofs.YtpghccbknlokcaaDoor.Ints Go.Proofs.YtpghccbknlokcaaDoor.Has
set_option linter.unusedVariables false

theorem getD_set_eq {α : Type} (l : List α) (j : Nat) (x d : α) (h : j < l.length) : (l.set j x).getD j d = x := by simp [List.getD, h]
theorem getD_set_ne {α : Type} (l : List α) (i j : Nat) (x d : α) (h : i ≠ j) : (l.set j x).getD i d = l.getD i d := by simp [List.getD, Ne.symm h]
theorem hdV_set (hs : List Hd) (i j : Nat) (k : Int) (h : j < hs.length) : hdV ((hs.set j (k, (hs.getD j hd0).2)).getD i hd0) = hdV (hs.getD i hd0) := by
  by_cases e : i = j
  · subst e; rw [getD_set_eq _ _ _ _ h]; rfl
  · rw [getD_set_ne _ _ _ _ _ e]

theorem OwnRsH.setK {w : World} {base g n c : Nat} {hs : List Hd} {rs : RList} (h : OwnRsH w base (some ⟨g, 0, none⟩) n c hs rs) (j : Nat) (hj : j < n) (k : Int) :
    OwnRsH (w.setCell ⟨g, j * 2, none⟩ (.int .i64 k)) base (some ⟨g, 0, none⟩) n c (hs.set j (k, (hs.getD j hd0).2)) (rs.set j (k, (rs.getD j (0, [])).2)) := by
  obtain ⟨hl, hr, hrow, hjj, hd⟩ := h
  obtain ⟨hs1, hs2⟩ := hrow.stored (j * 2) (.int .i64 k)
  refine ⟨by simp [hl], by simp [hr], ?_, fun i hi => ?_, fun i i' hi hi' hne q hq => ?_⟩
  · rw [← flatH_set hs j k (by omega)]
    exact hs1
  · have hO := (hjj i hi).2.grown hs2 (row_ne (hjj i hi).2.2 hrow (by decide))
    by_cases e : i = j
    · subst e
      rw [getD_set_eq _ _ _ _ (by omega), getD_set_eq _ _ _ _ (by omega)]
      exact ⟨rfl, hO⟩
    · rw [getD_set_ne _ _ _ _ _ e, getD_set_ne _ _ _ _ _ e]
      exact ⟨(hjj i hi).1, hO⟩
  · rw [hdV_set _ _ _ _ (by omega)] at hq ⊢
    exact hd i i' hi hi' hne q hq
theorem OwnRsH.markI {w w' : World} {base n c : Nat} {A : Option Addr} {hs : List Hd} {rs : RList} (h : OwnRsH w base A n c hs rs) (j : Nat) (hj : j < n) (zs : List Int)
    (hO : OwnI w' base (hs.getD j hd0).2.1 (hs.getD j hd0).2.2.1 (hs.getD j hd0).2.2.2 zs) (hg : w.grownBy w' (hdV (hs.getD j hd0)).ownBlock) : OwnRsH w' base A n c hs (rs.set j ((rs.getD j (0, [])).1, zs)) := by
  obtain ⟨hl, hr, hrow, hjj, hd⟩ := h
  refine ⟨hl, by simp [hr], hrow.kept hg (row_ne hrow (hjj j hj).2.2 (by decide)), fun i hi => ?_, hd⟩
  by_cases e : i = j
  · subst e
    rw [getD_set_eq _ _ _ _ (by omega)]
    exact ⟨(hjj i hi).1, hO⟩
  · rw [getD_set_ne _ _ _ _ _ e]
    refine ⟨(hjj i hi).1, (hjj i hi).2.grown hg ?_⟩
    cases hq : (Value.slice (hs.getD i hd0).2.1 (hs.getD i hd0).2.2.1 (hs.getD i hd0).2.2.2).ownBlock with
    | none => exact .inl rfl
    | some q => exact .inr fun e2 => hd i j hi hj e q hq e2.symm

theorem mark_step (k : Int) (rs : RList) (j : Nat) (h : j < rs.length) : ((marksR k rs).take j ++ rs.drop j).set j ((marksR k rs).getD j (0, [])) = (marksR k rs).take (j + 1) ++ rs.drop (j + 1) := by
  have hl := marksR_len rs k
  have hj : ((marksR k rs).take j).length = j := by rw [List.length_take, hl]; omega
  rw [List.set_append_right _ _ (by omega), hj, Nat.sub_self, List.drop_eq_getElem_cons h, List.set_cons_zero, List.take_succ_eq_append_getElem (by omega), List.append_assoc]
  simp [List.getD, show j < (marksR k rs).length by omega]
theorem cur_at (k : Int) (rs : RList) (j : Nat) (h : j < rs.length) : ((marksR k rs).take j ++ rs.drop j).getD j (0, []) = rs.getD j (0, []) := by
  have hl := marksR_len rs k
  have hj : ((marksR k rs).take j).length = j := by rw [List.length_take, hl]; omega
  simp only [List.getD]
  rw [List.getElem?_append_right (by omega), hj, Nat.sub_self]
  simp

set_option maxHeartbeats 3200000 in
theorem markRecordS_any (A : Option Addr) (n c : Nat) (rs : RList) (k : Int) (base : Nat) (w : World) (hO : OwnRs w base A n c rs) (hbase : base ≤ w.heap.size) (hn : n ≤ 1048576) (hk0 : 0 ≤ k) (hk1 : endR k rs ≤ 8000000) (hm : ∀ j, (rs.getD j (0, [])).2.length ≤ 1048576) :
    Calls Tryd.prog 22 #[.slice A n c, .int .i64 k] w fun e w' => e = .returned (.int .i64 (endR k rs)) ∧ OwnRs w' base A n c (marksR k rs) ∧ Below base w w' := by
  have HL : Hid (rs.length = n) := hO.len
  have HO := Lib.hid hO
  have HM := Lib.hid hm
  have HK1 := Lib.hid hk1
  clear hO hm hk1
  go_enter Tryd.func22, Tryd.ntmps22
  go_wp2_with fail
  go_loopw [1, 5] (fun a i wr => ∃ (j : Nat) (x : Int), j ≤ n ∧ a = .int .i64 x ∧ i = .int .i64 j ∧ Hid (x = endR k (rs.take j)) ∧ 0 ≤ x ∧ x ≤ 8000000 ∧ Hid (OwnRs wr base A n c ((marksR k rs).take j ++ rs.drop j)) ∧ Below base w wr ∧ base ≤ wr.heap.size) (fun _ i _ => n - (intOf i).toNat)
  case atStart => exact ⟨0, k, Nat.zero_le _, rfl, rfl, rfl, hk0, by have := HK1.out; have := endR_le rs k; omega, by simpa using HO, Below.refl _ _, hbase⟩
  case round =>
    obtain ⟨j, x, hj, rfl, rfl, HX, hx0, hx1, HI, hbr, hsr⟩ := hrel
    by_cases hlt : j < n
    · have hjl : j < rs.length := by rw [HL.out]; exact hlt
      obtain ⟨hs, hH⟩ := HI.out
      obtain ⟨g, cap, hv, hbg, hgl⟩ := hH.2.2.1.form (by omega)
      obtain rfl : A = some ⟨g, 0, none⟩ := by injection hv
      have hrow := hH.2.2.1
      obtain ⟨m, hm⟩ : ∃ m, (rs.getD j (0, [])).2.length = m := ⟨_, rfl⟩
      have hmb : m ≤ 1048576 := by rw [← hm]; exact HM.out j
      have hK := hH.setK j hlt x
      rw [cur_at k rs j hjl] at hK
      have hjj := (hK.2.2.2.1 j hlt).2
      rw [getD_set_eq _ _ _ _ (by rw [hH.1]; exact hlt), getD_set_eq _ _ _ _ (by rw [hH.2.1]; exact hlt)] at hjj
      obtain ⟨hd, hhd⟩ : ∃ hd, hd = hs.getD j hd0 := ⟨_, rfl⟩
      obtain ⟨kd, A', m', c'⟩ := hd
      rw [← hhd] at hjj
      have hm' : m' = m := by rw [← hm]; exact hjj.1.symm
      subst hm'
      have hu : ∃ u, wr.cell? ⟨g, j * 2, none⟩ = some u := ⟨_, (hrow.cellAt (j * 2) (by omega)).trans (flatH_at hs j (by rw [hH.1]; exact hlt)).1⟩
      obtain ⟨u, hu⟩ := hu
      have hu1 : (wr.setCell ⟨g, j * 2, none⟩ (.int .i64 x)).cell? ⟨g, j * 2 + 1, none⟩ = some (.slice A' m' c') := by
        rw [World.cell?_setCell_other _ _ _ _ (by simp), hrow.cellAt (j * 2 + 1) (by omega), (flatH_at hs j (by rw [hH.1]; exact hlt)).2, ← hhd]
        rfl
      have hfz := hrow.frozenAt (j * 2)
      have HKK := Lib.hid hK
      have HJJ := Lib.hid hjj
      have HX2 : Hid (x + 1 + (m' : Int) = endR k (rs.take (j + 1))) := by show _ = _; rw [endR_step rs j k hjl, hm, ← HX.out]
      have hle : x + 1 + (m' : Int) ≤ 8000000 := by rw [HX2.out]; exact Int.le_trans (endR_take_le _ _ _) HK1.out
      have hb1 : Below base w (wr.setCell ⟨g, j * 2, none⟩ (.int .i64 x)) := hbr.setCell (p := ⟨g, j * 2, none⟩) hbg _
      have hs1 : base ≤ (wr.setCell ⟨g, j * 2, none⟩ (.int .i64 x)).heap.size := by simp [World.setCell]; exact hsr
      have HEQ : Hid ((marksR k rs).getD j (0, []) = (x, marksI (x + 1) m')) := by show _ = _; rw [marksR_at rs j k hjl, hm, ← HX.out]
      have HHD := Lib.hid hhd
      have HSL : Hid (hs.length = n) := hH.1
      have HCL : Hid (((marksR k rs).take j ++ rs.drop j).length = n) := hH.2.1
      clear hv hK hjj hrow hH hhd hm
      go_wp2_with fail
      refine (markIntS_any A' m' c' _ (x + 1) base _ HJJ.out hmb (by omega) (by omega)).mono ?_
      rintro e w2 ⟨rfl, hO2, hg2⟩
      have hfin := HKK.out.markI j hlt (marksI (x + 1) m') (by rw [getD_set_eq _ _ _ _ (by rw [HSL.out]; exact hlt), ← HHD.out]; exact hO2) (by rw [getD_set_eq _ _ _ _ (by rw [HSL.out]; exact hlt), ← HHD.out]; exact hg2)
      rw [getD_set_eq _ _ _ _ (by rw [HCL.out]; exact hlt), List.set_set, ← HEQ.out, mark_step k rs j hjl] at hfin
      have HFIN : Hid (OwnRs w2 base (some ⟨g, 0, none⟩) n c ((marksR k rs).take (j + 1) ++ rs.drop (j + 1))) := ⟨_, hfin⟩
      have hb2 : Below base w w2 := hb1.grown hg2 hs1 (fun q hq => (HJJ.out.lt q hq).1)
      have hs2 : base ≤ w2.heap.size := Nat.le_trans hs1 hg2.size
      clear hO2 hg2 hfin hb1 hs1 hu1
      go_wp2
      go_roundw
      case rel => exact ⟨j + 1, x + 1 + (m' : Int), by omega, by go_num, by go_num, HX2, by omega, hle, HFIN, hb2, hs2⟩
      case measure => simp [intOf]; omega
    · have HJ : Hid (x = endR k rs) := by have h1 := HX.out; rw [List.take_of_length_le (by rw [HL.out]; omega)] at h1; exact h1
      have HF : Hid ((marksR k rs).take j ++ rs.drop j = marksR k rs) := by
        show _ = _
        rw [List.take_of_length_le (by rw [marksR_len, HL.out]; omega), List.drop_eq_nil_of_le (by rw [HL.out]; omega), List.append_nil]
      go_wp2
      go_ret
      refine ⟨by rw [HJ.out]; rfl, ?_, hbr⟩
      have h1 := HI.out
      rw [HF.out] at h1
      exact h1
end Go.Proofs.YtpghccbknlokcaaDoor.Rec
