/-
  COMPACTING: the contracts of the book's compact and of the program's CompactTo over this seat's translation.
-/
import Derived.Test.YtpghccbknlokcaaDoorJourPack
namespace Go.Proofs.YtpghccbknlokcaaDoor.Jour
open Go.ChangeShapes Go.WideShapes Go.ChangeAt Go.RowKit
open Go.Proofs.YtpghccbknlokcaaDoor.Bytes Go.Proofs.YtpghccbknlokcaaDoor.LK
open Go.Proofs.YtpghccbknlokcaaDoor.Rec (RList IsRecs recB frameV frameT frame_t frame_f frame_len frame_in recordOk_any frameRecord_any)
open Go.Proofs.YtpghccbknlokcaaDoor.RecsTy (sty cntR)
set_option linter.unusedVariables false
set_option linter.unusedSimpArgs false

/-- What compact leaves. -/
def BookComp (w : World) (lo pb pf : Nat) (rs : RList) (e : Ending) (w' : World) : Prop :=
  (∃ bs A1 A2 c1 c2, e = .returned (.bool true) ∧ packV [] rs = some bs ∧ Book w' lo pb pf A1 A2 c1 c2 (bs, [], 0) ∧ Turned (fun k => k = pb ∨ k = pf) w w') ∨
  (e = .returned (.bool false) ∧ packV [] rs = none ∧ Below w.heap.size w w')
theorem own_nil (w : World) (lo : Nat) : OwnB w lo none 0 0 [] := ⟨rfl, fun z hz => (List.not_mem_nil hz).elim, World.ownsRow_nil _ _ _ _⟩

theorem mAhead (b : Nat) (w : World) : (nilAhead 248 71 (.pointer (some ⟨b, 0, none⟩)) "loop.example/g00734/impl.write").run Tryd.prog w = .ok (some false) w := by kernel_rfl
set_option maxRecDepth 100000 in
set_option maxHeartbeats 6400000 in
theorem compact_any (w : World) (lo pb pf : Nat) (A1 A2 : Option Addr) (c1 c2 : Nat) (d : JD) (h : Book w lo pb pf A1 A2 c1 c2 d) (hlo : lo ≤ w.heap.size) (hd2 : d.2.1.length ≤ 1048576) (A3 : Option Addr) (p c3 : Nat) (rs : RList) (B' : Nat) (h3 : IsRecs w B' A3 p rs) (hB' : B' ≤ w.heap.size) (hp2 : p ≤ 1048576) (hcn : ∀ j, (rs.getD j (0, [])).2.length ≤ 1048576) :
    Calls Tryd.prog 34 #[.pointer (some ⟨pb, 0, none⟩), .slice A3 p c3] w (BookComp w lo pb pf rs) := by
  obtain ⟨x, y, s⟩ := d
  obtain ⟨n, hn⟩ : ∃ n, n = y.length := ⟨_, rfl⟩
  have H := Lib.hid h
  have KF : Hid (w.heap[pf]? = some (fileO A2 n c2 s)) := by rw [hn]; exact h.hf
  have HNN := Lib.hid hn
  have hn3 : n ≤ 1048576 := by rw [hn]; exact hd2
  have H3 := Lib.hid h3
  have HCN := Lib.hid hcn
  have HP : Hid (rs.length = p) := h3.1
  have hpl : pb < w.heap.size := box_lt h.hb
  have hfl : pf < w.heap.size := box_lt h.hf
  clear h h3 hcn hn hd2
  have m1 := mHeld
  have m2 := mWrite
  have m3 := mCut
  have m4 := mAhead w.heap.size
  go_enter Tryd.func34, Tryd.ntmps34
  go_wp2_with fail
  go_loopw [13] (fun i wr => ∃ (j : Nat) (A : Option Addr) (q c : Nat) (acc : List Int), j ≤ p ∧ i = .int .i64 j ∧ q ≤ 3000 ∧ Hid (packV [] rs = packV acc (rs.drop j)) ∧ Hid (wr.heap[w.heap.size]? = some (fileO A q c 0)) ∧ Hid (OwnB wr w.heap.size A q c acc) ∧ Hid (Below w.heap.size w wr)) (fun i _ => p - (intOf i).toNat)
  case atStart => exact ⟨0, none, 0, 0, [], Nat.zero_le _, rfl, by omega, rfl, box_new _ _, own_nil _ _, bel1 _ _⟩
  case round =>
    obtain ⟨j, A, q, c, acc, hjp, rfl, hq3, HPK, KS, HO, HB⟩ := hrel
    have hsl : w.heap.size < wr.heap.size := box_lt KS.out
    by_cases hlt : j < p
    · have hjl : j < rs.length := by rw [HP.out]; exact hlt
      obtain ⟨b, off, A', c', kd, zs, rfl, hbB, hz, hc1, hc2, hI⟩ := (H3.out.below HB.out hB').at_ hlt
      have hzl : zs.length ≤ 1048576 := by have h5 := HCN.out j; rw [← hz] at h5; exact h5
      have HST := Lib.hid (pack_at acc hjl hz)
      have HI := Lib.hid hI
      have HAL : Hid (acc.length = q) := HO.out.1
      obtain ⟨u, hu⟩ : ∃ u, u = zs.length := ⟨_, rfl⟩
      rw [← hu] at hc2 hzl HI
      clear hz hI hu
      go_wp2_with fail
      obtain ⟨V, hV⟩ : ∃ V, V = wr.alloc (.cells #[.int .i64 kd, .slice A' u c'] 30) := ⟨_, rfl⟩
      have KR : Hid (V.heap[wr.heap.size]? = some (.cells #[.int .i64 kd, .slice A' u c'] 30)) := by rw [hV]; exact box_new _ _
      have hbV : Below wr.heap.size wr V := by rw [hV]; exact bel1 _ _
      have KSV := Lib.hid (box_below KS.out hbV)
      have HOV := Lib.hid (HO.out.below hbV)
      have HBV := Lib.hid (bel_then HB.out hbV HB.out.size)
      have HIV := Lib.hid (HI.out.below hbV (by have := HB.out.size; omega))
      have hsV : wr.heap.size < V.heap.size := box_lt KR.out
      rw [← hV]
      obtain ⟨a0, a1, _, _⟩ := box2 KR.out
      clear hV hbV hc1 hc2
      cases hrb : recB kd zs
      · have HRB := Lib.hid hrb
        have HNO : Hid (packV [] rs = none) := by
          show _ = _
          rw [HPK.out, HST.out, hrb]
          rfl
        clear hrb
        refine wp_region_held_drew (S := fun w' => w'.cell? ⟨wr.heap.size, 0, none⟩ = some (.int .i64 kd) ∧ w'.cell? ⟨wr.heap.size, 1, none⟩ = some (.slice A' u c')) (by kernel_rfl) ⟨a0, a1⟩ (fun hHeld => ?_)
        refine wpAnyH_take (i := 0) (v := ?v1) rfl (by kernel_rfl) (by kernel_rfl) (by kernel_rfl) (fun _ _ _ h => h) (Or.inl ⟨by rfl, ?hy1⟩) (by assumption) ?_
        case hy1 => (intro w0 hSw; (try dsimp only at hSw); go_simp <;> with_reducible rfl)
        try simp only [Act.put, List.getElem_toArray, List.getElem_cons_zero, List.getElem_cons_succ, List.setIfInBounds_toArray, List.set_cons_zero, List.set_cons_succ]
        refine wpAnyH_ready (rs := [1]) (by kernel_rfl) (by simp) (AllReadyH.cons rfl (fun K hK => ?_) AllReadyH.nil)
        go_simp
        refine (recordOk_any kd A' u c' zs B' _ (by exact HIV.out.below (w' := V.drew) (C := V.heap.size) (Below.refl _ _).drew (by have := HBV.out.size; omega)) (by exact Nat.le_trans hB' HBV.out.size) hzl).mono ?_
        rintro e w2 ⟨rfl, hb2⟩
        rw [HRB.out]
        have hb2' : Below V.heap.size V w2 := undrew hb2
        obtain ⟨g0, g1, _, _⟩ := box2 (box_below KR.out hb2')
        clear hHeld
        refine hK.out _ _ (by exact ⟨g0, g1⟩) (fun hHeld => ?_)
        clear hK K
        try simp only [Act.put, List.getElem_toArray, List.getElem_cons_zero, List.getElem_cons_succ, List.setIfInBounds_toArray, List.set_cons_zero, List.set_cons_succ]
        refine wpAnyH_take (i := 2) (v := ?v3) rfl (by kernel_rfl) (by kernel_rfl) (by kernel_rfl) (fun _ _ _ h => h) (Or.inl ⟨by rfl, ?hy3⟩) (by assumption) ?_
        case hy3 => (intro w0 hSw; (try dsimp only at hSw); go_simp <;> with_reducible rfl)
        try simp only [Act.put, List.getElem_toArray, List.getElem_cons_zero, List.getElem_cons_succ, List.setIfInBounds_toArray, List.set_cons_zero, List.set_cons_succ]
        refine wpAnyH_take (i := 3) (v := ?v4) rfl (by kernel_rfl) (by kernel_rfl) (by kernel_rfl) (fun _ _ _ h => h) (Or.inl ⟨by rfl, ?hy4⟩) (by assumption) ?_
        case hy4 => (intro w0 hSw; (try dsimp only at hSw); go_simp <;> with_reducible rfl)
        try simp only [Act.put, List.getElem_toArray, List.getElem_cons_zero, List.getElem_cons_succ, List.setIfInBounds_toArray, List.set_cons_zero, List.set_cons_succ]
        refine wpAnyH_take (i := 4) (v := undef) rfl (by kernel_rfl) (by kernel_rfl) (by kernel_rfl) (fun _ _ _ h => h) (Or.inr ⟨by rfl, rfl⟩) (by assumption) ?_
        try simp only [Act.put, List.getElem_toArray, List.getElem_cons_zero, List.getElem_cons_succ, List.setIfInBounds_toArray, List.set_cons_zero, List.set_cons_succ]
        refine wpAnyH_take (i := 5) (v := undef) rfl (by kernel_rfl) (by kernel_rfl) (by kernel_rfl) (fun _ _ _ h => h) (Or.inr ⟨by rfl, rfl⟩) (by assumption) ?_
        try simp only [Act.put, List.getElem_toArray, List.getElem_cons_zero, List.getElem_cons_succ, List.setIfInBounds_toArray, List.set_cons_zero, List.set_cons_succ]
        refine wpAnyH_take (i := 6) (v := undef) rfl (by kernel_rfl) (by kernel_rfl) (by kernel_rfl) (fun _ _ _ h => h) (Or.inr ⟨by rfl, rfl⟩) (by assumption) ?_
        try simp only [Act.put, List.getElem_toArray, List.getElem_cons_zero, List.getElem_cons_succ, List.setIfInBounds_toArray, List.set_cons_zero, List.set_cons_succ]
        refine wpAnyH_take (i := 7) (v := undef) rfl (by kernel_rfl) (by kernel_rfl) (by kernel_rfl) (fun _ _ _ h => h) (Or.inr ⟨by rfl, rfl⟩) (by assumption) ?_
        try simp only [Act.put, List.getElem_toArray, List.getElem_cons_zero, List.getElem_cons_succ, List.setIfInBounds_toArray, List.set_cons_zero, List.set_cons_succ]
        refine wpAnyH_take (i := 8) (v := undef) rfl (by kernel_rfl) (by kernel_rfl) (by kernel_rfl) (fun _ _ _ h => h) (Or.inr ⟨by rfl, rfl⟩) (by assumption) ?_
        try simp only [Act.put, List.getElem_toArray, List.getElem_cons_zero, List.getElem_cons_succ, List.setIfInBounds_toArray, List.set_cons_zero, List.set_cons_succ]
        refine wpAnyH_take (i := 9) (v := undef) rfl (by kernel_rfl) (by kernel_rfl) (by kernel_rfl) (fun _ _ _ h => h) (Or.inr ⟨by rfl, rfl⟩) (by assumption) ?_
        try simp only [Act.put, List.getElem_toArray, List.getElem_cons_zero, List.getElem_cons_succ, List.setIfInBounds_toArray, List.set_cons_zero, List.set_cons_succ]
        refine wpAnyH_take (i := 10) (v := undef) rfl (by kernel_rfl) (by kernel_rfl) (by kernel_rfl) (fun _ _ _ h => h) (Or.inr ⟨by rfl, rfl⟩) (by assumption) ?_
        try simp only [Act.put, List.getElem_toArray, List.getElem_cons_zero, List.getElem_cons_succ, List.setIfInBounds_toArray, List.set_cons_zero, List.set_cons_succ]
        refine wpAnyH_take (i := 11) (v := undef) rfl (by kernel_rfl) (by kernel_rfl) (by kernel_rfl) (fun _ _ _ h => h) (Or.inr ⟨by rfl, rfl⟩) (by assumption) ?_
        try simp only [Act.put, List.getElem_toArray, List.getElem_cons_zero, List.getElem_cons_succ, List.setIfInBounds_toArray, List.set_cons_zero, List.set_cons_succ]
        refine wpAnyH_take (i := 12) (v := ?v13) rfl (by kernel_rfl) (by kernel_rfl) (by kernel_rfl) (fun _ _ _ h => h) (Or.inl ⟨by rfl, ?hy13⟩) (by assumption) ?_
        case hy13 => (intro w0 hSw; (try dsimp only at hSw); go_simp <;> with_reducible rfl)
        try simp only [Act.put, List.getElem_toArray, List.getElem_cons_zero, List.getElem_cons_succ, List.setIfInBounds_toArray, List.set_cons_zero, List.set_cons_succ]
        refine wpAnyH_done (by kernel_rfl) ?_ _
        have HB2 := Lib.hid (bel_then HBV.out hb2' HBV.out.size)
        clear hb2 hb2' g0 g1 a0 a1
        go_wp2
        go_ret
        exact .inr ⟨rfl, HNO.out, HB2.out⟩
      · have HRB := Lib.hid hrb
        obtain ⟨F, hFd⟩ : ∃ F, F = frameV kd zs := ⟨_, rfl⟩
        have hF76 : F.length ≤ 76 := by rw [hFd]; exact frame_len kd zs
        have hF0 : 0 < F.length := by rw [hFd]; exact frame_pos hrb
        have HFD := Lib.hid hFd
        clear hrb hFd
        by_cases hfit : q + F.length ≤ 3000
        · have HNX : Hid (packV [] rs = packV (acc ++ F) (rs.drop (j + 1))) := by
            show _ = _
            have h6 := HAL.out
            rw [HPK.out, HST.out, HRB.out, ← HFD.out]
            simp only [Bool.true_and]
            rw [if_pos (by simp; omega)]
          go_region_held3 (fun w' => w'.cell? ⟨wr.heap.size, 0, none⟩ = some (.int .i64 kd) ∧ w'.cell? ⟨wr.heap.size, 1, none⟩ = some (.slice A' u c'))
            (first | exact ⟨a0, a1⟩ | exact ⟨k0, k1⟩ | exact ⟨i0, i1⟩ | exact ⟨g0, g1⟩ | (go_keep; done))
            (first
              | (have hgo := hb3; clear hgo; go_at_call 87; refine (write_yes w.heap.size w.heap.size A q c 0 D dn dc acc F w3.heap.size _ (by exact KS3.out) (by exact KO3.out) (by exact HD.out.bytes) (by omega) (by omega) (by exact HS3.out)).mono ?_; rintro e w4 ⟨g, cc4, rfl, hf4, ho4, hat4, ht4⟩; have HT4 : Hid (Turned (fun k => k = w.heap.size ∨ (Value.slice A q c).ownBlock = some k) w3 w4) := ht4; obtain ⟨k0, k1, _, _⟩ := box2 (box_turned R3.out ht4 (by rintro (e | e) <;> first | omega | (have h9 := (HO.out.lt _ e).2; omega))); have KS4 := Lib.hid hf4; have KO4 := Lib.hid ho4; clear hf4 ho4 hat4 ht4)
              | (have hgo := hb2'; clear hgo; go_at_call 26; refine (frameRecord_any kd A' u c' zs B' _ (by exact HIV.out.below hb2' (by have := HBV.out.size; omega)) (by exact Nat.le_trans hB' HB2.out.size) hzl).mono ?_; rintro e w3 ⟨D, dn, dc, rfl, hD, hb3⟩; rw [← HFD.out] at hD; have HD := Lib.hid hD; have hdn : F.length = dn := hD.1; have HB3 := Lib.hid (bel_then HB2.out hb3 HB2.out.size); have R3 := Lib.hid (box_below (box_below KR.out hb2') hb3); obtain ⟨i0, i1, _, _⟩ := box2 R3.out; have KS3 := Lib.hid (box_below (box_below KSV.out hb2') hb3); have KO3 := Lib.hid ((HOV.out.below hb2').below hb3); have HS3 : Hid (w.heap.size ≤ w3.heap.size) := HB3.out.size; clear hD)
              | (go_at_call 25; refine (recordOk_any kd A' u c' zs B' _ (by exact HIV.out.below (w' := V.drew) (C := V.heap.size) (Below.refl _ _).drew (by have := HBV.out.size; omega)) (by exact Nat.le_trans hB' HBV.out.size) hzl).mono ?_; rintro e w2 ⟨rfl, hb2⟩; rw [HRB.out]; have hb2' : Below V.heap.size V w2 := undrew hb2; obtain ⟨g0, g1, _, _⟩ := box2 (box_below KR.out hb2'); have HB2 := Lib.hid (bel_then HBV.out hb2' HBV.out.size); clear hb2))
          all_goals
            have HB4 : Hid (Below w.heap.size w w4) := Turned.low HB3.out HT4.out (by rintro k (rfl | e) <;> first | exact Nat.le_refl _ | exact (HO.out.lt _ e).1) HB3.out.size
            go_wp2
            go_roundw
            case rel => exact ⟨j + 1, some ⟨g, 0, none⟩, q + dn, cc4, acc ++ F, by omega, by go_num, by omega, HNX, KS4, KO4, HB4⟩
            case measure => simp [intOf]; omega
        · have HNO : Hid (packV [] rs = none) := by
            show _ = _
            have h6 := HAL.out
            rw [HPK.out, HST.out, HRB.out, ← HFD.out]
            simp only [Bool.true_and]
            rw [if_neg (by simp; omega)]
          go_region_held3 (fun w' => w'.cell? ⟨wr.heap.size, 0, none⟩ = some (.int .i64 kd) ∧ w'.cell? ⟨wr.heap.size, 1, none⟩ = some (.slice A' u c'))
            (first | exact ⟨a0, a1⟩ | exact ⟨i0, i1⟩ | exact ⟨g0, g1⟩ | (go_keep; done))
            (first
              | (have hgo := hb3; clear hgo; go_at_call 87; refine (write_no w.heap.size A q c 0 D dn dc _ (by exact KS3.out) (by omega) (by omega) (by omega)).mono ?_; rintro e w4 ⟨rfl, rfl⟩)
              | (have hgo := hb2'; clear hgo; go_at_call 26; refine (frameRecord_any kd A' u c' zs B' _ (by exact HIV.out.below hb2' (by have := HBV.out.size; omega)) (by exact Nat.le_trans hB' HB2.out.size) hzl).mono ?_; rintro e w3 ⟨D, dn, dc, rfl, hD, hb3⟩; rw [← HFD.out] at hD; have hdn : F.length = dn := hD.1; have HB3 := Lib.hid (bel_then HB2.out hb3 HB2.out.size); have R3 := Lib.hid (box_below (box_below KR.out hb2') hb3); obtain ⟨i0, i1, _, _⟩ := box2 R3.out; have KS3 := Lib.hid (box_below (box_below KSV.out hb2') hb3); clear hD)
              | (go_at_call 25; refine (recordOk_any kd A' u c' zs B' _ (by exact HIV.out.below (w' := V.drew) (C := V.heap.size) (Below.refl _ _).drew (by have := HBV.out.size; omega)) (by exact Nat.le_trans hB' HBV.out.size) hzl).mono ?_; rintro e w2 ⟨rfl, hb2⟩; rw [HRB.out]; have hb2' : Below V.heap.size V w2 := undrew hb2; obtain ⟨g0, g1, _, _⟩ := box2 (box_below KR.out hb2'); have HB2 := Lib.hid (bel_then HBV.out hb2' HBV.out.size); clear hb2))
          all_goals
            go_wp2
            go_ret
            exact .inr ⟨rfl, HNO.out, HB3.out⟩
    · have HYES : Hid (packV [] rs = some acc) := by
        show _ = _
        rw [HPK.out, List.drop_eq_nil_of_le (by rw [HP.out]; omega)]
        rfl
      have kb := box_below H.out.hb HB.out
      obtain ⟨b0, b1, f0, f1⟩ := box2 kb
      have KB := Lib.hid kb
      have hpr : pb < wr.heap.size := by omega
      clear kb
      go_wp2_with fail
      refine (held_any w.heap.size A q c 0 wr KS.out).mono ?_
      rintro e w2 ⟨rfl, rfl⟩
      go_wp2_with fail
      obtain ⟨V, hV⟩ : ∃ V, V = w2.setCell ⟨pb, 1, none⟩ (.slice A q c) := ⟨_, rfl⟩
      have hsV : V.heap.size = w2.heap.size := by rw [hV]; simp [World.setCell]
      have HSV := Lib.hid hsV
      have hne := H.out.ne
      have KFV : Hid (V.heap[pf]? = some (fileO A2 n c2 s)) := by rw [hV]; exact box_other (box_below KF.out HB.out) _ _ (by show pf ≠ pb; exact Ne.symm hne)
      have KBV : Hid (V.heap[pb]? = some (.cells #[.iface 71 (fp pf), .slice A q c] 57)) := by rw [hV]; exact box_set (i := 1) KB.out _
      have HTV : Hid (Turned (fun k => k = pb ∨ k = pf) w V) := by rw [hV]; exact (Turned.of_below HB.out).trans (Turned.set _ _ _ (.inl rfl))
      have HBYV : Hid (IsBytes V w.heap.size A2 n y) := by
        rw [hV, HNN.out]
        exact own_bytes (own_same (H.out.o2.below HB.out) (fun k hk => Below.heap_setCell _ _ _ _ (H.out.n2 k hk).1)) (fun k hk => (H.out.o2.lt k hk).2)
      have HOV : Hid (OwnB V w.heap.size A q c acc) := by
        rw [hV]
        exact own_same HO.out (fun k hk => Below.heap_setCell _ _ _ _ (by have := (HO.out.lt k hk).1; show k ≠ pb; omega))
      rw [← hV]
      obtain ⟨b0', b1', _, _⟩ := box2 KBV.out
      clear hV hsV b0 b1 f0 f1
      refine (cut_any pf A2 n c2 s y w.heap.size 0 V KFV.out HBYV.out (by have := HSV.out; omega) hn3 (Nat.zero_le _)).mono ?_
      rintro e w3 ⟨A9, rfl, hf3, ho3, ht3⟩
      have HBK : Hid (Book w3 lo pb pf A A9 c 0 (acc, [], 0)) := by
        have hl : acc.length = q := HO.out.1
        refine ⟨?_, hf3, ?_, own_base ho3 (fun k hk => ?_), fun k hk e => ?_, H.out.lb, H.out.lf⟩
        · show _ = some (Obj.cells #[.iface 71 (fp pf), .slice A acc.length c] _ _)
          rw [hl]
          exact box_turned KBV.out ht3 hne
        · show OwnB w3 lo A acc.length c acc
          rw [hl]
          exact own_base (own_same HOV.out (fun k hk => ht3.block k (HOV.out.lt k hk).2 (fun e => by have := (HOV.out.lt k hk).1; omega))) (fun k hk => by have := (HOV.out.lt k hk).1; omega)
        · have := (ho3.lt k hk).1
          have := HSV.out
          omega
        · have h5 := (HOV.out.lt k ((ob A _ _ _ _).trans hk)).2
          have h6 := (ho3.lt k e).1
          omega
      have HT3 : Hid (Turned (fun k => k = pb ∨ k = pf) w w3) := HTV.out.trans (ht3.wide fun k hk => .inr hk)
      clear hf3 ho3 ht3
      go_wp2
      go_ret
      exact .inl ⟨acc, A, A9, c, 0, rfl, HYES.out, HBK.out, HT3.out⟩

set_option maxRecDepth 100000 in
set_option maxHeartbeats 6400000 in
theorem compactTo_any (w : World) (B B' : Nat) (v v' : Value) (d : JD) (rs : RList) (hr : JRd w B v d) (hB : B ≤ w.heap.size) (hq : RecsTy.SRd w B' v' rs) (hB' : B' ≤ w.heap.size) (hf : jty.Few d) (hg : sty.Few rs) :
    Calls Tryd.prog 13 #[v, v'] w (Made1 jty (compD d rs) (.bool (compB d rs)) w) := by
  have hr0 := hr
  obtain ⟨x, y, s⟩ := d
  obtain ⟨A1, c1, A2, c2, rfl, h1, h2⟩ := hr
  obtain ⟨A3, c3, rfl, h3⟩ := hq
  have hg : cntR rs ≤ 1048576 := hg
  have HR := Lib.hid hr0
  have HF := Lib.hid hf
  have H3 := Lib.hid h3
  have HCN : Hid (∀ j, (rs.getD j (0, [])).2.length ≤ 1048576) := fun j => Nat.le_trans (RecsTy.cnt_at rs j) hg
  have hp2 : rs.length ≤ 1048576 := Nat.le_trans (RecsTy.cnt_len rs) hg
  have HY : Hid (y.length ≤ 1048576) := by have : x.length + y.length ≤ 1048576 := hf; show _ ≤ _; omega
  obtain ⟨m, hm⟩ : ∃ m, m = (x, y, s).1.length := ⟨_, rfl⟩
  obtain ⟨n, hn⟩ : ∃ n, n = (x, y, s).2.1.length := ⟨_, rfl⟩
  obtain ⟨p, hp⟩ : ∃ p, p = rs.length := ⟨_, rfl⟩
  rw [← hm, ← hn] at HR ⊢
  rw [← hp] at H3 hp2 ⊢
  clear hr0 h1 h2 h3 hf hg hm hn hp
  go_enter Tryd.func13, Tryd.ntmps13
  go_wp2_with fail
  refine (bookOf_any _ B _ (x, y, s) (jty.rd_below HR.out (bel2 _ _ _) hB) (by simp; omega) HF.out).mono ?_
  intro e w1 hbk
  have hb : Below ((w.alloc (.cells #[.slice A1 m c1, .slice A2 n c2, .int .i64 s] 25)).alloc (.cells #[.slice none 0 0, .slice none 0 0, .int .i64 0] 25)).heap.size ((w.alloc (.cells #[.slice A1 m c1, .slice A2 n c2, .int .i64 s] 25)).alloc (.cells #[.slice none 0 0, .slice none 0 0, .int .i64 0] 25)) w1 := by
    rcases hbk with ⟨_, _, h⟩ | ⟨_, _, _, _, _, _, _, _, _, h⟩ <;> exact h
  have q0 : w1.heap[w.heap.size]? = some (.cells #[.slice A1 m c1, .slice A2 n c2, .int .i64 s] 25) := box_below (box_alloc (box_new _ _) _) hb
  have q1 : w1.heap[w.heap.size + 1]? = some (.cells #[.slice none 0 0, .slice none 0 0, .int .i64 0] 25) := box_below (by have h := box_new (w.alloc (.cells #[.slice A1 m c1, .slice A2 n c2, .int .i64 s] 25)) (.cells #[.slice none 0 0, .slice none 0 0, .int .i64 0] 25); simpa using h) hb
  have HB1 : Hid (Below w.heap.size w w1) := bel_then (bel2 _ _ _) hb (by simp; omega)
  have hs1 : w.heap.size + 1 < w1.heap.size := box_lt q1
  have Q0 := Lib.hid q0
  have Q1 := Lib.hid q1
  have hbk2 : (jok (x, y, s) = false ∧ e = .returned (.tuple #[.pointer none, .bool false])) ∨ (jok (x, y, s) = true ∧ ∃ pb pf C1 C2 e1 e2, e = .returned (.tuple #[.pointer (some ⟨pb, 0, none⟩), .bool true]) ∧ Book w1 (w.heap.size + 1 + 1) pb pf C1 C2 e1 e2 (x, y, s)) := by
    rcases hbk with ⟨h1, h2, _⟩ | ⟨h1, pb, pf, C1, C2, e1, e2, h2, h3, _⟩
    · exact .inl ⟨h1, h2⟩
    · exact .inr ⟨h1, pb, pf, C1, C2, e1, e2, h2, by simpa using h3⟩
  clear hbk hb q0 q1
  rcases hbk2 with ⟨hj, rfl⟩ | ⟨hj, pb, pf, C1, C2, e1, e2, rfl, hk⟩
  · have HJ := Lib.hid hj
    obtain ⟨p0, p1, p2, _⟩ := box3 Q0.out
    clear hj
    go_wp2_with fail
    refine (sameJournal_any _ B _ (x, y, s) (jty.rd_below HR.out HB1.out hB) (Nat.le_trans hB HB1.out.size) HF.out).mono ?_
    rintro e w2 ⟨v2, S2, rfl, hO2, hb2⟩
    obtain ⟨D1, n1, d1, D2, n2, d2, s2, rfl⟩ := shape hO2
    obtain ⟨r0, r1, r2, f0, f1, f2⟩ := box3 (box_below Q1.out hb2)
    have HO2 := Lib.hid hO2
    have HI2 : Hid (∀ k, S2 k → w1.heap.size ≤ k) := fun k hk => (hO2.inn k hk).1
    have HB2 := Lib.hid (bel_then HB1.out hb2 HB1.out.size)
    have hs2 : w1.heap.size ≤ w2.heap.size := hb2.size
    clear hb2 hO2
    go_wp2
    refine bodyPost_ret (v := .tuple #[.agg #[.slice D1 n1 d1, .slice D2 n2 d2, .int .i64 s2], .bool false]) (by simp [results, Tryd.results13, go_sem, r0, r1, r2]) rfl ?_
    rw [(comp_1 HJ.out).1, (comp_1 HJ.out).2]
    exact made1_of HO2.out HB2.out (sets3 (S := fun k => k = w.heap.size + 1) rfl rfl rfl) (by omega) (fun k hk => by omega) (fun k hk e => by have := HI2.out k hk; omega)
  · have HJ := Lib.hid hj
    have HK := Lib.hid hk
    have hlb : w.heap.size + 1 + 1 ≤ pb := hk.lb
    have hlf : w.heap.size + 1 + 1 ≤ pf := hk.lf
    clear hj hk
    go_wp2_with fail
    refine (compact_any w1 (w.heap.size + 1 + 1) pb pf C1 C2 e1 e2 (x, y, s) HK.out (by omega) HY.out A3 p c3 rs B' (H3.out.below HB1.out hB') (Nat.le_trans hB' HB1.out.size) hp2 HCN.out).mono ?_
    rintro e w2 (⟨bs, A4, A5, c4, c5, rfl, hpk, hk2, ht2⟩ | ⟨rfl, hpk, hb2⟩)
    · have HPK := Lib.hid hpk
      have HK2 := Lib.hid hk2
      have KV1 := Lib.hid (box_turned Q1.out ht2 (by rintro (e | e) <;> omega))
      have hs2 : w1.heap.size ≤ w2.heap.size := ht2.size
      have HBV : Hid (Below w.heap.size w w2) := Turned.low HB1.out ht2 (by rintro k (rfl | rfl) <;> omega) HB1.out.size
      clear hpk hk2 ht2
      go_wp2_with fail
      refine (journal_any w2 _ pb pf A4 A5 c4 c5 _ HK2.out (by omega)).mono ?_
      rintro e w3 ⟨v3, rfl, hO3, hb3⟩
      obtain ⟨D1, n1, d1, D2, n2, d2, s2, rfl⟩ := shape hO3
      obtain ⟨r0, r1, r2, f0, f1, f2⟩ := box3 (box_below KV1.out hb3)
      have HO3 := Lib.hid hO3
      have HB3 := Lib.hid (bel_then HBV.out hb3 HBV.out.size)
      clear hb3 hO3
      go_wp2
      refine bodyPost_ret (v := .tuple #[.agg #[.slice D1 n1 d1, .slice D2 n2 d2, .int .i64 s2], .bool true]) (by simp [results, Tryd.results13, go_sem, r0, r1, r2]) rfl ?_
      rw [(comp_3 HJ.out HPK.out).1, (comp_3 HJ.out HPK.out).2]
      exact made1_of HO3.out HB3.out (sets3 (S := fun k => k = w.heap.size + 1) rfl rfl rfl) (by omega) (fun k hk => by omega) (fun k hk e => by have := hk.1; omega)
    · have HPK := Lib.hid hpk
      have K0 := Lib.hid (box_below Q0.out hb2)
      have K1 := Lib.hid (box_below Q1.out hb2)
      have HBV := Lib.hid (bel_then HB1.out hb2 HB1.out.size)
      have hs2 : w1.heap.size ≤ w2.heap.size := hb2.size
      obtain ⟨p0, p1, p2, _⟩ := box3 K0.out
      clear hpk hb2
      go_wp2_with fail
      refine (sameJournal_any _ B _ (x, y, s) (jty.rd_below HR.out HBV.out hB) (Nat.le_trans hB HBV.out.size) HF.out).mono ?_
      rintro e w3 ⟨v2, S2, rfl, hO2, hb3⟩
      obtain ⟨D1, n1, d1, D2, n2, d2, s2, rfl⟩ := shape hO2
      obtain ⟨r0, r1, r2, f0, f1, f2⟩ := box3 (box_below K1.out hb3)
      have HO2 := Lib.hid hO2
      have HI2 : Hid (∀ k, S2 k → w2.heap.size ≤ k) := fun k hk => (hO2.inn k hk).1
      have HB2 := Lib.hid (bel_then HBV.out hb3 HBV.out.size)
      have hs3 : w2.heap.size ≤ w3.heap.size := hb3.size
      clear hb3 hO2
      go_wp2
      refine bodyPost_ret (v := .tuple #[.agg #[.slice D1 n1 d1, .slice D2 n2 d2, .int .i64 s2], .bool false]) (by simp [results, Tryd.results13, go_sem, r0, r1, r2]) rfl ?_
      rw [(comp_2 HPK.out).1, (comp_2 HPK.out).2]
      exact made1_of HO2.out HB2.out (sets3 (S := fun k => k = w.heap.size + 1) rfl rfl rfl) (by omega) (fun k hk => by omega) (fun k hk e => by have := HI2.out k hk; omega)
end Go.Proofs.YtpghccbknlokcaaDoor.Jour
