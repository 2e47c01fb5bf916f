import Derived.BigQuiet
import Derived.Deep.AppendLies
import Derived.Deep.QuietTactic
import Derived.Deep.RegionHeld3
import Derived.Deep.RegionLaw
import Derived.Ground.GgzProg
import Derived.Ground.SlgmProg
import Derived.Ground.SlgnProg
import Derived.Ground.SlgqProg
import Derived.Laws.StructEq
import Derived.Maps.RangeWalk
import Derived.Shelf.SlIterI.Nil
import Derived.Shelf.SlicesE.Clone
import Derived.Shelf.SlicesQ.Equal
import Derived.Shelf.SortM.Plain
import Derived.Shelf.SortM.SortNone
import Derived.StillTailTactics
import Derived.Test.YtklgjjmcflgjeaaGreatDoorProg
import Derived.Test.YtklgjjmcflgjeaaGreatDoorQ
import Derived.Test.YtklgjjmcflgjeaaGreatDoorC00
import Derived.Test.YtklgjjmcflgjeaaGreatDoorC02
import Derived.Test.YtklgjjmcflgjeaaGreatDoorC15
set_option linter.unusedVariables false
set_option linter.unusedSimpArgs false
namespace Go.Proofs.YtklgjjmcflgjeaaGreatDoor.Jour
open Go.ChangeShapes Go.WideShapes Go.ChangeAt Go.RowKit
open Bytes LK
open Rec (RList IsRecs recB frameV frameT frame_t frame_f frame_len frame_in recordOk_any frameRecord_any)
open RecsTy (sty cntR)
def BookComp (w : World) (lo pb pf : Nat) (rs : RList) (e : Ending) (w' : World) : Prop :=
  (∃ bs A1 A2 c1 c2, e = .returned (.bool true) ∧ packV [] rs = some bs ∧ Book w' lo pb pf A1 A2 c1 c2 (bs, [], 0) ∧ Turned (fun k => k = pb ∨ k = pf) w w') ∨
  (e = .returned (.bool false) ∧ packV [] rs = none ∧ Below w.heap.size w w')
theorem own_nil (w : World) (lo : Nat) : OwnB w lo none 0 0 [] := ⟨rfl, fun z hz => (List.not_mem_nil hz).elim, World.ownsRow_nil _ _ _ _⟩
theorem mAhead (b : Nat) (w : World) : (nilAhead 540 207 (.pointer (some ⟨b, 0, none⟩)) "loop.example/g00734/impl.write").run Tryz.prog w = .ok (some false) w := by kernel_rfl
set_option maxRecDepth 100000 in
set_option maxHeartbeats 6400000 in
theorem compact_any (w : World) (lo pb pf : Nat) (A1 A2 : Option Addr) (c1 c2 : Nat) (d : JD) (h : Book w lo pb pf A1 A2 c1 c2 d) (hlo : lo ≤ w.heap.size) (hd2 : d.2.1.length ≤ 1048576) (A3 : Option Addr) (p c3 : Nat) (rs : RList) (B' : Nat) (h3 : IsRecs w B' A3 p rs) (hB' : B' ≤ w.heap.size) (hp2 : p ≤ 1048576) (hcn : ∀ j, (rs.getD j (0, [])).2.length ≤ 1048576) :
    Calls Tryz.prog 116 #[.pointer (some ⟨pb, 0, none⟩), .slice A3 p c3] w (BookComp w lo pb pf rs) := by
  obtain ⟨x, y, s⟩ := d
  obtain ⟨n, hn⟩ : ∃ n, n = y.length := ⟨_, rfl⟩
  have H := Lib.hid h
  have KF : Hid (w.heap[pf]? = some (fileO A2 n c2 s)) := by rw [hn]; exact h.hf
  have HNN := Lib.hid hn
  have hn3 : n ≤ 1048576 := by rw [hn]; exact hd2
  have H3 := Lib.hid h3
  have HCN := Lib.hid hcn
  have HP : Hid (rs.length = p) := h3.1
  have hpl : pb < w.heap.size := box_lt h.hb
  have hfl : pf < w.heap.size := box_lt h.hf
  clear h h3 hcn hn hd2
  have m1 := mHeld
  have m2 := mWrite
  have m3 := mCut
  have m4 := mAhead w.heap.size
  go_enter Tryz.func116, Tryz.ntmps116
  go_wp2_with fail
  go_loopw [13] (fun i wr => ∃ (j : Nat) (A : Option Addr) (q c : Nat) (acc : List Int), j ≤ p ∧ i = .int .i64 j ∧ q ≤ 3000 ∧ Hid (packV [] rs = packV acc (rs.drop j)) ∧ Hid (wr.heap[w.heap.size]? = some (fileO A q c 0)) ∧ Hid (OwnB wr w.heap.size A q c acc) ∧ Hid (Below w.heap.size w wr)) (fun i _ => p - (RowKit.intOf i).toNat)
  case atStart => exact ⟨0, none, 0, 0, [], Nat.zero_le _, rfl, by omega, rfl, box_new _ _, own_nil _ _, bel1 _ _⟩
  case round =>
    obtain ⟨j, A, q, c, acc, hjp, rfl, hq3, HPK, KS, HO, HB⟩ := hrel
    have hsl : w.heap.size < wr.heap.size := box_lt KS.out
    by_cases hlt : j < p
    · have hjl : j < rs.length := by rw [HP.out]; exact hlt
      obtain ⟨b, off, A', c', kd, zs, rfl, hbB, hz, hc1, hc2, hI⟩ := (H3.out.below HB.out hB').at_ hlt
      have hzl : zs.length ≤ 1048576 := by have h5 := HCN.out j; rw [← hz] at h5; exact h5
      have HST := Lib.hid (pack_at acc hjl hz)
      have HI := Lib.hid hI
      have HAL : Hid (acc.length = q) := HO.out.1
      obtain ⟨u, hu⟩ : ∃ u, u = zs.length := ⟨_, rfl⟩
      rw [← hu] at hc2 hzl HI
      clear hz hI hu
      go_wp2_with fail
      obtain ⟨V, hV⟩ : ∃ V, V = wr.alloc (.cells #[.int .i64 kd, .slice A' u c'] 116) := ⟨_, rfl⟩
      have KR : Hid (V.heap[wr.heap.size]? = some (.cells #[.int .i64 kd, .slice A' u c'] 116)) := by rw [hV]; exact box_new _ _
      have hbV : Below wr.heap.size wr V := by rw [hV]; exact bel1 _ _
      have KSV := Lib.hid (box_below KS.out hbV)
      have HOV := Lib.hid (HO.out.below hbV)
      have HBV := Lib.hid (bel_then HB.out hbV HB.out.size)
      have HIV := Lib.hid (HI.out.below hbV (by have := HB.out.size; omega))
      have hsV : wr.heap.size < V.heap.size := box_lt KR.out
      rw [← hV]
      obtain ⟨a0, a1, _, _⟩ := box2 KR.out
      clear hV hbV hc1 hc2
      cases hrb : recB kd zs
      · have HRB := Lib.hid hrb
        have HNO : Hid (packV [] rs = none) := by
          show _ = _
          rw [HPK.out, HST.out, hrb]
          rfl
        clear hrb
        refine wp_region_held_drew (S := fun w' => w'.cell? ⟨wr.heap.size, 0, none⟩ = some (.int .i64 kd) ∧ w'.cell? ⟨wr.heap.size, 1, none⟩ = some (.slice A' u c')) (by kernel_rfl) ⟨a0, a1⟩ (fun hHeld => ?_)
        refine tkk (i := 0) rfl ?_
        try simp only [Act.put, pj]
        refine wpAnyH_ready (rs := [1]) (by kernel_rfl) (by simp) (AllReadyH.cons rfl (fun K hK => ?_) AllReadyH.nil)
        go_simp
        refine (recordOk_any kd A' u c' zs B' _ (by exact HIV.out.below (w' := V.drew) (C := V.heap.size) (Below.refl _ _).drew (by have := HBV.out.size; omega)) (by exact Nat.le_trans hB' HBV.out.size) hzl).mono ?_
        rintro e w2 ⟨rfl, hb2⟩
        rw [HRB.out]
        have hb2' : Below V.heap.size V w2 := undrew hb2
        obtain ⟨g0, g1, _, _⟩ := box2 (box_below KR.out hb2')
        clear hHeld
        refine hK.out _ _ (by exact ⟨g0, g1⟩) (fun hHeld => ?_)
        clear hK K
        try simp only [Act.put, pj]
        refine tkk (i := 2) rfl ?_
        try simp only [Act.put, pj]
        refine tkk (i := 3) rfl ?_
        try simp only [Act.put, pj]
        refine tkj (i := 4) (v := undef) rfl (Or.inr ⟨by rfl, rfl⟩) ?_
        try simp only [Act.put, pj]
        refine tkj (i := 5) (v := undef) rfl (Or.inr ⟨by rfl, rfl⟩) ?_
        try simp only [Act.put, pj]
        refine tkj (i := 6) (v := undef) rfl (Or.inr ⟨by rfl, rfl⟩) ?_
        try simp only [Act.put, pj]
        refine tkj (i := 7) (v := undef) rfl (Or.inr ⟨by rfl, rfl⟩) ?_
        try simp only [Act.put, pj]
        refine tkj (i := 8) (v := undef) rfl (Or.inr ⟨by rfl, rfl⟩) ?_
        try simp only [Act.put, pj]
        refine tkj (i := 9) (v := undef) rfl (Or.inr ⟨by rfl, rfl⟩) ?_
        try simp only [Act.put, pj]
        refine tkj (i := 10) (v := undef) rfl (Or.inr ⟨by rfl, rfl⟩) ?_
        try simp only [Act.put, pj]
        refine tkj (i := 11) (v := undef) rfl (Or.inr ⟨by rfl, rfl⟩) ?_
        try simp only [Act.put, pj]
        refine tkk (i := 12) rfl ?_
        try simp only [Act.put, pj]
        refine wpAnyH_done (by kernel_rfl) ?_ _
        have HB2 := Lib.hid (bel_then HBV.out hb2' HBV.out.size)
        clear hb2 hb2' g0 g1 a0 a1
        go_wp2
        go_ret
        exact .inr ⟨rfl, HNO.out, HB2.out⟩
      · have HRB := Lib.hid hrb
        obtain ⟨F, hFd⟩ : ∃ F, F = frameV kd zs := ⟨_, rfl⟩
        have hF76 : F.length ≤ 76 := by rw [hFd]; exact frame_len kd zs
        have hF0 : 0 < F.length := by rw [hFd]; exact frame_pos hrb
        have HFD := Lib.hid hFd
        clear hrb hFd
        by_cases hfit : q + F.length ≤ 3000
        · have HNX : Hid (packV [] rs = packV (acc ++ F) (rs.drop (j + 1))) := by
            show _ = _
            have h6 := HAL.out
            rw [HPK.out, HST.out, HRB.out, ← HFD.out]
            simp only [Bool.true_and]
            rw [if_pos (by simp; omega)]
          go_region_held3 (fun w' => w'.cell? ⟨wr.heap.size, 0, none⟩ = some (.int .i64 kd) ∧ w'.cell? ⟨wr.heap.size, 1, none⟩ = some (.slice A' u c'))
            (first | exact ⟨a0, a1⟩ | exact ⟨k0, k1⟩ | exact ⟨i0, i1⟩ | exact ⟨g0, g1⟩ | (go_keep; done))
            (first
              | (have hgo := hb3; clear hgo; go_at_call 387; refine (write_yes w.heap.size w.heap.size A q c 0 D dn dc acc F w3.heap.size _ (by exact KS3.out) (by exact KO3.out) (by exact HD.out.bytes) (by omega) (by omega) (by exact HS3.out)).mono ?_; rintro e w4 ⟨g, cc4, rfl, hf4, ho4, hat4, ht4⟩; have HT4 : Hid (Turned (fun k => k = w.heap.size ∨ (Value.slice A q c).ownBlock = some k) w3 w4) := ht4; obtain ⟨k0, k1, _, _⟩ := box2 (box_turned R3.out ht4 (by rintro (e | e) <;> first | omega | (have h9 := (HO.out.lt _ e).2; omega))); have KS4 := Lib.hid hf4; have KO4 := Lib.hid ho4; clear hf4 ho4 hat4 ht4)
              | (have hgo := hb2'; clear hgo; go_at_call 142; refine (frameRecord_any kd A' u c' zs B' _ (by exact HIV.out.below hb2' (by have := HBV.out.size; omega)) (by exact Nat.le_trans hB' HB2.out.size) hzl).mono ?_; rintro e w3 ⟨D, dn, dc, rfl, hD, hb3⟩; rw [← HFD.out] at hD; have HD := Lib.hid hD; have hdn : F.length = dn := hD.1; have HB3 := Lib.hid (bel_then HB2.out hb3 HB2.out.size); have R3 := Lib.hid (box_below (box_below KR.out hb2') hb3); obtain ⟨i0, i1, _, _⟩ := box2 R3.out; have KS3 := Lib.hid (box_below (box_below KSV.out hb2') hb3); have KO3 := Lib.hid ((HOV.out.below hb2').below hb3); have HS3 : Hid (w.heap.size ≤ w3.heap.size) := HB3.out.size; clear hD)
              | (go_at_call 141; refine (recordOk_any kd A' u c' zs B' _ (by exact HIV.out.below (w' := V.drew) (C := V.heap.size) (Below.refl _ _).drew (by have := HBV.out.size; omega)) (by exact Nat.le_trans hB' HBV.out.size) hzl).mono ?_; rintro e w2 ⟨rfl, hb2⟩; rw [HRB.out]; have hb2' : Below V.heap.size V w2 := undrew hb2; obtain ⟨g0, g1, _, _⟩ := box2 (box_below KR.out hb2'); have HB2 := Lib.hid (bel_then HBV.out hb2' HBV.out.size); clear hb2))
          all_goals
            have HB4 : Hid (Below w.heap.size w w4) := Turned.low HB3.out HT4.out (by rintro k (rfl | e) <;> first | exact Nat.le_refl _ | exact (HO.out.lt _ e).1) HB3.out.size
            go_wp2
            go_roundw
            case rel => exact ⟨j + 1, some ⟨g, 0, none⟩, q + dn, cc4, acc ++ F, by omega, by go_num, by omega, HNX, KS4, KO4, HB4⟩
            case measure => simp [RowKit.intOf]; omega
        · have HNO : Hid (packV [] rs = none) := by
            show _ = _
            have h6 := HAL.out
            rw [HPK.out, HST.out, HRB.out, ← HFD.out]
            simp only [Bool.true_and]
            rw [if_neg (by simp; omega)]
          go_region_held3 (fun w' => w'.cell? ⟨wr.heap.size, 0, none⟩ = some (.int .i64 kd) ∧ w'.cell? ⟨wr.heap.size, 1, none⟩ = some (.slice A' u c'))
            (first | exact ⟨a0, a1⟩ | exact ⟨i0, i1⟩ | exact ⟨g0, g1⟩ | (go_keep; done))
            (first
              | (have hgo := hb3; clear hgo; go_at_call 387; refine (write_no w.heap.size A q c 0 D dn dc _ (by exact KS3.out) (by omega) (by omega) (by omega)).mono ?_; rintro e w4 ⟨rfl, rfl⟩)
              | (have hgo := hb2'; clear hgo; go_at_call 142; refine (frameRecord_any kd A' u c' zs B' _ (by exact HIV.out.below hb2' (by have := HBV.out.size; omega)) (by exact Nat.le_trans hB' HB2.out.size) hzl).mono ?_; rintro e w3 ⟨D, dn, dc, rfl, hD, hb3⟩; rw [← HFD.out] at hD; have hdn : F.length = dn := hD.1; have HB3 := Lib.hid (bel_then HB2.out hb3 HB2.out.size); have R3 := Lib.hid (box_below (box_below KR.out hb2') hb3); obtain ⟨i0, i1, _, _⟩ := box2 R3.out; have KS3 := Lib.hid (box_below (box_below KSV.out hb2') hb3); clear hD)
              | (go_at_call 141; refine (recordOk_any kd A' u c' zs B' _ (by exact HIV.out.below (w' := V.drew) (C := V.heap.size) (Below.refl _ _).drew (by have := HBV.out.size; omega)) (by exact Nat.le_trans hB' HBV.out.size) hzl).mono ?_; rintro e w2 ⟨rfl, hb2⟩; rw [HRB.out]; have hb2' : Below V.heap.size V w2 := undrew hb2; obtain ⟨g0, g1, _, _⟩ := box2 (box_below KR.out hb2'); have HB2 := Lib.hid (bel_then HBV.out hb2' HBV.out.size); clear hb2))
          all_goals
            go_wp2
            go_ret
            exact .inr ⟨rfl, HNO.out, HB3.out⟩
    · have HYES : Hid (packV [] rs = some acc) := by
        show _ = _
        rw [HPK.out, List.drop_eq_nil_of_le (by rw [HP.out]; omega)]
        rfl
      have kb := box_below H.out.hb HB.out
      obtain ⟨b0, b1, f0, f1⟩ := box2 kb
      have KB := Lib.hid kb
      have hpr : pb < wr.heap.size := by omega
      clear kb
      go_wp2_with fail
      refine (held_any w.heap.size A q c 0 wr KS.out).mono ?_
      rintro e w2 ⟨rfl, rfl⟩
      go_wp2_with fail
      obtain ⟨V, hV⟩ : ∃ V, V = w2.setCell ⟨pb, 1, none⟩ (.slice A q c) := ⟨_, rfl⟩
      have hsV : V.heap.size = w2.heap.size := by rw [hV]; simp [World.setCell]
      have HSV := Lib.hid hsV
      have hne := H.out.ne
      have KFV : Hid (V.heap[pf]? = some (fileO A2 n c2 s)) := by rw [hV]; exact box_other (box_below KF.out HB.out) _ _ (by show pf ≠ pb; exact Ne.symm hne)
      have KBV : Hid (V.heap[pb]? = some (.cells #[.iface 207 (fp pf), .slice A q c] 154)) := by rw [hV]; exact box_set (i := 1) KB.out _
      have HTV : Hid (Turned (fun k => k = pb ∨ k = pf) w V) := by rw [hV]; exact (Turned.of_below HB.out).trans (Turned.set _ _ _ (.inl rfl))
      have HBYV : Hid (IsBytes V w.heap.size A2 n y) := by
        rw [hV, HNN.out]
        exact own_bytes (own_same (H.out.o2.below HB.out) (fun k hk => Below.heap_setCell _ _ _ _ (H.out.n2 k hk).1)) (fun k hk => (H.out.o2.lt k hk).2)
      have HOV : Hid (OwnB V w.heap.size A q c acc) := by
        rw [hV]
        exact own_same HO.out (fun k hk => Below.heap_setCell _ _ _ _ (by have := (HO.out.lt k hk).1; show k ≠ pb; omega))
      rw [← hV]
      obtain ⟨b0', b1', _, _⟩ := box2 KBV.out
      clear hV hsV b0 b1 f0 f1
      refine (cut_any pf A2 n c2 s y w.heap.size 0 V KFV.out HBYV.out (by have := HSV.out; omega) hn3 (Nat.zero_le _)).mono ?_
      rintro e w3 ⟨A9, rfl, hf3, ho3, ht3⟩
      have HBK : Hid (Book w3 lo pb pf A A9 c 0 (acc, [], 0)) := by
        have hl : acc.length = q := HO.out.1
        refine ⟨?_, hf3, ?_, own_base ho3 (fun k hk => ?_), fun k hk e => ?_, H.out.lb, H.out.lf⟩
        · show _ = some (Obj.cells #[.iface 207 (fp pf), .slice A acc.length c] _ _)
          rw [hl]
          exact box_turned KBV.out ht3 hne
        · show OwnB w3 lo A acc.length c acc
          rw [hl]
          exact own_base (own_same HOV.out (fun k hk => ht3.block k (HOV.out.lt k hk).2 (fun e => by have := (HOV.out.lt k hk).1; omega))) (fun k hk => by have := (HOV.out.lt k hk).1; omega)
        · have := (ho3.lt k hk).1
          have := HSV.out
          omega
        · have h5 := (HOV.out.lt k ((ob A _ _ _ _).trans hk)).2
          have h6 := (ho3.lt k e).1
          omega
      have HT3 : Hid (Turned (fun k => k = pb ∨ k = pf) w w3) := HTV.out.trans (ht3.wide fun k hk => .inr hk)
      clear hf3 ho3 ht3
      go_wp2
      go_ret
      exact .inl ⟨acc, A, A9, c, 0, rfl, HYES.out, HBK.out, HT3.out⟩
set_option maxRecDepth 100000 in
set_option maxHeartbeats 6400000 in
theorem compactTo_any (w : World) (B B' : Nat) (v v' : Value) (d : JD) (rs : RList) (hr : JRd w B v d) (hB : B ≤ w.heap.size) (hq : RecsTy.SRd w B' v' rs) (hB' : B' ≤ w.heap.size) (hf : jty.Few d) (hg : sty.Few rs) :
    Calls Tryz.prog 59 #[v, v'] w (Made1 jty (compD d rs) (.bool (compB d rs)) w) := by
  have hr0 := hr
  obtain ⟨x, y, s⟩ := d
  obtain ⟨A1, c1, A2, c2, rfl, h1, h2⟩ := hr
  obtain ⟨A3, c3, rfl, h3⟩ := hq
  have hg : cntR rs ≤ 1048576 := hg
  have HR := Lib.hid hr0
  have HF := Lib.hid hf
  have H3 := Lib.hid h3
  have HCN : Hid (∀ j, (rs.getD j (0, [])).2.length ≤ 1048576) := fun j => Nat.le_trans (RecsTy.cnt_at rs j) hg
  have hp2 : rs.length ≤ 1048576 := Nat.le_trans (RecsTy.cnt_len rs) hg
  have HY : Hid (y.length ≤ 1048576) := by have : x.length + y.length ≤ 1048576 := hf; show _ ≤ _; omega
  obtain ⟨m, hm⟩ : ∃ m, m = (x, y, s).1.length := ⟨_, rfl⟩
  obtain ⟨n, hn⟩ : ∃ n, n = (x, y, s).2.1.length := ⟨_, rfl⟩
  obtain ⟨p, hp⟩ : ∃ p, p = rs.length := ⟨_, rfl⟩
  rw [← hm, ← hn] at HR ⊢
  rw [← hp] at H3 hp2 ⊢
  clear hr0 h1 h2 h3 hf hg hm hn hp
  go_enter Tryz.func59, Tryz.ntmps59
  go_wp2_with fail
  refine (bookOf_any _ B _ (x, y, s) (jty.rd_below HR.out (bel2 _ _ _) hB) (by simp; omega) HF.out).mono ?_
  intro e w1 hbk
  have hb : Below ((w.alloc (.cells #[.slice A1 m c1, .slice A2 n c2, .int .i64 s] 32)).alloc (.cells #[.slice none 0 0, .slice none 0 0, .int .i64 0] 32)).heap.size ((w.alloc (.cells #[.slice A1 m c1, .slice A2 n c2, .int .i64 s] 32)).alloc (.cells #[.slice none 0 0, .slice none 0 0, .int .i64 0] 32)) w1 := by
    rcases hbk with ⟨_, _, h⟩ | ⟨_, _, _, _, _, _, _, _, _, h⟩ <;> exact h
  have q0 : w1.heap[w.heap.size]? = some (.cells #[.slice A1 m c1, .slice A2 n c2, .int .i64 s] 32) := box_below (box_alloc (box_new _ _) _) hb
  have q1 : w1.heap[w.heap.size + 1]? = some (.cells #[.slice none 0 0, .slice none 0 0, .int .i64 0] 32) := box_below (by have h := box_new (w.alloc (.cells #[.slice A1 m c1, .slice A2 n c2, .int .i64 s] 32)) (.cells #[.slice none 0 0, .slice none 0 0, .int .i64 0] 32); simpa using h) hb
  have HB1 : Hid (Below w.heap.size w w1) := bel_then (bel2 _ _ _) hb (by simp; omega)
  have hs1 : w.heap.size + 1 < w1.heap.size := box_lt q1
  have Q0 := Lib.hid q0
  have Q1 := Lib.hid q1
  have hbk2 : (jok (x, y, s) = false ∧ e = .returned (.tuple #[.pointer none, .bool false])) ∨ (jok (x, y, s) = true ∧ ∃ pb pf C1 C2 e1 e2, e = .returned (.tuple #[.pointer (some ⟨pb, 0, none⟩), .bool true]) ∧ Book w1 (w.heap.size + 1 + 1) pb pf C1 C2 e1 e2 (x, y, s)) := by
    rcases hbk with ⟨h1, h2, _⟩ | ⟨h1, pb, pf, C1, C2, e1, e2, h2, h3, _⟩
    · exact .inl ⟨h1, h2⟩
    · exact .inr ⟨h1, pb, pf, C1, C2, e1, e2, h2, by simpa using h3⟩
  clear hbk hb q0 q1
  rcases hbk2 with ⟨hj, rfl⟩ | ⟨hj, pb, pf, C1, C2, e1, e2, rfl, hk⟩
  · have HJ := Lib.hid hj
    obtain ⟨p0, p1, p2, _⟩ := box3 Q0.out
    clear hj
    go_wp2_with fail
    refine (sameJournal_any _ B _ (x, y, s) (jty.rd_below HR.out HB1.out hB) (Nat.le_trans hB HB1.out.size) HF.out).mono ?_
    rintro e w2 ⟨v2, S2, rfl, hO2, hb2⟩
    obtain ⟨D1, n1, d1, D2, n2, d2, s2, rfl⟩ := shape hO2
    obtain ⟨r0, r1, r2, f0, f1, f2⟩ := box3 (box_below Q1.out hb2)
    have HO2 := Lib.hid hO2
    have HI2 : Hid (∀ k, S2 k → w1.heap.size ≤ k) := fun k hk => (hO2.inn k hk).1
    have HB2 := Lib.hid (bel_then HB1.out hb2 HB1.out.size)
    have hs2 : w1.heap.size ≤ w2.heap.size := hb2.size
    clear hb2 hO2
    go_wp2
    refine bodyPost_ret (v := .tuple #[.agg #[.slice D1 n1 d1, .slice D2 n2 d2, .int .i64 s2], .bool false]) (by simp [results, Tryz.results59, go_sem, r0, r1, r2]) rfl ?_
    rw [(comp_1 HJ.out).1, (comp_1 HJ.out).2]
    exact made1_of HO2.out HB2.out (sets3 (S := fun k => k = w.heap.size + 1) rfl rfl rfl) (by omega) (fun k hk => by omega) (fun k hk e => by have := HI2.out k hk; omega)
  · have HJ := Lib.hid hj
    have HK := Lib.hid hk
    have hlb : w.heap.size + 1 + 1 ≤ pb := hk.lb
    have hlf : w.heap.size + 1 + 1 ≤ pf := hk.lf
    clear hj hk
    go_wp2_with fail
    refine (compact_any w1 (w.heap.size + 1 + 1) pb pf C1 C2 e1 e2 (x, y, s) HK.out (by omega) HY.out A3 p c3 rs B' (H3.out.below HB1.out hB') (Nat.le_trans hB' HB1.out.size) hp2 HCN.out).mono ?_
    rintro e w2 (⟨bs, A4, A5, c4, c5, rfl, hpk, hk2, ht2⟩ | ⟨rfl, hpk, hb2⟩)
    · have HPK := Lib.hid hpk
      have HK2 := Lib.hid hk2
      have KV1 := Lib.hid (box_turned Q1.out ht2 (by rintro (e | e) <;> omega))
      have hs2 : w1.heap.size ≤ w2.heap.size := ht2.size
      have HBV : Hid (Below w.heap.size w w2) := Turned.low HB1.out ht2 (by rintro k (rfl | rfl) <;> omega) HB1.out.size
      clear hpk hk2 ht2
      go_wp2_with fail
      refine (journal_any w2 _ pb pf A4 A5 c4 c5 _ HK2.out (by omega)).mono ?_
      rintro e w3 ⟨v3, rfl, hO3, hb3⟩
      obtain ⟨D1, n1, d1, D2, n2, d2, s2, rfl⟩ := shape hO3
      obtain ⟨r0, r1, r2, f0, f1, f2⟩ := box3 (box_below KV1.out hb3)
      have HO3 := Lib.hid hO3
      have HB3 := Lib.hid (bel_then HBV.out hb3 HBV.out.size)
      clear hb3 hO3
      go_wp2
      refine bodyPost_ret (v := .tuple #[.agg #[.slice D1 n1 d1, .slice D2 n2 d2, .int .i64 s2], .bool true]) (by simp [results, Tryz.results59, go_sem, r0, r1, r2]) rfl ?_
      rw [(comp_3 HJ.out HPK.out).1, (comp_3 HJ.out HPK.out).2]
      exact made1_of HO3.out HB3.out (sets3 (S := fun k => k = w.heap.size + 1) rfl rfl rfl) (by omega) (fun k hk => by omega) (fun k hk e => by have := hk.1; omega)
    · have HPK := Lib.hid hpk
      have K0 := Lib.hid (box_below Q0.out hb2)
      have K1 := Lib.hid (box_below Q1.out hb2)
      have HBV := Lib.hid (bel_then HB1.out hb2 HB1.out.size)
      have hs2 : w1.heap.size ≤ w2.heap.size := hb2.size
      obtain ⟨p0, p1, p2, _⟩ := box3 K0.out
      clear hpk hb2
      go_wp2_with fail
      refine (sameJournal_any _ B _ (x, y, s) (jty.rd_below HR.out HBV.out hB) (Nat.le_trans hB HBV.out.size) HF.out).mono ?_
      rintro e w3 ⟨v2, S2, rfl, hO2, hb3⟩
      obtain ⟨D1, n1, d1, D2, n2, d2, s2, rfl⟩ := shape hO2
      obtain ⟨r0, r1, r2, f0, f1, f2⟩ := box3 (box_below K1.out hb3)
      have HO2 := Lib.hid hO2
      have HI2 : Hid (∀ k, S2 k → w2.heap.size ≤ k) := fun k hk => (hO2.inn k hk).1
      have HB2 := Lib.hid (bel_then HBV.out hb3 HBV.out.size)
      have hs3 : w2.heap.size ≤ w3.heap.size := hb3.size
      clear hb3 hO2
      go_wp2
      refine bodyPost_ret (v := .tuple #[.agg #[.slice D1 n1 d1, .slice D2 n2 d2, .int .i64 s2], .bool false]) (by simp [results, Tryz.results59, go_sem, r0, r1, r2]) rfl ?_
      rw [(comp_2 HPK.out).1, (comp_2 HPK.out).2]
      exact made1_of HO2.out HB2.out (sets3 (S := fun k => k = w.heap.size + 1) rfl rfl rfl) (by omega) (fun k hk => by omega) (fun k hk e => by have := HI2.out k hk; omega)
end Go.Proofs.YtklgjjmcflgjeaaGreatDoor.Jour
namespace Go.Proofs
open Go.Shelf
def Tryz.cloneP_ren : Go.Shelf.Ren := ⟨fun | 41 => 139 | n => n, fun | 22 => 33 | 23 => 96 | 4 => 4 | n => n, fun | n => n⟩
theorem Tryz.cloneP : Go.Proofs.SlLaysE0.n41 Tryz.prog Tryz.cloneP_ren := {
  mixed := by kernel_rfl
  f41 := ⟨Tryz.f139.name, by decide, Tryz.func139.trans (congrArg some (by kernel_rfl))⟩
  t4 := Tryz.underlying4
  a4 := Tryz.isAgg4
  z4 := Tryz.sizeOf4
  v4 := Tryz.zeroValue4
  t22 := Tryz.underlying33
  a22 := Tryz.isAgg33
  z22 := Tryz.sizeOf33
  v22 := Tryz.zeroValue33 }
end Go.Proofs
namespace Go.Proofs.YtklgjjmcflgjeaaGreatDoor.Crew
open Go.ChangeShapes Go.WideShapes Go.ChangeAt Go.RowKit Go.Maps Go.Sort Go.Shelf
open LK Pods FleetV Has Ints
open Rec (ownI_base)
open Tick (inB in_t in_f tokB tok_t tok_f tickOk_any)
theorem row_ne {w : World} {base base' : Nat} {e e' : TypeId} {size size' n n' : Nat} {u v : Value} {xs ys : List Value} (h : w.ownsRow base e size u n xs) (h' : w.ownsRow base' e' size' v n' ys) (hne : e ≠ e') : u.ownBlock = none ∨ u.ownBlock ≠ v.ownBlock := by
  cases hu : u.ownBlock with
  | none => exact .inl rfl
  | some g =>
    refine .inr fun hv => ?_
    rcases h.2 with ⟨rfl, _⟩ | ⟨g1, cap1, cur1, rfl, _, hh1, _⟩
    · simp [Value.ownBlock] at hu
    · rcases h'.2 with ⟨rfl, _⟩ | ⟨g2, cap2, cur2, rfl, _, hh2, _⟩
      · simp [Value.ownBlock] at hv
      · simp [Value.ownBlock] at hu hv
        subst hu hv
        rw [hh1] at hh2
        injection hh2 with h3
        injection h3 with _ h4
        exact hne h4
theorem news_new (w : World) (l : List Value) (t : TypeId) : ∀ j u, l[j]? = some u → (w.alloc (.cells l.toArray t)).cell? ((⟨w.heap.size, 0, none⟩ : Addr).add j) = some u := by
  intro j u h
  rw [FlatOpen.add_off, Nat.zero_add]
  exact box_cell (box_new w (.cells l.toArray t)) j u (by simpa using h)
theorem own_app {w' : World} {base n : Nat} {v' : Value} {ps : PList} {p : Pd} (hl : ps.length = n) (h : w'.ownsRow base 96 5 v' (n + 1) (flat ps ++ cells5 p)) : ∃ A c, v' = .slice A (n + 1) c ∧ OwnP w' base A (n + 1) c (ps ++ [p]) := by
  obtain ⟨g, cap, rfl, _⟩ := h.form (by omega)
  exact ⟨_, _, rfl, by simp [hl], by rw [flat_app, flat_one]; exact h⟩
theorem take_get {m : PList} {k : Nat} (h : k < m.length) : m.take (k + 1) = m.take k ++ [m.getD k z5] := by
  have e : m.getD k z5 = m[k] := by simp [List.getD, h]
  rw [List.take_succ_eq_append_getElem h, e]
structure CrewAt (w : World) (cb mb nn : Nat) (m : PList) (nx : Int) : Prop where
  box : w.heap[cb]? = some (.cells #[.map (some mb), .int .i64 nx] 305 (0, 0))
  own : w.ownsMap Tryz.prog 3 rdP mb nn (mapOf m)
  asc : Asc m
  ids : ∀ p ∈ m, 0 ≤ p.1 ∧ p.1 ≤ 1000000000
theorem CrewAt.below {w w' : World} {cb mb nn : Nat} {m : PList} {nx : Int} (h : CrewAt w cb mb nn m nx) (hb : Below w.heap.size w w') : CrewAt w' cb mb nn m nx :=
  ⟨box_below h.box hb, by
    have hl := h.own.lt
    obtain ⟨es, clock, hbb, F, hs, hD⟩ := h.own
    exact ⟨es, clock, (hb.block mb hl).trans hbb, F, hs, hD⟩, h.asc, h.ids⟩
end Go.Proofs.YtklgjjmcflgjeaaGreatDoor.Crew
namespace Go.Proofs.YtklgjjmcflgjeaaGreatDoor.Crew
open Go.ChangeShapes Go.WideShapes Go.ChangeAt Go.RowKit Go.Maps Go.Sort Go.Shelf
open LK Pods FleetV Has Ints
open Tick (inB in_t in_f tokB tok_t tok_f tickOk_any)
theorem pods_cells {w : World} {B n b off : Nat} {ps : PList} (h : IsPods w B (some ⟨b, off, none⟩) n ps) (hn : 0 < n) : ∀ j, j < ps.length → ∀ i v, (cells5 ps[j]!)[i]? = some v → w.cell? ⟨b, off + j * 5 + i, none⟩ = some v := by
  intro j hj i v hi
  obtain ⟨b', off', e, _, hc⟩ := h.2 hn
  injection e with e
  injection e with e1 e2
  subst e1 e2
  have h5 := hc j (by have := h.1; omega)
  have e : ps.getD j z5 = ps[j]! := by simp [List.getD, hj]
  rw [e] at h5
  clear e
  generalize ps[j]! = p at hi h5
  obtain ⟨h0, h1, h2, h3, h4⟩ := h5
  match i, hi with
  | 0, hi => simp [cells5] at hi; subst hi; simpa using h0
  | 1, hi => simp [cells5] at hi; subst hi; exact h1
  | 2, hi => simp [cells5] at hi; subst hi; exact h2
  | 3, hi => simp [cells5] at hi; subst hi; exact h3
  | 4, hi => simp [cells5] at hi; subst hi; exact h4
  | i + 5, hi => simp [cells5] at hi
theorem clone_any (A : Option Addr) (n c : Nat) (ps : PList) (B : Nat) (w : World) (hr : IsPods w B A n ps) (hn : n ≤ 1048576) :
    Calls Tryz.prog 139 #[.slice A n c] w fun e w' => ∃ A' c', e = .returned (.slice A' n c') ∧ OwnP w' w.heap.size A' n c' ps ∧ Below w.heap.size w w' := by
  obtain ⟨i0, hi0, hz0, hz1, hz2⟩ := info_parts infoP
  cases A with
  | none =>
    have h0 : n = 0 := by
      rcases Nat.eq_zero_or_pos n with h | h
      · exact h
      · obtain ⟨b, off, e, _⟩ := hr.2 h; cases e
    have hp : ps = [] := List.eq_nil_of_length_eq_zero (by rw [hr.1]; exact h0)
    have h := AnyE.slices_Clone_nil Tryz.cloneP n c w
    change Calls Tryz.prog 139 _ _ _ at h
    refine h.mono ?_
    rintro e w' ⟨rfl, rfl⟩
    refine ⟨none, 0, by rw [h0], ?_, Below.refl _ _⟩
    rw [hp, h0]
    exact OwnP.nil _ _
  | some ad =>
    by_cases h0 : 0 < n
    · obtain ⟨b, off, e, _⟩ := hr.2 h0
      injection e with e
      subst e
      have hcl : ∀ j u, (flat ps)[j]? = some u → w.cell? ⟨b, off + j, none⟩ = some u := by
        intro j u hj
        have hjl : j < ps.length * 5 := by
          rw [← flat_len]
          rcases Nat.lt_or_ge j (flat ps).length with h | h
          · exact h
          · rw [List.getElem?_eq_none h] at hj; cases hj
        have e1 : j = j / 5 * 5 + j % 5 := by omega
        have hlt : j / 5 < ps.length := by omega
        rw [e1, flat_at ps (j / 5) (j % 5) hlt (by omega)] at hj
        have e2 : ps.getD (j / 5) z5 = ps[j / 5]! := by simp [List.getD, hlt]
        rw [e2] at hj
        have := pods_cells hr h0 (j / 5) hlt (j % 5) u hj
        rw [Nat.add_assoc, ← e1] at this
        exact this
      have h := AnyE.slices_Clone Tryz.cloneP i0 _ 5 40 hi0 hz0 hz1 hz2 rfl (by omega) Tryz.sizeOf96 b off n c (flat ps) w (by rw [flat_len, hr.1]) (by unfold maxLen; omega) (by omega) hcl (by
        intro u hu
        obtain ⟨p, _, hp⟩ := List.mem_flatMap.1 hu
        simp [cells5] at hp
        rcases hp with rfl | rfl | rfl | rfl | rfl <;> rfl)
      change Calls Tryz.prog 139 _ _ _ at h
      refine h.mono ?_
      rintro e w' ⟨v', rfl, hrow, _, hb⟩
      obtain ⟨g, cap, rfl, _⟩ := hrow.form h0
      exact ⟨_, _, rfl, ⟨hr.1, hrow⟩, hb⟩
    · have h0' : n = 0 := by omega
      subst h0'
      have hp : ps = [] := List.eq_nil_of_length_eq_zero hr.1
      subst hp
      obtain ⟨b, off, spot⟩ := ad
      have hq : (binOp .eql 33 (.slice (some ⟨b, off, spot⟩) 0 c) (.slice none 0 0)).run Tryz.prog w = .ok (.bool false) w := Lib.run_eql_slice_nil w _ _ _ _ _ _ _ Tryz.underlying33
      clear hr
      go_enter Tryz.func139, Tryz.ntmps139
      go_wp2_with fail
      go_ret
      refine ⟨_, _, rfl, ⟨rfl, rfl, .inr ⟨w.heap.size, 0, #[], rfl, Nat.le_refl _, box_new _ _, Nat.le_refl _, Nat.zero_le _, rfl, rfl⟩⟩, bel1 _ _⟩
theorem made_of {w w2 w3 : World} {lo : Nat} {S : Nat → Prop} {A : Option Addr} {n c : Nat} {ps : PList} {x : Int} (hb : Below w.heap.size w w2) (hO : OwnP w2 lo A n c ps) (hlo : w.heap.size ≤ lo) (hS : ∀ k, S k → w.heap.size ≤ k ∧ k < lo) (ht : Turned S w2 w3) :
    Made FleetTy.fty (ps, x) w (.returned (.agg #[.slice A n c, .int .i64 x])) w3 := by
  have hz := ht.size
  have hl := hO.1
  subst hl
  refine ⟨_, fun k => w.heap.size ≤ k ∧ k < w3.heap.size, rfl, ⟨⟨A, c, rfl, hO.zero.same fun k hk => ht.block k (hO.lt k hk).2 (fun e => by have := hO.lt k hk; have := hS k e; omega), fun k hk => ?_⟩, fun k hk => hk, Nat.le_refl _⟩, Turned.low hb ht (fun k hk => (hS k hk).1) hb.size⟩
  have := hO.lt k hk
  exact ⟨by omega, by omega⟩
set_option maxHeartbeats 1600000 in
theorem sameFleet_any (A : Option Addr) (n c : Nat) (nx : Int) (ps : PList) (B : Nat) (w : World) (hr : IsPods w B A n ps) (hB : B ≤ w.heap.size) (hn : n ≤ 1048576) :
    Calls Tryz.prog 86 #[.agg #[.slice A n c, .int .i64 nx]] w (Made FleetTy.fty (ps, nx) w) := by
  have HR := Lib.hid hr
  clear hr
  obtain ⟨V, hV⟩ : ∃ V, V = (w.alloc (.cells #[.slice A n c, .int .i64 nx] 35)).alloc (.cells #[.slice none 0 0, .int .i64 0] 35) := ⟨_, rfl⟩
  have hbV : Below w.heap.size w V := by rw [hV]; exact bel2 _ _ _
  have k0 : V.heap[w.heap.size]? = some (.cells #[.slice A n c, .int .i64 nx] 35) := by rw [hV]; exact box_alloc (box_new _ _) _
  have k1 : V.heap[w.heap.size + 1]? = some (.cells #[.slice none 0 0, .int .i64 0] 35) := by rw [hV]; have h := box_new (w.alloc (.cells #[.slice A n c, .int .i64 nx] 35)) (.cells #[.slice none 0 0, .int .i64 0] 35); simpa using h
  have HSV : Hid (V.heap.size = w.heap.size + 1 + 1) := by show _ = _; rw [hV]; simp
  go_enter Tryz.func86, Tryz.ntmps86
  go_wp2_with fail
  rw [← hV]
  clear hV
  have c0 : V.cell? ⟨w.heap.size, 0, none⟩ = some (.slice A n c) := box_cell k0 0 _ rfl
  have c1 : V.cell? ⟨w.heap.size, 1, none⟩ = some (.int .i64 nx) := box_cell k0 1 _ rfl
  have K1 := Lib.hid k1
  clear k0 k1
  go_region_held3 (fun w' => w'.cell? ⟨w.heap.size, 0, none⟩ = some (.slice A n c) ∧ w'.cell? ⟨w.heap.size, 1, none⟩ = some (.int .i64 nx)) (first | go_keep | (refine ⟨cell_keep hb2 ?_, cell_keep hb2 ?_⟩ <;> simp only [*]))
    (first | (go_at_call 139; refine (clone_any A n c ps B _ (by exact HR.out.below hbV.drew hB) hn).mono ?_; rintro e w2 ⟨A2, c2, rfl, hO, hb2⟩; have hb2' : Below V.heap.size V w2 := undrew hb2; have HO := Lib.hid hO; clear hO; obtain ⟨r0, r1, s0, s1⟩ := box2 (box_below K1.out hb2')))
  all_goals
    have HB := Lib.hid (bel_then hbV hb2' hbV.size)
    clear hb2 hb2' c0 c1
    go_wp2
    refine bodyPost_ret (v := .agg #[.slice A2 n c2, .int .i64 nx]) (by simp [results, Tryz.results86, go_sem, r0, r1]) rfl ?_
    exact made_of HB.out HO.out hbV.size (S := fun k => k = w.heap.size + 1) (fun k hk => by have := HSV.out; show _ ∧ k < V.heap.size; omega) ((Turned.set (S := fun k => k = w.heap.size + 1) _ ⟨w.heap.size + 1, 0, none⟩ _ rfl).trans (Turned.set (S := fun k => k = w.heap.size + 1) _ ⟨w.heap.size + 1, 1, none⟩ _ rfl))
end Go.Proofs.YtklgjjmcflgjeaaGreatDoor.Crew
namespace Go.Proofs.YtklgjjmcflgjeaaGreatDoor.FleetSpec
open Go.ChangeShapes Go.WideShapes Go.ChangeAt Go.RowKit
open LK Pods FleetV
open Ints (below_drewN)
open Tick (inB in_t in_f tokB tok_t tok_f l01In_any specTickOk_any)
theorem take_get {m : PList} {k : Nat} (h : k < m.length) : m.take (k + 1) = m.take k ++ [m.getD k z5] := by
  have e : m.getD k z5 = m[k] := by simp [List.getD, h]
  rw [List.take_succ_eq_append_getElem h, e]
end Go.Proofs.YtklgjjmcflgjeaaGreatDoor.FleetSpec
namespace Go.Proofs.YtklgjjmcflgjeaaGreatDoor.FleetSpec
open Go.ChangeShapes Go.WideShapes Go.ChangeAt Go.RowKit
open LK Pods FleetV
open Ints (below_drewN)
open FleetTy (made_of own_app)
theorem news_new (w : World) (l : List Value) (t : TypeId) : ∀ j u, l[j]? = some u → (w.alloc (.cells l.toArray t)).cell? ((⟨w.heap.size, 0, none⟩ : Addr).add j) = some u := by
  intro j u h
  rw [FlatOpen.add_off, Nat.zero_add]
  exact box_cell (box_new w (.cells l.toArray t)) j u (by simpa using h)
set_option maxRecDepth 100000 in
set_option maxHeartbeats 3200000 in
theorem copy_any (A : Option Addr) (n c : Nat) (nx : Int) (ps : PList) (B : Nat) (w : World) (hr : IsPods w B A n ps) (hB : B ≤ w.heap.size) (hn : n ≤ 1048576) :
    Calls Tryz.prog 166 #[.agg #[.slice A n c, .int .i64 nx]] w (Made FleetTy.fty (ps, nx) w) := by
  obtain ⟨i0, hi0, hz0, hz1, hz2⟩ := info_parts infoP
  have HL : Hid (ps.length = n) := hr.1
  have HR := Lib.hid hr
  clear hr
  go_enter Tryz.func166, Tryz.ntmps166
  go_wp2_with fail
  go_loopw [4] (fun i wr => ∃ (k : Nat) (A1 : Option Addr) (c1 : Nat), k ≤ n ∧ i = .int .i64 k ∧ Hid (wr.heap[w.heap.size]? = some (.cells #[.slice A n c, .int .i64 nx] 35)) ∧ Hid (wr.heap[w.heap.size + 1]? = some (.cells #[.slice none 0 0, .int .i64 0] 35)) ∧ Hid (wr.heap[w.heap.size + 1 + 1]? = some (.cells #[.slice A1 k c1, .int .i64 nx] 35)) ∧
      Hid (OwnP wr (w.heap.size + 1 + 1 + 1) A1 k c1 (ps.take k)) ∧ Below w.heap.size w wr ∧ w.heap.size + 1 + 1 + 1 ≤ wr.heap.size) (fun i _ => n - (RowKit.intOf i).toNat)
  case atStart =>
    refine ⟨0, none, 0, Nat.zero_le _, rfl, box_alloc (box_alloc (box_new _ _) _) _, ?_, ?_, OwnP.nil _ _, bel3 _ _ _ _, by simp⟩
    · have h := box_alloc (box_new (w.alloc (.cells #[.slice A n c, .int .i64 nx] 35)) (.cells #[.slice none 0 0, .int .i64 0] 35)) (.cells #[.slice none 0 0, .int .i64 nx] 35)
      simp only [World.size_alloc] at h
      exact h
    · have h := box_new ((w.alloc (.cells #[.slice A n c, .int .i64 nx] 35)).alloc (.cells #[.slice none 0 0, .int .i64 0] 35)) (.cells #[.slice none 0 0, .int .i64 nx] 35)
      simp only [World.size_alloc] at h
      exact h
  case round =>
    obtain ⟨k, A1, c1, hk, rfl, E0, E1, E2, HO, hbr, hsr⟩ := hrel
    have a0 := box_cell E0.out 0 _ rfl
    have r0 := box_cell E2.out 0 _ rfl
    have r1 := box_cell E2.out 1 _ rfl
    have s0 := box_frozen E2.out 0
    by_cases hlt : k < n
    · obtain ⟨b, off, x0, x1, x2, x3, x4, rfl, hbB, hz, hc0, hc1, hc2, hc3, hc4⟩ := (HR.out.below hbr hB).at_ hlt
      have HZ := Lib.hid hz
      have hkp : k < ps.length := by rw [HL.out]; exact hlt
      have HKP := Lib.hid hkp
      clear hz hkp
      go_wp2_with fail
      have hlv : w.heap.size + 1 + 1 < wr.heap.size := by omega
      have hq0 : ∀ (W : World), W.heap[w.heap.size + 1 + 1]? = some (.cells #[.slice A1 k c1, .int .i64 nx] 35) → W.cell? ⟨w.heap.size + 1 + 1, 0, none⟩ = some (.slice A1 k c1) := fun W h => box_cell h 0 _ rfl
      have hq1 : ∀ (W : World), W.heap[w.heap.size + 1 + 1]? = some (.cells #[.slice A1 k c1, .int .i64 nx] 35) → W.frozen? ⟨w.heap.size + 1 + 1, 0, none⟩ = false := fun W h => box_frozen h 0
      have HQ0 := Lib.hid hq0
      have HQ1 := Lib.hid hq1
      clear hq0 hq1
      go_region_law (refine step_append_lies _ (by rfl) (.tmp 16) (.tmp 22) 33 (by rfl) (w.heap.size + 1 + 1 + 1) 96 i0 _ 5 40 Tryz.underlying33 hi0 hz0 hz1 hz2 rfl (by omega) (.slice A1 k c1) k (flat (ps.take k)) rfl (by exact HO.out.2.alloc _) ⟨wr.heap.size, 0, none⟩ 1 1 [.int .i64 x0, .int .i64 x1, .int .i64 x2, .int .i64 x3, .int .i64 x4] rfl rfl (by exact news_new wr [.int .i64 x0, .int .i64 x1, .int .i64 x2, .int .i64 x3, .int .i64 x4] 96) (by intro u hu; simp at hu; rcases hu with rfl | rfl | rfl | rfl | rfl <;> rfl) (by omega) (by unfold maxLen; omega) (by omega) (by simp; omega) (wr.heap.size + 1) (by simp) ?_; intro g2 c2 w5 hown hgr _ _; have F2 : w5.heap[w.heap.size + 1 + 1]? = some (.cells #[.slice A1 k c1, .int .i64 nx] 35) := ((hgr.block (w.heap.size + 1 + 1) (by simp; omega) (fun e => by have := (HO.out.lt _ e.symm).1; omega)).trans (box_alloc E2.out _)); have q0 := HQ0.out _ F2; have q1 := HQ1.out _ F2)
      all_goals
        obtain ⟨A2, c3, ev, hO2⟩ := own_app (ps := ps.take k) (p := (x0, x1, x2, x3, x4)) HO.out.1 hown
        injection ev with ev1 ev2 ev3
        subst ev1 ev3
        have e2 : ps.take k ++ [(x0, x1, x2, x3, x4)] = ps.take (k + 1) := by rw [take_get HKP.out, HZ.out]
        rw [e2] at hO2
        have hne : ∀ q, (Value.slice A1 k c1).ownBlock = some q → w.heap.size + 1 + 1 + 1 ≤ q := fun q hq => (HO.out.lt q hq).1
        have keep : ∀ (q : Nat) (o : Obj), q < w.heap.size + 1 + 1 + 1 → wr.heap[q]? = some o → w5.heap[q]? = some o := fun q o hq ho => (hgr.block q (by simp; omega) (fun e => by have := hne q e.symm; omega)).trans (box_alloc ho _)
        have F0 := keep _ _ (by omega) E0.out
        have F1 := keep _ _ (by omega) E1.out
        have hb5 : Below w.heap.size w w5 := ((hbr.alloc (by omega) _).drew).grown hgr (by simp; omega) (fun qq hq => by have := hne qq hq; omega)
        have hs5 : w.heap.size + 1 + 1 + 1 ≤ w5.heap.size := by have := hgr.size; simp at this; omega
        have G0 : Hid ((w5.setCell ⟨w.heap.size + 1 + 1, 0, none⟩ (.slice (some ⟨g2, 0, none⟩) (k + 1) c2)).heap[w.heap.size]? = some (.cells #[.slice (some ⟨b, off, none⟩) n c, .int .i64 nx] 35)) := box_other F0 ⟨w.heap.size + 1 + 1, 0, none⟩ _ (by show w.heap.size ≠ w.heap.size + 1 + 1; omega)
        have G1 : Hid ((w5.setCell ⟨w.heap.size + 1 + 1, 0, none⟩ (.slice (some ⟨g2, 0, none⟩) (k + 1) c2)).heap[w.heap.size + 1]? = some (.cells #[.slice none 0 0, .int .i64 0] 35)) := box_other F1 ⟨w.heap.size + 1 + 1, 0, none⟩ _ (by show w.heap.size + 1 ≠ w.heap.size + 1 + 1; omega)
        have G2 : Hid ((w5.setCell ⟨w.heap.size + 1 + 1, 0, none⟩ (.slice (some ⟨g2, 0, none⟩) (k + 1) c2)).heap[w.heap.size + 1 + 1]? = some (.cells #[.slice (some ⟨g2, 0, none⟩) (k + 1) c2, .int .i64 nx] 35)) := box_set (i := 0) F2 (.slice (some ⟨g2, 0, none⟩) (k + 1) c2)
        have GO : Hid (OwnP (w5.setCell ⟨w.heap.size + 1 + 1, 0, none⟩ (.slice (some ⟨g2, 0, none⟩) (k + 1) c2)) (w.heap.size + 1 + 1 + 1) (some ⟨g2, 0, none⟩) (k + 1) c2 (ps.take (k + 1))) := hO2.same (fun q hq => Below.heap_setCell _ _ _ _ (by have := (hO2.lt q hq).1; show q ≠ w.heap.size + 1 + 1; omega))
        have hb6 : Below w.heap.size w (w5.setCell ⟨w.heap.size + 1 + 1, 0, none⟩ (.slice (some ⟨g2, 0, none⟩) (k + 1) c2)) := hb5.setCell (p := ⟨w.heap.size + 1 + 1, 0, none⟩) (by show w.heap.size ≤ w.heap.size + 1 + 1; omega) _
        have hs6 : w.heap.size + 1 + 1 + 1 ≤ (w5.setCell ⟨w.heap.size + 1 + 1, 0, none⟩ (.slice (some ⟨g2, 0, none⟩) (k + 1) c2)).heap.size := by simp [World.setCell]; omega
        clear hown hgr hO2 hne keep F0 F1 F2
        go_wp2
        go_roundw
        case rel => exact ⟨k + 1, some ⟨g2, 0, none⟩, c2, by omega, by go_num, G0, G1, G2, GO, hb6, hs6⟩
        case measure => simp [RowKit.intOf]; omega
    · have HK : Hid (k = n) := (by omega : k = n)
      have e0 := box_cell E1.out 0 _ rfl
      have e1 := box_cell E1.out 1 _ rfl
      have g0 := box_frozen E1.out 0
      have g1 := box_frozen E1.out 1
      go_wp2
      refine bodyPost_ret (v := .agg #[.slice A1 k c1, .int .i64 nx]) (by simp [results, Tryz.results166, go_sem, e0, e1]) rfl ?_
      have h1 := HO.out
      rw [List.take_of_length_le (by rw [HL.out, HK.out]; exact Nat.le_refl _)] at h1
      exact made_of hbr h1 (by omega) (S := fun q => q = w.heap.size + 1) (fun q hq => by omega) ((Turned.set (S := fun q => q = w.heap.size + 1) _ ⟨w.heap.size + 1, 0, none⟩ _ rfl).trans (Turned.set (S := fun q => q = w.heap.size + 1) _ ⟨w.heap.size + 1, 1, none⟩ _ rfl))
end Go.Proofs.YtklgjjmcflgjeaaGreatDoor.FleetSpec
