/-
  THE WALK of laws.FnScanned over this seat's translation: it answers true and turns nothing that was there.
-/
import Derived.Test.YtghckkameinicaaDoorLawFrames
import Derived.Test.YtghckkameinicaaDoorScanHelp
namespace Go.Proofs.YtghckkameinicaaDoor.Rd
open Go.ChangeShapes Go.WideShapes Go.ChangeAt Go.RowKit
open Go.Proofs.YtghckkameinicaaDoor.Ints (below_drewN IsB big_any at_any IsInts)
open Go.Proofs.YtghckkameinicaaDoor.Has (OwnI)
open Go.Proofs.YtghckkameinicaaDoor.Bytes (IsBytes OwnB infoByte own_empty)
open Go.Proofs.YtghckkameinicaaDoor.Rec (below_a1 Box below_keep below_undrew frameRecord_any specRecordOk_any recB frameV frameT frame_t frame_f frame_len frame_in OwnRs OwnRsH RList flatH lit2_news ownI_base ownB_news ownB_appends ownB_base alt_any sameRecords_same draw_bytes ownB_grownR isBytes_take)
set_option linter.unusedVariables false
set_option linter.unusedSimpArgs false

theorem cutB_zero (A : Option Addr) (c : Nat) : cutB A 0 c = A := by
  unfold cutB
  split
  · rfl
  · cases A <;> simp [Addr.add]
theorem cutRec (A : Option Addr) (n c q : Nat) (h2 : q ≤ c) (W : World) :
    (Instr.slice 36 (.slice A n c) none (some (.int .i64 q)) none).run Tryd.prog W = .ok (.slice A q c) W := by
  obtain ⟨i0, hi, hz0, hz1, hz2⟩ := info_parts infoRec
  rw [run_slice_h W 36 A n c (by kernel_rfl) .i64 q (by omega) (by omega)]
  have hs : (sizeOf (Tryd.prog.elem 36)).run Tryd.prog W = .ok 2 W := by
    have he : Tryd.prog.elem 36 = 26 := by kernel_rfl
    rw [he]
    simp [sizeOf, typeInfo, hi, hz1]
  rw [hs]
  have h0 := cutB_zero A c
  unfold cutB at h0
  simpa [Result.andThen, sliced] using h0
theorem start_b (w : World) : Hid (OwnB ((w.alloc (.cells #[] 26)).alloc (.cells #[] 5)) w.heap.size (some ⟨w.heap.size + 1, 0, none⟩) 0 0 (catF [])) := by
  have h1 := ownB_base (b' := w.heap.size) (own_empty (w.alloc (.cells #[] 26))) (by simp)
  have e1 : (w.alloc (.cells #[] 26)).heap.size = w.heap.size + 1 := by simp
  rw [e1] at h1
  exact h1
set_option maxRecDepth 100000 in
set_option maxHeartbeats 8000000 in
theorem law_scanned (A : Option Addr) (n c : Nat) (bs : List Int) (aT aB aO : Addr) (w : World) (hE : Errs w.heap.size w aT aB aO) (hK : ErrBlk w.heap.size w aT aB) (hr : IsBytes w w.heap.size A n bs) :
    Calls Tryd.prog 4 #[.slice A n c] w fun e w' => e = .returned (.bool true) ∧ Below w.heap.size w w' := by
  obtain ⟨i0, hi0, hz0, hz1, hz2⟩ := info_parts infoByte
  obtain ⟨j0, hj0, hy0, hy1, hy2⟩ := info_parts infoRec
  have HR := Lib.hid hr
  have HE := Lib.hid hE
  have HK := Lib.hid hK
  clear hr hE hK
  by_cases hbig : (1048576 : Int) < n
  · have hd : decide ((1048576 : Int) < n) = true := by simp; omega
    go_enter Tryd.func4, Tryd.ntmps4
    go_wp2_with (go_at_call 8; refine (big_any A n c _).mono ?_; rintro e w' ⟨rfl, rfl⟩)
    go_ret
    exact ⟨rfl, Below.refl _ _⟩
  · have hd : decide ((1048576 : Int) < n) = false := by simp; omega
    have hn : n ≤ 1048576 := by omega
    go_enter Tryd.func4, Tryd.ntmps4
    go_wp2_with (go_at_call 8; refine (big_any A n c _).mono ?_; rintro e w' ⟨rfl, rfl⟩)
    go_loopw [3, 4, 5] (fun o b i wr => ∃ (t k q : Nat) (A3 A4 : Option Addr) (c3 c4 : Nat) (rs : RList), t ≤ 6 ∧ k ≤ t ∧ q ≤ 76 * t ∧ o = .slice A3 k c3 ∧ b = .slice A4 q c4 ∧ i = .int .i64 t ∧ Hid (OwnRs wr w.heap.size A3 k c3 rs) ∧ Hid (OwnB wr w.heap.size A4 q c4 (catF rs)) ∧ Hid (∀ r ∈ rs, recB r.1 r.2 = true) ∧ Below w.heap.size w wr ∧ w.heap.size ≤ wr.heap.size) (fun _ _ i _ => 6 - (intOf i).toNat)
    case atStart => exact ⟨0, 0, 0, _, _, _, _, [], by omega, by omega, by omega, rfl, rfl, rfl, (OwnRs.empty w).below (below_a1 _ _), start_b w, Lib.hid (fun r hr => absurd hr List.not_mem_nil), (below_a1 w (.cells #[] 26)).alloc (by simp) _, by simp; omega⟩
    case round =>
      obtain ⟨t, k, q, A3, A4, c3, c4, rs, ht, hk, hq, rfl, rfl, rfl, HO, HB, HRS, hbr, hsr⟩ := hrel
      have HRr := Lib.hid (HR.out.below hbr (Nat.le_refl _))
      go_wp2_with fail
      refine (at_any A n c 0 w.heap.size _ (isB_of HRr.out) hn (by omega)).mono ?_
      rintro e w' ⟨v, rfl, hv0, hv1, rfl⟩
      obtain ⟨u, hu⟩ : ∃ u : Int, u = v % 6 := ⟨_, rfl⟩
      have hu1 : Int.tmod v 6 = u := by rw [Int.tmod_eq_emod_of_nonneg hv0]; exact hu.symm
      have hu6 : 0 ≤ u ∧ u < 6 := by omega
      clear hu
      by_cases hlt : (t : Int) < 1 + u
      · have hd1 : decide ((t : Int) < 1 + u) = true := by simp; omega
        have ht5 : t ≤ 5 := by omega
        go_wp2_with fail
        refine (alt_any A n c bs t (by omega) w.heap.size wr HRr.out hsr hn).mono ?_
        rintro e w1 ⟨A1, n1, c1, rfl, hB1, hb1⟩
        have hn1 : n1 ≤ 1048576 := by
          have h1 := hB1.1
          have h2 := HRr.out.1
          rw [List.length_cons, List.length_take] at h1
          omega
        have HU := Lib.hid (draw_bytes hB1.bytes)
        clear hB1
        go_wp2_with fail
        refine (Draw.drawFrame_any w1 w1.heap.size (Nat.le_refl _) A1 n1 c1 _ HU.out hn1).mono ?_
        rintro e w2 ⟨kd, ys, A', m, c', rfl, hm13, hO2, hb2⟩
        have hmb : m ≤ 1048576 := by omega
        have hbW : Below w2.heap.size w2 (w2.alloc (.cells #[.int .i64 kd, .slice A' m c'] 26)) := below_a1 _ _
        have hI2 := hO2.ints.below hbW (Nat.le_refl _)
        have HI2 := Lib.hid hI2
        have HX2 := Lib.hid (Box.new w2 kd A' m c' 26)
        obtain ⟨x0, x1⟩ := HX2.out
        have hb12 : Below wr.heap.size wr w2 := hb1.trans (hb2.mono hb1.size)
        have hb02 : Below wr.heap.size wr (w2.alloc (.cells #[.int .i64 kd, .slice A' m c'] 26)) := hb12.trans (hbW.mono hb12.size)
        have HOW := Lib.hid (ownI_base (hO2.below hbW) hb1.size)
        have hs12 := hb12.size
        clear hO2 hI2 hbW hb1 hb2 HU
        go_wp2_with fail
        refine (specRecordOk_any kd A' m c' ys w2.heap.size _ HI2.out (by simp) hmb).mono ?_
        rintro e w3 ⟨rfl, hb3⟩
        have hb13 : Below wr.heap.size wr w3 := hb02.trans (hb3.mono hb02.size)
        have HX3 := Lib.hid (HX2.out.below hb3)
        have HI3 := Lib.hid (HI2.out.below hb3 (by simp))
        have HOW3 := Lib.hid (HOW.out.below hb3)
        have HB3 := Lib.hid (HB.out.below hb13)
        have HO3 := Lib.hid (HO.out.below hb13)
        have hb03 : Below w.heap.size w w3 := hbr.trans (hb13.mono hsr)
        have hs3 : w2.heap.size < w3.heap.size := HX3.out.lt
        clear hb3 x0 x1 HX2 HI2 HOW
        cases hrec : recB kd ys
        · go_wp2_with fail
          go_roundw
          case rel => exact ⟨t + 1, k, q, A3, A4, c3, c4, rs, by omega, by omega, by omega, rfl, rfl, by go_num, HO3, HB3, HRS, hb03, hb03.size⟩
          case measure => simp [intOf]; omega
        · obtain ⟨x0, x1⟩ := HX3.out
          obtain ⟨hs, hH⟩ := HO.out
          have HH := Lib.hid hH
          have hbx := below_a1 w3 (.cells #[.int .i64 kd, .slice A' m c'] 26)
          have hb14 := hb13.trans (hbx.mono hb13.size)
          have HB14 := Lib.hid hb14
          have HH4 := Lib.hid (hH.below hb14)
          have HOW4 := Lib.hid (HOW3.out.below hbx)
          have HB4 := Lib.hid (HB3.out.below hbx)
          have HX4 := Lib.hid (HX3.out.below hbx)
          have HI4 := Lib.hid (HI3.out.below hbx (Nat.le_of_lt hs3))
          have hQ : ∀ q, (Value.slice A3 k c3).ownBlock = some q → w.heap.size ≤ q ∧ q < wr.heap.size := HO.out.rowlt
          have HQ := Lib.hid hQ
          clear hQ hH hbx
          go_wp2_with (at_builtin; refine wpList_append_own _ rfl (.tmp 32) (.tmp 34) _ rfl w.heap.size 26 j0 _ 2 32 Tryd.underlying36 hj0 hy0 hy1 hy2 rfl (by omega) (.slice A3 k c3) k (flatH hs) rfl ?o1 ⟨w3.heap.size, 0, none⟩ 1 1 [.int .i64 kd, .slice A' m c'] rfl rfl ?o2 ?o3 ?o4 ?o5 ?o6 ?_)
          case o1 => exact HH4.out.2.2.1
          case o2 => exact lit2_news w3 (.int .i64 kd) (.slice A' m c') 26
          case o3 => intro u hu; simp at hu; rcases hu with rfl | rfl <;> rfl
          case o4 => unfold maxLen; omega
          case o5 => omega
          case o6 => have := hb03.size; simp; omega
          intro v2 w5 hown hgr _
          obtain ⟨A6, c6, rfl, hO6⟩ := HH.out.push HB14.out HOW4.out hsr hown hgr
          have HO6 := Lib.hid hO6
          have hb5 : Below w.heap.size w w5 := (hbr.trans (HB14.out.mono hsr)).grown hgr (by have := hb03.size; simp; omega) (fun q hq => (HQ.out q hq).1)
          have hO5 := HOW4.out.grown hgr (Go.Proofs.YtghckkameinicaaDoor.Rec.row_ne HOW4.out.2 HH4.out.2.2.1 (by decide))
          have HI5 := Lib.hid hO5.ints
          have HB5 := Lib.hid (ownB_grownR HB4.out HH4.out hgr)
          obtain ⟨z0, z1⟩ := HX4.out.grown hgr (fun e => by have := (HQ.out _ e).2; omega)
          clear hown hgr hO6 hO5 x0 x1 HX4 HX3 HI4 HI3 HH HH4 HOW4 HOW3 HB14
          have HFT := Lib.hid (frame_t hrec)
          have HCF : Hid (catF (rs ++ [(kd, ys)]) = catF rs ++ frameT kd ys) := by show _ = _; rw [catF_app, catF_cons]; simp [catF]
          have HRS2 : Hid (∀ r ∈ rs ++ [(kd, ys)], recB r.1 r.2 = true) := Lib.hid fun r hr => by
            rcases List.mem_append.mp hr with h | h
            · exact HRS.out r h
            · simp at h; rw [h]; exact hrec
          have HF4 : Hid (4 ≤ (frameT kd ys).length) := by
            have hok := recR_frame (post := []) hrec
            rw [List.append_nil] at hok
            have h2 := (recR_ok (by rw [← frame_t hrec]; exact frame_in) hok).1
            show 4 ≤ _
            omega
          go_wp2_with fail
          refine (frameRecord_any kd A' m c' ys w5.heap.size _ HI5.out (Nat.le_refl _) hmb).mono ?_
          rintro e w6 ⟨Ab, nb, cb, rfl, hB6, hb6⟩
          have hnb76 : nb ≤ 76 := by rw [← hB6.1]; exact frame_len kd ys
          rw [HFT.out] at hB6
          have hnb4 : 4 ≤ nb := by rw [← hB6.1]; exact HF4.out
          obtain ⟨g2, cap2, hv2, _⟩ := hB6.2.2.form (by omega)
          have hA : Ab = some ⟨g2, 0, none⟩ := by injection hv2
          subst hA
          have HN := Lib.hid hB6
          have HB6 := Lib.hid (HB5.out.below hb6)
          have HO7 := Lib.hid (HO6.out.below hb6)
          have hb06 : Below w.heap.size w w6 := hb5.trans (hb6.mono hb5.size)
          have hs6 := hb06.size
          clear hB6 hv2 hb6
          go_wp2_with (at_builtin; refine wpList_append_own _ rfl (.tmp 36) (.tmp 38) _ rfl w.heap.size 5 i0 _ 1 1 Tryd.underlying22 hi0 hz0 hz1 hz2 rfl (by omega) (.slice A4 q c4) q ((catF rs).map (Value.int .u8)) rfl ?o1 ⟨g2, 0, none⟩ nb cb ((frameT kd ys).map (Value.int .u8)) rfl ?o0 ?o2 ?o3 ?o4 ?o5 ?o6 ?_)
          case o1 => exact HB6.out.2.2
          case o0 => rw [List.length_map, HN.out.1, Nat.mul_one]
          case o2 => exact ownB_news HN.out
          case o3 => intro u hu; obtain ⟨q, _, rfl⟩ := List.mem_map.mp hu; rfl
          case o4 => unfold maxLen; omega
          case o5 => omega
          case o6 => exact hs6
          intro v3 w7 hown3 hgr3 _
          obtain ⟨A7, c7, rfl, hI7⟩ := ownB_appends (bs := catF rs) (ys := frameT kd ys) HB6.out.1 HN.out.1 (by omega) HB6.out.2.1 HN.out.2.1 hown3
          have HB7 : Hid (OwnB w7 w.heap.size A7 (q + nb) c7 (catF (rs ++ [(kd, ys)]))) := by rw [HCF.out]; exact hI7
          have HO8 := Lib.hid (HO7.out.grownB HB6.out hgr3)
          have hb7 : Below w.heap.size w w7 := hb06.grown hgr3 hs6 (fun q hq => (HB6.out.lt q hq).1)
          clear hown3 hgr3 hI7
          go_wp2_with fail
          go_roundw
          case rel => exact ⟨t + 1, k + 1, q + nb, A6, A7, c6, c7, rs ++ [(kd, ys)], by omega, by omega, by omega, rfl, rfl, by go_num, HO8, HB7, HRS2, hb7, hb7.size⟩
          case measure => simp [intOf]; omega
      · have hd1 : decide ((t : Int) < 1 + u) = false := by simp; omega
        have HEr := Lib.hid (errs_up (HE.out.below hbr (Nat.le_refl _)) hbr.size)
        have HKr := Lib.hid (blk_up (HK.out.below hbr (Nat.le_refl _)) hbr.size)
        have hqc : q ≤ c4 := ownB_cap HB.out
        have hkc : k ≤ c3 := HO.out.cap
        have HLR : Hid (rs.length = k) := HO.out.len
        have HLQ : Hid ((catF rs).length = q) := HB.out.1
        have HRJ : Hid (∀ j, j < k → recB (rs.getD j (0, [])).1 (rs.getD j (0, [])).2 = true) := Lib.hid fun j hj => by
          have hl : j < rs.length := by rw [HLR.out]; exact hj
          exact HRS.out _ (by simp [List.getD, hl])
        have HSA := Lib.hid (scan_all0 HRS.out)
        go_wp2_with fail
        refine (scanFrames_any A4 q c4 (catF rs) wr.heap.size aT aB aO _ HEr.out HKr.out HB.out.bytes (Nat.le_refl _) (by omega) hqc).mono ?_
        rintro e w8 ⟨A8, c8, rfl, hO8, hb8⟩
        rw [HSA.out] at hO8 ⊢
        simp only [HLR.out, HLQ.out] at hO8 ⊢
        have HO8 := Lib.hid hO8
        have HO9 := Lib.hid (HO.out.below hb8)
        have HB9 := Lib.hid (HB.out.below hb8)
        have hb08 : Below w.heap.size w w8 := hbr.trans (hb8.mono hsr)
        have hqq : ((q : Int) != (q : Int)) = false := by simp
        clear hO8 hb8
        go_wp2_with fail
        refine (sameRecords_same A8 A3 k c8 c3 rs w8.heap.size w8.heap.size _ HO8.out.reads HO9.out.reads (Nat.le_refl _) (Nat.le_refl _) (by omega) HRJ.out).mono ?_
        rintro e w9 ⟨rfl, hb9⟩
        have HO10 := Lib.hid (HO9.out.below hb9)
        have HB10 := Lib.hid (HB9.out.below hb9)
        have hb09 : Below w.heap.size w w9 := hb08.trans (hb9.mono hb08.size)
        have HR9 := Lib.hid (isB_of (HR.out.below hb09 (Nat.le_refl _)))
        clear hb9
        go_wp2_with fail
        refine (at_any A n c 1 w.heap.size _ HR9.out hn (by omega)).mono ?_
        rintro e w' ⟨v1, rfl, hv10, hv11, rfl⟩
        go_wp2_with fail
        refine (at_any A n c 2 w.heap.size _ HR9.out hn (by omega)).mono ?_
        rintro e w' ⟨v2, rfl, hv20, hv21, rfl⟩
        obtain ⟨p, hp⟩ : ∃ p : Nat, v1 * (1 + v2) = (p : Int) := ⟨(v1 * (1 + v2)).toNat, by have := Int.mul_nonneg hv10 (show 0 ≤ 1 + v2 by omega); omega⟩
        have hp1 : (p : Int) ≤ 255 * 256 := by rw [← hp]; exact Int.mul_le_mul (by omega) (by omega) (by omega) (by omega)
        have hwp : IntKind.i64.wrap (v1 * (1 + v2)) = (p : Int) := by rw [hp, IntKind.wrap_i64]; omega
        obtain ⟨x, hx⟩ : ∃ x : Nat, x = p % (q + 1) := ⟨_, rfl⟩
        have hxq : x ≤ q := by have := Nat.mod_lt p (show 0 < q + 1 by omega); omega
        have hxt : Int.tmod (p : Int) ((q : Int) + 1) = (x : Int) := by rw [Int.tmod_eq_emod_of_nonneg (by omega), hx]; simp
        have hcut := cutH A4 q c4 x (by omega)
        have HBC : Hid (IsBytes w9 w9.heap.size (cutB A4 0 c4) x ((catF rs).take x)) := by
          have h1 := bytes_cut2 (p := 0) (q := x) HB10.out.bytes (by omega) (by omega) hqc
          rw [List.drop_zero] at h1
          exact h1
        have HE9 := Lib.hid (errs_up (HE.out.below hb09 (Nat.le_refl _)) hb09.size)
        have HK9 := Lib.hid (blk_up (HK.out.below hb09 (Nat.le_refl _)) hb09.size)
        obtain ⟨a', b', t', hab, hle, hsc, hor⟩ := scan_cut0 HRS.out (c := x) (by rw [HLQ.out]; exact hxq)
        obtain ⟨y, hy⟩ : ∃ y, a'.length = y := ⟨_, rfl⟩
        obtain ⟨z, hz⟩ : ∃ z, (catF a').length = z := ⟨_, rfl⟩
        have hyk : y ≤ k := by have h1 := HLR.out; rw [hab, List.length_append] at h1; omega
        have HRA : Hid (∀ j, j < y → recB (a'.getD j (0, [])).1 (a'.getD j (0, [])).2 = true) := Lib.hid fun j hj => by
          have hl : j < a'.length := by omega
          exact HRS.out _ (by rw [hab]; exact List.mem_append_left _ (by simp [List.getD, hl]))
        rw [hz] at hle hor
        have HAB := Lib.hid hab
        have HSC := Lib.hid hsc
        have HY := Lib.hid hy
        have HZ := Lib.hid hz
        clear hx hab hsc hy hz
        go_wp2_with fail
        refine (scanFrames_any (cutB A4 0 c4) x c4 ((catF rs).take x) w9.heap.size aT aB aO _ HE9.out HK9.out HBC.out (Nat.le_refl _) (by omega) (by omega)).mono ?_
        rintro e w12 ⟨A12, c12, rfl, hO12, hb12⟩
        rw [HSC.out] at hO12 ⊢
        simp only [HY.out, HZ.out] at hO12 ⊢
        have HO12 := Lib.hid hO12
        have HO13 : Hid (Go.Proofs.YtghckkameinicaaDoor.Rec.IsRecs w12 w12.heap.size A3 y a') := by
          have h1 := (HO10.out.below hb12).reads
          rw [HAB.out] at h1
          exact h1.take HY.out
        have hb012 : Below w.heap.size w w12 := hb09.trans (hb12.mono hb09.size)
        have hcr := cutRec A3 k c3 y (by omega)
        have hdy : decide ((y : Int) ≤ (k : Int)) = true := by simp; omega
        have hdz : decide ((z : Int) ≤ (x : Int)) = true := by simp; omega
        clear hO12 hb12 hcut
        rcases hor with ⟨hzx, rfl⟩ | ⟨hzx, rfl⟩
        · have hez : ((z : Int) == (x : Int)) = true := by simp; omega
          go_wp2_with fail
          refine (sameRecords_same A12 A3 y c12 c3 a' w12.heap.size w12.heap.size _ HO12.out.reads HO13.out (Nat.le_refl _) (Nat.le_refl _) (by omega) HRA.out).mono ?_
          rintro e w13 ⟨rfl, hb13⟩
          have hb013 : Below w.heap.size w w13 := hb012.trans (hb13.mono hb012.size)
          go_wp2_with fail
          go_ret
          exact ⟨rfl, hb013⟩
        · have hez : ((z : Int) == (x : Int)) = false := by simp; omega
          go_wp2_with fail
          refine (sameRecords_same A12 A3 y c12 c3 a' w12.heap.size w12.heap.size _ HO12.out.reads HO13.out (Nat.le_refl _) (Nat.le_refl _) (by omega) HRA.out).mono ?_
          rintro e w13 ⟨rfl, hb13⟩
          have hb013 : Below w.heap.size w w13 := hb012.trans (hb13.mono hb012.size)
          go_wp2_with fail
          go_ret
          exact ⟨rfl, hb013⟩
end Go.Proofs.YtghckkameinicaaDoor.Rd
