/-
  THE WALK of laws.FnFrames over this seat's translation: it answers true and turns nothing that was there.
-/
import Derived.Test.YtghckkameinicaaDoorDrawFrame
import Derived.Test.YtghckkameinicaaDoorByteAt
import Derived.Test.YtghckkameinicaaDoorFrameV
import Derived.Test.YtghckkameinicaaDoorLawScanFrames
import Derived.Test.YtghckkameinicaaDoorSameRec
namespace Go.Proofs.YtghckkameinicaaDoor.Rd
open Go.ChangeShapes Go.WideShapes Go.ChangeAt Go.RowKit
open Go.Proofs.YtghckkameinicaaDoor.Ints (below_drewN IsB big_any at_any IsInts)
open Go.Proofs.YtghckkameinicaaDoor.Has (OwnI)
open Go.Proofs.YtghckkameinicaaDoor.Bytes (IsBytes OwnB sameBytes_same)
open Go.Proofs.YtghckkameinicaaDoor.Rec (below_a1 Box below_keep below_undrew frameRecord_any specFrameRecord_any frameSize_any specFrameSize_any specRecordOk_any sameRecord_any recB sizeV size_t frameV frameT frame_t frame_f frame_len frame_in sameB same_4 eqL)
set_option linter.unusedVariables false
set_option linter.unusedSimpArgs false

theorem ownB_cap {w : World} {b : Nat} {A : Option Addr} {n c : Nat} {bs : List Int} (h : OwnB w b A n c bs) : n ≤ c := by
  rcases h.2.2.2 with ⟨h0, h1⟩ | ⟨g, cap, cur, hv, _, _, hnc, _⟩
  · omega
  · injection hv with _ _ h3
    omega
theorem isB_of {w : World} {B : Nat} {A : Option Addr} {n : Nat} {bs : List Int} (h : IsBytes w B A n bs) : IsB w B A n := fun hn => by
  obtain ⟨b, off, e, hlt, hc⟩ := h.2.2 hn
  refine ⟨b, off, e, hlt, fun j hj => ⟨bs.getD j 0, hc j hj, ?_⟩⟩
  have hl : j < bs.length := by rw [h.1]; exact hj
  exact h.2.1 _ (by simp [List.getD, hl])
theorem same_self {kd : Int} {ys : List Int} (h : recB kd ys = true) : sameB kd ys kd ys = true := by
  rw [same_4 h h (by simp)]
  simp [eqL]
theorem scan_torn {bs : List Int} (hp : 0 < bs.length) (h : recR bs 0 = .torn) : scanV bs = ([], 0, 1) := amid_torn (amid_start bs) hp h

set_option maxRecDepth 100000 in
set_option maxHeartbeats 8000000 in
theorem law_frames (A : Option Addr) (n c : Nat) (bs : List Int) (us : List UInt8) (aT aB aO : Addr) (w : World) (hE : Errs w.heap.size w aT aB aO) (hK : ErrBlk w.heap.size w aT aB) (hr : IsBytes w w.heap.size A n bs) (hu : Draw.IsBytes w w.heap.size A n us) :
    Calls Tryd.prog 3 #[.slice A n c] w fun e w' => e = .returned (.bool true) ∧ Below w.heap.size w w' := by
  have HR := Lib.hid hr
  have HU := Lib.hid hu
  have HE := Lib.hid hE
  have HK := Lib.hid hK
  clear hr hu hE hK
  by_cases hbig : (1048576 : Int) < n
  · have hd : decide ((1048576 : Int) < n) = true := by simp; omega
    go_enter Tryd.func3, Tryd.ntmps3
    go_wp2_with (go_at_call 8; refine (big_any A n c _).mono ?_; rintro e w' ⟨rfl, rfl⟩)
    go_ret
    exact ⟨rfl, Below.refl _ _⟩
  · have hd : decide ((1048576 : Int) < n) = false := by simp; omega
    have hn : n ≤ 1048576 := by omega
    go_enter Tryd.func3, Tryd.ntmps3
    go_wp2_with (go_at_call 8; refine (big_any A n c _).mono ?_; rintro e w' ⟨rfl, rfl⟩)
    refine (Draw.drawFrame_any w w.heap.size (Nat.le_refl _) A n c us HU.out hn).mono ?_
    rintro e w1 ⟨kd, ys, A', m, c', rfl, hm13, hO1, hb1⟩
    have HO1 := Lib.hid hO1
    have HML : Hid (ys.length = m) := hO1.1
    have hmb : m ≤ 1048576 := by omega
    have hbW : Below w1.heap.size w1 (w1.alloc (.cells #[.int .i64 kd, .slice A' m c'] 26)) := below_a1 _ _
    have HI1 := Lib.hid (hO1.ints.below hbW (Nat.le_refl _))
    have HX1 := Lib.hid (Box.new w1 kd A' m c' 26)
    obtain ⟨x0, x1⟩ := HX1.out
    obtain ⟨F, hF⟩ : ∃ F, F = frameV kd ys := ⟨_, rfl⟩
    have hF76 : F.length ≤ 76 := by rw [hF]; exact frame_len kd ys
    have HF := Lib.hid hF
    clear hO1 hF
    go_wp2_with fail
    refine (frameRecord_any kd A' m c' ys w1.heap.size _ HI1.out (by simp) hmb).mono ?_
    rintro e w2 ⟨Ab, nb, cb, rfl, hB2, hb2⟩
    rw [← HF.out] at hB2
    have HB2 := Lib.hid hB2
    have HNB : Hid (F.length = nb) := hB2.1
    have hnb76 : nb ≤ 76 := by rw [← HNB.out]; exact hF76
    have hnbb : nb ≤ 1048576 := by omega
    have hnc : nb ≤ cb := ownB_cap hB2
    have hx2 := HX1.out.below hb2
    have HX2 := Lib.hid hx2
    obtain ⟨y0, y1⟩ := hx2
    have HI2 := Lib.hid (HI1.out.below hb2 (by simp))
    have hb02 : Below w.heap.size w w2 := (hb1.trans (hbW.mono hb1.size)).trans (hb2.mono (by have := hb1.size; simp; omega))
    have hs12 : w1.heap.size < w2.heap.size := HX2.out.lt
    clear hB2 hb2 hbW x0 x1
    have hss : (sizeV kd ys != sizeV kd ys) = false := by simp
    go_wp2_with fail
    go_region_held3 (fun w' => w'.cell? ⟨w1.heap.size, 0, none⟩ = some (.int .i64 kd) ∧ w'.cell? ⟨w1.heap.size, 1, none⟩ = some (.slice A' m c'))
      (first | go_keep | (exact ⟨HX3.out.1, HX3.out.2⟩) | (exact ⟨HX4.out.1, HX4.out.2⟩) | (exact ⟨HX5.out.1, HX5.out.2⟩) | (exact ⟨HX6.out.1, HX6.out.2⟩))
      (first | (go_at_call 12; refine (specFrameRecord_any kd A' m c' ys w1.heap.size _ (by exact HI2.out) (by exact Nat.le_of_lt hs12) hmb).mono ?_; rintro e w3 ⟨Ac, nc, cc, rfl, hB3, hb3⟩; have hb3' : Below w2.heap.size w2 w3 := below_undrew hb3; have HX3 := Lib.hid (HX2.out.below hb3'); have hs3 : w1.heap.size < w3.heap.size := HX3.out.lt; have HI3 := Lib.hid (HI2.out.below hb3' (Nat.le_of_lt hs12)); rw [← HF.out] at hB3; have hnc3 : nb = nc := (by rw [← hB3.1]; exact HNB.out.symm); subst hnc3; have HB3 := Lib.hid hB3; clear hB3) | (go_at_call 11; refine (sameBytes_same Ab Ac _ cb cc F w2.heap.size w3.heap.size _ (by exact HB2.out.bytes.below hb3' (by exact Nat.le_refl _)) (by exact HB3.out.bytes) hnbb).mono ?_; rintro e w4 ⟨rfl, k4, hk4⟩; have hb4 : Below w3.heap.size w3 w4 := (by rw [hk4]; exact below_drewN (Below.refl _ _) k4); have HX4 := Lib.hid (HX3.out.below hb4); have hs4 : w1.heap.size < w4.heap.size := HX4.out.lt; have HI4 := Lib.hid (HI3.out.below hb4 (Nat.le_of_lt hs3)); clear hk4) | (go_at_call 13; refine (frameSize_any kd A' m c' ys w1.heap.size _ (by exact HI4.out) (by exact Nat.le_of_lt hs4) hmb).mono ?_; rintro e w5 ⟨rfl, hb5⟩; have HX5 := Lib.hid (HX4.out.below hb5); have hs5 : w1.heap.size < w5.heap.size := HX5.out.lt; have HI5 := Lib.hid (HI4.out.below hb5 (Nat.le_of_lt hs4))) | (go_at_call 14; refine (specFrameSize_any kd A' m c' ys w1.heap.size _ (by exact HI5.out) (by exact Nat.le_of_lt hs5) hmb).mono ?_; rintro e w6 ⟨rfl, hb6⟩; have HX6 := Lib.hid (HX5.out.below hb6); have hs6 : w1.heap.size < w6.heap.size := HX6.out.lt; have HI6 := Lib.hid (HI5.out.below hb6 (Nat.le_of_lt hs5))))
    all_goals
      have hb26 : Below w2.heap.size w2 w6 := ((hb3'.trans (hb4.mono hb3'.size)).trans (hb5.mono (Nat.le_trans hb3'.size hb4.size))).trans (hb6.mono (Nat.le_trans (Nat.le_trans hb3'.size hb4.size) hb5.size))
      have hb06 : Below w.heap.size w w6 := hb02.trans (hb26.mono hb02.size)
      have HB6 := Lib.hid (HB2.out.below hb26)
      obtain ⟨q0, q1⟩ := HX6.out
      clear hb3 hb3' hb4 hb5 hb6 HX3 HX4 HX5 HI3 HI4 HI5 hs3 hs4 hs5 HB3 y0 y1
      go_wp2_with fail
      refine (specRecordOk_any kd A' m c' ys w1.heap.size _ HI6.out (Nat.le_of_lt hs6) hmb).mono ?_
      rintro e w7 ⟨rfl, hb7⟩
      have hb07 : Below w.heap.size w w7 := hb06.trans (hb7.mono hb06.size)
      have HB7 := Lib.hid (HB6.out.below hb7)
      have HX7 := Lib.hid (HX6.out.below hb7)
      have HI7 := Lib.hid (HI6.out.below hb7 (Nat.le_of_lt hs6))
      have hs7 : w1.heap.size < w7.heap.size := HX7.out.lt
      clear hb7 q0 q1
      cases hrec : recB kd ys
      · have hnb0 : nb = 0 := by rw [← HNB.out, HF.out, frame_f hrec]; rfl
        have hz : ((nb : Int) == 0) = true := by simp; omega
        go_wp2_with fail
        go_ret
        exact ⟨rfl, hb07⟩
      · have hFT : F = frameT kd ys := by rw [HF.out, frame_t hrec]
        have hrr : recR F 0 = .ok kd ys F.length := by rw [hFT]; have h1 := recR_frame (post := []) hrec; rw [List.append_nil] at h1; exact h1
        have hby : ∀ x ∈ F, 0 ≤ x ∧ x < 256 := HB7.out.2.1
        have hok := recR_ok hby hrr
        have hnb4 : 4 ≤ nb := by rw [← HNB.out]; omega
        have hf0 : frR F ((0 : Nat) : Int) = .ok kd ys F.length := by rw [fr_in (by omega)]; exact hrr
        obtain ⟨z1, z2, z3⟩ := fr_ok hf0
        rw [HNB.out] at z3
        have HTF : Hid (∀ W : World, Errs W.heap.size W aT aB aO → IsBytes W W.heap.size Ab nb F → Calls Tryd.prog 16 #[.slice Ab nb cb, .int .i64 0] W (AnsR W kd ys nb)) := fun W hEW hBW => by
          have h1 := takeFrame_any Ab nb cb ((0 : Nat) : Int) F W.heap.size aT aB aO W hEW hBW (Nat.le_refl _) hnbb hnc
          rw [z1, z2, z3] at h1
          exact h1
        have HBYF := Lib.hid hby
        have HRR := Lib.hid hrr
        have HSS := Lib.hid (same_self hrec)
        have HSZ : Hid (sizeV kd ys = (nb : Int)) := by show _ = _; rw [size_t hrec, ← HF.out, HNB.out]
        have HE7 := Lib.hid (errs_up (HE.out.below hb07 (Nat.le_refl _)) hb07.size)
        clear hFT hrr hby hok hf0 z1 z2 z3
        go_wp2_with fail
        refine (HTF.out w7 HE7.out HB7.out.bytes).mono ?_
        rintro e w8 ⟨A8, c8, rfl, hO8, hb8⟩
        rw [HML.out] at hO8 ⊢
        have hb08 : Below w.heap.size w w8 := hb07.trans (hb8.mono hb07.size)
        have hs8 : w7.heap.size ≤ w8.heap.size := hb8.size
        have hx8 := HX7.out.below hb8
        have hl18 : w1.heap.size < w8.heap.size := hx8.lt
        have HXW := Lib.hid (hx8.alloc (.cells #[.int .i64 kd, .slice A8 m c8] 26))
        obtain ⟨r0, r1⟩ := HXW.out
        obtain ⟨t0, t1⟩ := Box.new w8 kd A8 m c8 26
        have hbW8 := below_a1 w8 (.cells #[.int .i64 kd, .slice A8 m c8] 26)
        have HIA := Lib.hid (hO8.ints.below hbW8 (Nat.le_refl _))
        have HIB := Lib.hid (((HI7.out.below hb8 (Nat.le_of_lt hs7)).below hbW8 (Nat.le_of_lt hl18)).more (Nat.le_of_lt hl18))
        have HB8 := Lib.hid ((HB7.out.below hb8).below hbW8)
        have hb0W : Below w.heap.size w (w8.alloc (.cells #[.int .i64 kd, .slice A8 m c8] 26)) := hb08.alloc hb08.size _
        have hnn : ((nb : Int) != (nb : Int)) = false := by simp
        clear hO8 hb8 hx8
        go_wp2_with fail
        refine (sameRecord_any kd kd A8 A' m m c8 c' ys ys w8.heap.size _ HIA.out HIB.out (by simp) hmb hmb).mono ?_
        rintro e w9 ⟨rfl, hb9⟩
        rw [HSS.out]
        have hx9 := HXW.out.below hb9
        have HX9 := Lib.hid hx9
        obtain ⟨u0, u1⟩ := hx9
        have HI9 := Lib.hid (HIB.out.below hb9 (by simp))
        have HB9 := Lib.hid (HB8.out.below hb9)
        have hb09 : Below w.heap.size w w9 := hb0W.trans (hb9.mono hb0W.size)
        have hs9 : w8.heap.size ≤ w9.heap.size := by have := hb9.size; simp at this; omega
        clear hb9 r0 r1 t0 t1
        go_wp2_with fail
        refine (frameSize_any kd A' m c' ys w8.heap.size _ HI9.out hs9 hmb).mono ?_
        rintro e w10 ⟨rfl, hb10⟩
        rw [HSZ.out]
        have hb010 : Below w.heap.size w w10 := hb09.trans (hb10.mono hb09.size)
        have HB10 := Lib.hid (HB9.out.below hb10)
        have HR10 := Lib.hid (isB_of (HR.out.below hb010 (Nat.le_refl _)))
        clear hb10 u0 u1
        go_wp2_with fail
        refine (at_any A n c 0 w.heap.size _ HR10.out hn (by omega)).mono ?_
        rintro e w' ⟨v, rfl, hv0, hv1, rfl⟩
        obtain ⟨k, hk⟩ : ∃ k : Nat, v % ((nb : Int) - 1) = (k : Int) := ⟨(v % ((nb : Int) - 1)).toNat, by have := Int.emod_nonneg v (b := (nb : Int) - 1) (by omega); omega⟩
        have hk1 : (k : Int) < (nb : Int) - 1 := by rw [← hk]; exact Int.emod_lt_of_pos v (by omega)
        have hk2 : Int.tmod v ((nb : Int) - 1) = (k : Int) := by rw [Int.tmod_eq_emod_of_nonneg hv0]; exact hk
        have hk3 : k + 1 < nb := by omega
        have hcut : ∀ W : World, (Instr.slice 22 (.slice Ab nb cb) none (some (.int .i64 (1 + (k : Int)))) none).run Tryd.prog W = .ok (.slice (cutB Ab 0 cb) (k + 1) cb) W := fun W => by
          rw [show (1 + (k : Int)) = ((k + 1 : Nat) : Int) by omega]
          exact cutH Ab nb cb (k + 1) (by omega) W
        have HBC : Hid (IsBytes w10 w10.heap.size (cutB Ab 0 cb) (k + 1) (F.take (k + 1))) := by
          have h1 := bytes_cut2 (p := 0) (q := k + 1) HB10.out.bytes (by omega) (by omega) hnc
          rw [List.drop_zero] at h1
          exact h1
        have HSC : Hid (scanV (F.take (k + 1)) = ([], 0, 1)) := scan_torn (by rw [List.length_take, HNB.out]; omega) (recR_take HBYF.out HRR.out (by rw [HNB.out]; omega))
        have HE10 := Lib.hid (errs_up (HE.out.below hb010 (Nat.le_refl _)) hb010.size)
        have HK10 := Lib.hid (blk_up (HK.out.below hb010 (Nat.le_refl _)) hb010.size)
        go_wp2_with fail
        refine (scanFrames_any (cutB Ab 0 cb) (k + 1) cb (F.take (k + 1)) w10.heap.size aT aB aO _ HE10.out HK10.out HBC.out (Nat.le_refl _) (by omega) (by omega)).mono ?_
        rintro e w12 ⟨A12, c12, rfl, _, hb12⟩
        rw [HSC.out]
        have hb012 : Below w.heap.size w w12 := hb010.trans (hb12.mono hb010.size)
        clear hb12 hcut
        simp only [List.length_nil]
        go_wp2_with fail
        go_ret
        exact ⟨rfl, hb012⟩
end Go.Proofs.YtghckkameinicaaDoor.Rd
