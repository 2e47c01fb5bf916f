/-
  THE WALK of laws.FnReports over this seat's translation: it answers true and turns nothing that was there, whatever fleet, report and tick are drawn.
-/
import Derived.Test.YtpghccbknlokcaaRepV
import Derived.Test.YtpghccbknlokcaaFleetRevs
import Derived.Test.YtpghccbknlokcaaByteAt
import Derived.Deep.DeepCutAuto
import Derived.Deep.Cut
namespace Go.Proofs.Ytpghccbknlokcaa.RepV
open Go.ChangeShapes Go.WideShapes Go.ChangeAt Go.RowKit
open Go.Proofs.Ytpghccbknlokcaa.LK Go.Proofs.Ytpghccbknlokcaa.Pods Go.Proofs.Ytpghccbknlokcaa.FleetV Go.Proofs.Ytpghccbknlokcaa.Crew Go.Proofs.Ytpghccbknlokcaa.RevV
open Go.Proofs.Ytpghccbknlokcaa.Ints (big_any)
open Go.Proofs.Ytpghccbknlokcaa.Has (OwnI)
set_option linter.unusedVariables false
set_option linter.unusedSimpArgs false

/-- Some fleet, report and tick, drawn. -/
def RepSaid (w : World) (e : Ending) (w' : World) : Prop :=
  ∃ (A' : Option Addr) (m c' : Nat) (ps : PList) (nx rp gen st now : Int), e = .returned (.tuple #[.agg #[.slice A' m c', .int .i64 nx], .agg #[.int .i64 rp, .int .i64 gen, .int .i64 st], .int .i64 now]) ∧ m ≤ 40 ∧ (Lit.int .i64 rp).wf = true ∧ OwnP w' w.heap.size A' m c' ps ∧ Below w.heap.size w w'
theorem made1_own {d : FleetTy.fty.D} {x : Value} {W w' : World} {e : Ending} (h : Made1 FleetTy.fty d x W e w') : ∃ A m c ps nx, d = (ps, nx) ∧ e = .returned (.tuple #[.agg #[.slice A m c, .int .i64 nx], x]) ∧ OwnP w' W.heap.size A m c ps ∧ Below W.heap.size W w' := by
  obtain ⟨v', S, rfl, ⟨⟨A, c, rfl, hO, hS⟩, hin, _⟩, hb⟩ := h
  exact ⟨A, _, c, d.1, d.2, rfl, rfl, hO.base (fun k hk => (hin k (hS k hk)).1), hb⟩
theorem made_ints {d : IntTy.ity.D} {W w' : World} {e : Ending} (h : Made IntTy.ity d W e w') : ∃ A c, e = .returned (.slice A (List.length (α := Int) d) c) ∧ OwnI w' 0 A (List.length (α := Int) d) c d ∧ Below W.heap.size W w' := by
  obtain ⟨v', S, rfl, ⟨⟨A, c, rfl, hO, _⟩, _, _⟩, hb⟩ := h
  exact ⟨A, c, rfl, hO, hb⟩

set_option maxRecDepth 100000 in
set_option maxHeartbeats 12800000 in
theorem law_reports (A : Option Addr) (n c : Nat) (w : World) (hD : n ≤ 1048576 → Calls Try.prog 20 #[.slice A n c] w (RepSaid w)) :
    Calls Try.prog 4 #[.slice A n c] w fun e w' => e = .returned (.bool true) ∧ Below w.heap.size w w' := by
  have HDR := Lib.hid hD
  clear hD
  by_cases hbig : (1048576 : Int) < n
  · have hd : decide ((1048576 : Int) < n) = true := by simp; omega
    go_enter Try.func4, Try.ntmps4
    go_wp2_with (go_at_call 7; refine (big_any A n c _).mono ?_; rintro e w' ⟨rfl, rfl⟩)
    go_ret
    exact ⟨rfl, Below.refl _ _⟩
  · have hd : decide ((1048576 : Int) < n) = false := by simp; omega
    have hn : n ≤ 1048576 := by omega
    clear hbig
    go_enter Try.func4, Try.ntmps4
    go_wp2_with (go_at_call 7; refine (big_any A n c _).mono ?_; rintro e w' ⟨rfl, rfl⟩)
    refine (HDR.out hn).mono ?_
    rintro e w1 ⟨A1, m, c1, ps, nx, rp, gen, st, now, rfl, hm, hwf, hO1, hb1⟩
    obtain ⟨V1, hV1⟩ : ∃ V1, V1 = (w1.alloc (.cells #[.slice A1 m c1, .int .i64 nx] 44)).alloc (.cells #[.int .i64 rp, .int .i64 gen, .int .i64 st] 46) := ⟨_, rfl⟩
    have hbV1 : Below w1.heap.size w1 V1 := by rw [hV1]; exact bel2 _ _ _
    have KF : Hid (V1.heap[w1.heap.size]? = some (.cells #[.slice A1 m c1, .int .i64 nx] 44)) := by rw [hV1]; exact box_alloc (box_new _ _) _
    have KR : Hid (V1.heap[w1.heap.size + 1]? = some (.cells #[.int .i64 rp, .int .i64 gen, .int .i64 st] 46)) := by
      rw [hV1]
      have h5 := box_new (w1.alloc (.cells #[.slice A1 m c1, .int .i64 nx] 44)) (.cells #[.int .i64 rp, .int .i64 gen, .int .i64 st] 46)
      simp only [World.size_alloc] at h5
      exact h5
    have HO1 := Lib.hid (hO1.below hbV1)
    have HB1 := Lib.hid (bel_then hb1 hbV1 hb1.size)
    obtain ⟨a0, a1, _, _⟩ := box2 KF.out
    obtain ⟨r0, r1, r2, _⟩ := box3 KR.out
    obtain ⟨V, hV⟩ : ∃ V, V = takeV (ps, nx) rp gen st now := ⟨_, rfl⟩
    have hvv : (V != V) = false := by simp
    go_wp2_with fail
    rw [← hV1]
    clear hV1 hbV1 hO1 hb1
    refine (specTakeReport_any A1 m c1 nx rp gen st now ps V1.heap.size V1 HO1.out.podsAll (Nat.le_refl _) (by omega)).mono ?_
    intro e w2 hm2
    rw [← hV] at hm2
    obtain ⟨A2, m2, c2, ps2, nx2, hd2, rfl, hO2, hb2⟩ := made1_own hm2
    have HV := Lib.hid hV
    have HD2 := Lib.hid hd2
    have hb2m := hb2.alloc hb2.size (.cells #[.slice A2 m2 c2, .int .i64 nx2] 44)
    have KW := Lib.hid (box_new w2 (.cells #[.slice A2 m2 c2, .int .i64 nx2] 44))
    have KF2 := Lib.hid (box_below KF.out hb2m)
    have KR2 := Lib.hid (box_below KR.out hb2m)
    have HO12 := Lib.hid (HO1.out.below hb2m)
    have HB2 := Lib.hid (bel_then HB1.out hb2m HB1.out.size)
    have HM2 : Hid (ps2.length = m2) := hO2.1
    clear hm2 hd2 hb2 hb2m hO2 a0 a1 r0 r1 r2 KF KR HO1 HB1 hV
    obtain ⟨a0, a1, _, _⟩ := box2 KF2.out
    obtain ⟨r0, r1, r2, _⟩ := box3 KR2.out
    go_wp2_with fail
    refine (takeReport_any A1 m c1 nx rp gen st now ps _ _ HO12.out.podsAll (Nat.le_refl _) (by omega) hwf).mono ?_
    intro e w3 hm3
    rw [← HV.out, HD2.out] at hm3
    obtain ⟨A3, m3, c3, ps3, nx3, hd3, rfl, hO3, hb3⟩ := made1_own hm3
    injection hd3 with e1 e2
    subst e1 e2
    obtain rfl : m2 = m3 := HM2.out.symm.trans hO3.1
    have hmm : ((m2 : Int) != (m2 : Int)) = false := by simp
    have hb3m := hb3.alloc hb3.size (.cells #[.slice A3 m2 c3, .int .i64 nx2] 44)
    have KN := Lib.hid (box_new w3 (.cells #[.slice A3 m2 c3, .int .i64 nx2] 44))
    have KW3 := Lib.hid (box_below KW.out hb3m)
    have KF3 := Lib.hid (box_below KF2.out hb3m)
    have KR3 := Lib.hid (box_below KR2.out hb3m)
    have HO13 := Lib.hid (HO12.out.below hb3m)
    have HO33 := Lib.hid (hO3.below (bel1 w3 (.cells #[.slice A3 m2 c3, .int .i64 nx2] 44)))
    have HB3 := Lib.hid (bel_then HB2.out hb3m HB2.out.size)
    have hm40 : m2 ≤ 1048576 := by
      have h5 := few_take (d := (ps, nx)) rp gen st now (by show ps.length ≤ 1048576; have := HO12.out.1; omega)
      rw [HD2.out] at h5
      have h6 : ps2.length ≤ 1048576 := h5
      rw [HM2.out] at h6; exact h6
    clear hm3 hb3 hb3m hO3 a0 a1 r0 r1 r2 KW KF2 KR2 HO12 HB2
    obtain ⟨nb, hnb⟩ : ∃ nb, nb = w3.heap.size := ⟨_, rfl⟩
    obtain ⟨a0, a1, _, _⟩ := box2 KN.out
    obtain ⟨q0, q1, _, _⟩ := box2 KW3.out
    obtain ⟨W, hW⟩ : ∃ W, W = w3.alloc (.cells #[.slice A3 m2 c3, .int .i64 nx2] 44) := ⟨_, rfl⟩
    rw [← hW, ← hnb] at KN
    rw [← hW] at KF3 KR3 HO13 HO33 HB3
    have HWN := Lib.hid hW
    have HNB := Lib.hid hnb
    clear hW hnb KW3
    go_upto_if 55 with fail
    rw [← HWN.out, ← HNB.out]
    clear HWN HNB a0 a1 q0 q1
    go_cut [] (fun wx => Hid (wx.heap[nb]? = some (.cells #[.slice A3 m2 c3, .int .i64 nx2] 44)) ∧ Hid (OwnP wx (w2.heap.size + 1) A3 m2 c3 ps2) ∧ Hid (Below w.heap.size w wx))
    case first =>
      by_cases hV0 : V = 0
      · have hb0 : (V == 0) = true := by simp [hV0]
        have htk := taken (d := (ps, nx)) (rp := rp) (gen := gen) (st := st) (now := now) (by rw [← HV.out]; exact hV0)
        rw [HD2.out] at htk
        obtain ⟨V2, tb, hq1, hq2, hq3⟩ : ∃ (V2 : Int) (tb : Bool), takeV (ps2, nx2) rp gen st now = V2 ∧ findB (ps2, nx2) rp = tb ∧ ((st = 4 ∧ V2 = 2 ∧ tb = false) ∨ (st ≠ 4 ∧ V2 = 1 ∧ tb = true)) := by
          by_cases hs : st = 4
          · exact ⟨2, false, (htk.1 hs).1, (htk.1 hs).2, .inl ⟨hs, rfl, rfl⟩⟩
          · exact ⟨1, true, (htk.2.1 hs).1, (htk.2.1 hs).2, .inr ⟨hs, rfl, rfl⟩⟩
        obtain ⟨o0, o1, o2, o3, o4, ob, hp1, ho2⟩ : ∃ (o0 o1 o2 o3 o4 : Int) (ob : Bool), podT (findP (ps, nx) rp) (findB (ps, nx) rp) = .tuple #[.agg #[.int .i64 o0, .int .i64 o1, .int .i64 o2, .int .i64 o3, .int .i64 o4], .bool ob] ∧ (findP (ps, nx) rp).2.2.1 = o2 := ⟨_, _, _, _, _, _, rfl, rfl⟩
        obtain ⟨p0, p1, p2, p3, p4, hp2, hpo⟩ : ∃ (p0 p1 p2 p3 p4 : Int), podT (findP (ps2, nx2) rp) (findB (ps2, nx2) rp) = .tuple #[.agg #[.int .i64 p0, .int .i64 p1, .int .i64 p2, .int .i64 p3, .int .i64 p4], .bool tb] ∧ (findP (ps2, nx2) rp).2.2.1 = p2 := ⟨_, _, _, _, _, by rw [hq2]; rfl, rfl⟩
        have HGO : Hid (o2 = 4 → tb = true → p2 = 4) := fun h1 h2 => by rw [← hpo]; exact htk.2.2 (by rw [ho2]; exact h1) (by rw [hq2]; exact h2)
        have HQ1 := Lib.hid hq1
        have HP1 := Lib.hid hp1
        have HP2 := Lib.hid hp2
        obtain ⟨a0, a1, _, _⟩ := box2 KF3.out
        obtain ⟨n0, n1, _, _⟩ := box2 KN.out
        obtain ⟨r0, r1, r2, _⟩ := box3 KR3.out
        clear htk hq1 hq2 hp1 ho2 hp2 hpo hV0
        rcases hq3 with ⟨hs, rfl, rfl⟩ | ⟨hs, rfl, rfl⟩
        · have hs4 : (st == 4) = true := by simp [hs]
          have hs5 : (st != 4) = false := by simp [hs]
          clear hs
          go_wp2_with fail
          refine (takeReport_any A3 m2 c3 nx2 rp gen st now ps2 W.heap.size W HO33.out.podsAll (Nat.le_refl _) hm40 hwf).mono ?_
          intro e w4 hm4
          rw [HQ1.out] at hm4
          obtain ⟨A4, m4, c4, ps4, nx4, _, rfl, _, hb4⟩ := made1_own hm4
          have hb4m := hb4.alloc hb4.size (.cells #[.slice A4 m4 c4, .int .i64 nx4] 44)
          have KN4 := Lib.hid (box_below KN.out hb4m)
          have KF4 := Lib.hid (box_below KF3.out hb4m)
          have KR4 := Lib.hid (box_below KR3.out hb4m)
          have HO14 := Lib.hid (HO13.out.below hb4m)
          have HO34 := Lib.hid (HO33.out.below hb4m)
          have HB4 := Lib.hid (bel_then HB3.out hb4m HB3.out.size)
          clear hm4 hb4 hb4m a0 a1 n0 n1 r0 r1 r2
          obtain ⟨a0, a1, _, _⟩ := box2 KF4.out
          obtain ⟨r0, r1, r2, _⟩ := box3 KR4.out
          go_wp2_with fail
          refine (findPod_any A1 m c1 nx rp ps _ _ HO14.out.podsAll (Nat.le_refl _) (by omega) hwf).mono ?_
          rintro e w5 ⟨rfl, hb5⟩
          rw [HP1.out]
          have hb5m := hb5.alloc hb5.size (.cells #[.int .i64 o0, .int .i64 o1, .int .i64 o2, .int .i64 o3, .int .i64 o4] 52)
          have KO := Lib.hid (box_new w5 (.cells #[.int .i64 o0, .int .i64 o1, .int .i64 o2, .int .i64 o3, .int .i64 o4] 52))
          have KN5 := Lib.hid (box_below KN4.out hb5m)
          have KR5 := Lib.hid (box_below KR4.out hb5m)
          have HO35 := Lib.hid (HO34.out.below hb5m)
          have HB5 := Lib.hid (bel_then HB4.out hb5m HB4.out.size)
          clear hb5 hb5m a0 a1 r0 r1 r2 KN4 KR4 HO34 HB4 KF4 HO14
          obtain ⟨n0, n1, _, _⟩ := box2 KN5.out
          obtain ⟨r0, r1, r2, _⟩ := box3 KR5.out
          go_wp2_with fail
          refine (findPod_any A3 m2 c3 nx2 rp ps2 _ _ HO35.out.podsAll (Nat.le_refl _) hm40 hwf).mono ?_
          rintro e w6 ⟨rfl, hb6⟩
          rw [HP2.out]
          have KN6 := Lib.hid (box_below KN5.out hb6)
          have HO36 := Lib.hid (HO35.out.below hb6)
          have HB6 := Lib.hid (bel_then HB5.out hb6 HB5.out.size)
          have KR6 := Lib.hid (box_below KR5.out hb6)
          have KO6 := Lib.hid (box_below KO.out hb6)
          clear n0 n1 r0 r1 r2
          obtain ⟨r0, r1, r2, _⟩ := box3 KR6.out
          have k2 := box_cell KO6.out 2 _ rfl
          have hl5 : w5.heap.size < w6.heap.size := box_lt KO6.out
          have hlr : w1.heap.size + 1 < w6.heap.size := box_lt KR6.out
          clear hb6 KN5 HO35 HB5 KR5 KO
          go_wp2_with fail
          go_meet
          case rel => exact ⟨box_alloc KN6.out _, by have h5 := HO36.out.below (bel1 w6 (.cells #[.int .i64 p0, .int .i64 p1, .int .i64 p2, .int .i64 p3, .int .i64 p4] 52)); simp only [World.size_alloc] at h5; exact h5, HB6.out.alloc HB6.out.size _⟩
        · have hs4 : (st == 4) = false := by simpa using hs
          have hs5 : (st != 4) = true := by simpa using hs
          clear hs
          go_wp2_with fail
          refine (takeReport_any A3 m2 c3 nx2 rp gen st now ps2 W.heap.size W HO33.out.podsAll (Nat.le_refl _) hm40 hwf).mono ?_
          intro e w4 hm4
          rw [HQ1.out] at hm4
          obtain ⟨A4, m4, c4, ps4, nx4, _, rfl, _, hb4⟩ := made1_own hm4
          have hb4m := hb4.alloc hb4.size (.cells #[.slice A4 m4 c4, .int .i64 nx4] 44)
          have KN4 := Lib.hid (box_below KN.out hb4m)
          have KF4 := Lib.hid (box_below KF3.out hb4m)
          have KR4 := Lib.hid (box_below KR3.out hb4m)
          have HO14 := Lib.hid (HO13.out.below hb4m)
          have HO34 := Lib.hid (HO33.out.below hb4m)
          have HB4 := Lib.hid (bel_then HB3.out hb4m HB3.out.size)
          clear hm4 hb4 hb4m a0 a1 n0 n1 r0 r1 r2
          obtain ⟨a0, a1, _, _⟩ := box2 KF4.out
          obtain ⟨r0, r1, r2, _⟩ := box3 KR4.out
          go_wp2_with fail
          refine (findPod_any A1 m c1 nx rp ps _ _ HO14.out.podsAll (Nat.le_refl _) (by omega) hwf).mono ?_
          rintro e w5 ⟨rfl, hb5⟩
          rw [HP1.out]
          have hb5m := hb5.alloc hb5.size (.cells #[.int .i64 o0, .int .i64 o1, .int .i64 o2, .int .i64 o3, .int .i64 o4] 52)
          have KO := Lib.hid (box_new w5 (.cells #[.int .i64 o0, .int .i64 o1, .int .i64 o2, .int .i64 o3, .int .i64 o4] 52))
          have KN5 := Lib.hid (box_below KN4.out hb5m)
          have KR5 := Lib.hid (box_below KR4.out hb5m)
          have HO35 := Lib.hid (HO34.out.below hb5m)
          have HB5 := Lib.hid (bel_then HB4.out hb5m HB4.out.size)
          clear hb5 hb5m a0 a1 r0 r1 r2 KN4 KR4 HO34 HB4 KF4 HO14
          obtain ⟨n0, n1, _, _⟩ := box2 KN5.out
          obtain ⟨r0, r1, r2, _⟩ := box3 KR5.out
          go_wp2_with fail
          refine (findPod_any A3 m2 c3 nx2 rp ps2 _ _ HO35.out.podsAll (Nat.le_refl _) hm40 hwf).mono ?_
          rintro e w6 ⟨rfl, hb6⟩
          rw [HP2.out]
          have KN6 := Lib.hid (box_below KN5.out hb6)
          have HO36 := Lib.hid (HO35.out.below hb6)
          have HB6 := Lib.hid (bel_then HB5.out hb6 HB5.out.size)
          have KR6 := Lib.hid (box_below KR5.out hb6)
          have KO6 := Lib.hid (box_below KO.out hb6)
          clear n0 n1 r0 r1 r2
          obtain ⟨r0, r1, r2, _⟩ := box3 KR6.out
          have k2 := box_cell KO6.out 2 _ rfl
          have hl5 : w5.heap.size < w6.heap.size := box_lt KO6.out
          have hlr : w1.heap.size + 1 < w6.heap.size := box_lt KR6.out
          clear hb6 KN5 HO35 HB5 KR5 KO
          by_cases ho4 : o2 = 4
          · have ho5 : (o2 == 4) = true := by simp [ho4]
            have hp5 : (p2 != 4) = false := by have := HGO.out ho4 (by first | rfl | trivial); simp [this]
            clear ho4
            go_wp2_with fail
            go_meet
            case rel => exact ⟨box_alloc KN6.out _, by have h5 := HO36.out.below (bel1 w6 (.cells #[.int .i64 p0, .int .i64 p1, .int .i64 p2, .int .i64 p3, .int .i64 p4] 52)); simp only [World.size_alloc] at h5; exact h5, HB6.out.alloc HB6.out.size _⟩
          · have ho5 : (o2 == 4) = false := by simpa using ho4
            clear ho4
            go_wp2_with fail
            go_meet
            case rel => exact ⟨box_alloc KN6.out _, by have h5 := HO36.out.below (bel1 w6 (.cells #[.int .i64 p0, .int .i64 p1, .int .i64 p2, .int .i64 p3, .int .i64 p4] 52)); simp only [World.size_alloc] at h5; exact h5, HB6.out.alloc HB6.out.size _⟩
      · have hb0 : (V == 0) = false := by simpa using hV0
        go_wp2_with fail
        go_meet
        case rel => exact ⟨KN, by have h5 := HO33.out; simp only [World.size_alloc] at h5; exact h5, HB3⟩
    case rest =>
      obtain ⟨KC, HOC, HBC⟩ := hcut
      clear KN HO33 HB3 KF3 KR3 HO13
      obtain ⟨a0, a1, _, _⟩ := box2 KC.out
      go_wp2_with fail
      refine (FleetSpec.specFleetOk_any A3 m2 c3 nx2 ps2 wc.heap.size wc HOC.out.podsAll (Nat.le_refl _) hm40).mono ?_
      rintro e w4 ⟨rfl, hb4⟩
      have K4 := Lib.hid (box_below KC.out hb4)
      have HO4 := Lib.hid (HOC.out.below hb4)
      have HB4 := Lib.hid (bel_then HBC.out hb4 HBC.out.size)
      clear hb4 a0 a1 KC HOC HBC
      by_cases hG : FGood ps2 nx2
      · have hdg : decide (FGood ps2 nx2) = true := by simpa using hG
        rw [hdg]
        have HG := Lib.hid hG
        have hm30 : m2 ≤ 30 := by rw [← HM2.out]; exact hG.1
        have HREV : Hid (revD (ps2, nx2) = revV ps2) := if_pos hG
        have HSUM : Hid (sums (revV ps2) ps2 = m2) := by show _ = _; rw [sums_rev hG, HM2.out]
        have HANY : Hid (countV (ps2, nx2) 0 (-1) = (m2 : Int)) := by show _ = _; unfold countV; rw [if_pos hG, cnt_any, HM2.out]
        obtain ⟨l, hl⟩ : ∃ l, l = revV ps2 := ⟨_, rfl⟩
        obtain ⟨k, hk⟩ : ∃ k, k = l.length := ⟨_, rfl⟩
        have hk30 : k ≤ 30 := by rw [hk, hl]; have := rev_len ps2; have := HM2.out; omega
        rw [← hl] at HREV HSUM
        have HKL := Lib.hid hk
        clear hdg hG hl hk
        obtain ⟨a0, a1, _, _⟩ := box2 K4.out
        go_wp2_with fail
        refine (revsOf_any A3 m2 c3 nx2 ps2 w4.heap.size w4 HO4.out.podsAll (Nat.le_refl _) hm40).mono ?_
        intro e w5 hm5
        rw [HREV.out] at hm5
        obtain ⟨Ar, cr, rfl, hI5, hb5⟩ := made_ints hm5
        rw [← HKL.out] at hI5 ⊢
        have K5 := Lib.hid (box_below K4.out hb5)
        have HO5 := Lib.hid (HO4.out.below hb5)
        have HB5 := Lib.hid (bel_then HB4.out hb5 HB4.out.size)
        have HI5 := Lib.hid hI5
        clear hm5 hI5 hb5 a0 a1 K4 HO4 HB4
        go_wp2_with fail
        go_loopw [16, 18] (fun v16 v18 wr => ∃ (j sm : Nat), j ≤ k ∧ v16 = .int .i64 sm ∧ v18 = .int .i64 j ∧ sm ≤ 150 * j ∧ Hid (sm = sums (l.take j) ps2) ∧ Hid (Below w5.heap.size w5 wr)) (fun _ v _ => k - (intOf v).toNat)
        case atStart => exact ⟨0, 0, Nat.zero_le _, rfl, rfl, Nat.zero_le _, rfl, Below.refl _ _⟩
        case round =>
          obtain ⟨j, sm, hj, rfl, rfl, hsm, HSM, HB⟩ := hrel
          by_cases hlt : j < k
          · go_wp2_with fail
            obtain ⟨rv, hrv⟩ : ∃ rv, rv = l.getD j 0 := ⟨_, rfl⟩
            have HRV := Lib.hid hrv
            clear hrv
            go_loopw [16, 19] (fun v16 v19 wr => ∃ (s sm2 : Nat), s ≤ 5 ∧ v16 = .int .i64 sm2 ∧ v19 = .int .i64 s ∧ sm2 ≤ 150 * j + 30 * s ∧ Hid (sm2 = sums (l.take j) ps2 + five rv ps2 s) ∧ Hid (Below w5.heap.size w5 wr)) (fun _ v _ => 5 - (intOf v).toNat)
            case atStart => exact ⟨0, sm, Nat.zero_le _, rfl, rfl, by omega, by have h5 := HSM.out; show _ = _; rw [h5]; simp [five], HB⟩
            case round =>
              obtain ⟨s, sm2, hs, rfl, rfl, hsm2, HSM2, HBi⟩ := hrel
              by_cases hlt2 : s < 5
              · have hd5 : decide ((s : Int) < 5) = true := by simp; omega
                obtain ⟨b7, off7, z, rfl, hbB7, hz, hc7⟩ := (HI5.out.below HBi.out).ints.at_ hlt
                obtain rfl : z = rv := by rw [hz, HRV.out]
                have Kr := Lib.hid (box_below K5.out HBi.out)
                have HOr := Lib.hid (HO5.out.below HBi.out)
                obtain ⟨a0, a1, _, _⟩ := box2 Kr.out
                have HCV : Hid (countV (ps2, nx2) z (s : Int) = (cntV z (s : Int) ps2 : Nat)) := if_pos HG.out
                obtain ⟨cv, hcv⟩ : ∃ cv, cv = cntV z (s : Int) ps2 := ⟨_, rfl⟩
                have hcv30 : cv ≤ 30 := by rw [hcv]; have := cnt_le z (s : Int) ps2; have := HM2.out; omega
                rw [← hcv] at HCV
                have HNX : Hid (sm2 + cv = sums (l.take j) ps2 + five z ps2 (s + 1)) := by have h5 := HSM2.out; show _ = _; rw [h5, five_succ, ← hcv]; omega
                have hsn : sm2 + cv ≤ 150 * j + 30 * (s + 1) := by omega
                have hadd : IntKind.i64.wrap ((sm2 : Int) + (cv : Int)) = (sm2 : Int) + (cv : Int) := by rw [IntKind.wrap_i64]; omega
                clear hz hcv
                go_wp2_with fail
                go_region_held3 (fun w' => w'.cell? ⟨nb, 0, none⟩ = some (.slice A3 m2 c3) ∧ w'.cell? ⟨nb, 1, none⟩ = some (.int .i64 nx2) ∧ w'.cell? ⟨b7, off7 + j, none⟩ = some (.int .i64 z))
                  (first | (go_keep; done) | exact ⟨cell_keep hb6 a0, cell_keep hb6 a1, cell_keep hb6 hc7⟩)
                  (first | (go_at_call 26; refine (countPods_any A3 m2 c3 nx2 z (s : Int) ps2 wr.heap.size _ (by exact (HOr.out.below (w' := wr.drew) (Below.refl _ _).drew).podsAll) (by exact Nat.le_refl _) hm40).mono ?_; rintro e w6 ⟨rfl, hb6q⟩; rw [HCV.out]; have hb6 : Below wr.heap.size wr w6 := undrew hb6q; clear hb6q))
                all_goals
                  have HB6 := Lib.hid (bel_then HBi.out hb6 HBi.out.size)
                  clear hb6 a0 a1 hc7
                  go_wp2
                  go_roundw
                  case rel => exact ⟨s + 1, sm2 + cv, by omega, by go_num, by go_num, hsn, HNX, HB6⟩
                  case measure => simp [intOf]; omega
              · have hd5 : decide ((s : Int) < 5) = false := by simp; omega
                have hs5 : s = 5 := by omega
                have HNX : Hid (sm2 = sums (l.take (j + 1)) ps2) := by
                  have hjl : j < l.length := by rw [← HKL.out]; exact hlt
                  have h5 := HSM2.out
                  have e5 : l.take (j + 1) = l.take j ++ [rv] := by
                    rw [List.take_succ_eq_append_getElem hjl, HRV.out]
                    simp [List.getD, hjl]
                  show _ = _
                  rw [h5, e5, sums_snoc, hs5]
                clear hs5
                go_wp2
                go_roundw
                case rel => exact ⟨j + 1, sm2, by omega, rfl, by go_num, by omega, HNX, HBi⟩
                case measure => simp [intOf]; omega
          · have hsm3 : sm = m2 := by
              have h5 := HSM.out
              rw [List.take_of_length_le (by rw [← HKL.out]; omega), HSUM.out] at h5
              exact h5
            subst hsm3
            have Kr := Lib.hid (box_below K5.out HB.out)
            have HOr := Lib.hid (HO5.out.below HB.out)
            have hmm2 : ((sm : Int) == (sm : Int)) = true := by simp
            obtain ⟨a0, a1, _, _⟩ := box2 Kr.out
            go_wp2_with fail
            refine (countPods_any A3 sm c3 nx2 0 (-1) ps2 wr.heap.size wr HOr.out.podsAll (Nat.le_refl _) hm40).mono ?_
            rintro e w6 ⟨rfl, hb6⟩
            rw [HANY.out]
            have HB6 := Lib.hid (bel_then (bel_then HB5.out HB.out HB5.out.size) hb6 (bel_then HB5.out HB.out HB5.out.size).size)
            clear hb6
            go_wp2
            go_ret
            exact ⟨rfl, HB6.out⟩
      · have hdg : decide (FGood ps2 nx2) = false := by simpa using hG
        rw [hdg]
        have hV3 : V = 3 := by rw [HV.out]; exact bad_of (by rw [HD2.out]; exact hG)
        have hb3 : (V == 3) = true := by simp [hV3]
        clear hdg hG hV3
        go_wp2
        go_ret
        exact ⟨rfl, HB4.out⟩
end Go.Proofs.Ytpghccbknlokcaa.RepV
