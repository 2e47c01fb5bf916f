/-
  APPENDING A RECORD: the contract of the model's AppendRecord over this seat's translation.
-/
import Derived.Test.YtpghccbknlokcaaJourTop
import Derived.Test.YtpghccbknlokcaaRecTy
import Derived.Deep.RegionLaw
import Derived.Deep.RegionWith
namespace Go.Proofs.Ytpghccbknlokcaa.Jour
open Go.ChangeShapes Go.WideShapes Go.ChangeAt Go.RowKit
open Go.Proofs.Ytpghccbknlokcaa.Bytes Go.Proofs.Ytpghccbknlokcaa.LK
open Go.Proofs.Ytpghccbknlokcaa.RecTy (RD RRd rty)
open Go.Proofs.Ytpghccbknlokcaa.Rec (recB frameV frameT frame_t frame_f frame_len frame_in specRecordOk_any recordOk_any specFrameRecord_any frameRecord_any l01Join_any)
set_option linter.unusedVariables false
set_option linter.unusedSimpArgs false

def appB (d : JD) (r : RD) : Bool := jok d && recB r.1 r.2 && decide (d.2.1.length + (frameV r.1 r.2).length ≤ 3000)
def appD (d : JD) (r : RD) : JD := if appB d r then (d.1, d.2.1 ++ frameV r.1 r.2, d.2.2) else d
theorem appD_f {d : JD} {r : RD} (h : appB d r = false) : appD d r = d := by simp [appD, h]
theorem appD_t {d : JD} {r : RD} (h : appB d r = true) : appD d r = (d.1, d.2.1 ++ frameV r.1 r.2, d.2.2) := by simp [appD, h]
theorem app_1 {d : JD} {r : RD} (h : jok d = false) : appB d r = false := by simp [appB, h]
theorem app_2 {d : JD} {r : RD} (h : recB r.1 r.2 = false) : appB d r = false := by simp [appB, h]
theorem app_3 {d : JD} {r : RD} (h1 : jok d = true) (h2 : recB r.1 r.2 = true) : appB d r = jok (d.1, d.2.1 ++ frameV r.1 r.2, d.2.2) := by
  have h3 := jok_t h1
  simp only [appB, h1, h2, Bool.true_and]
  have e : jok (d.1, d.2.1 ++ frameV r.1 r.2, d.2.2) = decide (d.2.1.length + (frameV r.1 r.2).length ≤ 3000) := by
    simp only [jok, Tick.inB, List.length_append]
    rw [Bool.eq_iff_iff]
    simp
    omega
  rw [e]
theorem few_app {d : JD} {r : RD} (h : jty.Few d) : jty.Few (appD d r) := by
  unfold appD
  split
  · rename_i hb
    simp only [appB, Bool.and_eq_true, decide_eq_true_eq] at hb
    have h3 := jok_t hb.1.1
    show d.1.length + (d.2.1 ++ frameV r.1 r.2).length ≤ 1048576
    rw [List.length_append]; omega
  · exact h

theorem has_tail {w : World} {lo hi : Nat} {S : Nat → Prop} {A1 A2 : Option Addr} {m n c1 c2 : Nat} {x y : List Int} {s r : Int} (h : Has jty w lo hi S (.agg #[.slice A1 m c1, .slice A2 n c2, .int .i64 r]) (x, y, s)) : IsBytes w w.heap.size A2 n y := by
  obtain ⟨⟨A1', c1', A2', c2', e, h1, h2, _⟩, _⟩ := h
  simp only [Value.agg.injEq, Array.mk.injEq, List.cons.injEq, Value.slice.injEq] at e
  obtain ⟨_, ⟨rfl, rfl, rfl⟩, _⟩ := e
  exact h2.bytes
/-- A journal with another Tail, which was made since. -/
theorem has_newtail {w : World} {lo hi h' : Nat} {S : Nat → Prop} {A1 A2 A' : Option Addr} {m n c1 c2 n' c' : Nat} {x y y' : List Int} {s r : Int} (h : Has jty w lo hi S (.agg #[.slice A1 m c1, .slice A2 n c2, .int .i64 r]) (x, y, s)) (ho : OwnB w h' A' n' c' y') (hh : hi ≤ h') (hll : lo ≤ h') :
    Has jty w lo w.heap.size (fun k => lo ≤ k ∧ k < w.heap.size) (.agg #[.slice A1 m c1, .slice A' n' c', .int .i64 r]) (x, y', s) := by
  have hL := h.hi
  have hlo := h.inn
  obtain ⟨⟨B1, d1, B2, d2, e, h1, h2, s1, s2, _⟩, _⟩ := h
  simp only [Value.agg.injEq, Array.mk.injEq, List.cons.injEq, Value.slice.injEq, Value.int.injEq] at e
  obtain ⟨⟨rfl, rfl, rfl⟩, _, ⟨_, rfl⟩, _⟩ := e
  obtain rfl : y'.length = n' := ho.1
  refine ⟨⟨A1, c1, A', c', rfl, h1, own_zero ho, fun k hk => ?_, fun k hk => ?_, fun k hk e => ?_⟩, fun k hk => hk, Nat.le_refl _⟩
  · have := hlo k (s1 k hk); omega
  · have := ho.lt k hk; omega
  · have := hlo k (s1 k hk); have := ho.lt k e; omega
set_option maxRecDepth 100000 in
set_option maxHeartbeats 3200000 in
theorem specAppendRecord_any (w : World) (B B' : Nat) (v v' : Value) (d : JD) (r : RD) (hr : JRd w B v d) (hB : B ≤ w.heap.size) (hq : RRd w B' v' r) (hB' : B' ≤ w.heap.size) (hf : jty.Few d) (hg : rty.Few r) :
    Calls Try.prog 29 #[v, v'] w (Made1 jty (appD d r) (.bool (appB d r)) w) := by
  have hr0 := hr
  obtain ⟨x, y, s⟩ := d
  obtain ⟨kd, zs⟩ := r
  obtain ⟨A1, c1, A2, c2, rfl, h1, h2⟩ := hr
  obtain ⟨A3, c3, rfl, h3⟩ := hq
  have HR := Lib.hid hr0
  have HF := Lib.hid hf
  have H3 := Lib.hid h3
  have hp2 : zs.length ≤ 1048576 := hg
  have hy2 : y.length ≤ 1048576 := by have : x.length + y.length ≤ 1048576 := hf; omega
  obtain ⟨m, hm⟩ : ∃ m, m = (x, y, s).1.length := ⟨_, rfl⟩
  obtain ⟨n, hn⟩ : ∃ n, n = (x, y, s).2.1.length := ⟨_, rfl⟩
  obtain ⟨p, hp⟩ : ∃ p, p = (kd, zs).2.length := ⟨_, rfl⟩
  rw [← hm, ← hn] at HR ⊢
  rw [← hp] at H3 ⊢
  have hp3 : p ≤ 1048576 := by rw [hp]; exact hp2
  have hn3 : n ≤ 1048576 := by rw [hn]; exact hy2
  have HM := Lib.hid hm
  have HN := Lib.hid hn
  clear hr0 h1 h2 h3 hf hg hm hn hp hp2 hy2
  obtain ⟨F, hFd⟩ : ∃ F, F = frameV kd zs := ⟨_, rfl⟩
  have hF76 : F.length ≤ 76 := by rw [hFd]; exact frame_len kd zs
  have HFD := Lib.hid hFd
  clear hFd
  obtain ⟨ab, hab⟩ : ∃ ab, ab = appB (x, y, s) (kd, zs) := ⟨_, rfl⟩
  have HAB := Lib.hid hab
  rw [← hab]
  clear hab
  go_enter Try.func29, Try.ntmps29
  go_wp2_with fail
  refine (l04Copy_any _ B _ (x, y, s) (jty.rd_below HR.out (bel3 _ _ _ _) hB) (by simp; omega) HF.out).mono ?_
  rintro e w1 ⟨v1, S1, rfl, hO1, hb1⟩
  obtain ⟨C1, m1, e1, C2, n1, e2, s', rfl⟩ := shape hO1
  obtain ⟨hm1, hn1, rfl⟩ := has_lens hO1
  obtain rfl : m = m1 := HM.out.trans hm1.symm
  obtain rfl : n = n1 := HN.out.trans hn1.symm
  obtain ⟨k0, k1, k2⟩ := Rec.old3 hb1
  have hs1 : w.heap.size + 1 + 1 < w1.heap.size := box_lt k2
  have hb01 : Below w.heap.size w (w1.alloc (.cells #[.slice C1 m e1, .slice C2 n e2, .int .i64 s'] 64)) := (Rec.below_alloc3 hb1).alloc (by omega) _
  have q0 := box_alloc k0 (.cells #[.slice C1 m e1, .slice C2 n e2, .int .i64 s'] 64)
  have q1 := box_alloc k1 (.cells #[.slice C1 m e1, .slice C2 n e2, .int .i64 s'] 64)
  have q2 := box_alloc k2 (.cells #[.slice C1 m e1, .slice C2 n e2, .int .i64 s'] 64)
  have q3 := box_new w1 (.cells #[.slice C1 m e1, .slice C2 n e2, .int .i64 s'] 64)
  have HO1 := Lib.hid (hO1.alloc (.cells #[.slice C1 m e1, .slice C2 n e2, .int .i64 s'] 64))
  have HI1 : Hid (∀ k, S1 k → w.heap.size + 1 + 1 + 1 ≤ k ∧ k < w1.heap.size) := fun k hk => by have h := hO1.inn k hk; simp only [World.size_alloc] at h; exact h
  have Q0 := Lib.hid q0
  have Q1 := Lib.hid q1
  have Q2 := Lib.hid q2
  have Q3 := Lib.hid q3
  obtain ⟨p0, p1, p2, _⟩ := box3 q0
  clear hO1 hb1 k0 k1 k2 q0 q1 q2 q3 hm1 hn1
  go_wp2_with fail
  refine (specJournalOk_any _ B _ (x, y, s') (jty.rd_below HR.out hb01 hB) HF.out).mono ?_
  rintro e w2 ⟨rfl, hb2⟩
  have hs2 := hb2.size
  simp only [World.size_alloc] at hs2
  have K0 := Lib.hid (box_below Q0.out hb2)
  have K1 := Lib.hid (box_below Q1.out hb2)
  have K2 := Lib.hid (box_below Q2.out hb2)
  have K3 := Lib.hid (box_below Q3.out hb2)
  have HO2 := Lib.hid (HO1.out.below hb2)
  have hb02 := bel_then hb01 hb2 hb01.size
  clear hb2 hb01 p0 p1 p2 HO1 Q0 Q1 Q2 Q3
  have RET : Hid (appB (x, y, s') (kd, zs) = false → ∀ (w3 : World), Has jty w3 (w.heap.size + 1 + 1 + 1) w1.heap.size S1 (.agg #[.slice C1 m e1, .slice C2 n e2, .int .i64 s']) (x, y, s') → Below w.heap.size w w3 → ∀ (u1 u2 u3 : Value), Made1 jty (appD (x, y, s') (kd, zs)) (.bool ab) w (.returned (.tuple #[.agg #[.slice C1 m e1, .slice C2 n e2, .int .i64 s'], .bool false])) (((w3.setCell ⟨w.heap.size + 1 + 1, 0, none⟩ u1).setCell ⟨w.heap.size + 1 + 1, 1, none⟩ u2).setCell ⟨w.heap.size + 1 + 1, 2, none⟩ u3)) := by
    intro hA w3 hO hb u1 u2 u3
    rw [appD_f hA, HAB.out, hA]
    exact made1_of hO hb (sets3 (S := fun k => k = w.heap.size + 1 + 1) rfl rfl rfl) (by omega) (fun k hk => by omega) (fun k hk e => by have := HI1.out k hk; omega)
  have HO2' : Hid (Has jty w2 (w.heap.size + 1 + 1 + 1) w1.heap.size S1 (.agg #[.slice C1 m e1, .slice C2 n e2, .int .i64 s']) (x, y, s')) := ⟨HO2.out.own, HI1.out, by omega⟩
  cases hj : jok (x, y, s')
  · have HJ := Lib.hid hj
    obtain ⟨r0, r1, r2, f0, f1, f2⟩ := box3 K2.out
    obtain ⟨t0, t1, t2, _⟩ := box3 K3.out
    have HB2 := Lib.hid hb02
    clear hj hb02
    go_wp2
    refine bodyPost_ret (v := .tuple #[.agg #[.slice C1 m e1, .slice C2 n e2, .int .i64 s'], .bool false]) (by simp [results, Try.results29, go_sem, r0, r1, r2]) rfl ?_
    exact RET.out (app_1 HJ.out) w2 HO2'.out HB2.out _ _ _
  · have HJ := Lib.hid hj
    obtain ⟨a0, a1, _, _⟩ := box2 K1.out
    clear hj
    go_wp2_with fail
    refine (specRecordOk_any kd A3 p c3 zs B' _ (H3.out.below hb02 hB') (Nat.le_trans hB' hb02.size) hp3).mono ?_
    rintro e w3 ⟨rfl, hb3⟩
    have hs3 := hb3.size
    have G0 := Lib.hid (box_below K0.out hb3)
    have G1 := Lib.hid (box_below K1.out hb3)
    have G2 := Lib.hid (box_below K2.out hb3)
    have G3 := Lib.hid (box_below K3.out hb3)
    have HO3 : Hid (Has jty w3 (w.heap.size + 1 + 1 + 1) w1.heap.size S1 (.agg #[.slice C1 m e1, .slice C2 n e2, .int .i64 s']) (x, y, s')) := HO2'.out.below hb3
    have hb03 := bel_then hb02 hb3 hb02.size
    clear hb3 hb02 a0 a1 K0 K1 K2 K3 HO2 HO2'
    cases hrb : recB kd zs
    · have HRB := Lib.hid hrb
      obtain ⟨r0, r1, r2, f0, f1, f2⟩ := box3 G2.out
      obtain ⟨t0, t1, t2, _⟩ := box3 G3.out
      have HB3 := Lib.hid hb03
      clear hrb hb03
      go_wp2
      refine bodyPost_ret (v := .tuple #[.agg #[.slice C1 m e1, .slice C2 n e2, .int .i64 s'], .bool false]) (by simp [results, Try.results29, go_sem, r0, r1, r2]) rfl ?_
      exact RET.out (app_2 HRB.out) w3 HO3.out HB3.out _ _ _
    · have HRB := Lib.hid hrb
      obtain ⟨a0, a1, _, _⟩ := box2 G1.out
      obtain ⟨t0, t1, t2, g0, g1, g2⟩ := box3 G3.out
      clear hrb
      go_wp2_with fail
      go_cut [] (fun wx => ∃ (D : Option Addr) (dn dc : Nat), Hid (wx.heap[w1.heap.size]? = some (.cells #[.slice C1 m e1, .slice D dn dc, .int .i64 s'] 64)) ∧ Hid (OwnB wx w1.heap.size D dn dc (y ++ F)) ∧ Hid (Turned (fun k => k = w1.heap.size) w3 wx))
      case first =>
        have HTL : Hid (IsBytes w3 w3.heap.size C2 n y) := has_tail HO3.out
        go_region_with (first | (go_at_call 81; refine (specFrameRecord_any kd A3 p c3 zs B' _ (by exact H3.out.below hb03.drew hB') (by exact Nat.le_trans hB' hb03.size) hp3).mono ?_; rintro e w4 ⟨D1, dn1, dc1, rfl, hD, hb4⟩; have hb4' : Below w3.heap.size w3 w4 := undrew hb4; rw [← HFD.out] at hD; have HD := Lib.hid hD; have t4 := (box3 (box_below G3.out hb4')).2.1; clear hD hb4) | (have hgo := hb4'; clear hgo; go_at_call 80; refine (l01Join_any C2 D1 n dn1 e2 dc1 y F w4.heap.size _ (by exact (HTL.out.below hb4' (Nat.le_refl _)).more hb4'.size) (by exact HD.out.bytes) (by exact Nat.le_refl _) hn3 (by have h5 := HD.out.1; omega)).mono ?_; rintro e w5 ⟨D, dn, dc, rfl, hO5, hb5⟩; have hb5' : Below w3.heap.size w3 w5 := bel_then hb4' hb5 hb4'.size; have b5 := box_below G3.out hb5'; obtain ⟨z0, z1, z2, y0, y1, y2⟩ := box3 b5; have B5 := Lib.hid b5; have H5 := Lib.hid hO5; clear hO5 b5))
        all_goals
          go_wp2_with fail
          go_meet
          case rel =>
            have hz4 := hb4'.size
            have hz5 := hb5.size
            refine ⟨D, dn, dc, box_set (i := 1) B5.out _, ?_, (Turned.of_below hb5').trans (Turned.set (S := fun k => k = w1.heap.size) _ _ _ rfl)⟩
            exact own_base (own_same H5.out (fun k hk => Below.heap_setCell _ _ _ _ (by have := (H5.out.lt k hk).1; show k ≠ w1.heap.size; omega))) (fun k hk => by have := (H5.out.lt k hk).1; omega)
      obtain ⟨D, dn, dc, HBX, HOD, HTX⟩ := hcut
      have hsx := HTX.out.size
      have J0 := Lib.hid (box_turned G0.out HTX.out (by show ¬ (w.heap.size = w1.heap.size); omega))
      have J2 := Lib.hid (box_turned G2.out HTX.out (by show ¬ (w.heap.size + 1 + 1 = w1.heap.size); omega))
      have HO4 := Lib.hid (HO3.out.turned HTX.out (fun k hk e => by have := HI1.out k hk; omega))
      have HOX := Lib.hid (has_newtail HO4.out HOD.out (Nat.le_refl _) (by omega))
      have hbx : Below w.heap.size w wc := Turned.low hb03 HTX.out (fun k hk => by omega) hb03.size
      have HFX : Hid (jty.Few (x, y ++ F, s')) := by
        have h5 := jok_t HJ.out
        show x.length + (y ++ F).length ≤ 1048576
        rw [List.length_append]
        have h6 : x.length ≤ 3000 := h5.1
        have h7 : y.length ≤ 3000 := h5.2.1
        omega
      have HAB3 : Hid (ab = jok (x, y ++ F, s')) := by
        show _ = _
        rw [HAB.out, app_3 HJ.out HRB.out, HFD.out]
      obtain ⟨i0, i1, i2, _⟩ := box3 HBX.out
      clear t0 t1 t2 g0 g1 g2 a0 a1 hb03 hsx G0 G1 G2 G3 HO3 HTX
      go_wp2_with fail
      refine (specJournalOk_any _ wc.heap.size _ (x, y ++ F, s') HOX.out.rd HFX.out).mono ?_
      rintro e w5 ⟨rfl, hb5⟩
      rw [← HAB3.out]
      have hs5 := hb5.size
      have M0 := Lib.hid (box_below J0.out hb5)
      have M2 := Lib.hid (box_below J2.out hb5)
      obtain ⟨o0, o1, o2, _⟩ := box3 (box_below HBX.out hb5)
      have HO5 := Lib.hid (HOX.out.below hb5)
      have hb05 := bel_then hbx hb5 hbx.size
      clear hb5 hbx i0 i1 i2 HOX J0 J2 HO4
      cases ab
      · obtain ⟨p0, p1, p2, _⟩ := box3 M0.out
        have HX5 := Lib.hid hb05
        go_wp2_with fail
        refine (l04Copy_any _ B _ (x, y, s') (jty.rd_below HR.out HX5.out hB) (Nat.le_trans hB HX5.out.size) HF.out).mono ?_
        rintro e w6 ⟨v6, S6, rfl, hO6, hb6⟩
        obtain ⟨E1, m6, f6, E2, n6, g6, s6, rfl⟩ := shape hO6
        obtain ⟨r0, r1, r2, f0, f1, f2⟩ := box3 (box_below M2.out hb6)
        have HO6 := Lib.hid hO6
        have hlt2 := box_lt M2.out
        have HB6 := Lib.hid (bel_then HX5.out hb6 HX5.out.size)
        clear hb6 hO6 p0 p1 p2 o0 o1 o2 hb05
        go_wp2
        refine bodyPost_ret (v := .tuple #[.agg #[.slice E1 m6 f6, .slice E2 n6 g6, .int .i64 s6], .bool false]) (by simp [results, Try.results29, go_sem, r0, r1, r2]) rfl ?_
        rw [appD_f HAB.out.symm]
        exact made1_of HO6.out HB6.out (sets3 (S := fun k => k = w.heap.size + 1 + 1) rfl rfl rfl) (by have := HX5.out.size; omega) (fun k hk => by omega) (fun k hk e => by have := HO6.out.inn k hk; omega)
      · obtain ⟨r0, r1, r2, f0, f1, f2⟩ := box3 M2.out
        have HX5 := Lib.hid hb05
        clear hb05
        go_wp2
        refine bodyPost_ret (v := .tuple #[.agg #[.slice C1 m e1, .slice D dn dc, .int .i64 s'], .bool true]) (by simp [results, Try.results29, go_sem, r0, r1, r2]) rfl ?_
        rw [appD_t HAB.out.symm]
        show Made1 jty (x, y ++ frameV kd zs, s') (.bool true) w _ _
        rw [← HFD.out]
        exact made1_of HO5.out HX5.out (sets3 (S := fun k => k = w.heap.size + 1 + 1) rfl rfl rfl) (by omega) (fun k hk => by omega) (fun k hk e => by have := hk.1; omega)
end Go.Proofs.Ytpghccbknlokcaa.Jour
