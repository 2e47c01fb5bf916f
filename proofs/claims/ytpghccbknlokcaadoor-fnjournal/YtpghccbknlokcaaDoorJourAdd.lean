/-
  THE CONTRACT of the program's AppendRecord over this seat's translation.
-/
import Derived.Test.YtpghccbknlokcaaDoorJourWrite
import Derived.Deep.QuietTactic
import Derived.BigQuiet
import Derived.Deep.DeepCutAuto
namespace Go.Proofs.YtpghccbknlokcaaDoor.Jour
open Go.ChangeShapes Go.WideShapes Go.ChangeAt Go.RowKit
open Go.Proofs.YtpghccbknlokcaaDoor.Bytes Go.Proofs.YtpghccbknlokcaaDoor.LK
open Go.Proofs.YtpghccbknlokcaaDoor.Ints (below_drewN)
open Go.Proofs.YtpghccbknlokcaaDoor.RecTy (RD RRd rty)
open Go.Proofs.YtpghccbknlokcaaDoor.Rec (recB frameV frameT frame_t frame_f frame_len frame_in recordOk_any frameRecord_any)
set_option linter.unusedVariables false
set_option linter.unusedSimpArgs false

theorem app_4 {d : JD} {r : RD} (h1 : jok d = true) (h2 : recB r.1 r.2 = true) : appB d r = decide (d.2.1.length + (frameV r.1 r.2).length ≤ 3000) := by
  simp [appB, h1, h2]
theorem frame_pos {kd : Int} {zs : List Int} (h : recB kd zs = true) : 0 < (frameV kd zs).length := by
  rw [frame_t h]
  simp [frameT]
set_option maxRecDepth 100000 in
set_option maxHeartbeats 6400000 in
theorem appendRecord_any (w : World) (B B' : Nat) (v v' : Value) (d : JD) (r : RD) (hr : JRd w B v d) (hB : B ≤ w.heap.size) (hq : RRd w B' v' r) (hB' : B' ≤ w.heap.size) (hf : jty.Few d) (hg : rty.Few r) :
    Calls Tryd.prog 7 #[v, v'] w (Made1 jty (appD d r) (.bool (appB d r)) w) := by
  have hr0 := hr
  obtain ⟨x, y, s⟩ := d
  obtain ⟨kd, zs⟩ := r
  obtain ⟨A1, c1, A2, c2, rfl, h1, h2⟩ := hr
  obtain ⟨A3, c3, rfl, h3⟩ := hq
  have HR := Lib.hid hr0
  have HF := Lib.hid hf
  have H3 := Lib.hid h3
  have hp2 : zs.length ≤ 1048576 := hg
  have hy2 : y.length ≤ 1048576 := by have : x.length + y.length ≤ 1048576 := hf; omega
  obtain ⟨m, hm⟩ : ∃ m, m = (x, y, s).1.length := ⟨_, rfl⟩
  obtain ⟨n, hn⟩ : ∃ n, n = (x, y, s).2.1.length := ⟨_, rfl⟩
  obtain ⟨p, hp⟩ : ∃ p, p = (kd, zs).2.length := ⟨_, rfl⟩
  rw [← hm, ← hn] at HR ⊢
  rw [← hp] at H3 ⊢
  have hp3 : p ≤ 1048576 := by rw [hp]; exact hp2
  have hn3 : n ≤ 1048576 := by rw [hn]; exact hy2
  have HM := Lib.hid hm
  have HN := Lib.hid hn
  clear hr0 h1 h2 h3 hf hg hm hn hp hp2 hy2
  obtain ⟨F, hFd⟩ : ∃ F, F = frameV kd zs := ⟨_, rfl⟩
  have hF76 : F.length ≤ 76 := by rw [hFd]; exact frame_len kd zs
  have HFD := Lib.hid hFd
  clear hFd
  have m1 := mWrite
  go_enter Tryd.func7, Tryd.ntmps7
  go_wp2_with fail
  refine (bookOf_any _ B _ (x, y, s) (jty.rd_below HR.out (bel3 _ _ _ _) hB) (by simp; omega) HF.out).mono ?_
  intro e w1 hbk
  have hbb : Below w.heap.size w w1 ∧ w1.heap[w.heap.size]? = some (.cells #[.slice A1 m c1, .slice A2 n c2, .int .i64 s] 25) ∧ w1.heap[w.heap.size + 1]? = some (.cells #[.int .i64 kd, .slice A3 p c3] 30) ∧ w1.heap[w.heap.size + 1 + 1]? = some (.cells #[.slice none 0 0, .slice none 0 0, .int .i64 0] 25) := by
    have hb : Below (((w.alloc (.cells #[.slice A1 m c1, .slice A2 n c2, .int .i64 s] 25)).alloc (.cells #[.int .i64 kd, .slice A3 p c3] 30)).alloc (.cells #[.slice none 0 0, .slice none 0 0, .int .i64 0] 25)).heap.size (((w.alloc (.cells #[.slice A1 m c1, .slice A2 n c2, .int .i64 s] 25)).alloc (.cells #[.int .i64 kd, .slice A3 p c3] 30)).alloc (.cells #[.slice none 0 0, .slice none 0 0, .int .i64 0] 25)) w1 := by
      rcases hbk with ⟨_, _, h⟩ | ⟨_, _, _, _, _, _, _, _, _, h⟩ <;> exact h
    obtain ⟨k0, k1, k2⟩ := Rec.old3 hb
    exact ⟨Rec.below_alloc3 hb, k0, k1, k2⟩
  obtain ⟨hb1, q0, q1, q2⟩ := hbb
  have hs1 : w.heap.size + 1 + 1 < w1.heap.size := box_lt q2
  have Q0 := Lib.hid q0
  have Q1 := Lib.hid q1
  have Q2 := Lib.hid q2
  have HB1 := Lib.hid hb1
  obtain ⟨a0, a1, _, _⟩ := box2 q1
  clear q0 q1 q2 hb1
  have hbk2 : (jok (x, y, s) = false ∧ e = .returned (.tuple #[.pointer none, .bool false])) ∨ (jok (x, y, s) = true ∧ ∃ pb pf C1 C2 e1 e2, e = .returned (.tuple #[.pointer (some ⟨pb, 0, none⟩), .bool true]) ∧ Book w1 (w.heap.size + 1 + 1 + 1) pb pf C1 C2 e1 e2 (x, y, s)) := by
    rcases hbk with ⟨h1, h2, _⟩ | ⟨h1, pb, pf, C1, C2, e1, e2, h2, h3, _⟩
    · exact .inl ⟨h1, h2⟩
    · exact .inr ⟨h1, pb, pf, C1, C2, e1, e2, h2, by simpa using h3⟩
  clear hbk
  rcases hbk2 with ⟨hj, rfl⟩ | ⟨hj, pb, pf, C1, C2, e1, e2, rfl, hk⟩
  · have HJ := Lib.hid hj
    clear hj
    go_wp2_with fail
    go_quiet (fail)
    obtain ⟨p0, p1, p2, _⟩ := box3 Q0.out
    go_wp2_with fail
    refine (sameJournal_any _ B _ (x, y, s) (jty.rd_below HR.out (below_drewN HB1.out _) hB) (by exact Nat.le_trans hB HB1.out.size) HF.out).mono ?_
    rintro e w2 ⟨v2, S2, rfl, hO2, hb2q⟩
    have hb2 : Below w1.heap.size w1 w2 := ⟨hb2q.os, hb2q.tape, hb2q.output, hb2q.size, hb2q.block⟩
    clear hb2q
    obtain ⟨D1, n1, d1, D2, n2, d2, s2, rfl⟩ := shape hO2
    obtain ⟨r0, r1, r2, f0, f1, f2⟩ := box3 (box_below Q2.out hb2)
    have HO2 := Lib.hid hO2
    have HI2 : Hid (∀ k, S2 k → w1.heap.size ≤ k) := fun k hk => (hO2.inn k hk).1
    have HB2 := Lib.hid (bel_then HB1.out hb2 HB1.out.size)
    have hs2 : w1.heap.size ≤ w2.heap.size := hb2.size
    clear hb2 hO2
    go_wp2
    refine bodyPost_ret (v := .tuple #[.agg #[.slice D1 n1 d1, .slice D2 n2 d2, .int .i64 s2], .bool false]) (by simp [results, Tryd.results7, go_sem, r0, r1, r2]) rfl ?_
    rw [appD_f (app_1 HJ.out), app_1 HJ.out]
    exact made1_of HO2.out HB2.out (sets3 (S := fun k => k = w.heap.size + 1 + 1) rfl rfl rfl) (by show w.heap.size ≤ w1.heap.size; omega) (fun k hk => by omega) (fun k hk e => by have := HI2.out k hk; omega)
  · have HJ := Lib.hid hj
    have HK := Lib.hid hk
    clear hj hk
    go_wp2_with fail
    go_cut [31] (fun s31 wx => Hid (Below w.heap.size w wx) ∧ Hid (wx.heap[w.heap.size]? = some (.cells #[.slice A1 m c1, .slice A2 n c2, .int .i64 s] 25)) ∧ Hid (wx.heap[w.heap.size + 1 + 1]? = some (.cells #[.slice none 0 0, .slice none 0 0, .int .i64 0] 25)) ∧ ((s31 = .bool true ∧ Hid (appB (x, y, s) (kd, zs) = false)) ∨ (s31 = .bool false ∧ Hid (appB (x, y, s) (kd, zs) = true) ∧ ∃ C' e', Hid (Book wx (w.heap.size + 1 + 1 + 1) pb pf C1 C' e1 e' (x, y ++ F, s)))))
    case first =>
      cases hrb : recB kd zs
      · have HRB := Lib.hid hrb
        clear hrb
        refine wp_region_held_drew (S := fun w' => w'.cell? ⟨w.heap.size + 1, 0, none⟩ = some (.int .i64 kd) ∧ w'.cell? ⟨w.heap.size + 1, 1, none⟩ = some (.slice A3 p c3)) (by kernel_rfl) ⟨a0, a1⟩ (fun hHeld => ?_)
        refine wpAnyH_take (i := 0) (v := ?v1) rfl (by kernel_rfl) (by kernel_rfl) (by kernel_rfl) (fun _ _ _ h => h) (Or.inl ⟨by rfl, ?hy1⟩) (by assumption) ?_
        case hy1 => (intro w0 hSw; (try dsimp only at hSw); go_simp <;> with_reducible rfl)
        try simp only [Act.put, List.getElem_toArray, List.getElem_cons_zero, List.getElem_cons_succ, List.setIfInBounds_toArray, List.set_cons_zero, List.set_cons_succ]
        refine wpAnyH_take (i := 1) (v := ?v2) rfl (by kernel_rfl) (by kernel_rfl) (by kernel_rfl) (fun _ _ _ h => h) (Or.inl ⟨by rfl, ?hy2⟩) (by assumption) ?_
        case hy2 => (intro w0 hSw; (try dsimp only at hSw); go_simp <;> with_reducible rfl)
        try simp only [Act.put, List.getElem_toArray, List.getElem_cons_zero, List.getElem_cons_succ, List.setIfInBounds_toArray, List.set_cons_zero, List.set_cons_succ]
        refine wpAnyH_take (i := 2) (v := ?v3) rfl (by kernel_rfl) (by kernel_rfl) (by kernel_rfl) (fun _ _ _ h => h) (Or.inl ⟨by rfl, ?hy3⟩) (by assumption) ?_
        case hy3 => (intro w0 hSw; (try dsimp only at hSw); go_simp <;> with_reducible rfl)
        try simp only [Act.put, List.getElem_toArray, List.getElem_cons_zero, List.getElem_cons_succ, List.setIfInBounds_toArray, List.set_cons_zero, List.set_cons_succ]
        refine wpAnyH_take (i := 3) (v := ?v4) rfl (by kernel_rfl) (by kernel_rfl) (by kernel_rfl) (fun _ _ _ h => h) (Or.inl ⟨by rfl, ?hy4⟩) (by assumption) ?_
        case hy4 => (intro w0 hSw; (try dsimp only at hSw); go_simp <;> with_reducible rfl)
        try simp only [Act.put, List.getElem_toArray, List.getElem_cons_zero, List.getElem_cons_succ, List.setIfInBounds_toArray, List.set_cons_zero, List.set_cons_succ]
        refine wpAnyH_ready (rs := [4]) (by kernel_rfl) (by simp) (AllReadyH.cons rfl (fun K hK => ?_) AllReadyH.nil)
        go_simp
        refine (recordOk_any kd A3 p c3 zs B' _ (by exact H3.out.below HB1.out.drew hB') (by exact Nat.le_trans hB' HB1.out.size) hp3).mono ?_
        rintro e w2 ⟨rfl, hb2⟩
        rw [HRB.out]
        have hb2' : Below w1.heap.size w1 w2 := undrew hb2
        obtain ⟨g0, g1, _, _⟩ := box2 (box_below Q1.out hb2')
        clear hHeld
        refine hK.out _ _ (by exact ⟨g0, g1⟩) (fun hHeld => ?_)
        clear hK K
        try simp only [Act.put, List.getElem_toArray, List.getElem_cons_zero, List.getElem_cons_succ, List.setIfInBounds_toArray, List.set_cons_zero, List.set_cons_succ]
        refine wpAnyH_take (i := 5) (v := ?v6) rfl (by kernel_rfl) (by kernel_rfl) (by kernel_rfl) (fun _ _ _ h => h) (Or.inl ⟨by rfl, ?hy6⟩) (by assumption) ?_
        case hy6 => (intro w0 hSw; (try dsimp only at hSw); go_simp <;> with_reducible rfl)
        try simp only [Act.put, List.getElem_toArray, List.getElem_cons_zero, List.getElem_cons_succ, List.setIfInBounds_toArray, List.set_cons_zero, List.set_cons_succ]
        refine wpAnyH_take (i := 6) (v := ?v7) rfl (by kernel_rfl) (by kernel_rfl) (by kernel_rfl) (fun _ _ _ h => h) (Or.inl ⟨by rfl, ?hy7⟩) (by assumption) ?_
        case hy7 => (intro w0 hSw; (try dsimp only at hSw); go_simp <;> with_reducible rfl)
        try simp only [Act.put, List.getElem_toArray, List.getElem_cons_zero, List.getElem_cons_succ, List.setIfInBounds_toArray, List.set_cons_zero, List.set_cons_succ]
        refine wpAnyH_take (i := 7) (v := ?v8) rfl (by kernel_rfl) (by kernel_rfl) (by kernel_rfl) (fun _ _ _ h => h) (Or.inl ⟨by rfl, ?hy8⟩) (by assumption) ?_
        case hy8 => (intro w0 hSw; (try dsimp only at hSw); go_simp <;> with_reducible rfl)
        try simp only [Act.put, List.getElem_toArray, List.getElem_cons_zero, List.getElem_cons_succ, List.setIfInBounds_toArray, List.set_cons_zero, List.set_cons_succ]
        refine wpAnyH_take (i := 8) (v := undef) rfl (by kernel_rfl) (by kernel_rfl) (by kernel_rfl) (fun _ _ _ h => h) (Or.inr ⟨by rfl, rfl⟩) (by assumption) ?_
        try simp only [Act.put, List.getElem_toArray, List.getElem_cons_zero, List.getElem_cons_succ, List.setIfInBounds_toArray, List.set_cons_zero, List.set_cons_succ]
        refine wpAnyH_take (i := 9) (v := undef) rfl (by kernel_rfl) (by kernel_rfl) (by kernel_rfl) (fun _ _ _ h => h) (Or.inr ⟨by rfl, rfl⟩) (by assumption) ?_
        try simp only [Act.put, List.getElem_toArray, List.getElem_cons_zero, List.getElem_cons_succ, List.setIfInBounds_toArray, List.set_cons_zero, List.set_cons_succ]
        refine wpAnyH_take (i := 10) (v := undef) rfl (by kernel_rfl) (by kernel_rfl) (by kernel_rfl) (fun _ _ _ h => h) (Or.inr ⟨by rfl, rfl⟩) (by assumption) ?_
        try simp only [Act.put, List.getElem_toArray, List.getElem_cons_zero, List.getElem_cons_succ, List.setIfInBounds_toArray, List.set_cons_zero, List.set_cons_succ]
        refine wpAnyH_take (i := 11) (v := undef) rfl (by kernel_rfl) (by kernel_rfl) (by kernel_rfl) (fun _ _ _ h => h) (Or.inr ⟨by rfl, rfl⟩) (by assumption) ?_
        try simp only [Act.put, List.getElem_toArray, List.getElem_cons_zero, List.getElem_cons_succ, List.setIfInBounds_toArray, List.set_cons_zero, List.set_cons_succ]
        refine wpAnyH_take (i := 12) (v := undef) rfl (by kernel_rfl) (by kernel_rfl) (by kernel_rfl) (fun _ _ _ h => h) (Or.inr ⟨by rfl, rfl⟩) (by assumption) ?_
        try simp only [Act.put, List.getElem_toArray, List.getElem_cons_zero, List.getElem_cons_succ, List.setIfInBounds_toArray, List.set_cons_zero, List.set_cons_succ]
        refine wpAnyH_take (i := 13) (v := undef) rfl (by kernel_rfl) (by kernel_rfl) (by kernel_rfl) (fun _ _ _ h => h) (Or.inr ⟨by rfl, rfl⟩) (by assumption) ?_
        try simp only [Act.put, List.getElem_toArray, List.getElem_cons_zero, List.getElem_cons_succ, List.setIfInBounds_toArray, List.set_cons_zero, List.set_cons_succ]
        refine wpAnyH_take (i := 14) (v := undef) rfl (by kernel_rfl) (by kernel_rfl) (by kernel_rfl) (fun _ _ _ h => h) (Or.inr ⟨by rfl, rfl⟩) (by assumption) ?_
        try simp only [Act.put, List.getElem_toArray, List.getElem_cons_zero, List.getElem_cons_succ, List.setIfInBounds_toArray, List.set_cons_zero, List.set_cons_succ]
        refine wpAnyH_take (i := 15) (v := undef) rfl (by kernel_rfl) (by kernel_rfl) (by kernel_rfl) (fun _ _ _ h => h) (Or.inr ⟨by rfl, rfl⟩) (by assumption) ?_
        try simp only [Act.put, List.getElem_toArray, List.getElem_cons_zero, List.getElem_cons_succ, List.setIfInBounds_toArray, List.set_cons_zero, List.set_cons_succ]
        refine wpAnyH_take (i := 16) (v := undef) rfl (by kernel_rfl) (by kernel_rfl) (by kernel_rfl) (fun _ _ _ h => h) (Or.inr ⟨by rfl, rfl⟩) (by assumption) ?_
        try simp only [Act.put, List.getElem_toArray, List.getElem_cons_zero, List.getElem_cons_succ, List.setIfInBounds_toArray, List.set_cons_zero, List.set_cons_succ]
        refine wpAnyH_take (i := 17) (v := undef) rfl (by kernel_rfl) (by kernel_rfl) (by kernel_rfl) (fun _ _ _ h => h) (Or.inr ⟨by rfl, rfl⟩) (by assumption) ?_
        try simp only [Act.put, List.getElem_toArray, List.getElem_cons_zero, List.getElem_cons_succ, List.setIfInBounds_toArray, List.set_cons_zero, List.set_cons_succ]
        refine wpAnyH_take (i := 18) (v := ?v19) rfl (by kernel_rfl) (by kernel_rfl) (by kernel_rfl) (fun _ _ _ h => h) (Or.inl ⟨by rfl, ?hy19⟩) (by assumption) ?_
        case hy19 => (intro w0 hSw; (try dsimp only at hSw); go_simp <;> with_reducible rfl)
        try simp only [Act.put, List.getElem_toArray, List.getElem_cons_zero, List.getElem_cons_succ, List.setIfInBounds_toArray, List.set_cons_zero, List.set_cons_succ]
        refine wpAnyH_done (by kernel_rfl) ?_ _
        go_wp2_with fail
        go_meet
        case rel => exact ⟨bel_then HB1.out hb2' HB1.out.size, box_below Q0.out hb2', box_below Q2.out hb2', .inl ⟨rfl, app_2 HRB.out⟩⟩
      · have HRB := Lib.hid hrb
        have hF0 : 0 < F.length := by rw [HFD.out]; exact frame_pos hrb
        clear hrb
        obtain ⟨b0, b1, _, _⟩ := box2 HK.out.hb
        have hlb : w.heap.size + 1 + 1 + 1 ≤ pb := HK.out.lb
        have hlf : w.heap.size + 1 + 1 + 1 ≤ pf := HK.out.lf
        by_cases hfit : n + F.length ≤ 3000
        · have HAPP : Hid (appB (x, y, s) (kd, zs) = true) := by
            show _ = _
            rw [app_4 HJ.out HRB.out]
            have h5 := HN.out
            have h6 := HFD.out
            simp only [decide_eq_true_eq]
            rw [← h6, ← h5]; exact hfit
          go_region_held3 (fun w' => w'.cell? ⟨w.heap.size + 1, 0, none⟩ = some (.int .i64 kd) ∧ w'.cell? ⟨w.heap.size + 1, 1, none⟩ = some (.slice A3 p c3) ∧ w'.cell? ⟨pb, 0, none⟩ = some (.iface 71 (fp pf)))
            (first | exact ⟨a0, a1, b0⟩ | exact ⟨k0, k1, k2⟩ | exact ⟨i0, i1, i2⟩ | exact ⟨g0, g1, g2⟩)
            (first
              | (have hgo := hb3; clear hgo; go_at_call 87; refine (write_yes pf (w.heap.size + 1 + 1 + 1) C2 n e2 s D dn dc y F w3.heap.size _ (by exact KF3.out) (by exact KO3.out) (by exact HD.out.bytes) (by omega) (by omega) (by exact HS3.out)).mono ?_; rintro e w4 ⟨g, c', rfl, hf4, ho4, hat4, ht4⟩; have HK4 : Hid (Book w4 (w.heap.size + 1 + 1 + 1) pb pf C1 (some ⟨g, 0, none⟩) e1 c' (x, y ++ F, s)) := HK3.out.wrote (m := dn) (by rw [List.length_append, HDN.out]) (by have h5 := HN.out; have h6 : (x, y, s).2.1.length = n := h5.symm; rw [h6]; exact hf4) (by have h5 := HN.out; have h6 : (x, y, s).2.1.length = n := h5.symm; rw [h6]; exact ho4) (by have h5 := HN.out; have h6 : (x, y, s).2.1.length = n := h5.symm; rw [h6]; exact hat4) (by have h5 := HN.out; have h6 : (x, y, s).2.1.length = n := h5.symm; rw [h6]; exact ht4); have HT4 : Hid (Turned (fun k => w.heap.size + 1 + 1 + 1 ≤ k) w3 w4) := ht4.wide (by rintro k (rfl | hk); exact HK3.out.lf; exact (KO3.out.lt k hk).1); obtain ⟨k0, k1, _, _⟩ := box2 (box_turned R3.out HT4.out (by omega)); obtain ⟨k2, _, _, _⟩ := box2 HK4.out.hb; clear hf4 ho4 hat4 ht4)
              | (have hgo := hb2'; clear hgo; go_at_call 26; refine (frameRecord_any kd A3 p c3 zs B' _ (by exact H3.out.below HB2.out hB') (by exact Nat.le_trans hB' HB2.out.size) hp3).mono ?_; rintro e w3 ⟨D, dn, dc, rfl, hD, hb3⟩; rw [← HFD.out] at hD; have HD := Lib.hid hD; have HDN : Hid (F.length = dn) := hD.1; have hdn : F.length = dn := hD.1; have HB3 := Lib.hid (bel_then HB2.out hb3 HB2.out.size); have HK3 := Lib.hid (HK2.out.below hb3); have R3 := Lib.hid (box_below (box_below Q1.out hb2') hb3); obtain ⟨i0, i1, _, _⟩ := box2 R3.out; obtain ⟨i2, _, _, _⟩ := box2 HK3.out.hb; have KF3 : Hid (w3.heap[pf]? = some (fileO C2 n e2 s)) := (by rw [HN.out]; exact HK3.out.hf); have KO3 : Hid (OwnB w3 (w.heap.size + 1 + 1 + 1) C2 n e2 y) := (by rw [HN.out]; exact HK3.out.o2); have HS3 : Hid (w.heap.size + 1 + 1 + 1 ≤ w3.heap.size) := (by have h5 := box_lt HK3.out.hf; have h6 := HK3.out.lf; show _ ≤ _; omega); clear hD)
              | (go_at_call 25; refine (recordOk_any kd A3 p c3 zs B' _ (by exact H3.out.below HB1.out.drew hB') (by exact Nat.le_trans hB' HB1.out.size) hp3).mono ?_; rintro e w2 ⟨rfl, hb2⟩; rw [HRB.out]; have hb2' : Below w1.heap.size w1 w2 := undrew hb2; obtain ⟨g0, g1, _, _⟩ := box2 (box_below Q1.out hb2'); obtain ⟨g2, _, _, _⟩ := box2 (box_below HK.out.hb hb2'); have HB2 := Lib.hid (bel_then HB1.out hb2' HB1.out.size); have HK2 := Lib.hid (HK.out.below hb2'); clear hb2))
          all_goals
            go_wp2_with fail
            go_meet
            case rel => exact ⟨Turned.low HB3.out HT4.out (fun k hk => by omega) HB3.out.size, box_turned (box_below (box_below Q0.out hb2') hb3) HT4.out (by omega), box_turned (box_below (box_below Q2.out hb2') hb3) HT4.out (by omega), .inr ⟨rfl, HAPP, _, _, HK4⟩⟩
        · have HAPP : Hid (appB (x, y, s) (kd, zs) = false) := by
            show _ = _
            rw [app_4 HJ.out HRB.out]
            have h5 := HN.out
            have h6 := HFD.out
            simp only [decide_eq_false_iff_not]
            rw [← h6, ← h5]; exact hfit
          go_region_held3 (fun w' => w'.cell? ⟨w.heap.size + 1, 0, none⟩ = some (.int .i64 kd) ∧ w'.cell? ⟨w.heap.size + 1, 1, none⟩ = some (.slice A3 p c3) ∧ w'.cell? ⟨pb, 0, none⟩ = some (.iface 71 (fp pf)))
            (first | exact ⟨a0, a1, b0⟩ | exact ⟨i0, i1, i2⟩ | exact ⟨g0, g1, g2⟩)
            (first
              | (have hgo := hb3; clear hgo; go_at_call 87; refine (write_no pf C2 n e2 s D dn dc _ (by exact KF3.out) hn3 (by omega) (by omega)).mono ?_; rintro e w4 ⟨rfl, rfl⟩)
              | (have hgo := hb2'; clear hgo; go_at_call 26; refine (frameRecord_any kd A3 p c3 zs B' _ (by exact H3.out.below HB2.out hB') (by exact Nat.le_trans hB' HB2.out.size) hp3).mono ?_; rintro e w3 ⟨D, dn, dc, rfl, hD, hb3⟩; rw [← HFD.out] at hD; have hdn : F.length = dn := hD.1; have HB3 := Lib.hid (bel_then HB2.out hb3 HB2.out.size); have HK3 := Lib.hid (HK2.out.below hb3); have R3 := Lib.hid (box_below (box_below Q1.out hb2') hb3); obtain ⟨i0, i1, _, _⟩ := box2 R3.out; obtain ⟨i2, _, _, _⟩ := box2 HK3.out.hb; have KF3 : Hid (w3.heap[pf]? = some (fileO C2 n e2 s)) := (by rw [HN.out]; exact HK3.out.hf); clear hD)
              | (go_at_call 25; refine (recordOk_any kd A3 p c3 zs B' _ (by exact H3.out.below HB1.out.drew hB') (by exact Nat.le_trans hB' HB1.out.size) hp3).mono ?_; rintro e w2 ⟨rfl, hb2⟩; rw [HRB.out]; have hb2' : Below w1.heap.size w1 w2 := undrew hb2; obtain ⟨g0, g1, _, _⟩ := box2 (box_below Q1.out hb2'); obtain ⟨g2, _, _, _⟩ := box2 (box_below HK.out.hb hb2'); have HB2 := Lib.hid (bel_then HB1.out hb2' HB1.out.size); have HK2 := Lib.hid (HK.out.below hb2'); clear hb2))
          all_goals
            go_wp2_with fail
            go_meet
            case rel => exact ⟨HB3.out, box_below (box_below Q0.out hb2') hb3, box_below (box_below Q2.out hb2') hb3, .inl ⟨rfl, HAPP⟩⟩
    case rest =>
      obtain ⟨HBx, Q0x, Q2x, hcase⟩ := hcut
      have hsx : w.heap.size + 1 + 1 < wc.heap.size := box_lt Q2x.out
      clear HK HB1 Q0 Q1 Q2 a0 a1
      rcases hcase with ⟨rfl, HA⟩ | ⟨rfl, HA, C', e', HKx⟩
      · obtain ⟨p0, p1, p2, _⟩ := box3 Q0x.out
        go_wp2_with fail
        refine (sameJournal_any _ B _ (x, y, s) (jty.rd_below HR.out HBx.out hB) (by exact Nat.le_trans hB HBx.out.size) HF.out).mono ?_
        rintro e w2 ⟨v2, S2, rfl, hO2, hb2⟩
        obtain ⟨D1, n1, d1, D2, n2, d2, s2, rfl⟩ := shape hO2
        obtain ⟨r0, r1, r2, f0, f1, f2⟩ := box3 (box_below Q2x.out hb2)
        have HO2 := Lib.hid hO2
        have HI2 : Hid (∀ k, S2 k → wc.heap.size ≤ k) := fun k hk => (hO2.inn k hk).1
        have HB2 := Lib.hid (bel_then HBx.out hb2 HBx.out.size)
        have hs2 : wc.heap.size ≤ w2.heap.size := hb2.size
        clear hb2 hO2
        go_wp2
        refine bodyPost_ret (v := .tuple #[.agg #[.slice D1 n1 d1, .slice D2 n2 d2, .int .i64 s2], .bool false]) (by simp [results, Tryd.results7, go_sem, r0, r1, r2]) rfl ?_
        rw [appD_f HA.out, HA.out]
        exact made1_of HO2.out HB2.out (sets3 (S := fun k => k = w.heap.size + 1 + 1) rfl rfl rfl) (by omega) (fun k hk => by omega) (fun k hk e => by have := HI2.out k hk; omega)
      · go_wp2_with fail
        refine (journal_any wc _ pb pf C1 C' e1 e' _ HKx.out (by omega)).mono ?_
        rintro e w3 ⟨v3, rfl, hO3, hb3⟩
        obtain ⟨D1, n1, d1, D2, n2, d2, s2, rfl⟩ := shape hO3
        obtain ⟨r0, r1, r2, f0, f1, f2⟩ := box3 (box_below Q2x.out hb3)
        have HO3 := Lib.hid hO3
        have HB3 := Lib.hid (bel_then HBx.out hb3 HBx.out.size)
        clear hb3 hO3
        go_wp2
        refine bodyPost_ret (v := .tuple #[.agg #[.slice D1 n1 d1, .slice D2 n2 d2, .int .i64 s2], .bool true]) (by simp [results, Tryd.results7, go_sem, r0, r1, r2]) rfl ?_
        have e5 : appD (x, y, s) (kd, zs) = (x, y ++ F, s) := by rw [appD_t HA.out, HFD.out]
        rw [e5, HA.out]
        exact made1_of HO3.out HB3.out (sets3 (S := fun k => k = w.heap.size + 1 + 1) rfl rfl rfl) (by omega) (fun k hk => by omega) (fun k hk e => by have := hk.1; omega)
end Go.Proofs.YtpghccbknlokcaaDoor.Jour
