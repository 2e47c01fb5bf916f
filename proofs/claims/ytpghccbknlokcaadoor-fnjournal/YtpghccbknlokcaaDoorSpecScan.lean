/-
  THE CONTRACT of the model's ScanFrames over this seat's translation.
-/
import Derived.Test.YtpghccbknlokcaaDoorImplScan
import Derived.Test.YtpghccbknlokcaaDoorSpecTorn
namespace Go.Proofs.YtpghccbknlokcaaDoor.Rd
open Go.ChangeShapes Go.WideShapes Go.ChangeAt Go.RowKit
open Go.Proofs.YtpghccbknlokcaaDoor.Ints (below_drewN)
open Go.Proofs.YtpghccbknlokcaaDoor.Has (OwnI)
open Go.Proofs.YtpghccbknlokcaaDoor.Bytes (IsBytes)
open Go.Proofs.YtpghccbknlokcaaDoor.Rec (grown_set below_a1 blk2 ownI_base Box OwnRs OwnRsH RList flatH hdV lit2_news)
set_option linter.unusedVariables false
set_option linter.unusedSimpArgs false

theorem bytes_from {w : World} {B : Nat} {A : Option Addr} {n c p : Nat} {bs : List Int} (h : IsBytes w B A n bs) (hp : p ≤ n) (hc : n ≤ c) : IsBytes w B (cutB A p c) (n - p) (bs.drop p) := by
  have h1 := bytes_cut2 (p := p) (q := n) h hp (Nat.le_refl _) hc
  rw [List.take_of_length_le (by rw [h.1]; exact Nat.le_refl _)] at h1
  exact h1

set_option maxRecDepth 100000 in
set_option maxHeartbeats 6400000 in
theorem specScan_any (A : Option Addr) (n c : Nat) (bs : List Int) (B : Nat) (w : World) (hr : IsBytes w B A n bs) (hB : B ≤ w.heap.size) (hn : n ≤ 1048576) (hc : n ≤ c) :
    Calls Tryd.prog 37 #[.slice A n c] w (AnsS w bs) := by
  obtain ⟨i0, hi0, hz0, hz1, hz2⟩ := info_parts infoRec
  have HL : Hid (bs.length = n) := hr.1
  have HB := Lib.hid hr
  have HBY := Lib.hid hr.2.1
  clear hr
  go_enter Tryd.func37, Tryd.ntmps37
  go_wp2_with fail
  go_loopw [5, 6] (fun o z wr => ∃ (p k : Nat) (A5 : Option Addr) (c5 : Nat) (acc : RList), p ≤ n ∧ k ≤ p ∧ o = .slice A5 k c5 ∧ z = .int .i64 p ∧ Hid (Amid bs p acc) ∧ Hid (OwnRs wr w.heap.size A5 k c5 acc) ∧ Below w.heap.size w wr ∧ w.heap.size ≤ wr.heap.size) (fun _ z _ => n - (intOf z).toNat)
  case atStart => exact ⟨0, 0, _, _, [], Nat.zero_le _, Nat.le_refl _, rfl, rfl, amid_start bs, OwnRs.empty w, below_a1 _ _, by simp⟩
  case round =>
    obtain ⟨p, k, A5, c5, acc, hpn, hkp, rfl, rfl, HA, HO, hbr, hsr⟩ := hrel
    by_cases hlt : p < n
    · have hpl : p < bs.length := by rw [HL.out]; exact hlt
      have HBr := Lib.hid (HB.out.below hbr hB)
      have hQ : ∀ q, (Value.slice A5 k c5).ownBlock = some q → w.heap.size ≤ q ∧ q < wr.heap.size := HO.out.rowlt
      have HQ := Lib.hid hQ
      clear hQ
      have hfi : frR bs p = recR bs p := fr_in (by omega)
      go_wp2_with fail
      refine (specTakeFrame_any A n c p bs B wr HBr.out (by omega) hn hc).mono ?_
      rintro e w2 ⟨A1, c1, rfl, hO1, hb2⟩
      have hbw2 : Below w.heap.size w w2 := hbr.trans (hb2.mono hsr)
      have hs2 : wr.heap.size ≤ w2.heap.size := hb2.size
      have HO2 := Lib.hid (HO.out.below hb2)
      generalize hrr : recR bs p = rr
      rw [hrr] at hfi
      cases rr with
      | ok kd zs q =>
        obtain ⟨e1, e2, e3⟩ := fr_ok hfi
        rw [e1, e2, e3]
        rw [e2] at hO1
        obtain ⟨hnx, hpp, hppl⟩ := amid_next HBY.out HA.out hpl hrr
        have HNX := Lib.hid hnx
        have hqn : q ≤ n := by rw [← HL.out]; exact hppl
        obtain ⟨m, hm⟩ : ∃ m, zs.length = m := ⟨_, rfl⟩
        rw [hm] at hO1 ⊢
        have HO1 := Lib.hid hO1
        obtain ⟨hs, hH⟩ := HO.out
        have HH := Lib.hid hH
        obtain ⟨t0, t1⟩ := Box.new w2 kd A1 m c1 30
        have hb4 : Below wr.heap.size wr ((w2.alloc (.cells #[.int .i64 kd, .slice A1 m c1] 30)).alloc (.cells #[.int .i64 kd, .slice A1 m c1] 30)) := (hb2.alloc hb2.size _).alloc (by simp; omega) _
        have HB4 := Lib.hid hb4
        have HO4 : Hid (OwnI ((w2.alloc (.cells #[.int .i64 kd, .slice A1 m c1] 30)).alloc (.cells #[.int .i64 kd, .slice A1 m c1] 30)) wr.heap.size A1 m c1 zs) := (HO1.out.alloc _).alloc _
        have HH4 := Lib.hid (hH.below hb4)
        have hdq : decide ((q : Int) < 0) = false := by simp
        clear e1 e2 e3 hnx hO1 hrr hb4 hm hH hfi
        go_wp2_with (at_builtin; refine wpList_append_own _ rfl (.tmp 22) (.tmp 24) _ rfl w.heap.size 30 i0 _ 2 32 Tryd.underlying26 hi0 hz0 hz1 hz2 rfl (by omega) (.slice A5 k c5) k (flatH hs) rfl ?o1 ⟨w2.heap.size + 1, 0, none⟩ 1 1 [.int .i64 kd, .slice A1 m c1] rfl rfl ?o2 ?o3 ?o4 ?o5 ?o6 ?_)
        case o1 => exact HH4.out.2.2.1
        case o2 => have h5 := lit2_news (w2.alloc (.cells #[.int .i64 kd, .slice A1 m c1] 30)) (.int .i64 kd) (.slice A1 m c1) 30; simpa using h5
        case o3 => intro u hu; simp at hu; rcases hu with rfl | rfl <;> rfl
        case o4 => unfold maxLen; omega
        case o5 => omega
        case o6 => simp; omega
        intro v2 w5 hown hgr _
        obtain ⟨A6, c6, rfl, hO6⟩ := HH.out.push HB4.out HO4.out hsr hown hgr
        have HO6 := Lib.hid hO6
        have hb5 : Below w.heap.size w w5 := (hbr.trans (HB4.out.mono hsr)).grown hgr (by simp; omega) (fun q hq => (HQ.out q hq).1)
        have hs5 : w.heap.size ≤ w5.heap.size := by have := hgr.size; simp at this; omega
        clear hown hgr hO6 HB4 HO4 HH4 HH
        go_wp2
        go_roundw
        case rel => exact ⟨q, k + 1, A6, c6, acc ++ [(kd, zs)], hqn, by omega, rfl, by go_num, HNX, HO6, hb5, hs5⟩
        case measure => simp [intOf]; omega
      | torn =>
        obtain ⟨e1, e2, e3⟩ := fr_no (.inl hfi)
        rw [e1, e2, e3]
        have HSC := Lib.hid (amid_torn HA.out hpl hrr)
        have HTV : Hid (tornV (bs.drop p) = true) := tornV_t (by
          have h1 := recR_drop bs p (by omega)
          rw [hrr] at h1
          cases h2 : recR (bs.drop p) 0 with
          | torn => rfl
          | bent => rw [h2] at h1; cases h1
          | ok a b c => rw [h2] at h1; cases h1)
        have hb3 : Below w.heap.size w (w2.alloc (.cells #[.int .i64 0, .slice A1 ([] : List Int).length c1] 30)) := hbw2.alloc hbw2.size _
        have HB3 := Lib.hid (bytes_from (HB.out.below hb3 hB) hpn hc)
        have HO3 := Lib.hid (HO2.out.below (below_a1 w2 (.cells #[.int .i64 0, .slice A1 ([] : List Int).length c1] 30)))
        have hcut := cutL A n c p hpn
        have hdq : ((p : Int) == (n : Int)) = false := by simp; omega
        clear e1 e2 e3 hrr hfi hO1
        go_wp2_with fail
        refine (l03Torn_any (cutB A p c) (n - p) (c - p) (bs.drop p) B _ HB3.out (by omega) (by omega) (by omega)).mono ?_
        rintro e w4 ⟨rfl, kk, rfl⟩
        rw [HTV.out]
        go_wp2
        exact bodyPost_ret (v := .tuple #[.slice A5 k c5, .int .i64 (p : Int), .int .i64 1]) (by simp [results, Tryd.results37, go_sem]) rfl (ansS_of HSC.out HO3.out (below_drewN hb3 kk))
      | bent =>
        obtain ⟨e1, e2, e3⟩ := fr_no (.inr hfi)
        rw [e1, e2, e3]
        have HSC := Lib.hid (amid_bent HA.out hpl hrr)
        have HTV : Hid (tornV (bs.drop p) = false) := tornV_f (by
          have h1 := recR_drop bs p (by omega)
          rw [hrr] at h1
          intro h2
          rw [h2] at h1; cases h1)
        have hb3 : Below w.heap.size w (w2.alloc (.cells #[.int .i64 0, .slice A1 ([] : List Int).length c1] 30)) := hbw2.alloc hbw2.size _
        have HB3 := Lib.hid (bytes_from (HB.out.below hb3 hB) hpn hc)
        have HO3 := Lib.hid (HO2.out.below (below_a1 w2 (.cells #[.int .i64 0, .slice A1 ([] : List Int).length c1] 30)))
        have hcut := cutL A n c p hpn
        have hdq : ((p : Int) == (n : Int)) = false := by simp; omega
        clear e1 e2 e3 hrr hfi hO1
        go_wp2_with fail
        refine (l03Torn_any (cutB A p c) (n - p) (c - p) (bs.drop p) B _ HB3.out (by omega) (by omega) (by omega)).mono ?_
        rintro e w4 ⟨rfl, kk, rfl⟩
        rw [HTV.out]
        go_wp2
        exact bodyPost_ret (v := .tuple #[.slice A5 k c5, .int .i64 (p : Int), .int .i64 2]) (by simp [results, Tryd.results37, go_sem]) rfl (ansS_of HSC.out HO3.out (below_drewN hb3 kk))
    · have HSC := Lib.hid (amid_end HA.out (by rw [HL.out]; omega))
      have hdq : ((p : Int) == (n : Int)) = true := by simp; omega
      go_wp2
      exact bodyPost_ret (v := .tuple #[.slice A5 k c5, .int .i64 (p : Int), .int .i64 0]) (by simp [results, Tryd.results37, go_sem]) rfl (ansS_of HSC.out HO.out hbr)
end Go.Proofs.YtpghccbknlokcaaDoor.Rd
