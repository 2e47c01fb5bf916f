/-
  THE CONTRACT of the program's ScanFrames over this seat's translation.
-/
import Derived.Test.YtpghccbknlokcaaDoorScanV
import Derived.Test.YtpghccbknlokcaaDoorErrIs
import Derived.Test.YtpghccbknlokcaaDoorFrame
namespace Go.Proofs.YtpghccbknlokcaaDoor.Rd
open Go.ChangeShapes Go.WideShapes Go.ChangeAt Go.RowKit
open Go.Proofs.YtpghccbknlokcaaDoor.Ints (below_drewN)
open Go.Proofs.YtpghccbknlokcaaDoor.Has (OwnI)
open Go.Proofs.YtpghccbknlokcaaDoor.Bytes (IsBytes)
open Go.Proofs.YtpghccbknlokcaaDoor.Rec (grown_set below_a1 blk2 ownI_base Box OwnRs OwnRsH RList flatH hdV lit2_news)
set_option linter.unusedVariables false
set_option linter.unusedSimpArgs false

theorem infoRec : (Tryd.prog.info? 30).map (fun i => (i.zero, i.size, i.bytes)) = some (some (.agg #[.int .i64 0, .slice none 0 0]), 2, 32) := by kernel_rfl

/-- What a scan leaves. -/
def AnsS (w : World) (bs : List Int) (e : Ending) (w' : World) : Prop :=
  ∃ A c, e = .returned (.tuple #[.slice A (scanV bs).1.length c, .int .i64 ((scanV bs).2.1 : Nat), .int .i64 (scanV bs).2.2]) ∧ OwnRs w' w.heap.size A (scanV bs).1.length c (scanV bs).1 ∧ Below w.heap.size w w'
theorem ansS_of {w w' : World} {bs : List Int} {acc : RList} {p : Nat} {t : Int} {A : Option Addr} {n c : Nat} (hs : scanV bs = (acc, p, t)) (hO : OwnRs w' w.heap.size A n c acc) (hb : Below w.heap.size w w') : AnsS w bs (.returned (.tuple #[.slice A n c, .int .i64 p, .int .i64 t])) w' := by
  have hl := hO.len
  subst hl
  refine ⟨A, c, ?_, ?_, hb⟩
  · rw [hs]
  · rw [hs]; exact hO

set_option maxRecDepth 100000 in
set_option maxHeartbeats 6400000 in
theorem scanFrames_any (A : Option Addr) (n c : Nat) (bs : List Int) (B : Nat) (aT aB aO : Addr) (w : World) (hE : Errs B w aT aB aO) (hK : ErrBlk B w aT aB) (hr : IsBytes w B A n bs) (hB : B ≤ w.heap.size) (hn : n ≤ 1048576) (hc : n ≤ c) :
    Calls Tryd.prog 32 #[.slice A n c] w (AnsS w bs) := by
  obtain ⟨i0, hi0, hz0, hz1, hz2⟩ := info_parts infoRec
  have HL : Hid (bs.length = n) := hr.1
  have HB := Lib.hid hr
  have HBY := Lib.hid hr.2.1
  have HE := Lib.hid hE
  have HK := Lib.hid hK
  clear hr hE hK
  go_enter Tryd.func32, Tryd.ntmps32
  go_wp2_with fail
  go_loopw [5, 6] (fun o z wr => ∃ (p k : Nat) (A5 : Option Addr) (c5 : Nat) (acc : RList), p ≤ n ∧ k ≤ p ∧ o = .slice A5 k c5 ∧ z = .int .i64 p ∧ Hid (Amid bs p acc) ∧ Hid (OwnRs wr w.heap.size A5 k c5 acc) ∧ Below w.heap.size w wr ∧ w.heap.size ≤ wr.heap.size) (fun _ z _ => n - (intOf z).toNat)
  case atStart => exact ⟨0, 0, _, _, [], Nat.zero_le _, Nat.le_refl _, rfl, rfl, amid_start bs, OwnRs.empty w, below_a1 _ _, by simp⟩
  case round =>
    obtain ⟨p, k, A5, c5, acc, hpn, hkp, rfl, rfl, HA, HO, hbr, hsr⟩ := hrel
    by_cases hlt : p < n
    · have hpl : p < bs.length := by rw [HL.out]; exact hlt
      have HBr := Lib.hid (HB.out.below hbr hB)
      have HEr := Lib.hid (HE.out.below hbr hB)
      have HKr := Lib.hid (HK.out.below hbr hB)
      have hQ : ∀ q, (Value.slice A5 k c5).ownBlock = some q → w.heap.size ≤ q ∧ q < wr.heap.size := HO.out.rowlt
      have HQ := Lib.hid hQ
      clear hQ
      go_wp2_with fail
      refine (readFrom_in wr A n c p (by omega) (by omega)).mono ?_
      rintro e w1 ⟨rfl, hR1, hb1⟩
      have HR1 := Lib.hid hR1
      have HB1 := Lib.hid (HBr.out.below hb1 (by omega))
      have HE1 := Lib.hid (HEr.out.below hb1 (by omega))
      have hl1 : wr.heap.size < w1.heap.size := hR1.lt
      clear hR1
      go_wp2_with fail
      refine (record_any w1 wr.heap.size A n c p .no bs B aT aB aO HE1.out HB1.out (by omega) hn hc HR1.out hpn).mono ?_
      rintro e w2 ⟨kd, zs, p', f', v, rfl, hR2, hg2, hp', hp'n, hS, hv1, hv2⟩
      have hb2 : Below wr.heap.size wr w2 := hb1.trans (below_of hg2 (Nat.le_refl _) (by omega))
      have hs2 : w1.heap.size ≤ w2.heap.size := hg2.size
      have hbw2 : Below w.heap.size w w2 := hbr.trans (hb2.mono hsr)
      have HO2 := Lib.hid (HO.out.below hb2)
      clear hb1 hg2
      rcases hS with ⟨h0, _⟩ | ⟨_, ⟨rfl, hrr⟩ | ⟨rfl, hrr⟩ | ⟨rfl, hrr⟩⟩
      · exact absurd rfl h0
      · obtain ⟨A1, c1, rfl, hO1⟩ := hv1 rfl
        obtain ⟨hnx, hpp, hppl⟩ := amid_next HBY.out HA.out hpl hrr
        have HNX := Lib.hid hnx
        have hz12 := (recR_ok HBY.out hrr).2.2
        obtain ⟨m, hm⟩ : ∃ m, zs.length = m := ⟨_, rfl⟩
        rw [hm] at hO1 ⊢
        have HO1 := Lib.hid hO1
        obtain ⟨hs, hH⟩ := HO.out
        have HH := Lib.hid hH
        have hbox := below_a1 w2 (.cells #[.int .i64 kd, .slice A1 m c1] 30)
        have hR3 := hR2.below hbox
        obtain ⟨r0, r1, r2, _, _⟩ := hR3
        obtain ⟨t0, t1⟩ := Box.new w2 kd A1 m c1 30
        have e1 := neNil
        have hR4 := (hR2.below hbox).below (below_a1 (w2.alloc (.cells #[.int .i64 kd, .slice A1 m c1] 30)) (.cells #[.int .i64 kd, .slice A1 m c1] 30))
        have HR4 := Lib.hid hR4
        have hb4 : Below wr.heap.size wr ((w2.alloc (.cells #[.int .i64 kd, .slice A1 m c1] 30)).alloc (.cells #[.int .i64 kd, .slice A1 m c1] 30)) := (hb2.alloc hb2.size _).alloc (by simp; omega) _
        have HB4 := Lib.hid hb4
        have HO4 : Hid (OwnI ((w2.alloc (.cells #[.int .i64 kd, .slice A1 m c1] 30)).alloc (.cells #[.int .i64 kd, .slice A1 m c1] 30)) wr.heap.size A1 m c1 zs) := ownI_base ((HO1.out.alloc _).alloc _) (by omega)
        have HH4 := Lib.hid (hH.below hb4)
        have r2' : (w2.alloc (.cells #[.int .i64 kd, .slice A1 m c1] 30)).cell? ⟨wr.heap.size, 2, none⟩ = some .nilIface := r2
        clear r2 hnx hO1 hv1 hv2 hrr hb4 hbox hR4 hR2 hm hH
        go_wp2_with (at_builtin; refine wpList_append_own _ rfl (.tmp 31) (.tmp 33) _ rfl w.heap.size 30 i0 _ 2 32 Tryd.underlying26 hi0 hz0 hz1 hz2 rfl (by omega) (.slice A5 k c5) k (flatH hs) rfl ?o1 ⟨w2.heap.size + 1, 0, none⟩ 1 1 [.int .i64 kd, .slice A1 m c1] rfl rfl ?o2 ?o3 ?o4 ?o5 ?o6 ?_)
        case o1 => exact HH4.out.2.2.1
        case o2 => have h5 := lit2_news (w2.alloc (.cells #[.int .i64 kd, .slice A1 m c1] 30)) (.int .i64 kd) (.slice A1 m c1) 30; simpa using h5
        case o3 => intro u hu; simp at hu; rcases hu with rfl | rfl <;> rfl
        case o4 => unfold maxLen; omega
        case o5 => omega
        case o6 => simp; omega
        intro v2 w5 hown hgr _
        obtain ⟨A6, c6, rfl, hO6⟩ := HH.out.push HB4.out HO4.out hsr hown hgr
        have HO6 := Lib.hid hO6
        obtain ⟨y0, y1, y2, _, _⟩ := HR4.out.grown hgr (fun e => by have := (HQ.out _ e).2; omega)
        have hb5 : Below w.heap.size w w5 := (hbr.trans (HB4.out.mono hsr)).grown hgr (by simp; omega) (fun q hq => (HQ.out q hq).1)
        have hs5 : w.heap.size ≤ w5.heap.size := by have := hgr.size; simp at this; omega
        clear hown hgr hO6 HB4 HO4 HH4 HR4 HH
        go_wp2
        go_roundw
        case rel => exact ⟨p', k + 1, A6, c6, acc ++ [(kd, zs)], hp'n, by omega, rfl, by go_num, HNX, HO6, hb5, hs5⟩
        case measure => simp [intOf]; omega
      · have hv := hv2 (by simp)
        subst hv
        have HSC := Lib.hid (amid_torn HA.out hpl hrr)
        have hbox := below_a1 w2 (.cells #[.int .i64 0, .slice none 0 0] 30)
        obtain ⟨r0, r1, r2, _, _⟩ := hR2.below hbox
        have r2' : (w2.alloc (.cells #[.int .i64 0, .slice none 0 0] 30)).cell? ⟨wr.heap.size, 2, none⟩ = some (.iface 111 (.pointer (some aT))) := r2
        have e1 := neIf
        have hb3 : Below w.heap.size w (w2.alloc (.cells #[.int .i64 0, .slice none 0 0] 30)) := hbw2.alloc hbw2.size _
        have HE3 := Lib.hid (HE.out.below hb3 hB)
        have HO3 := Lib.hid (HO2.out.below hbox)
        clear r2 hv1 hv2 hrr hR2 hbox
        go_wp2_with (go_at_call 50; refine (tailOf_torn _ B aT aB aO HE3.out).mono ?_; rintro e w' ⟨rfl, rfl⟩)
        exact bodyPost_ret (v := .tuple #[.slice A5 k c5, .int .i64 (p : Int), .int .i64 1]) (by simp [results, Tryd.results32, go_sem]) rfl (ansS_of HSC.out HO3.out hb3)
      · have hv := hv2 (by simp)
        subst hv
        have HSC := Lib.hid (amid_bent HA.out hpl hrr)
        have hbox := below_a1 w2 (.cells #[.int .i64 0, .slice none 0 0] 30)
        obtain ⟨r0, r1, r2, _, _⟩ := hR2.below hbox
        have r2' : (w2.alloc (.cells #[.int .i64 0, .slice none 0 0] 30)).cell? ⟨wr.heap.size, 2, none⟩ = some (.iface 111 (.pointer (some aB))) := r2
        have e1 := neIf
        have hb3 : Below w.heap.size w (w2.alloc (.cells #[.int .i64 0, .slice none 0 0] 30)) := hbw2.alloc hbw2.size _
        have HE3 := Lib.hid (HE.out.below hb3 hB)
        have HK3 := Lib.hid (HK.out.below hb3 hB)
        have HO3 := Lib.hid (HO2.out.below hbox)
        clear r2 hv1 hv2 hrr hR2 hbox
        go_wp2_with (go_at_call 50; refine (tailOf_bent _ B B aT aB aO HE3.out HK3.out).mono ?_; rintro e w' ⟨rfl, rfl⟩)
        exact bodyPost_ret (v := .tuple #[.slice A5 k c5, .int .i64 (p : Int), .int .i64 2]) (by simp [results, Tryd.results32, go_sem]) rfl (ansS_of HSC.out HO3.out hb3)
    · have HSC := Lib.hid (amid_end HA.out (by rw [HL.out]; omega))
      go_wp2
      exact bodyPost_ret (v := .tuple #[.slice A5 k c5, .int .i64 (p : Int), .int .i64 0]) (by simp [results, Tryd.results32, go_sem]) rfl (ansS_of HSC.out HO.out hbr)
end Go.Proofs.YtpghccbknlokcaaDoor.Rd
