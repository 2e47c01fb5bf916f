import Derived.Test.YtklgjjmcflgjeaaGreatQ
import Derived.Test.YtklgjjmcflgjeaaGreatR01
import Derived.Test.YtklgjjmcflgjeaaGreatR03
import Derived.Test.YtklgjjmcflgjeaaGreatR06
import Derived.Test.YtklgjjmcflgjeaaGreatR07
import Derived.Test.YtklgjjmcflgjeaaGreatR08
set_option linter.unusedVariables false
set_option linter.unusedSimpArgs false
namespace Go.Proofs.YtklgjjmcflgjeaaGreat.Av
open Go.ChangeShapes Go.WideShapes Go.ChangeAt Go.RowKit
open LK Pods FleetV Sp Hl Has Ints
def cntF (f : Pd → Bool) (ps : PList) : Nat := (ps.filter f).length
theorem cnt_takeF (f : Pd → Bool) {ps : PList} {k : Nat} (h : k < ps.length) : cntF f (ps.take (k + 1)) = cntF f (ps.take k) + if f (ps.getD k z5) then 1 else 0 := by
  unfold cntF
  rw [Crew.take_get h, List.filter_append, List.length_append]
  by_cases hm : f (ps.getD k z5) = true
  · rw [if_pos hm, List.filter_cons_of_pos hm]; rfl
  · rw [if_neg hm, List.filter_cons_of_neg hm]; rfl
def avB (x0 x1 x2 x3 x4 x5 x6 x7 x8 x9 x10 rev now : Int) (p : Pd) : Bool := ((rev == 0) || (p.2.1 == rev)) && availB x0 x1 x2 x3 x4 x5 x6 x7 x8 x9 x10 p.2.2.1 p.2.2.2.2 now
theorem av_of {x0 x1 x2 x3 x4 x5 x6 x7 x8 x9 x10 rev now y0 y1 y2 y3 y4 : Int} {a b q : Bool} (h1 : (rev == 0) = a) (h2 : (y1 == rev) = b) (h3 : q = availB x0 x1 x2 x3 x4 x5 x6 x7 x8 x9 x10 y2 y4 now) : avB x0 x1 x2 x3 x4 x5 x6 x7 x8 x9 x10 rev now (y0, y1, y2, y3, y4) = ((a || b) && q) := by
  simp only [avB]
  rw [h1, h2, ← h3]
def availV (x0 x1 x2 x3 x4 x5 x6 x7 x8 x9 x10 rev now : Int) (d : PList × Int) : Int := if FGood d.1 d.2 then cntF (avB x0 x1 x2 x3 x4 x5 x6 x7 x8 x9 x10 rev now) d.1 else -1
set_option maxRecDepth 100000 in
set_option maxHeartbeats 6400000 in
theorem availableOf_any (x0 x1 x2 x3 x4 x5 x6 x7 x8 x9 x10 rev now : Int) (A : Option Addr) (n c : Nat) (nx : Int) (ps : PList) (B : Nat) (w : World) (hr : IsPods w B A n ps) (hB : B ≤ w.heap.size) (hn : n ≤ 1048576) :
    Calls Tryz.prog 108 #[.agg #[.int .i64 x0, .int .i64 x1, .int .i64 x2, .int .i64 x3, .int .i64 x4, .int .i64 x5, .int .i64 x6, .int .i64 x7, .int .i64 x8, .int .i64 x9, .int .i64 x10], .agg #[.slice A n c, .int .i64 nx], .int .i64 rev, .int .i64 now] w (Says (.int .i64 (availV x0 x1 x2 x3 x4 x5 x6 x7 x8 x9 x10 rev now (ps, nx))) w) := by
  have HL : Hid (ps.length = n) := hr.1
  have HR := Lib.hid hr
  clear hr
  have HA : Hid (∀ (y0 y1 y2 y3 y4 : Int) (W : World), Calls Tryz.prog 148 #[.agg #[.int .i64 x0, .int .i64 x1, .int .i64 x2, .int .i64 x3, .int .i64 x4, .int .i64 x5, .int .i64 x6, .int .i64 x7, .int .i64 x8, .int .i64 x9, .int .i64 x10], .agg #[.int .i64 y0, .int .i64 y1, .int .i64 y2, .int .i64 y3, .int .i64 y4], .int .i64 now] W (Says (.bool (availB x0 x1 x2 x3 x4 x5 x6 x7 x8 x9 x10 y2 y4 now)) W)) := fun y0 y1 y2 y3 y4 W => isAvailable_any x0 x1 x2 x3 x4 x5 x6 x7 x8 x9 x10 y0 y1 y2 y3 y4 now W
  obtain ⟨R, hR⟩ : ∃ R, R = availV x0 x1 x2 x3 x4 x5 x6 x7 x8 x9 x10 rev now (ps, nx) := ⟨_, rfl⟩
  rw [← hR]
  have HRV := Lib.hid hR
  clear hR
  obtain ⟨V, hV⟩ : ∃ V, V = ((w.alloc (.cells #[.int .i64 x0, .int .i64 x1, .int .i64 x2, .int .i64 x3, .int .i64 x4, .int .i64 x5, .int .i64 x6, .int .i64 x7, .int .i64 x8, .int .i64 x9, .int .i64 x10] 25)).alloc (.cells #[.slice A n c, .int .i64 nx] 34)) := ⟨_, rfl⟩
  have hbV : Below w.heap.size w V := by rw [hV]; exact bel2 _ _ _
  have BS : Hid (V.heap[w.heap.size]? = some (.cells #[.int .i64 x0, .int .i64 x1, .int .i64 x2, .int .i64 x3, .int .i64 x4, .int .i64 x5, .int .i64 x6, .int .i64 x7, .int .i64 x8, .int .i64 x9, .int .i64 x10] 25)) := by have h := box_alloc (box_new w (.cells #[.int .i64 x0, .int .i64 x1, .int .i64 x2, .int .i64 x3, .int .i64 x4, .int .i64 x5, .int .i64 x6, .int .i64 x7, .int .i64 x8, .int .i64 x9, .int .i64 x10] 25)) (.cells #[.slice A n c, .int .i64 nx] 34); (try simp only [World.size_alloc] at h); rw [hV]; exact h
  have BF : Hid (V.heap[w.heap.size + 1]? = some (.cells #[.slice A n c, .int .i64 nx] 34)) := by have h := box_new (w.alloc (.cells #[.int .i64 x0, .int .i64 x1, .int .i64 x2, .int .i64 x3, .int .i64 x4, .int .i64 x5, .int .i64 x6, .int .i64 x7, .int .i64 x8, .int .i64 x9, .int .i64 x10] 25)) (.cells #[.slice A n c, .int .i64 nx] 34); (try simp only [World.size_alloc] at h); rw [hV]; exact h
  go_enter Tryz.func108, Tryz.ntmps108
  go_wp2_with fail
  rw [← hV]
  clear hV
  refine (Crew.fleetOk_any A n c nx ps B _ (HR.out.below hbV hB) (Nat.le_trans hB hbV.size) hn).mono ?_
  rintro e w1 ⟨rfl, hbs⟩
  have BS' := Lib.hid (box_below BS.out hbs)
  have BF' := Lib.hid (box_below BF.out hbs)
  have hbn1 : Below w.heap.size w w1 := bel_then hbV hbs hbV.size
  clear BS
  have BS := BS'
  clear BS'
  clear BF
  have BF := BF'
  clear BF'
  clear hbs
  by_cases hg : FGood ps nx
  case neg =>
    have HV : Hid (R = -1) := by show R = _; rw [HRV.out]; exact if_neg hg
    rw [decide_eq_false hg]
    clear hg
    go_wp2
    go_ret
    exact ⟨by rw [HV.out]; rfl, hbn1⟩
  have HV : Hid (R = cntF (avB x0 x1 x2 x3 x4 x5 x6 x7 x8 x9 x10 rev now) ps) := by show R = _; rw [HRV.out]; exact if_pos hg
  clear HRV
  rw [decide_eq_true hg]
  clear hg
  have cBF_0 : w1.cell? ⟨w.heap.size + 1, 0, none⟩ = some (.slice A n c) := box_cell BF.out 0 _ rfl
  go_wp2_with fail
  clear cBF_0
  go_loopw [9, 18] (fun q i wr => ∃ (k m : Nat), k ≤ n ∧ i = .int .i64 k ∧ q = .int .i64 (m : Int) ∧ m ≤ k ∧ Hid (m = cntF (avB x0 x1 x2 x3 x4 x5 x6 x7 x8 x9 x10 rev now) (ps.take k)) ∧ Hid (wr.heap[w.heap.size]? = some (.cells #[.int .i64 x0, .int .i64 x1, .int .i64 x2, .int .i64 x3, .int .i64 x4, .int .i64 x5, .int .i64 x6, .int .i64 x7, .int .i64 x8, .int .i64 x9, .int .i64 x10] 25)) ∧ Hid (wr.heap[w.heap.size + 1]? = some (.cells #[.slice A n c, .int .i64 nx] 34)) ∧ Below w.heap.size w wr) (fun _ i _ => n - (RowKit.intOf i).toNat)
  case atStart => exact ⟨0, 0, Nat.zero_le _, rfl, rfl, Nat.le_refl _, by simp [Hid, cntF], BS, BF, hbn1⟩
  case round =>
    obtain ⟨k, m, hk, rfl, rfl, hmk, HM, FS, FF, hbr⟩ := hrel
    clear BS BF hbn1
    by_cases hlt : k < n
    case neg =>
      have HK : Hid (k = n) := (by omega : k = n)
      have cFF_0 : wr.cell? ⟨w.heap.size + 1, 0, none⟩ = some (.slice A n c) := box_cell FF.out 0 _ rfl
      go_wp2
      go_ret
      have h := HM.out
      rw [List.take_of_length_le (by rw [HL.out, HK.out]; exact Nat.le_refl _)] at h
      exact ⟨by rw [HV.out, ← h]; rfl, hbr⟩
    have hrw := HR.out.below hbr hB
    obtain ⟨b, off, y0, y1, y2, y3, y4, rfl, hbB, hz, hc0, hc1, hc2, hc3, hc4⟩ := hrw.at_ hlt
    have HS := Lib.hid (cnt_takeF (avB x0 x1 x2 x3 x4 x5 x6 x7 x8 x9 x10 rev now) (ps := ps) (k := k) (by rw [HL.out]; exact hlt))
    rw [hz] at HS
    clear hz hrw
    obtain ⟨Q, hQ⟩ : ∃ Q, Q = availB x0 x1 x2 x3 x4 x5 x6 x7 x8 x9 x10 y2 y4 now := ⟨_, rfl⟩
    have HQ : Hid (∀ W : World, Calls Tryz.prog 148 #[.agg #[.int .i64 x0, .int .i64 x1, .int .i64 x2, .int .i64 x3, .int .i64 x4, .int .i64 x5, .int .i64 x6, .int .i64 x7, .int .i64 x8, .int .i64 x9, .int .i64 x10], .agg #[.int .i64 y0, .int .i64 y1, .int .i64 y2, .int .i64 y3, .int .i64 y4], .int .i64 now] W (Says (.bool Q) W)) := fun W => by rw [hQ]; exact HA.out y0 y1 y2 y3 y4 W
    have HQQ := Lib.hid hQ
    clear hQ
    have cFS_0 : wr.cell? ⟨w.heap.size, 0, none⟩ = some (.int .i64 x0) := box_cell FS.out 0 _ rfl
    have cFS_1 : wr.cell? ⟨w.heap.size, 1, none⟩ = some (.int .i64 x1) := box_cell FS.out 1 _ rfl
    have cFS_2 : wr.cell? ⟨w.heap.size, 2, none⟩ = some (.int .i64 x2) := box_cell FS.out 2 _ rfl
    have cFS_3 : wr.cell? ⟨w.heap.size, 3, none⟩ = some (.int .i64 x3) := box_cell FS.out 3 _ rfl
    have cFS_4 : wr.cell? ⟨w.heap.size, 4, none⟩ = some (.int .i64 x4) := box_cell FS.out 4 _ rfl
    have cFS_5 : wr.cell? ⟨w.heap.size, 5, none⟩ = some (.int .i64 x5) := box_cell FS.out 5 _ rfl
    have cFS_6 : wr.cell? ⟨w.heap.size, 6, none⟩ = some (.int .i64 x6) := box_cell FS.out 6 _ rfl
    have cFS_7 : wr.cell? ⟨w.heap.size, 7, none⟩ = some (.int .i64 x7) := box_cell FS.out 7 _ rfl
    have cFS_8 : wr.cell? ⟨w.heap.size, 8, none⟩ = some (.int .i64 x8) := box_cell FS.out 8 _ rfl
    have cFS_9 : wr.cell? ⟨w.heap.size, 9, none⟩ = some (.int .i64 x9) := box_cell FS.out 9 _ rfl
    have cFS_10 : wr.cell? ⟨w.heap.size, 10, none⟩ = some (.int .i64 x10) := box_cell FS.out 10 _ rfl
    have cFF_0 : wr.cell? ⟨w.heap.size + 1, 0, none⟩ = some (.slice (some ⟨b, off, none⟩) n c) := box_cell FF.out 0 _ rfl
    have cFF_1 : wr.cell? ⟨w.heap.size + 1, 1, none⟩ = some (.int .i64 nx) := box_cell FF.out 1 _ rfl
    have FSa := Lib.hid (box_alloc FS.out (.cells #[.int .i64 y0, .int .i64 y1, .int .i64 y2, .int .i64 y3, .int .i64 y4] 85))
    have FFa := Lib.hid (box_alloc FF.out (.cells #[.int .i64 y0, .int .i64 y1, .int .i64 y2, .int .i64 y3, .int .i64 y4] 85))
    have hbra : Below w.heap.size w (wr.alloc (.cells #[.int .i64 y0, .int .i64 y1, .int .i64 y2, .int .i64 y3, .int .i64 y4] 85)) := hbr.alloc hbr.size _
    have d0 : (wr.alloc (.cells #[.int .i64 y0, .int .i64 y1, .int .i64 y2, .int .i64 y3, .int .i64 y4] 85)).cell? ⟨w.heap.size, 0, none⟩ = some (.int .i64 x0) := box_cell FSa.out 0 _ rfl
    have d1 : (wr.alloc (.cells #[.int .i64 y0, .int .i64 y1, .int .i64 y2, .int .i64 y3, .int .i64 y4] 85)).cell? ⟨w.heap.size, 1, none⟩ = some (.int .i64 x1) := box_cell FSa.out 1 _ rfl
    have d2 : (wr.alloc (.cells #[.int .i64 y0, .int .i64 y1, .int .i64 y2, .int .i64 y3, .int .i64 y4] 85)).cell? ⟨w.heap.size, 2, none⟩ = some (.int .i64 x2) := box_cell FSa.out 2 _ rfl
    have d3 : (wr.alloc (.cells #[.int .i64 y0, .int .i64 y1, .int .i64 y2, .int .i64 y3, .int .i64 y4] 85)).cell? ⟨w.heap.size, 3, none⟩ = some (.int .i64 x3) := box_cell FSa.out 3 _ rfl
    have d4 : (wr.alloc (.cells #[.int .i64 y0, .int .i64 y1, .int .i64 y2, .int .i64 y3, .int .i64 y4] 85)).cell? ⟨w.heap.size, 4, none⟩ = some (.int .i64 x4) := box_cell FSa.out 4 _ rfl
    have d5 : (wr.alloc (.cells #[.int .i64 y0, .int .i64 y1, .int .i64 y2, .int .i64 y3, .int .i64 y4] 85)).cell? ⟨w.heap.size, 5, none⟩ = some (.int .i64 x5) := box_cell FSa.out 5 _ rfl
    have d6 : (wr.alloc (.cells #[.int .i64 y0, .int .i64 y1, .int .i64 y2, .int .i64 y3, .int .i64 y4] 85)).cell? ⟨w.heap.size, 6, none⟩ = some (.int .i64 x6) := box_cell FSa.out 6 _ rfl
    have d7 : (wr.alloc (.cells #[.int .i64 y0, .int .i64 y1, .int .i64 y2, .int .i64 y3, .int .i64 y4] 85)).cell? ⟨w.heap.size, 7, none⟩ = some (.int .i64 x7) := box_cell FSa.out 7 _ rfl
    have d8 : (wr.alloc (.cells #[.int .i64 y0, .int .i64 y1, .int .i64 y2, .int .i64 y3, .int .i64 y4] 85)).cell? ⟨w.heap.size, 8, none⟩ = some (.int .i64 x8) := box_cell FSa.out 8 _ rfl
    have d9 : (wr.alloc (.cells #[.int .i64 y0, .int .i64 y1, .int .i64 y2, .int .i64 y3, .int .i64 y4] 85)).cell? ⟨w.heap.size, 9, none⟩ = some (.int .i64 x9) := box_cell FSa.out 9 _ rfl
    have d10 : (wr.alloc (.cells #[.int .i64 y0, .int .i64 y1, .int .i64 y2, .int .i64 y3, .int .i64 y4] 85)).cell? ⟨w.heap.size, 10, none⟩ = some (.int .i64 x10) := box_cell FSa.out 10 _ rfl
    cases h1 : (rev == 0) <;> cases h2 : (y1 == rev)
    · have HB := Lib.hid (av_of (now := now) (x0 := x0) (x1 := x1) (x2 := x2) (x3 := x3) (x4 := x4) (x5 := x5) (x6 := x6) (x7 := x7) (x8 := x8) (x9 := x9) (x10 := x10) (y0 := y0) (y3 := y3) h1 h2 HQQ.out)
      have HE := HS.out
      rw [HB.out] at HE
      have HE2 := Lib.hid HE
      clear HE
      go_wp2
      go_roundw
      case rel => first | exact ⟨k + 1, m, by omega, by go_num, rfl, by omega, by have h := HE2.out; simp at h; show _ = _; rw [h]; exact HM.out, FSa, FFa, hbra⟩ | exact ⟨k + 1, m + 1, by omega, by go_num, by go_num, by omega, by have h := HE2.out; simp at h; show _ = _; rw [h, HM.out], FSa, FFa, hbra⟩
      case measure => simp [RowKit.intOf]; omega
    · have HB := Lib.hid (av_of (now := now) (x0 := x0) (x1 := x1) (x2 := x2) (x3 := x3) (x4 := x4) (x5 := x5) (x6 := x6) (x7 := x7) (x8 := x8) (x9 := x9) (x10 := x10) (y0 := y0) (y3 := y3) h1 h2 HQQ.out)
      have HE := HS.out
      rw [HB.out] at HE
      have HE2 := Lib.hid HE
      clear HE
      go_wp2_with fail
      refine (HQ.out _).mono ?_
      rintro e w2 ⟨rfl, hb2⟩
      have FS2 := Lib.hid (box_below FSa.out hb2)
      have FF2 := Lib.hid (box_below FFa.out hb2)
      have hbr2 := bel_then hbra hb2 hbra.size
      clear hb2 hbra FSa FFa d0 d1 d2 d3 d4 d5 d6 d7 d8 d9 d10
      clear cFS_0 cFS_1 cFS_2 cFS_3 cFS_4 cFS_5 cFS_6 cFS_7 cFS_8 cFS_9 cFS_10 cFF_0 cFF_1
      clear hc0 hc1 hc2 hc3 hc4
      cases Q
      all_goals
        go_wp2
        go_roundw
        case rel => first | exact ⟨k + 1, m, by omega, by go_num, rfl, by omega, by have h := HE2.out; simp at h; show _ = _; rw [h]; exact HM.out, FS2, FF2, hbr2⟩ | exact ⟨k + 1, m + 1, by omega, by go_num, by go_num, by omega, by have h := HE2.out; simp at h; show _ = _; rw [h, HM.out], FS2, FF2, hbr2⟩
        case measure => simp [RowKit.intOf]; omega
    · have HB := Lib.hid (av_of (now := now) (x0 := x0) (x1 := x1) (x2 := x2) (x3 := x3) (x4 := x4) (x5 := x5) (x6 := x6) (x7 := x7) (x8 := x8) (x9 := x9) (x10 := x10) (y0 := y0) (y3 := y3) h1 h2 HQQ.out)
      have HE := HS.out
      rw [HB.out] at HE
      have HE2 := Lib.hid HE
      clear HE
      go_wp2_with fail
      refine (HQ.out _).mono ?_
      rintro e w2 ⟨rfl, hb2⟩
      have FS2 := Lib.hid (box_below FSa.out hb2)
      have FF2 := Lib.hid (box_below FFa.out hb2)
      have hbr2 := bel_then hbra hb2 hbra.size
      clear hb2 hbra FSa FFa d0 d1 d2 d3 d4 d5 d6 d7 d8 d9 d10
      clear cFS_0 cFS_1 cFS_2 cFS_3 cFS_4 cFS_5 cFS_6 cFS_7 cFS_8 cFS_9 cFS_10 cFF_0 cFF_1
      clear hc0 hc1 hc2 hc3 hc4
      cases Q
      all_goals
        go_wp2
        go_roundw
        case rel => first | exact ⟨k + 1, m, by omega, by go_num, rfl, by omega, by have h := HE2.out; simp at h; show _ = _; rw [h]; exact HM.out, FS2, FF2, hbr2⟩ | exact ⟨k + 1, m + 1, by omega, by go_num, by go_num, by omega, by have h := HE2.out; simp at h; show _ = _; rw [h, HM.out], FS2, FF2, hbr2⟩
        case measure => simp [RowKit.intOf]; omega
    · have HB := Lib.hid (av_of (now := now) (x0 := x0) (x1 := x1) (x2 := x2) (x3 := x3) (x4 := x4) (x5 := x5) (x6 := x6) (x7 := x7) (x8 := x8) (x9 := x9) (x10 := x10) (y0 := y0) (y3 := y3) h1 h2 HQQ.out)
      have HE := HS.out
      rw [HB.out] at HE
      have HE2 := Lib.hid HE
      clear HE
      go_wp2_with fail
      refine (HQ.out _).mono ?_
      rintro e w2 ⟨rfl, hb2⟩
      have FS2 := Lib.hid (box_below FSa.out hb2)
      have FF2 := Lib.hid (box_below FFa.out hb2)
      have hbr2 := bel_then hbra hb2 hbra.size
      clear hb2 hbra FSa FFa d0 d1 d2 d3 d4 d5 d6 d7 d8 d9 d10
      clear cFS_0 cFS_1 cFS_2 cFS_3 cFS_4 cFS_5 cFS_6 cFS_7 cFS_8 cFS_9 cFS_10 cFF_0 cFF_1
      clear hc0 hc1 hc2 hc3 hc4
      cases Q
      all_goals
        go_wp2
        go_roundw
        case rel => first | exact ⟨k + 1, m, by omega, by go_num, rfl, by omega, by have h := HE2.out; simp at h; show _ = _; rw [h]; exact HM.out, FS2, FF2, hbr2⟩ | exact ⟨k + 1, m + 1, by omega, by go_num, by go_num, by omega, by have h := HE2.out; simp at h; show _ = _; rw [h, HM.out], FS2, FF2, hbr2⟩
        case measure => simp [RowKit.intOf]; omega
set_option maxRecDepth 100000 in
set_option maxHeartbeats 6400000 in
theorem specAvailableOf_any (x0 x1 x2 x3 x4 x5 x6 x7 x8 x9 x10 rev now : Int) (A : Option Addr) (n c : Nat) (nx : Int) (ps : PList) (B : Nat) (w : World) (hr : IsPods w B A n ps) (hB : B ≤ w.heap.size) (hn : n ≤ 1048576) :
    Calls Tryz.prog 56 #[.agg #[.int .i64 x0, .int .i64 x1, .int .i64 x2, .int .i64 x3, .int .i64 x4, .int .i64 x5, .int .i64 x6, .int .i64 x7, .int .i64 x8, .int .i64 x9, .int .i64 x10], .agg #[.slice A n c, .int .i64 nx], .int .i64 rev, .int .i64 now] w (Says (.int .i64 (availV x0 x1 x2 x3 x4 x5 x6 x7 x8 x9 x10 rev now (ps, nx))) w) := by
  have HL : Hid (ps.length = n) := hr.1
  have HR := Lib.hid hr
  clear hr
  have HA : Hid (∀ (y0 y1 y2 y3 y4 : Int) (W : World), Calls Tryz.prog 106 #[.agg #[.int .i64 x0, .int .i64 x1, .int .i64 x2, .int .i64 x3, .int .i64 x4, .int .i64 x5, .int .i64 x6, .int .i64 x7, .int .i64 x8, .int .i64 x9, .int .i64 x10], .agg #[.int .i64 y0, .int .i64 y1, .int .i64 y2, .int .i64 y3, .int .i64 y4], .int .i64 now] W (Says (.bool (availB x0 x1 x2 x3 x4 x5 x6 x7 x8 x9 x10 y2 y4 now)) W)) := fun y0 y1 y2 y3 y4 W => specIsAvailable_any x0 x1 x2 x3 x4 x5 x6 x7 x8 x9 x10 y0 y1 y2 y3 y4 now W
  obtain ⟨R, hR⟩ : ∃ R, R = availV x0 x1 x2 x3 x4 x5 x6 x7 x8 x9 x10 rev now (ps, nx) := ⟨_, rfl⟩
  rw [← hR]
  have HRV := Lib.hid hR
  clear hR
  obtain ⟨V, hV⟩ : ∃ V, V = ((w.alloc (.cells #[.int .i64 x0, .int .i64 x1, .int .i64 x2, .int .i64 x3, .int .i64 x4, .int .i64 x5, .int .i64 x6, .int .i64 x7, .int .i64 x8, .int .i64 x9, .int .i64 x10] 25)).alloc (.cells #[.slice A n c, .int .i64 nx] 34)) := ⟨_, rfl⟩
  have hbV : Below w.heap.size w V := by rw [hV]; exact bel2 _ _ _
  have BS : Hid (V.heap[w.heap.size]? = some (.cells #[.int .i64 x0, .int .i64 x1, .int .i64 x2, .int .i64 x3, .int .i64 x4, .int .i64 x5, .int .i64 x6, .int .i64 x7, .int .i64 x8, .int .i64 x9, .int .i64 x10] 25)) := by have h := box_alloc (box_new w (.cells #[.int .i64 x0, .int .i64 x1, .int .i64 x2, .int .i64 x3, .int .i64 x4, .int .i64 x5, .int .i64 x6, .int .i64 x7, .int .i64 x8, .int .i64 x9, .int .i64 x10] 25)) (.cells #[.slice A n c, .int .i64 nx] 34); (try simp only [World.size_alloc] at h); rw [hV]; exact h
  have BF : Hid (V.heap[w.heap.size + 1]? = some (.cells #[.slice A n c, .int .i64 nx] 34)) := by have h := box_new (w.alloc (.cells #[.int .i64 x0, .int .i64 x1, .int .i64 x2, .int .i64 x3, .int .i64 x4, .int .i64 x5, .int .i64 x6, .int .i64 x7, .int .i64 x8, .int .i64 x9, .int .i64 x10] 25)) (.cells #[.slice A n c, .int .i64 nx] 34); (try simp only [World.size_alloc] at h); rw [hV]; exact h
  go_enter Tryz.func56, Tryz.ntmps56
  go_wp2_with fail
  rw [← hV]
  clear hV
  refine (FleetSpec.specFleetOk_any A n c nx ps B _ (HR.out.below hbV hB) (Nat.le_trans hB hbV.size) hn).mono ?_
  rintro e w1 ⟨rfl, hbs⟩
  have BS' := Lib.hid (box_below BS.out hbs)
  have BF' := Lib.hid (box_below BF.out hbs)
  have hbn1 : Below w.heap.size w w1 := bel_then hbV hbs hbV.size
  clear BS
  have BS := BS'
  clear BS'
  clear BF
  have BF := BF'
  clear BF'
  clear hbs
  by_cases hg : FGood ps nx
  case neg =>
    have HV : Hid (R = -1) := by show R = _; rw [HRV.out]; exact if_neg hg
    rw [decide_eq_false hg]
    clear hg
    go_wp2
    go_ret
    exact ⟨by rw [HV.out]; rfl, hbn1⟩
  have HV : Hid (R = cntF (avB x0 x1 x2 x3 x4 x5 x6 x7 x8 x9 x10 rev now) ps) := by show R = _; rw [HRV.out]; exact if_pos hg
  clear HRV
  rw [decide_eq_true hg]
  clear hg
  have cBF_0 : w1.cell? ⟨w.heap.size + 1, 0, none⟩ = some (.slice A n c) := box_cell BF.out 0 _ rfl
  go_wp2_with fail
  clear cBF_0
  go_loopw [9, 10] (fun q i wr => ∃ (k m : Nat), k ≤ n ∧ i = .int .i64 k ∧ q = .int .i64 (m : Int) ∧ m ≤ k ∧ Hid (m = cntF (avB x0 x1 x2 x3 x4 x5 x6 x7 x8 x9 x10 rev now) (ps.take k)) ∧ Hid (wr.heap[w.heap.size]? = some (.cells #[.int .i64 x0, .int .i64 x1, .int .i64 x2, .int .i64 x3, .int .i64 x4, .int .i64 x5, .int .i64 x6, .int .i64 x7, .int .i64 x8, .int .i64 x9, .int .i64 x10] 25)) ∧ Hid (wr.heap[w.heap.size + 1]? = some (.cells #[.slice A n c, .int .i64 nx] 34)) ∧ Below w.heap.size w wr) (fun _ i _ => n - (RowKit.intOf i).toNat)
  case atStart => exact ⟨0, 0, Nat.zero_le _, rfl, rfl, Nat.le_refl _, by simp [Hid, cntF], BS, BF, hbn1⟩
  case round =>
    obtain ⟨k, m, hk, rfl, rfl, hmk, HM, FS, FF, hbr⟩ := hrel
    clear BS BF hbn1
    by_cases hlt : k < n
    case neg =>
      have HK : Hid (k = n) := (by omega : k = n)
      have cFF_0 : wr.cell? ⟨w.heap.size + 1, 0, none⟩ = some (.slice A n c) := box_cell FF.out 0 _ rfl
      go_wp2
      go_ret
      have h := HM.out
      rw [List.take_of_length_le (by rw [HL.out, HK.out]; exact Nat.le_refl _)] at h
      exact ⟨by rw [HV.out, ← h]; rfl, hbr⟩
    have hrw := HR.out.below hbr hB
    obtain ⟨b, off, y0, y1, y2, y3, y4, rfl, hbB, hz, hc0, hc1, hc2, hc3, hc4⟩ := hrw.at_ hlt
    have HS := Lib.hid (cnt_takeF (avB x0 x1 x2 x3 x4 x5 x6 x7 x8 x9 x10 rev now) (ps := ps) (k := k) (by rw [HL.out]; exact hlt))
    rw [hz] at HS
    clear hz hrw
    obtain ⟨Q, hQ⟩ : ∃ Q, Q = availB x0 x1 x2 x3 x4 x5 x6 x7 x8 x9 x10 y2 y4 now := ⟨_, rfl⟩
    have HQ : Hid (∀ W : World, Calls Tryz.prog 106 #[.agg #[.int .i64 x0, .int .i64 x1, .int .i64 x2, .int .i64 x3, .int .i64 x4, .int .i64 x5, .int .i64 x6, .int .i64 x7, .int .i64 x8, .int .i64 x9, .int .i64 x10], .agg #[.int .i64 y0, .int .i64 y1, .int .i64 y2, .int .i64 y3, .int .i64 y4], .int .i64 now] W (Says (.bool Q) W)) := fun W => by rw [hQ]; exact HA.out y0 y1 y2 y3 y4 W
    have HQQ := Lib.hid hQ
    clear hQ
    have cFS_0 : wr.cell? ⟨w.heap.size, 0, none⟩ = some (.int .i64 x0) := box_cell FS.out 0 _ rfl
    have cFS_1 : wr.cell? ⟨w.heap.size, 1, none⟩ = some (.int .i64 x1) := box_cell FS.out 1 _ rfl
    have cFS_2 : wr.cell? ⟨w.heap.size, 2, none⟩ = some (.int .i64 x2) := box_cell FS.out 2 _ rfl
    have cFS_3 : wr.cell? ⟨w.heap.size, 3, none⟩ = some (.int .i64 x3) := box_cell FS.out 3 _ rfl
    have cFS_4 : wr.cell? ⟨w.heap.size, 4, none⟩ = some (.int .i64 x4) := box_cell FS.out 4 _ rfl
    have cFS_5 : wr.cell? ⟨w.heap.size, 5, none⟩ = some (.int .i64 x5) := box_cell FS.out 5 _ rfl
    have cFS_6 : wr.cell? ⟨w.heap.size, 6, none⟩ = some (.int .i64 x6) := box_cell FS.out 6 _ rfl
    have cFS_7 : wr.cell? ⟨w.heap.size, 7, none⟩ = some (.int .i64 x7) := box_cell FS.out 7 _ rfl
    have cFS_8 : wr.cell? ⟨w.heap.size, 8, none⟩ = some (.int .i64 x8) := box_cell FS.out 8 _ rfl
    have cFS_9 : wr.cell? ⟨w.heap.size, 9, none⟩ = some (.int .i64 x9) := box_cell FS.out 9 _ rfl
    have cFS_10 : wr.cell? ⟨w.heap.size, 10, none⟩ = some (.int .i64 x10) := box_cell FS.out 10 _ rfl
    have cFF_0 : wr.cell? ⟨w.heap.size + 1, 0, none⟩ = some (.slice (some ⟨b, off, none⟩) n c) := box_cell FF.out 0 _ rfl
    have cFF_1 : wr.cell? ⟨w.heap.size + 1, 1, none⟩ = some (.int .i64 nx) := box_cell FF.out 1 _ rfl
    cases h1 : (rev == 0) <;> cases h2 : (y1 == rev)
    · have HB := Lib.hid (av_of (now := now) (x0 := x0) (x1 := x1) (x2 := x2) (x3 := x3) (x4 := x4) (x5 := x5) (x6 := x6) (x7 := x7) (x8 := x8) (x9 := x9) (x10 := x10) (y0 := y0) (y3 := y3) h1 h2 HQQ.out)
      have HE := HS.out
      rw [HB.out] at HE
      have HE2 := Lib.hid HE
      clear HE
      go_wp2_with fail
      refine wp_region_held_drew (S := fun w' => w'.cell? ⟨w.heap.size, 0, none⟩ = some (.int .i64 x0) ∧ w'.cell? ⟨w.heap.size, 1, none⟩ = some (.int .i64 x1) ∧ w'.cell? ⟨w.heap.size, 2, none⟩ = some (.int .i64 x2) ∧ w'.cell? ⟨w.heap.size, 3, none⟩ = some (.int .i64 x3) ∧ w'.cell? ⟨w.heap.size, 4, none⟩ = some (.int .i64 x4) ∧ w'.cell? ⟨w.heap.size, 5, none⟩ = some (.int .i64 x5) ∧ w'.cell? ⟨w.heap.size, 6, none⟩ = some (.int .i64 x6) ∧ w'.cell? ⟨w.heap.size, 7, none⟩ = some (.int .i64 x7) ∧ w'.cell? ⟨w.heap.size, 8, none⟩ = some (.int .i64 x8) ∧ w'.cell? ⟨w.heap.size, 9, none⟩ = some (.int .i64 x9) ∧ w'.cell? ⟨w.heap.size, 10, none⟩ = some (.int .i64 x10) ∧ w'.cell? ⟨w.heap.size + 1, 0, none⟩ = some (.slice (some ⟨b, off, none⟩) n c) ∧ w'.cell? ⟨b, off + k * 5, none⟩ = some (.int .i64 y0) ∧ w'.cell? ⟨b, off + k * 5 + 1, none⟩ = some (.int .i64 y1) ∧ w'.cell? ⟨b, off + k * 5 + 2, none⟩ = some (.int .i64 y2) ∧ w'.cell? ⟨b, off + k * 5 + 3, none⟩ = some (.int .i64 y3) ∧ w'.cell? ⟨b, off + k * 5 + 4, none⟩ = some (.int .i64 y4)) (by kernel_rfl) ⟨cFS_0, cFS_1, cFS_2, cFS_3, cFS_4, cFS_5, cFS_6, cFS_7, cFS_8, cFS_9, cFS_10, cFF_0, hc0, hc1, hc2, hc3, hc4⟩ (fun hHeld => ?_)
      refine tkk (i := 0) rfl ?_
      try simp only [Act.put, pj]
      refine tkk (i := 1) rfl ?_
      try simp only [Act.put, pj]
      refine tkk (i := 2) rfl ?_
      try simp only [Act.put, pj]
      refine tkk (i := 3) rfl ?_
      try simp only [Act.put, pj]
      refine tkk (i := 4) rfl ?_
      try simp only [Act.put, pj]
      refine tkk (i := 5) rfl ?_
      try simp only [Act.put, pj]
      refine tkk (i := 6) rfl ?_
      try simp only [Act.put, pj]
      refine tkk (i := 7) rfl ?_
      try simp only [Act.put, pj]
      refine tkk (i := 8) rfl ?_
      try simp only [Act.put, pj]
      refine tkk (i := 9) rfl ?_
      try simp only [Act.put, pj]
      refine tkk (i := 10) rfl ?_
      try simp only [Act.put, pj]
      refine tkk (i := 11) rfl ?_
      try simp only [Act.put, pj]
      refine tkk (i := 12) rfl ?_
      try simp only [Act.put, pj]
      refine tkj (i := 13) (v := undef) rfl (Or.inr ⟨by rfl, rfl⟩) ?_
      try simp only [Act.put, pj]
      refine tkj (i := 14) (v := undef) rfl (Or.inr ⟨by rfl, rfl⟩) ?_
      try simp only [Act.put, pj]
      refine tkj (i := 15) (v := undef) rfl (Or.inr ⟨by rfl, rfl⟩) ?_
      try simp only [Act.put, pj]
      refine tkj (i := 16) (v := undef) rfl (Or.inr ⟨by rfl, rfl⟩) ?_
      try simp only [Act.put, pj]
      refine tkj (i := 17) (v := undef) rfl (Or.inr ⟨by rfl, rfl⟩) ?_
      try simp only [Act.put, pj]
      refine tkj (i := 18) (v := undef) rfl (Or.inr ⟨by rfl, rfl⟩) ?_
      try simp only [Act.put, pj]
      refine tkj (i := 19) (v := undef) rfl (Or.inr ⟨by rfl, rfl⟩) ?_
      try simp only [Act.put, pj]
      refine tkj (i := 20) (v := undef) rfl (Or.inr ⟨by rfl, rfl⟩) ?_
      try simp only [Act.put, pj]
      refine tkk (i := 21) rfl ?_
      try simp only [Act.put, pj]
      refine wpAnyH_done (by kernel_rfl) ?_ _
      have FS2 := FS
      have FF2 := FF
      have hbr2 := hbr.drew
      go_wp2
      go_roundw
      case rel => first | exact ⟨k + 1, m, by omega, by go_num, rfl, by omega, by have h := HE2.out; simp at h; show _ = _; rw [h]; exact HM.out, FS2, FF2, hbr2⟩ | exact ⟨k + 1, m + 1, by omega, by go_num, by go_num, by omega, by have h := HE2.out; simp at h; show _ = _; rw [h, HM.out], FS2, FF2, hbr2⟩
      case measure => simp [RowKit.intOf]; omega
    · have HB := Lib.hid (av_of (now := now) (x0 := x0) (x1 := x1) (x2 := x2) (x3 := x3) (x4 := x4) (x5 := x5) (x6 := x6) (x7 := x7) (x8 := x8) (x9 := x9) (x10 := x10) (y0 := y0) (y3 := y3) h1 h2 HQQ.out)
      have HE := HS.out
      rw [HB.out] at HE
      have HE2 := Lib.hid HE
      clear HE
      go_wp2_with fail
      refine wp_region_held_drew (S := fun w' => w'.cell? ⟨w.heap.size, 0, none⟩ = some (.int .i64 x0) ∧ w'.cell? ⟨w.heap.size, 1, none⟩ = some (.int .i64 x1) ∧ w'.cell? ⟨w.heap.size, 2, none⟩ = some (.int .i64 x2) ∧ w'.cell? ⟨w.heap.size, 3, none⟩ = some (.int .i64 x3) ∧ w'.cell? ⟨w.heap.size, 4, none⟩ = some (.int .i64 x4) ∧ w'.cell? ⟨w.heap.size, 5, none⟩ = some (.int .i64 x5) ∧ w'.cell? ⟨w.heap.size, 6, none⟩ = some (.int .i64 x6) ∧ w'.cell? ⟨w.heap.size, 7, none⟩ = some (.int .i64 x7) ∧ w'.cell? ⟨w.heap.size, 8, none⟩ = some (.int .i64 x8) ∧ w'.cell? ⟨w.heap.size, 9, none⟩ = some (.int .i64 x9) ∧ w'.cell? ⟨w.heap.size, 10, none⟩ = some (.int .i64 x10) ∧ w'.cell? ⟨w.heap.size + 1, 0, none⟩ = some (.slice (some ⟨b, off, none⟩) n c) ∧ w'.cell? ⟨b, off + k * 5, none⟩ = some (.int .i64 y0) ∧ w'.cell? ⟨b, off + k * 5 + 1, none⟩ = some (.int .i64 y1) ∧ w'.cell? ⟨b, off + k * 5 + 2, none⟩ = some (.int .i64 y2) ∧ w'.cell? ⟨b, off + k * 5 + 3, none⟩ = some (.int .i64 y3) ∧ w'.cell? ⟨b, off + k * 5 + 4, none⟩ = some (.int .i64 y4)) (by kernel_rfl) ⟨cFS_0, cFS_1, cFS_2, cFS_3, cFS_4, cFS_5, cFS_6, cFS_7, cFS_8, cFS_9, cFS_10, cFF_0, hc0, hc1, hc2, hc3, hc4⟩ (fun hHeld => ?_)
      refine tkk (i := 0) rfl ?_
      try simp only [Act.put, pj]
      refine tkk (i := 1) rfl ?_
      try simp only [Act.put, pj]
      refine tkk (i := 2) rfl ?_
      try simp only [Act.put, pj]
      refine tkk (i := 3) rfl ?_
      try simp only [Act.put, pj]
      refine tkk (i := 4) rfl ?_
      try simp only [Act.put, pj]
      refine tkk (i := 5) rfl ?_
      try simp only [Act.put, pj]
      refine tkk (i := 6) rfl ?_
      try simp only [Act.put, pj]
      refine tkk (i := 7) rfl ?_
      try simp only [Act.put, pj]
      refine tkk (i := 8) rfl ?_
      try simp only [Act.put, pj]
      refine tkk (i := 9) rfl ?_
      try simp only [Act.put, pj]
      refine tkk (i := 10) rfl ?_
      try simp only [Act.put, pj]
      refine tkk (i := 11) rfl ?_
      try simp only [Act.put, pj]
      refine tkk (i := 12) rfl ?_
      try simp only [Act.put, pj]
      refine tkk (i := 13) rfl ?_
      try simp only [Act.put, pj]
      refine tkk (i := 14) rfl ?_
      try simp only [Act.put, pj]
      refine tkk (i := 15) rfl ?_
      try simp only [Act.put, pj]
      refine tkk (i := 16) rfl ?_
      try simp only [Act.put, pj]
      refine tkk (i := 17) rfl ?_
      try simp only [Act.put, pj]
      refine tkk (i := 18) rfl ?_
      try simp only [Act.put, pj]
      refine tkk (i := 19) rfl ?_
      try simp only [Act.put, pj]
      refine wpAnyH_ready (rs := [20]) (by kernel_rfl) (by simp) (AllReadyH.cons rfl (fun K hK => ?_) AllReadyH.nil)
      go_simp
      refine (HQ.out _).mono ?_
      rintro e w2 ⟨rfl, hb2⟩
      have hb3 : Below wr.heap.size wr w2 := undrew hb2
      clear hHeld
      refine hK _ _ (by exact ⟨cell_keep hb3 cFS_0, cell_keep hb3 cFS_1, cell_keep hb3 cFS_2, cell_keep hb3 cFS_3, cell_keep hb3 cFS_4, cell_keep hb3 cFS_5, cell_keep hb3 cFS_6, cell_keep hb3 cFS_7, cell_keep hb3 cFS_8, cell_keep hb3 cFS_9, cell_keep hb3 cFS_10, cell_keep hb3 cFF_0, cell_keep hb3 hc0, cell_keep hb3 hc1, cell_keep hb3 hc2, cell_keep hb3 hc3, cell_keep hb3 hc4⟩) (fun hHeld => ?_)
      clear hK K
      try simp only [Act.put, pj]
      cases Q
      · skip
        refine tkk (i := 21) rfl ?_
        try simp only [Act.put, pj]
        refine wpAnyH_done (by kernel_rfl) ?_ _
        have FS2 := Lib.hid (box_below FS.out hb3)
        have FF2 := Lib.hid (box_below FF.out hb3)
        have hbr2 := bel_then hbr hb3 hbr.size
        clear hb2 hb3 hbr FS FF hHeld
        go_wp2
        go_roundw
        case rel => first | exact ⟨k + 1, m, by omega, by go_num, rfl, by omega, by have h := HE2.out; simp at h; show _ = _; rw [h]; exact HM.out, FS2, FF2, hbr2⟩ | exact ⟨k + 1, m + 1, by omega, by go_num, by go_num, by omega, by have h := HE2.out; simp at h; show _ = _; rw [h, HM.out], FS2, FF2, hbr2⟩
        case measure => simp [RowKit.intOf]; omega
      · skip
        refine tkk (i := 21) rfl ?_
        try simp only [Act.put, pj]
        refine wpAnyH_done (by kernel_rfl) ?_ _
        have FS2 := Lib.hid (box_below FS.out hb3)
        have FF2 := Lib.hid (box_below FF.out hb3)
        have hbr2 := bel_then hbr hb3 hbr.size
        clear hb2 hb3 hbr FS FF hHeld
        go_wp2
        go_roundw
        case rel => first | exact ⟨k + 1, m, by omega, by go_num, rfl, by omega, by have h := HE2.out; simp at h; show _ = _; rw [h]; exact HM.out, FS2, FF2, hbr2⟩ | exact ⟨k + 1, m + 1, by omega, by go_num, by go_num, by omega, by have h := HE2.out; simp at h; show _ = _; rw [h, HM.out], FS2, FF2, hbr2⟩
        case measure => simp [RowKit.intOf]; omega
    · have HB := Lib.hid (av_of (now := now) (x0 := x0) (x1 := x1) (x2 := x2) (x3 := x3) (x4 := x4) (x5 := x5) (x6 := x6) (x7 := x7) (x8 := x8) (x9 := x9) (x10 := x10) (y0 := y0) (y3 := y3) h1 h2 HQQ.out)
      have HE := HS.out
      rw [HB.out] at HE
      have HE2 := Lib.hid HE
      clear HE
      go_wp2_with fail
      refine wp_region_held_drew (S := fun w' => w'.cell? ⟨w.heap.size, 0, none⟩ = some (.int .i64 x0) ∧ w'.cell? ⟨w.heap.size, 1, none⟩ = some (.int .i64 x1) ∧ w'.cell? ⟨w.heap.size, 2, none⟩ = some (.int .i64 x2) ∧ w'.cell? ⟨w.heap.size, 3, none⟩ = some (.int .i64 x3) ∧ w'.cell? ⟨w.heap.size, 4, none⟩ = some (.int .i64 x4) ∧ w'.cell? ⟨w.heap.size, 5, none⟩ = some (.int .i64 x5) ∧ w'.cell? ⟨w.heap.size, 6, none⟩ = some (.int .i64 x6) ∧ w'.cell? ⟨w.heap.size, 7, none⟩ = some (.int .i64 x7) ∧ w'.cell? ⟨w.heap.size, 8, none⟩ = some (.int .i64 x8) ∧ w'.cell? ⟨w.heap.size, 9, none⟩ = some (.int .i64 x9) ∧ w'.cell? ⟨w.heap.size, 10, none⟩ = some (.int .i64 x10) ∧ w'.cell? ⟨w.heap.size + 1, 0, none⟩ = some (.slice (some ⟨b, off, none⟩) n c) ∧ w'.cell? ⟨b, off + k * 5, none⟩ = some (.int .i64 y0) ∧ w'.cell? ⟨b, off + k * 5 + 1, none⟩ = some (.int .i64 y1) ∧ w'.cell? ⟨b, off + k * 5 + 2, none⟩ = some (.int .i64 y2) ∧ w'.cell? ⟨b, off + k * 5 + 3, none⟩ = some (.int .i64 y3) ∧ w'.cell? ⟨b, off + k * 5 + 4, none⟩ = some (.int .i64 y4)) (by kernel_rfl) ⟨cFS_0, cFS_1, cFS_2, cFS_3, cFS_4, cFS_5, cFS_6, cFS_7, cFS_8, cFS_9, cFS_10, cFF_0, hc0, hc1, hc2, hc3, hc4⟩ (fun hHeld => ?_)
      refine tkk (i := 0) rfl ?_
      try simp only [Act.put, pj]
      refine tkk (i := 1) rfl ?_
      try simp only [Act.put, pj]
      refine tkk (i := 2) rfl ?_
      try simp only [Act.put, pj]
      refine tkj (i := 3) (v := undef) rfl (Or.inr ⟨by rfl, rfl⟩) ?_
      try simp only [Act.put, pj]
      refine tkj (i := 4) (v := undef) rfl (Or.inr ⟨by rfl, rfl⟩) ?_
      try simp only [Act.put, pj]
      refine tkj (i := 5) (v := undef) rfl (Or.inr ⟨by rfl, rfl⟩) ?_
      try simp only [Act.put, pj]
      refine tkj (i := 6) (v := undef) rfl (Or.inr ⟨by rfl, rfl⟩) ?_
      try simp only [Act.put, pj]
      refine tkj (i := 7) (v := undef) rfl (Or.inr ⟨by rfl, rfl⟩) ?_
      try simp only [Act.put, pj]
      refine tkj (i := 8) (v := undef) rfl (Or.inr ⟨by rfl, rfl⟩) ?_
      try simp only [Act.put, pj]
      refine tkj (i := 9) (v := undef) rfl (Or.inr ⟨by rfl, rfl⟩) ?_
      try simp only [Act.put, pj]
      refine tkj (i := 10) (v := undef) rfl (Or.inr ⟨by rfl, rfl⟩) ?_
      try simp only [Act.put, pj]
      refine tkk (i := 11) rfl ?_
      try simp only [Act.put, pj]
      refine tkk (i := 12) rfl ?_
      try simp only [Act.put, pj]
      refine tkk (i := 13) rfl ?_
      try simp only [Act.put, pj]
      refine tkk (i := 14) rfl ?_
      try simp only [Act.put, pj]
      refine tkk (i := 15) rfl ?_
      try simp only [Act.put, pj]
      refine tkk (i := 16) rfl ?_
      try simp only [Act.put, pj]
      refine tkk (i := 17) rfl ?_
      try simp only [Act.put, pj]
      refine tkk (i := 18) rfl ?_
      try simp only [Act.put, pj]
      refine tkk (i := 19) rfl ?_
      try simp only [Act.put, pj]
      refine wpAnyH_ready (rs := [20]) (by kernel_rfl) (by simp) (AllReadyH.cons rfl (fun K hK => ?_) AllReadyH.nil)
      go_simp
      refine (HQ.out _).mono ?_
      rintro e w2 ⟨rfl, hb2⟩
      have hb3 : Below wr.heap.size wr w2 := undrew hb2
      clear hHeld
      refine hK _ _ (by exact ⟨cell_keep hb3 cFS_0, cell_keep hb3 cFS_1, cell_keep hb3 cFS_2, cell_keep hb3 cFS_3, cell_keep hb3 cFS_4, cell_keep hb3 cFS_5, cell_keep hb3 cFS_6, cell_keep hb3 cFS_7, cell_keep hb3 cFS_8, cell_keep hb3 cFS_9, cell_keep hb3 cFS_10, cell_keep hb3 cFF_0, cell_keep hb3 hc0, cell_keep hb3 hc1, cell_keep hb3 hc2, cell_keep hb3 hc3, cell_keep hb3 hc4⟩) (fun hHeld => ?_)
      clear hK K
      try simp only [Act.put, pj]
      cases Q
      · skip
        refine tkk (i := 21) rfl ?_
        try simp only [Act.put, pj]
        refine wpAnyH_done (by kernel_rfl) ?_ _
        have FS2 := Lib.hid (box_below FS.out hb3)
        have FF2 := Lib.hid (box_below FF.out hb3)
        have hbr2 := bel_then hbr hb3 hbr.size
        clear hb2 hb3 hbr FS FF hHeld
        go_wp2
        go_roundw
        case rel => first | exact ⟨k + 1, m, by omega, by go_num, rfl, by omega, by have h := HE2.out; simp at h; show _ = _; rw [h]; exact HM.out, FS2, FF2, hbr2⟩ | exact ⟨k + 1, m + 1, by omega, by go_num, by go_num, by omega, by have h := HE2.out; simp at h; show _ = _; rw [h, HM.out], FS2, FF2, hbr2⟩
        case measure => simp [RowKit.intOf]; omega
      · skip
        refine tkk (i := 21) rfl ?_
        try simp only [Act.put, pj]
        refine wpAnyH_done (by kernel_rfl) ?_ _
        have FS2 := Lib.hid (box_below FS.out hb3)
        have FF2 := Lib.hid (box_below FF.out hb3)
        have hbr2 := bel_then hbr hb3 hbr.size
        clear hb2 hb3 hbr FS FF hHeld
        go_wp2
        go_roundw
        case rel => first | exact ⟨k + 1, m, by omega, by go_num, rfl, by omega, by have h := HE2.out; simp at h; show _ = _; rw [h]; exact HM.out, FS2, FF2, hbr2⟩ | exact ⟨k + 1, m + 1, by omega, by go_num, by go_num, by omega, by have h := HE2.out; simp at h; show _ = _; rw [h, HM.out], FS2, FF2, hbr2⟩
        case measure => simp [RowKit.intOf]; omega
    · have HB := Lib.hid (av_of (now := now) (x0 := x0) (x1 := x1) (x2 := x2) (x3 := x3) (x4 := x4) (x5 := x5) (x6 := x6) (x7 := x7) (x8 := x8) (x9 := x9) (x10 := x10) (y0 := y0) (y3 := y3) h1 h2 HQQ.out)
      have HE := HS.out
      rw [HB.out] at HE
      have HE2 := Lib.hid HE
      clear HE
      go_wp2_with fail
      refine wp_region_held_drew (S := fun w' => w'.cell? ⟨w.heap.size, 0, none⟩ = some (.int .i64 x0) ∧ w'.cell? ⟨w.heap.size, 1, none⟩ = some (.int .i64 x1) ∧ w'.cell? ⟨w.heap.size, 2, none⟩ = some (.int .i64 x2) ∧ w'.cell? ⟨w.heap.size, 3, none⟩ = some (.int .i64 x3) ∧ w'.cell? ⟨w.heap.size, 4, none⟩ = some (.int .i64 x4) ∧ w'.cell? ⟨w.heap.size, 5, none⟩ = some (.int .i64 x5) ∧ w'.cell? ⟨w.heap.size, 6, none⟩ = some (.int .i64 x6) ∧ w'.cell? ⟨w.heap.size, 7, none⟩ = some (.int .i64 x7) ∧ w'.cell? ⟨w.heap.size, 8, none⟩ = some (.int .i64 x8) ∧ w'.cell? ⟨w.heap.size, 9, none⟩ = some (.int .i64 x9) ∧ w'.cell? ⟨w.heap.size, 10, none⟩ = some (.int .i64 x10) ∧ w'.cell? ⟨w.heap.size + 1, 0, none⟩ = some (.slice (some ⟨b, off, none⟩) n c) ∧ w'.cell? ⟨b, off + k * 5, none⟩ = some (.int .i64 y0) ∧ w'.cell? ⟨b, off + k * 5 + 1, none⟩ = some (.int .i64 y1) ∧ w'.cell? ⟨b, off + k * 5 + 2, none⟩ = some (.int .i64 y2) ∧ w'.cell? ⟨b, off + k * 5 + 3, none⟩ = some (.int .i64 y3) ∧ w'.cell? ⟨b, off + k * 5 + 4, none⟩ = some (.int .i64 y4)) (by kernel_rfl) ⟨cFS_0, cFS_1, cFS_2, cFS_3, cFS_4, cFS_5, cFS_6, cFS_7, cFS_8, cFS_9, cFS_10, cFF_0, hc0, hc1, hc2, hc3, hc4⟩ (fun hHeld => ?_)
      refine tkk (i := 0) rfl ?_
      try simp only [Act.put, pj]
      refine tkk (i := 1) rfl ?_
      try simp only [Act.put, pj]
      refine tkk (i := 2) rfl ?_
      try simp only [Act.put, pj]
      refine tkj (i := 3) (v := undef) rfl (Or.inr ⟨by rfl, rfl⟩) ?_
      try simp only [Act.put, pj]
      refine tkj (i := 4) (v := undef) rfl (Or.inr ⟨by rfl, rfl⟩) ?_
      try simp only [Act.put, pj]
      refine tkj (i := 5) (v := undef) rfl (Or.inr ⟨by rfl, rfl⟩) ?_
      try simp only [Act.put, pj]
      refine tkj (i := 6) (v := undef) rfl (Or.inr ⟨by rfl, rfl⟩) ?_
      try simp only [Act.put, pj]
      refine tkj (i := 7) (v := undef) rfl (Or.inr ⟨by rfl, rfl⟩) ?_
      try simp only [Act.put, pj]
      refine tkj (i := 8) (v := undef) rfl (Or.inr ⟨by rfl, rfl⟩) ?_
      try simp only [Act.put, pj]
      refine tkj (i := 9) (v := undef) rfl (Or.inr ⟨by rfl, rfl⟩) ?_
      try simp only [Act.put, pj]
      refine tkj (i := 10) (v := undef) rfl (Or.inr ⟨by rfl, rfl⟩) ?_
      try simp only [Act.put, pj]
      refine tkk (i := 11) rfl ?_
      try simp only [Act.put, pj]
      refine tkk (i := 12) rfl ?_
      try simp only [Act.put, pj]
      refine tkk (i := 13) rfl ?_
      try simp only [Act.put, pj]
      refine tkk (i := 14) rfl ?_
      try simp only [Act.put, pj]
      refine tkk (i := 15) rfl ?_
      try simp only [Act.put, pj]
      refine tkk (i := 16) rfl ?_
      try simp only [Act.put, pj]
      refine tkk (i := 17) rfl ?_
      try simp only [Act.put, pj]
      refine tkk (i := 18) rfl ?_
      try simp only [Act.put, pj]
      refine tkk (i := 19) rfl ?_
      try simp only [Act.put, pj]
      refine wpAnyH_ready (rs := [20]) (by kernel_rfl) (by simp) (AllReadyH.cons rfl (fun K hK => ?_) AllReadyH.nil)
      go_simp
      refine (HQ.out _).mono ?_
      rintro e w2 ⟨rfl, hb2⟩
      have hb3 : Below wr.heap.size wr w2 := undrew hb2
      clear hHeld
      refine hK _ _ (by exact ⟨cell_keep hb3 cFS_0, cell_keep hb3 cFS_1, cell_keep hb3 cFS_2, cell_keep hb3 cFS_3, cell_keep hb3 cFS_4, cell_keep hb3 cFS_5, cell_keep hb3 cFS_6, cell_keep hb3 cFS_7, cell_keep hb3 cFS_8, cell_keep hb3 cFS_9, cell_keep hb3 cFS_10, cell_keep hb3 cFF_0, cell_keep hb3 hc0, cell_keep hb3 hc1, cell_keep hb3 hc2, cell_keep hb3 hc3, cell_keep hb3 hc4⟩) (fun hHeld => ?_)
      clear hK K
      try simp only [Act.put, pj]
      cases Q
      · skip
        refine tkk (i := 21) rfl ?_
        try simp only [Act.put, pj]
        refine wpAnyH_done (by kernel_rfl) ?_ _
        have FS2 := Lib.hid (box_below FS.out hb3)
        have FF2 := Lib.hid (box_below FF.out hb3)
        have hbr2 := bel_then hbr hb3 hbr.size
        clear hb2 hb3 hbr FS FF hHeld
        go_wp2
        go_roundw
        case rel => first | exact ⟨k + 1, m, by omega, by go_num, rfl, by omega, by have h := HE2.out; simp at h; show _ = _; rw [h]; exact HM.out, FS2, FF2, hbr2⟩ | exact ⟨k + 1, m + 1, by omega, by go_num, by go_num, by omega, by have h := HE2.out; simp at h; show _ = _; rw [h, HM.out], FS2, FF2, hbr2⟩
        case measure => simp [RowKit.intOf]; omega
      · skip
        refine tkk (i := 21) rfl ?_
        try simp only [Act.put, pj]
        refine wpAnyH_done (by kernel_rfl) ?_ _
        have FS2 := Lib.hid (box_below FS.out hb3)
        have FF2 := Lib.hid (box_below FF.out hb3)
        have hbr2 := bel_then hbr hb3 hbr.size
        clear hb2 hb3 hbr FS FF hHeld
        go_wp2
        go_roundw
        case rel => first | exact ⟨k + 1, m, by omega, by go_num, rfl, by omega, by have h := HE2.out; simp at h; show _ = _; rw [h]; exact HM.out, FS2, FF2, hbr2⟩ | exact ⟨k + 1, m + 1, by omega, by go_num, by go_num, by omega, by have h := HE2.out; simp at h; show _ = _; rw [h, HM.out], FS2, FF2, hbr2⟩
        case measure => simp [RowKit.intOf]; omega
end Go.Proofs.YtklgjjmcflgjeaaGreat.Av
namespace Go.Proofs.YtklgjjmcflgjeaaGreat.EngCnt
open Tick (inB tokB sinceV in_t tok_t)
open Pods
open FleetV hiding goodB
open EngV
open CountI (cntF selB liveB goodB)
theorem cnt_cons (f : Pd → Bool) (p : Pd) (ps : PList) : cntF f (p :: ps) = (if f p then 1 else 0) + cntF f ps := by
  simp only [cntF, List.filter_cons]
  split <;> simp <;> omega
theorem cnt_le {f g : Pd → Bool} (h : ∀ p, f p = true → g p = true) (ps : PList) : cntF f ps ≤ cntF g ps := by
  induction ps with
  | nil => exact Nat.le_refl _
  | cons p ps ih =>
    rw [cnt_cons, cnt_cons]
    have := h p
    cases hf : f p <;> cases hg : g p <;> simp_all <;> omega
def goB (p : Pd) : Bool := p.2.2.1 == 4
def live (e : Eng) (oth : Bool) : Nat := cntF (liveB oth e.tg) e.ps
def good (e : Eng) (oth : Bool) : Nat := cntF (goodB e.sp.x0 e.sp.x1 e.sp.x2 e.sp.x3 e.sp.x4 e.sp.x5 e.sp.x6 e.sp.x7 e.sp.x8 e.sp.x9 e.sp.x10 oth e.tg e.now) e.ps
def going (e : Eng) : Nat := cntF goB e.ps
theorem part_any (tg : Int) : ∀ ps : PList, cntF (liveB false tg) ps + cntF (liveB true tg) ps + cntF goB ps = ps.length
  | [] => rfl
  | p :: ps => by
    have ih := part_any tg ps
    simp only [cnt_cons, List.length_cons]
    have h : (if liveB false tg p then 1 else 0) + (if liveB true tg p then 1 else 0) + (if goB p then 1 else 0) = (1 : Nat) := by
      simp only [liveB, selB, goB]
      by_cases h1 : p.2.1 = tg <;> by_cases h2 : p.2.2.1 = 4 <;> simp [h1, h2]
    omega
theorem part (e : Eng) : live e false + live e true + going e = e.ps.length := part_any e.tg e.ps
theorem good_le (e : Eng) (oth : Bool) : good e oth ≤ live e oth := cnt_le (fun p h => by simp only [goodB, Bool.and_eq_true] at h; exact h.1) e.ps
theorem going_eq {e : Eng} (h : FGood e.ps e.nx) : Crew.countV (e.ps, e.nx) 0 4 = going e := by
  simp only [Crew.countV]
  rw [if_pos h]
  have hm : Crew.matB 0 4 = goB := by funext p; simp [Crew.matB, goB]
  simp only [Crew.cntV, going, cntF, hm]
theorem okB_t {e : Eng} (h : e.okB = true) : e.sp.ok = true ∧ FGood e.ps e.nx ∧ tokB e.now = true ∧ tokB e.st = true ∧ tokB e.wt = true ∧ (0 ≤ e.ph ∧ e.ph ≤ 3) ∧ (1 ≤ e.tg ∧ e.tg ≤ 1000) ∧ (1 ≤ e.gd ∧ e.gd ≤ 1000) ∧ 0 ≤ e.tr ∧ e.tr ≤ 200 := by
  simp only [Eng.okB, Bool.and_eq_true, decide_eq_true_eq] at h
  obtain ⟨⟨⟨⟨⟨⟨⟨⟨h1, h2⟩, h3⟩, h4⟩, h5⟩, h6⟩, h7⟩, h8⟩, h9⟩ := h
  exact ⟨h1, h2, h3, h4, h5, in_t h6, in_t h7, in_t h8, in_t h9⟩
theorem cab_ok {e : Eng} (h : e.okB = true) : CountP.cabB e.sp.x0 e.sp.x1 e.sp.x2 e.sp.x3 e.sp.x4 e.sp.x5 e.sp.x6 e.sp.x7 e.sp.x8 e.sp.x9 e.sp.x10 e.tg e.now e.ps e.nx = true := by
  obtain ⟨h1, h2, h3, _, _, _, htg, _⟩ := okB_t h
  have h1' : Sp.specB e.sp.x0 e.sp.x1 e.sp.x2 e.sp.x3 e.sp.x4 e.sp.x5 e.sp.x6 e.sp.x7 e.sp.x8 e.sp.x9 e.sp.x10 = true := h1
  simp [CountP.cabB, h1', h2, h3, inB, htg]
end Go.Proofs.YtklgjjmcflgjeaaGreat.EngCnt
