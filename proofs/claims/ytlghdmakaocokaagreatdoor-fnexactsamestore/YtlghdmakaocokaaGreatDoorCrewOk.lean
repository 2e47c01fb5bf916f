/-
  THE PROGRAM'S crewOf over this seat's translation: it answers a crew, and true, just of a fleet that is ok.
-/
import Derived.Test.YtlghdmakaocokaaGreatDoorCrewOf
namespace Go.Proofs.YtlghdmakaocokaaGreatDoor.Crew
open Go.ChangeShapes Go.WideShapes Go.ChangeAt Go.RowKit Go.Maps Go.Sort Go.Shelf
open Go.Proofs.YtlghdmakaocokaaGreatDoor.LK Go.Proofs.YtlghdmakaocokaaGreatDoor.Pods Go.Proofs.YtlghdmakaocokaaGreatDoor.FleetV Go.Proofs.YtlghdmakaocokaaGreatDoor.Has Go.Proofs.YtlghdmakaocokaaGreatDoor.Ints
open Go.Proofs.YtlghdmakaocokaaGreatDoor.Tick (inB in_t in_f tokB tok_t tok_f tickOk_any)
set_option linter.unusedVariables false

/-- What crewOf leaves. -/
def Crewed (ps : PList) (nx : Int) (w : World) (e : Ending) (w' : World) : Prop :=
  ∃ (r : Bool) (o : Option Addr), e = .returned (.tuple #[.pointer o, .bool r]) ∧ Below w.heap.size w w' ∧ (r = true ↔ FGood ps nx) ∧ (r = true → ∃ cb mb, o = some ⟨cb, 0, none⟩ ∧ w.heap.size ≤ cb ∧ w.heap.size ≤ mb ∧ CrewAt w' cb mb 30 ps nx)
theorem crewed_no {ps : PList} {nx : Int} {w w' : World} {o : Option Addr} (h : ¬ FGood ps nx) (hb : Below w.heap.size w w') : Crewed ps nx w (.returned (.tuple #[.pointer o, .bool false])) w' :=
  ⟨false, o, rfl, hb, by simp [h], by simp⟩
theorem take_mem {ps : PList} {k : Nat} {p : Pd} (h : k < ps.length) (hp : p ∈ ps.take (k + 1)) : p ∈ ps.take k ∨ p = ps.getD k z5 := by
  rw [take_get h] at hp
  simpa using hp
set_option maxRecDepth 100000 in
set_option maxHeartbeats 6400000 in
theorem crewOf_any (A : Option Addr) (n c : Nat) (nx : Int) (ps : PList) (B : Nat) (w : World) (hr : IsPods w B A n ps) (hB : B ≤ w.heap.size) (hn : n ≤ 1048576) :
    Calls Tryz.prog 52 #[.agg #[.slice A n c, .int .i64 nx]] w (Crewed ps nx w) := by
  have HL : Hid (ps.length = n) := hr.1
  have HR := Lib.hid hr
  clear hr
  have hmm := @run_makeMap Tryz.prog
  by_cases h30 : 30 < n
  · have HG : Hid (¬ FGood ps nx) := fun h => by have := h.1; have := HL.out; omega
    go_enter Tryz.func52, Tryz.ntmps52
    go_wp2
    go_ret2
    exact crewed_no HG.out (bel1 _ _)
  cases hnx : inB nx 1 1000000000
  · have HG : Hid (¬ FGood ps nx) := fun h => by have := h.2.1; have := in_f hnx; omega
    go_enter Tryz.func52, Tryz.ntmps52
    go_wp2_with (go_at_call 46; refine (within_any _ _ _ _).mono ?_; rintro e w' ⟨rfl, rfl⟩; rw [hnx])
    go_ret2
    exact crewed_no HG.out (bel1 _ _)
  · have HNX := Lib.hid (in_t hnx)
    go_enter Tryz.func52, Tryz.ntmps52
    go_wp2_with (go_at_call 46; refine (within_any _ _ _ _).mono ?_; rintro e w' ⟨rfl, rfl⟩; rw [hnx])
    have e0 : ((((w.alloc (.cells #[.slice A n c, .int .i64 nx] 40)).alloc (.map #[] 0)).alloc (.cells #[.map (some (w.heap.size + 1)), .int .i64 nx] 92)).heap[w.heap.size]? = some (.cells #[.slice A n c, .int .i64 nx] 40)) := box_alloc (box_alloc (box_new _ _) _) _
    have e2 : ((((w.alloc (.cells #[.slice A n c, .int .i64 nx] 40)).alloc (.map #[] 0)).alloc (.cells #[.map (some (w.heap.size + 1)), .int .i64 nx] 92)).heap[w.heap.size + 1 + 1]? = some (.cells #[.map (some (w.heap.size + 1)), .int .i64 nx] 92)) := by
      have h := box_new ((w.alloc (.cells #[.slice A n c, .int .i64 nx] 40)).alloc (.map #[] 0)) (.cells #[.map (some (w.heap.size + 1)), .int .i64 nx] 92)
      simpa using h
    have hM0 : (((w.alloc (.cells #[.slice A n c, .int .i64 nx] 40)).alloc (.map #[] 0)).alloc (.cells #[.map (some (w.heap.size + 1)), .int .i64 nx] 92)).ownsMap Tryz.prog 3 rdP (w.heap.size + 1) 0 (mapOf (buildP (ps.take 0))) := by
      have h := World.ownsMap_made (w.alloc (.cells #[.slice A n c, .int .i64 nx] 40)) Tryz.prog 3 rdP
      have h2 := h.alloc (.cells #[.map (some (w.heap.size + 1)), .int .i64 nx] 92)
      simpa [buildP, mapOf] using h2
    go_loopw [25] (fun i wr => ∃ k : Nat, k ≤ n ∧ i = .int .i64 k ∧ Hid (wr.heap[w.heap.size]? = some (.cells #[.slice A n c, .int .i64 nx] 40)) ∧ Hid (wr.heap[w.heap.size + 1 + 1]? = some (.cells #[.map (some (w.heap.size + 1)), .int .i64 nx] 92)) ∧
      Hid (wr.ownsMap Tryz.prog 3 rdP (w.heap.size + 1) k (mapOf (buildP (ps.take k)))) ∧ Below w.heap.size w wr ∧ w.heap.size + 1 + 1 < wr.heap.size ∧ Hid (∀ p ∈ ps.take k, PodOk p ∧ p.1 < nx)) (fun i _ => n - (intOf i).toNat)
    case atStart => exact ⟨0, Nat.zero_le _, rfl, e0, e2, hM0, bel3 _ _ _ _, by simp, by simp [Hid]⟩
    case round =>
      obtain ⟨k, hk, rfl, E0, E2, HM, hbr, hsr, HA⟩ := hrel
      clear e0 e2 hM0
      have c0 := box_cell E0.out 0 _ rfl
      have c1 := box_cell E0.out 1 _ rfl
      have c2 := box_cell E2.out 0 _ rfl
      by_cases hlt : k < n
      · obtain ⟨b, off, x0, x1, x2, x3, x4, rfl, hbB, hz, hc0, hc1, hc2, hc3, hc4⟩ := (HR.out.below hbr hB).at_ hlt
        have HZ := Lib.hid hz
        have hkp : k < ps.length := by rw [HL.out]; exact hlt
        have HKP := Lib.hid hkp
        clear hz hkp
        go_wp2_with fail
        refine (podOk_any x0 x1 x2 x3 x4 _).mono ?_
        rintro e w2 ⟨rfl, hb2⟩
        have hb2w : Below wr.heap.size wr w2 := bel_then (bel1 wr _) hb2 (by simp)
        have K6 := box_below (box_new wr (.cells #[.int .i64 x0, .int .i64 x1, .int .i64 x2, .int .i64 x3, .int .i64 x4] 51)) hb2
        have F0 := box_below E0.out hb2w
        have F2 := box_below E2.out hb2w
        have HM2 : Hid (w2.ownsMap Tryz.prog 3 rdP (w.heap.size + 1) k (mapOf (buildP (ps.take k)))) := map_below HM.out hb2w (by omega)
        have hbr2 : Below w.heap.size w w2 := bel_then hbr hb2w hbr.size
        have hsr2 : w.heap.size + 1 + 1 < w2.heap.size := Nat.lt_of_lt_of_le hsr hb2w.size
        have d1 := box_cell F0 1 _ rfl
        have d2 := box_cell F2 0 _ rfl
        have g0 := box_cell K6 0 _ rfl
        have g1 := box_cell K6 1 _ rfl
        have g2 := box_cell K6 2 _ rfl
        have g3 := box_cell K6 3 _ rfl
        have g4 := box_cell K6 4 _ rfl
        have E02 := Lib.hid F0
        have E22 := Lib.hid F2
        have HPM : Hid (ps.getD k z5 ∈ ps) := get_mem HKP.out
        clear hb2 hb2w K6 F0 F2 E0 E2 HM c0 c1 c2 hc0 hc1 hc2 hc3 hc4 hbr hsr
        cases hpb : podB (x0, x1, x2, x3, x4)
        · have HG : Hid (¬ FGood ps nx) := fun h => by
            have h1 := (h.2.2.1 _ HPM.out).1
            rw [HZ.out, ← podB_iff, hpb] at h1
            cases h1
          go_wp2
          go_ret2
          exact crewed_no HG.out hbr2
        have HPO : Hid (PodOk (x0, x1, x2, x3, x4)) := (podB_iff _).1 hpb
        by_cases hid : x0 < nx
        · have hd : decide (nx ≤ x0) = false := by simp; omega
          have hwf : (Lit.int .i64 x0).wf = true := id_wf (by have := HPO.out.1; simp at this; omega)
          obtain ⟨w3, hrun, hM3, hg3⟩ := (show w2.drew.ownsMap Tryz.prog 3 rdP (w.heap.size + 1) k (mapOf (buildP (ps.take k))) from HM2.out.drew).update (t := 90) (e := 51) law Tryz.underlying90 (by unfold maxLen; omega) (key := .int .i64 x0) (val := .agg #[.int .i64 x0, .int .i64 x1, .int .i64 x2, .int .i64 x3, .int .i64 x4]) (kl := .int .i64 x0) (d := .held (podV (x0, x1, x2, x3, x4))) (ps := []) (keyOf_int_mk Tryz.underlying3 hwf) rfl
          go_wp2_with fail
          go_still_tail 7, (by kernel_rfl)
          have hbr3 : Below w.heap.size w w3 := hbr2.drew.grown hg3 hbr2.size (by intro q hq; cases hq; omega)
          have E03 : Hid (w3.heap[w.heap.size]? = some (.cells #[.slice (some ⟨b, off, none⟩) n c, .int .i64 nx] 40)) := (hg3.block w.heap.size (by show _ < w2.heap.size; omega) (by simp)).trans E02.out
          have E23 : Hid (w3.heap[w.heap.size + 1 + 1]? = some (.cells #[.map (some (w.heap.size + 1)), .int .i64 nx] 92)) := (hg3.block (w.heap.size + 1 + 1) (by show _ < w2.heap.size; omega) (by simp)).trans E22.out
          have hsr3 : w.heap.size + 1 + 1 < w3.heap.size := Nat.lt_of_lt_of_le hsr2 hg3.size
          have HM3 : Hid (w3.ownsMap Tryz.prog 3 rdP (w.heap.size + 1) (k + 1) (mapOf (buildP (ps.take (k + 1))))) := by
            show World.ownsMap _ _ _ _ _ _ _
            rw [build_take ps k HKP.out, HZ.out, ← map_put]
            exact hM3
          have HA3 : Hid (∀ p ∈ ps.take (k + 1), PodOk p ∧ p.1 < nx) := fun p hp => by
            rcases take_mem HKP.out hp with h | h
            · exact HA.out p h
            · rw [h, HZ.out]; exact ⟨HPO.out, hid⟩
          clear hM3 hg3
          go_wp2
          go_roundw
          case rel => exact ⟨k + 1, by omega, by go_num, E03, E23, HM3, hbr3, hsr3, HA3⟩
          case measure => simp [intOf]; omega
        · have HG : Hid (¬ FGood ps nx) := fun h => by
            have h1 := (h.2.2.1 _ HPM.out).2
            rw [HZ.out] at h1
            exact hid h1
          have hd : decide (nx ≤ x0) = true := by simp; omega
          go_wp2
          go_ret2
          exact crewed_no HG.out hbr2
      · have HK : Hid (k = n) := (by omega : k = n)
        obtain ⟨m, hm⟩ : ∃ m, m = buildP ps := ⟨_, rfl⟩
        have hkn := HK.out
        have htk : ps.take k = ps := List.take_of_length_le (by rw [HL.out]; omega)
        rw [htk] at HM HA
        rw [← hm] at HM
        have hml : m.length ≤ 30 := by rw [hm]; have := len_build ps n; rw [List.take_of_length_le (by rw [HL.out]; exact Nat.le_refl _)] at this; omega
        have HC : Hid (CrewAt wr (w.heap.size + 1 + 1) (w.heap.size + 1) 30 m nx) := ⟨E2.out, HM.out.mono (by omega), by rw [hm]; exact asc_build ps, fun p hp => by
          rw [hm] at hp
          have h1 := (HA.out p (mem_build hp)).1.1
          omega⟩
        have HMB := Lib.hid hm
        clear hm hkn htk HM c2
        go_wp2_with fail
        go_region_held3 (fun w' => w'.cell? ⟨w.heap.size, 0, none⟩ = some (.slice A n c)) (first | go_keep | (refine cell_keep hb4 ?_ <;> simp only [*]))
          (first | (go_at_call 59; refine (told_any (w.heap.size + 1 + 1) (w.heap.size + 1) 30 m nx _ (by exact ⟨HC.out.box, HC.out.own, HC.out.asc, HC.out.ids⟩) (by omega)).mono ?_; rintro e w4 ⟨A4, c4, rfl, hO4, hb4⟩; have hb4' : Below wr.heap.size wr w4 := undrew hb4; have HO4 := Lib.hid hO4; clear hO4) | (go_at_call 31; refine (equal_any A4 A m.length c4 n c m ps w4.heap.size B _ (by exact HO4.out.podsAll) (by exact HR.out.below (bel_then hbr hb4' hbr.size) hB) (by omega) hn).mono ?_; rintro e w5 ⟨rfl, q, rfl⟩))
        all_goals
          have HB4 := Lib.hid (bel_then hbr hb4' hbr.size)
          have HC4 := Lib.hid (HC.out.below hb4')
          clear hb4 hb4' HO4
          obtain ⟨r, hr⟩ : ∃ r, r = decide (m = ps) := ⟨_, rfl⟩
          rw [← hr]
          have HRR := Lib.hid hr
          clear hr
          go_wp2
          go_ret2
          have hg : r = true ↔ FGood ps nx := by
            rw [HRR.out, decide_eq_true_iff, HMB.out, build_iff]
            exact ⟨fun h => ⟨by have := HL.out; omega, HNX.out, HA.out, h⟩, fun h => h.2.2.2⟩
          refine ⟨r, _, rfl, below_drewN HB4.out _, hg, fun hrt => ⟨w.heap.size + 1 + 1, w.heap.size + 1, rfl, by omega, by omega, ?_⟩⟩
          have e : m = ps := by rw [HRR.out] at hrt; simpa using hrt
          have h := HC4.out
          rw [e] at h
          exact ⟨h.box, h.own, h.asc, h.ids⟩
end Go.Proofs.YtlghdmakaocokaaGreatDoor.Crew
