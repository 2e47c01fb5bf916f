/-
  THE MODEL'S l05At and l05Copy over this seat's translation.
-/
import Derived.Test.YtdefckbgcggnoaaGreatFleetSpec
import Derived.StillTailTactics
import Derived.Deep.RegionLaw
namespace Go.Proofs.YtdefckbgcggnoaaGreat.FleetSpec
open Go.ChangeShapes Go.WideShapes Go.ChangeAt Go.RowKit
open Go.Proofs.YtdefckbgcggnoaaGreat.LK Go.Proofs.YtdefckbgcggnoaaGreat.Pods Go.Proofs.YtdefckbgcggnoaaGreat.FleetV
open Go.Proofs.YtdefckbgcggnoaaGreat.Ints (below_drewN)
set_option linter.unusedVariables false

/-- The place of the pod of that number, or -1. -/
def atP (ps : PList) (k : Int) : Int := match ps.findIdx? (fun p => decide (p.1 = k)) with | some j => j | none => -1
theorem at_none {ps : PList} {k : Int} (h : ∀ j, j < ps.length → (ps.getD j z5).1 ≠ k) : atP ps k = -1 := by
  have e : ps.findIdx? (fun p => decide (p.1 = k)) = none := by
    rw [List.findIdx?_eq_none_iff]
    intro p hp
    obtain ⟨j, hj, rfl⟩ := List.mem_iff_getElem.1 hp
    have := h j hj
    simpa [List.getD, hj] using this
  simp [atP, e]
theorem at_some {ps : PList} {k : Int} {j : Nat} (hj : j < ps.length) (he : (ps.getD j z5).1 = k) (h : ∀ i, i < j → (ps.getD i z5).1 ≠ k) : atP ps k = j := by
  have e : ps.findIdx? (fun p => decide (p.1 = k)) = some j := by
    rw [List.findIdx?_eq_some_iff_getElem]
    refine ⟨hj, by simpa [List.getD, hj] using he, fun i hi => ?_⟩
    have := h i hi
    simpa [List.getD, show i < ps.length by omega] using this
  simp [atP, e]
theorem at_cases (ps : PList) (k : Int) : (atP ps k = -1 ∧ fndP ps k = none) ∨ ∃ j, j < ps.length ∧ atP ps k = j ∧ fndP ps k = some (ps.getD j z5) ∧ (ps.getD j z5).1 = k := by
  cases e : ps.findIdx? (fun p => decide (p.1 = k)) with
  | none =>
    refine .inl ⟨by simp [atP, e], ?_⟩
    unfold fndP
    rw [List.find?_eq_none]
    rw [List.findIdx?_eq_none_iff] at e
    intro p hp
    have := e p hp
    simpa using this
  | some j =>
    have e2 := e
    rw [List.findIdx?_eq_some_iff_getElem] at e
    obtain ⟨hj, h1, h2⟩ := e
    have hg : ps.getD j z5 = ps[j] := by simp [List.getD, hj]
    refine .inr ⟨j, hj, by simp [atP, e2], ?_, by rw [hg]; simpa using h1⟩
    unfold fndP
    rw [List.find?_eq_some_iff_getElem, hg]
    exact ⟨h1, j, hj, rfl, fun i hi => by have := h2 i hi; simpa using this⟩
set_option maxHeartbeats 1600000 in
theorem at_any (A : Option Addr) (n c : Nat) (nx k0 : Int) (ps : PList) (B : Nat) (w : World) (hr : IsPods w B A n ps) (hB : B ≤ w.heap.size) (hn : n ≤ 1048576) :
    Calls Tryz.prog 116 #[.agg #[.slice A n c, .int .i64 nx], .int .i64 k0] w (Says (.int .i64 (atP ps k0)) w) := by
  have HL : Hid (ps.length = n) := hr.1
  have hbx : Below w.heap.size w (w.alloc (.cells #[.slice A n c, .int .i64 nx] 34)) := bel1 _ _
  have hr1 := hr.below hbx hB
  clear hr
  go_enter Tryz.func116, Tryz.ntmps116
  go_wp2_with fail
  go_loop [5] (fun i => ∃ k : Nat, k ≤ n ∧ i = .int .i64 k ∧ Hid (∀ j, j < k → (ps.getD j z5).1 ≠ k0)) (fun i => n - (RowKit.intOf i).toNat)
  case atStart => exact ⟨0, Nat.zero_le _, rfl, fun j hj => absurd hj (by omega)⟩
  case round =>
    obtain ⟨k, hk, rfl, HF⟩ := hrel
    by_cases hlt : k < n
    · obtain ⟨b, off, x0, x1, x2, x3, x4, rfl, hbB, hz, hc0, hc1, hc2, hc3, hc4⟩ := hr1.at_ hlt
      have HZ := Lib.hid hz
      clear hz
      cases he : (x0 == k0)
      · go_wp2
        go_round
        case rel =>
          refine ⟨k + 1, by omega, by go_num, fun j hj => ?_⟩
          by_cases h : j = k
          · subst h
            rw [HZ.out]
            simpa using he
          · exact HF.out j (by omega)
        case measure => simp [RowKit.intOf]; omega
      · have HA : Hid (atP ps k0 = k) := at_some (by rw [HL.out]; exact hlt) (by rw [HZ.out]; simpa using he) HF.out
        go_wp2
        go_ret
        rw [HA.out]
        exact ⟨rfl, hbx⟩
    · have HA : Hid (atP ps k0 = -1) := at_none fun j hj => HF.out j (by rw [HL.out] at hj; omega)
      go_wp2
      go_ret
      rw [HA.out]
      exact ⟨rfl, hbx⟩
open Go.Proofs.YtdefckbgcggnoaaGreat.FleetTy (made_of own_app)
theorem news_new (w : World) (l : List Value) (t : TypeId) : ∀ j u, l[j]? = some u → (w.alloc (.cells l.toArray t)).cell? ((⟨w.heap.size, 0, none⟩ : Addr).add j) = some u := by
  intro j u h
  rw [FlatOpen.add_off, Nat.zero_add]
  exact box_cell (box_new w (.cells l.toArray t)) j u (by simpa using h)
set_option maxRecDepth 100000 in
set_option maxHeartbeats 3200000 in
theorem copy_any (A : Option Addr) (n c : Nat) (nx : Int) (ps : PList) (B : Nat) (w : World) (hr : IsPods w B A n ps) (hB : B ≤ w.heap.size) (hn : n ≤ 1048576) :
    Calls Tryz.prog 115 #[.agg #[.slice A n c, .int .i64 nx]] w (Made FleetTy.fty (ps, nx) w) := by
  obtain ⟨i0, hi0, hz0, hz1, hz2⟩ := info_parts infoP
  have HL : Hid (ps.length = n) := hr.1
  have HR := Lib.hid hr
  clear hr
  go_enter Tryz.func115, Tryz.ntmps115
  go_wp2_with fail
  go_loopw [4] (fun i wr => ∃ (k : Nat) (A1 : Option Addr) (c1 : Nat), k ≤ n ∧ i = .int .i64 k ∧ Hid (wr.heap[w.heap.size]? = some (.cells #[.slice A n c, .int .i64 nx] 34)) ∧ Hid (wr.heap[w.heap.size + 1]? = some (.cells #[.slice none 0 0, .int .i64 0] 34)) ∧ Hid (wr.heap[w.heap.size + 1 + 1]? = some (.cells #[.slice A1 k c1, .int .i64 nx] 34)) ∧
      Hid (OwnP wr (w.heap.size + 1 + 1 + 1) A1 k c1 (ps.take k)) ∧ Below w.heap.size w wr ∧ w.heap.size + 1 + 1 + 1 ≤ wr.heap.size) (fun i _ => n - (RowKit.intOf i).toNat)
  case atStart =>
    refine ⟨0, none, 0, Nat.zero_le _, rfl, box_alloc (box_alloc (box_new _ _) _) _, ?_, ?_, OwnP.nil _ _, bel3 _ _ _ _, by simp⟩
    · have h := box_alloc (box_new (w.alloc (.cells #[.slice A n c, .int .i64 nx] 34)) (.cells #[.slice none 0 0, .int .i64 0] 34)) (.cells #[.slice none 0 0, .int .i64 nx] 34)
      simp only [World.size_alloc] at h
      exact h
    · have h := box_new ((w.alloc (.cells #[.slice A n c, .int .i64 nx] 34)).alloc (.cells #[.slice none 0 0, .int .i64 0] 34)) (.cells #[.slice none 0 0, .int .i64 nx] 34)
      simp only [World.size_alloc] at h
      exact h
  case round =>
    obtain ⟨k, A1, c1, hk, rfl, E0, E1, E2, HO, hbr, hsr⟩ := hrel
    have a0 := box_cell E0.out 0 _ rfl
    have r0 := box_cell E2.out 0 _ rfl
    have r1 := box_cell E2.out 1 _ rfl
    have s0 := box_frozen E2.out 0
    by_cases hlt : k < n
    · obtain ⟨b, off, x0, x1, x2, x3, x4, rfl, hbB, hz, hc0, hc1, hc2, hc3, hc4⟩ := (HR.out.below hbr hB).at_ hlt
      have HZ := Lib.hid hz
      have hkp : k < ps.length := by rw [HL.out]; exact hlt
      have HKP := Lib.hid hkp
      clear hz hkp
      go_wp2_with fail
      have hlv : w.heap.size + 1 + 1 < wr.heap.size := by omega
      have hq0 : ∀ (W : World), W.heap[w.heap.size + 1 + 1]? = some (.cells #[.slice A1 k c1, .int .i64 nx] 34) → W.cell? ⟨w.heap.size + 1 + 1, 0, none⟩ = some (.slice A1 k c1) := fun W h => box_cell h 0 _ rfl
      have hq1 : ∀ (W : World), W.heap[w.heap.size + 1 + 1]? = some (.cells #[.slice A1 k c1, .int .i64 nx] 34) → W.frozen? ⟨w.heap.size + 1 + 1, 0, none⟩ = false := fun W h => box_frozen h 0
      have HQ0 := Lib.hid hq0
      have HQ1 := Lib.hid hq1
      clear hq0 hq1
      go_region_law (refine step_append_lies _ (by rfl) (.tmp 16) (.tmp 22) 32 (by rfl) (w.heap.size + 1 + 1 + 1) 77 i0 _ 5 40 Tryz.underlying32 hi0 hz0 hz1 hz2 rfl (by omega) (.slice A1 k c1) k (flat (ps.take k)) rfl (by exact HO.out.2.alloc _) ⟨wr.heap.size, 0, none⟩ 1 1 [.int .i64 x0, .int .i64 x1, .int .i64 x2, .int .i64 x3, .int .i64 x4] rfl rfl (by exact news_new wr [.int .i64 x0, .int .i64 x1, .int .i64 x2, .int .i64 x3, .int .i64 x4] 77) (by intro u hu; simp at hu; rcases hu with rfl | rfl | rfl | rfl | rfl <;> rfl) (by omega) (by unfold maxLen; omega) (by omega) (by simp; omega) (wr.heap.size + 1) (by simp) ?_; intro g2 c2 w5 hown hgr _ _; have F2 : w5.heap[w.heap.size + 1 + 1]? = some (.cells #[.slice A1 k c1, .int .i64 nx] 34) := ((hgr.block (w.heap.size + 1 + 1) (by simp; omega) (fun e => by have := (HO.out.lt _ e.symm).1; omega)).trans (box_alloc E2.out _)); have q0 := HQ0.out _ F2; have q1 := HQ1.out _ F2)
      all_goals
        obtain ⟨A2, c3, ev, hO2⟩ := own_app (ps := ps.take k) (p := (x0, x1, x2, x3, x4)) HO.out.1 hown
        injection ev with ev1 ev2 ev3
        subst ev1 ev3
        have e2 : ps.take k ++ [(x0, x1, x2, x3, x4)] = ps.take (k + 1) := by rw [take_get HKP.out, HZ.out]
        rw [e2] at hO2
        have hne : ∀ q, (Value.slice A1 k c1).ownBlock = some q → w.heap.size + 1 + 1 + 1 ≤ q := fun q hq => (HO.out.lt q hq).1
        have keep : ∀ (q : Nat) (o : Obj), q < w.heap.size + 1 + 1 + 1 → wr.heap[q]? = some o → w5.heap[q]? = some o := fun q o hq ho => (hgr.block q (by simp; omega) (fun e => by have := hne q e.symm; omega)).trans (box_alloc ho _)
        have F0 := keep _ _ (by omega) E0.out
        have F1 := keep _ _ (by omega) E1.out
        have hb5 : Below w.heap.size w w5 := ((hbr.alloc (by omega) _).drew).grown hgr (by simp; omega) (fun qq hq => by have := hne qq hq; omega)
        have hs5 : w.heap.size + 1 + 1 + 1 ≤ w5.heap.size := by have := hgr.size; simp at this; omega
        have G0 : Hid ((w5.setCell ⟨w.heap.size + 1 + 1, 0, none⟩ (.slice (some ⟨g2, 0, none⟩) (k + 1) c2)).heap[w.heap.size]? = some (.cells #[.slice (some ⟨b, off, none⟩) n c, .int .i64 nx] 34)) := box_other F0 ⟨w.heap.size + 1 + 1, 0, none⟩ _ (by show w.heap.size ≠ w.heap.size + 1 + 1; omega)
        have G1 : Hid ((w5.setCell ⟨w.heap.size + 1 + 1, 0, none⟩ (.slice (some ⟨g2, 0, none⟩) (k + 1) c2)).heap[w.heap.size + 1]? = some (.cells #[.slice none 0 0, .int .i64 0] 34)) := box_other F1 ⟨w.heap.size + 1 + 1, 0, none⟩ _ (by show w.heap.size + 1 ≠ w.heap.size + 1 + 1; omega)
        have G2 : Hid ((w5.setCell ⟨w.heap.size + 1 + 1, 0, none⟩ (.slice (some ⟨g2, 0, none⟩) (k + 1) c2)).heap[w.heap.size + 1 + 1]? = some (.cells #[.slice (some ⟨g2, 0, none⟩) (k + 1) c2, .int .i64 nx] 34)) := box_set (i := 0) F2 (.slice (some ⟨g2, 0, none⟩) (k + 1) c2)
        have GO : Hid (OwnP (w5.setCell ⟨w.heap.size + 1 + 1, 0, none⟩ (.slice (some ⟨g2, 0, none⟩) (k + 1) c2)) (w.heap.size + 1 + 1 + 1) (some ⟨g2, 0, none⟩) (k + 1) c2 (ps.take (k + 1))) := hO2.same (fun q hq => Below.heap_setCell _ _ _ _ (by have := (hO2.lt q hq).1; show q ≠ w.heap.size + 1 + 1; omega))
        have hb6 : Below w.heap.size w (w5.setCell ⟨w.heap.size + 1 + 1, 0, none⟩ (.slice (some ⟨g2, 0, none⟩) (k + 1) c2)) := hb5.setCell (p := ⟨w.heap.size + 1 + 1, 0, none⟩) (by show w.heap.size ≤ w.heap.size + 1 + 1; omega) _
        have hs6 : w.heap.size + 1 + 1 + 1 ≤ (w5.setCell ⟨w.heap.size + 1 + 1, 0, none⟩ (.slice (some ⟨g2, 0, none⟩) (k + 1) c2)).heap.size := by simp [World.setCell]; omega
        clear hown hgr hO2 hne keep F0 F1 F2
        go_wp2
        go_roundw
        case rel => exact ⟨k + 1, some ⟨g2, 0, none⟩, c2, by omega, by go_num, G0, G1, G2, GO, hb6, hs6⟩
        case measure => simp [RowKit.intOf]; omega
    · have HK : Hid (k = n) := (by omega : k = n)
      have e0 := box_cell E1.out 0 _ rfl
      have e1 := box_cell E1.out 1 _ rfl
      have g0 := box_frozen E1.out 0
      have g1 := box_frozen E1.out 1
      go_wp2
      refine bodyPost_ret (v := .agg #[.slice A1 k c1, .int .i64 nx]) (by simp [results, Tryz.results115, go_sem, e0, e1]) rfl ?_
      have h1 := HO.out
      rw [List.take_of_length_le (by rw [HL.out, HK.out]; exact Nat.le_refl _)] at h1
      exact made_of hbr h1 (by omega) (S := fun q => q = w.heap.size + 1) (fun q hq => by omega) ((Turned.set (S := fun q => q = w.heap.size + 1) _ ⟨w.heap.size + 1, 0, none⟩ _ rfl).trans (Turned.set (S := fun q => q = w.heap.size + 1) _ ⟨w.heap.size + 1, 1, none⟩ _ rfl))
end Go.Proofs.YtdefckbgcggnoaaGreat.FleetSpec
