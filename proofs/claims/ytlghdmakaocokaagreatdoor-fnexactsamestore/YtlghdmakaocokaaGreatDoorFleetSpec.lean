/-
  THE MODEL'S FleetOk, l05At and l05Copy over this seat's translation.
-/
import Derived.Test.YtlghdmakaocokaaGreatDoorFleetV
import Derived.Test.YtlghdmakaocokaaGreatDoorFleetTy
import Derived.Test.YtlghdmakaocokaaGreatDoorTick
import Derived.Test.YtlghdmakaocokaaGreatDoorHas
import Derived.BigQuiet
import Derived.Deep.QuietTactic
import Derived.Deep.AppendLies
namespace Go.Proofs.YtlghdmakaocokaaGreatDoor.FleetSpec
open Go.ChangeShapes Go.WideShapes Go.ChangeAt Go.RowKit
open Go.Proofs.YtlghdmakaocokaaGreatDoor.LK Go.Proofs.YtlghdmakaocokaaGreatDoor.Pods Go.Proofs.YtlghdmakaocokaaGreatDoor.FleetV
open Go.Proofs.YtlghdmakaocokaaGreatDoor.Ints (below_drewN)
open Go.Proofs.YtlghdmakaocokaaGreatDoor.Tick (inB in_t in_f tokB tok_t tok_f l01In_any specTickOk_any)
set_option linter.unusedVariables false

theorem get_mem {m : PList} {k : Nat} (h : k < m.length) : m.getD k z5 ∈ m := by
  have e : m.getD k z5 = m[k] := by simp [List.getD, h]
  rw [e]; exact List.getElem_mem h
theorem take_get {m : PList} {k : Nat} (h : k < m.length) : m.take (k + 1) = m.take k ++ [m.getD k z5] := by
  have e : m.getD k z5 = m[k] := by simp [List.getD, h]
  rw [List.take_succ_eq_append_getElem h, e]
theorem asc_at {ps : PList} (h : Asc ps) {i j : Nat} (hij : i < j) (hj : j < ps.length) : (ps.getD i z5).1 < (ps.getD j z5).1 := by
  have := List.pairwise_iff_getElem.1 h i j (by omega) hj hij
  simpa [List.getD, hj, show i < ps.length by omega] using this
theorem asc_succ {ps : PList} {k : Nat} (hk : k < ps.length) (h : Asc (ps.take k)) (hp : k = 0 ∨ (ps.getD (k - 1) z5).1 < (ps.getD k z5).1) : Asc (ps.take (k + 1)) := by
  rw [take_get hk]
  refine List.pairwise_append.2 ⟨h, by simp, fun a ha b hb => ?_⟩
  obtain rfl : b = ps.getD k z5 := by simpa using hb
  obtain ⟨i, hi, rfl⟩ := List.mem_iff_getElem.1 ha
  have hik : i < k := by simp at hi; omega
  have hp := hp.resolve_left (by omega)
  have e : (ps.take k)[i] = ps.getD i z5 := by simp [List.getD, show i < ps.length by omega]
  rw [e]
  rcases Nat.lt_or_ge i (k - 1) with h1 | h1
  · have h2 := asc_at h (i := i) (j := k - 1) h1 (by simp; omega)
    have e1 : (ps.take k).getD i z5 = ps.getD i z5 := by simp [List.getD, hik]
    have e2 : (ps.take k).getD (k - 1) z5 = ps.getD (k - 1) z5 := by simp [List.getD, show k - 1 < k by omega]
    rw [e1, e2] at h2
    omega
  · obtain rfl : i = k - 1 := by omega
    exact hp
theorem take_mem {ps : PList} {k : Nat} {p : Pd} (h : k < ps.length) (hp : p ∈ ps.take (k + 1)) : p ∈ ps.take k ∨ p = ps.getD k z5 := by
  rw [take_get h] at hp
  simpa using hp
/-- What is ok of a pod ahead of nx. -/
theorem ok_of {x0 x1 x2 x3 x4 nx : Int} (hn : nx ≤ 1000000000) (h0 : inB x0 1 (nx - 1) = true) (h1 : inB x1 1 1000 = true) (h2 : inB x2 0 4 = true) (h3 : tokB x3 = true) (h4 : tokB x4 = true) : PodOk (x0, x1, x2, x3, x4) ∧ x0 < nx := by
  have a0 := in_t h0
  have a1 := in_t h1
  have a2 := in_t h2
  have a3 := tok_t h3
  have a4 := tok_t h4
  refine ⟨⟨⟨by show _ ≤ x0; omega, by show x0 ≤ _; omega⟩, a1, a2, a3, a4⟩, by omega⟩
theorem ok_in {x0 x1 x2 x3 x4 nx : Int} (h : PodOk (x0, x1, x2, x3, x4) ∧ x0 < nx) : inB x0 1 (nx - 1) = true ∧ inB x1 1 1000 = true ∧ inB x2 0 4 = true ∧ tokB x3 = true ∧ tokB x4 = true := by
  obtain ⟨⟨⟨h0, _⟩, h1, h2, h3, h4⟩, h5⟩ := h
  simp only at h0 h1 h2 h3 h4
  simp [inB, tokB, h1, h2, h3, h4]
  omega

theorem wrap_id {x : Int} (h0 : -9223372036854775808 ≤ x) (h1 : x ≤ 9223372036854775807) : IntKind.i64.wrap x = x := by
  simp [IntKind.wrap, IntKind.bits, IntKind.signed]
  omega
set_option maxRecDepth 100000 in
set_option maxHeartbeats 12800000 in
theorem specFleetOk_any (A : Option Addr) (n c : Nat) (nx : Int) (ps : PList) (B : Nat) (w : World) (hr : IsPods w B A n ps) (hB : B ≤ w.heap.size) (hn : n ≤ 1048576) :
    Calls Tryz.prog 36 #[.agg #[.slice A n c, .int .i64 nx]] w (Says (.bool (decide (FGood ps nx))) w) := by
  have HL : Hid (ps.length = n) := hr.1
  have HR := Lib.hid hr
  clear hr
  obtain ⟨r, hr⟩ : ∃ r, r = decide (FGood ps nx) := ⟨_, rfl⟩
  rw [← hr]
  have HRR := Lib.hid hr
  clear hr
  have no : ∀ (w' : World), Hid (¬ FGood ps nx) → Below w.heap.size w w' → Says (.bool r) w (.returned (.bool false)) w' := fun w' h hb => ⟨by rw [HRR.out, decide_eq_false h.out], hb⟩
  have NO := Lib.hid no
  clear no
  by_cases h30 : 30 < n
  · have HG : Hid (¬ FGood ps nx) := fun h => by have := h.1; have := HL.out; omega
    go_enter Tryz.func36, Tryz.ntmps36
    go_wp2
    go_ret
    exact NO.out _ HG (bel1 _ _)
  cases hnx : inB nx 1 1000000000
  · have HG : Hid (¬ FGood ps nx) := fun h => by have := h.2.1; have := in_f hnx; omega
    go_enter Tryz.func36, Tryz.ntmps36
    go_wp2_with (go_at_call 38; refine (l01In_any _ _ _ _).mono ?_; rintro e w' ⟨rfl, rfl⟩; rw [hnx])
    go_ret
    exact NO.out _ HG (bel1 _ _)
  · have HNX := Lib.hid (in_t hnx)
    have hnx1 := (in_t hnx).1
    have hnx2 := (in_t hnx).2
    have hwr : IntKind.i64.wrap (nx - 1) = nx - 1 := wrap_id (by omega) (by omega)
    go_enter Tryz.func36, Tryz.ntmps36
    go_wp2_with (go_at_call 38; refine (l01In_any _ _ _ _).mono ?_; rintro e w' ⟨rfl, rfl⟩; rw [hnx])
    go_loopw [3] (fun i wr => ∃ k : Nat, k ≤ n ∧ i = .int .i64 k ∧ Hid (wr.heap[w.heap.size]? = some (.cells #[.slice A n c, .int .i64 nx] 40)) ∧ Below w.heap.size w wr ∧ w.heap.size < wr.heap.size ∧ Hid (∀ p ∈ ps.take k, PodOk p ∧ p.1 < nx) ∧ Hid (Asc (ps.take k))) (fun i _ => n - (RowKit.intOf i).toNat)
    case atStart => exact ⟨0, Nat.zero_le _, rfl, box_new _ _, bel1 _ _, by simp, by simp [Hid], by simp [Hid, asc_nil]⟩
    case round =>
      obtain ⟨k, hk, rfl, E0, hbr, hsr, HA, HS⟩ := hrel
      have c0 := box_cell E0.out 0 _ rfl
      have c1 := box_cell E0.out 1 _ rfl
      by_cases hlt : k < n
      · obtain ⟨b, off, x0, x1, x2, x3, x4, rfl, hbB, hz, hc0, hc1, hc2, hc3, hc4⟩ := (HR.out.below hbr hB).at_ hlt
        have HZ := Lib.hid hz
        have hkp : k < ps.length := by rw [HL.out]; exact hlt
        have HKP := Lib.hid hkp
        have HPM : Hid (ps.getD k z5 ∈ ps) := get_mem hkp
        have hno : ∀ (P : Prop), (PodOk (x0, x1, x2, x3, x4) ∧ x0 < nx → P) → ¬ P → Hid (¬ FGood ps nx) := fun P f hP h => by
          have h1 := h.2.2.1 _ HPM.out
          rw [HZ.out] at h1
          exact hP (f h1)
        have HNO := Lib.hid hno
        have E1 : Hid ((wr.alloc (.cells #[.int .i64 x0, .int .i64 x1, .int .i64 x2, .int .i64 x3, .int .i64 x4] 51)).heap[w.heap.size]? = some (.cells #[.slice (some ⟨b, off, none⟩) n c, .int .i64 nx] 40)) := box_alloc E0.out _
        have hb1 : Below w.heap.size w (wr.alloc (.cells #[.int .i64 x0, .int .i64 x1, .int .i64 x2, .int .i64 x3, .int .i64 x4] 51)) := hbr.alloc (by omega) _
        clear hz hkp hno
        have i0 : ∀ (r : Bool) (W : World), inB x0 1 (nx - 1) = r → Calls Tryz.prog 38 #[.int .i64 x0, .int .i64 1, .int .i64 (nx - 1)] W fun e w' => e = .returned (.bool r) ∧ w' = W := fun r W h => by rw [← h]; exact (l01In_any _ _ _ _).mono (fun e w' h => ⟨h.1, h.2.symm⟩)
        have i1 : ∀ (r : Bool) (W : World), inB x1 1 1000 = r → Calls Tryz.prog 38 #[.int .i64 x1, .int .i64 1, .int .i64 1000] W fun e w' => e = .returned (.bool r) ∧ w' = W := fun r W h => by rw [← h]; exact (l01In_any _ _ _ _).mono (fun e w' h => ⟨h.1, h.2.symm⟩)
        have i2 : ∀ (r : Bool) (W : World), inB x2 0 4 = r → Calls Tryz.prog 38 #[.int .i64 x2, .int .i64 0, .int .i64 4] W fun e w' => e = .returned (.bool r) ∧ w' = W := fun r W h => by rw [← h]; exact (l01In_any _ _ _ _).mono (fun e w' h => ⟨h.1, h.2.symm⟩)
        have i3 : ∀ (x : Int) (r : Bool) (W : World), tokB x = r → Calls Tryz.prog 37 #[.int .i64 x] W fun e w' => e = .returned (.bool r) ∧ w' = W := fun x r W h => by rw [← h]; exact (specTickOk_any _ _).mono (fun e w' h => ⟨h.1, h.2.symm⟩)
        have I0 := Lib.hid i0
        have I1 := Lib.hid i1
        have I2 := Lib.hid i2
        have I3 := Lib.hid i3
        clear i0 i1 i2 i3
        cases h0 : inB x0 1 (nx - 1)
        · have HG := HNO.out _ (fun h => (ok_in h).1) (by rw [h0]; simp)
          go_wp2_with fail
          go_quiet (first | (go_at_call_of 38 x0; exact Calls.quiet_of_same (I0.out _ _ h0)) | (go_at_call_of 38 x1; exact Calls.quiet_of_same (I1.out _ _ h1)) | (go_at_call_of 38 x2; exact Calls.quiet_of_same (I2.out _ _ h2)) | (go_at_call_of 37 x3; exact Calls.quiet_of_same (I3.out x3 _ _ h3)) | (go_at_call_of 37 x4; exact Calls.quiet_of_same (I3.out x4 _ _ h4)))
          go_wp2
          go_ret
          exact NO.out _ HG (below_drewN hb1 _)
        cases h1 : inB x1 1 1000
        · have HG := HNO.out _ (fun h => (ok_in h).2.1) (by rw [h1]; simp)
          go_wp2_with fail
          go_quiet (first | (go_at_call_of 38 x0; exact Calls.quiet_of_same (I0.out _ _ h0)) | (go_at_call_of 38 x1; exact Calls.quiet_of_same (I1.out _ _ h1)) | (go_at_call_of 38 x2; exact Calls.quiet_of_same (I2.out _ _ h2)) | (go_at_call_of 37 x3; exact Calls.quiet_of_same (I3.out x3 _ _ h3)) | (go_at_call_of 37 x4; exact Calls.quiet_of_same (I3.out x4 _ _ h4)))
          go_wp2
          go_ret
          exact NO.out _ HG (below_drewN hb1 _)
        cases h2 : inB x2 0 4
        · have HG := HNO.out _ (fun h => (ok_in h).2.2.1) (by rw [h2]; simp)
          go_wp2_with fail
          go_quiet (first | (go_at_call_of 38 x0; exact Calls.quiet_of_same (I0.out _ _ h0)) | (go_at_call_of 38 x1; exact Calls.quiet_of_same (I1.out _ _ h1)) | (go_at_call_of 38 x2; exact Calls.quiet_of_same (I2.out _ _ h2)) | (go_at_call_of 37 x3; exact Calls.quiet_of_same (I3.out x3 _ _ h3)) | (go_at_call_of 37 x4; exact Calls.quiet_of_same (I3.out x4 _ _ h4)))
          go_wp2
          go_ret
          exact NO.out _ HG (below_drewN hb1 _)
        cases h3 : tokB x3
        · have HG := HNO.out _ (fun h => (ok_in h).2.2.2.1) (by rw [h3]; simp)
          go_wp2_with fail
          go_quiet (first | (go_at_call_of 38 x0; exact Calls.quiet_of_same (I0.out _ _ h0)) | (go_at_call_of 38 x1; exact Calls.quiet_of_same (I1.out _ _ h1)) | (go_at_call_of 38 x2; exact Calls.quiet_of_same (I2.out _ _ h2)) | (go_at_call_of 37 x3; exact Calls.quiet_of_same (I3.out x3 _ _ h3)) | (go_at_call_of 37 x4; exact Calls.quiet_of_same (I3.out x4 _ _ h4)))
          go_wp2
          go_ret
          exact NO.out _ HG (below_drewN hb1 _)
        cases h4 : tokB x4
        · have HG := HNO.out _ (fun h => (ok_in h).2.2.2.2) (by rw [h4]; simp)
          go_wp2_with fail
          go_quiet (first | (go_at_call_of 38 x0; exact Calls.quiet_of_same (I0.out _ _ h0)) | (go_at_call_of 38 x1; exact Calls.quiet_of_same (I1.out _ _ h1)) | (go_at_call_of 38 x2; exact Calls.quiet_of_same (I2.out _ _ h2)) | (go_at_call_of 37 x3; exact Calls.quiet_of_same (I3.out x3 _ _ h3)) | (go_at_call_of 37 x4; exact Calls.quiet_of_same (I3.out x4 _ _ h4)))
          go_wp2
          go_ret
          exact NO.out _ HG (below_drewN hb1 _)
        have HOK := Lib.hid (ok_of hnx2 h0 h1 h2 h3 h4)
        have HA2 : Hid (∀ p ∈ ps.take (k + 1), PodOk p ∧ p.1 < nx) := fun p hp => by
          rcases take_mem HKP.out hp with h | h
          · exact HA.out p h
          · rw [h, HZ.out]; exact HOK.out
        by_cases hk0 : k = 0
        · have HS2 : Hid (Asc (ps.take (k + 1))) := asc_succ HKP.out HS.out (.inl hk0)
          have hdk : decide ((0 : Int) < (k : Int)) = false := by simp; omega
          have hdk2 : decide (0 < k) = false := by simp; omega
          have HK0 := Lib.hid hk0
          clear hk0
          go_wp2_with fail
          go_quiet (first | (go_at_call_of 38 x0; exact Calls.quiet_of_same (I0.out _ _ h0)) | (go_at_call_of 38 x1; exact Calls.quiet_of_same (I1.out _ _ h1)) | (go_at_call_of 38 x2; exact Calls.quiet_of_same (I2.out _ _ h2)) | (go_at_call_of 37 x3; exact Calls.quiet_of_same (I3.out x3 _ _ h3)) | (go_at_call_of 37 x4; exact Calls.quiet_of_same (I3.out x4 _ _ h4)))
          go_wp2
          go_roundw
          case rel => exact ⟨k + 1, by omega, by go_num, E1, below_drewN hb1 _, by simp; omega, HA2, HS2⟩
          case measure => simp [RowKit.intOf]; omega
        · obtain ⟨b', off', y0, y1, y2, y3, y4, hbb, hbB', hz', hd0, hd1, hd2, hd3, hd4⟩ := (HR.out.below hbr hB).at_ (k := k - 1) (by omega)
          injection hbb with hbb
          injection hbb with e1 e2
          subst e1 e2
          have hd0' : (wr.alloc (.cells #[.int .i64 x0, .int .i64 x1, .int .i64 x2, .int .i64 x3, .int .i64 x4] 51)).cell? ⟨b, off + (k - 1) * 5, none⟩ = some (.int .i64 y0) := cell_keep (bel1 _ _) hd0
          have hdk : decide ((0 : Int) < (k : Int)) = true := by simp; omega
          have hdk2 : decide (0 < k) = true := by simp; omega
          have hkm : ((k : Int) - 1) = ((k - 1 : Nat) : Int) := by omega
          have hkm2 : k - 1 < n := by omega
          have hkmt : ((k : Int) - 1).toNat = k - 1 := by omega
          have hkw : IntKind.i64.wrap ((k : Int) - 1) = (k : Int) - 1 := wrap_id (by omega) (by omega)
          by_cases hxy : y0 < x0
          · have HS2 : Hid (Asc (ps.take (k + 1))) := asc_succ HKP.out HS.out (.inr (by rw [hz', HZ.out]; exact hxy))
            have hdd : decide (x0 ≤ y0) = false := by simp; omega
            clear hz' hd0 hd1 hd2 hd3 hd4
            go_wp2_with fail
            go_quiet (first | (go_at_call_of 38 x0; exact Calls.quiet_of_same (I0.out _ _ h0)) | (go_at_call_of 38 x1; exact Calls.quiet_of_same (I1.out _ _ h1)) | (go_at_call_of 38 x2; exact Calls.quiet_of_same (I2.out _ _ h2)) | (go_at_call_of 37 x3; exact Calls.quiet_of_same (I3.out x3 _ _ h3)) | (go_at_call_of 37 x4; exact Calls.quiet_of_same (I3.out x4 _ _ h4)))
            go_wp2
            go_roundw
            case rel => exact ⟨k + 1, by omega, by go_num, E1, below_drewN hb1 _, by simp; omega, HA2, HS2⟩
            case measure => simp [RowKit.intOf]; omega
          · have HG : Hid (¬ FGood ps nx) := fun h => by
              have h1 := asc_at h.2.2.2 (i := k - 1) (j := k) (by omega) HKP.out
              rw [hz', HZ.out] at h1
              exact hxy h1
            have hdd : decide (x0 ≤ y0) = true := by simp; omega
            clear hz' hd0 hd1 hd2 hd3 hd4
            go_wp2_with fail
            go_quiet (first | (go_at_call_of 38 x0; exact Calls.quiet_of_same (I0.out _ _ h0)) | (go_at_call_of 38 x1; exact Calls.quiet_of_same (I1.out _ _ h1)) | (go_at_call_of 38 x2; exact Calls.quiet_of_same (I2.out _ _ h2)) | (go_at_call_of 37 x3; exact Calls.quiet_of_same (I3.out x3 _ _ h3)) | (go_at_call_of 37 x4; exact Calls.quiet_of_same (I3.out x4 _ _ h4)))
            go_wp2
            go_ret
            exact NO.out _ HG (below_drewN hb1 _)
      · have HK : Hid (k = n) := (by omega : k = n)
        go_wp2
        go_ret
        have htk : ps.take k = ps := List.take_of_length_le (by rw [HL.out, HK.out]; exact Nat.le_refl _)
        have h1 := HA.out
        have h2 := HS.out
        rw [htk] at h1 h2
        have hg : FGood ps nx := ⟨by have := HL.out; omega, HNX.out, h1, h2⟩
        exact ⟨by rw [HRR.out, decide_eq_true hg]; rfl, hbr⟩
end Go.Proofs.YtlghdmakaocokaaGreatDoor.FleetSpec
