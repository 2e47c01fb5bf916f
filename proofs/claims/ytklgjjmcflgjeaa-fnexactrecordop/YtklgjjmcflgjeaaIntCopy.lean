/-
  CONTRACTS of laws.toIntS (a copy in new memory) and laws.eqIntS (at two slices that read alike) over this seat's translation.
-/
import Derived.Test.YtklgjjmcflgjeaaInts
namespace Go.Proofs.Ytklgjjmcflgjeaa.Ints
open Go.ChangeShapes Go.WideShapes Go.ChangeAt Go.RowKit
set_option linter.unusedVariables false

/-- What a copy leaves: a slice in a new block that reads as zs; nothing older has turned. -/
def Copied (w : World) (zs : List Int) (e : Ending) (w' : World) : Prop :=
  ∃ g, e = .returned (.slice (some ⟨g, 0, none⟩) zs.length zs.length) ∧ w.heap.size ≤ g ∧ IsInts w' w'.heap.size (some ⟨g, 0, none⟩) zs.length zs ∧ Below w.heap.size w w'

theorem info3 : (Try.prog.info? 3).map (fun i => (i.zero, i.size, i.bytes)) = some (some (.int .i64 0), 1, 8) := by kernel_rfl

def Part (zs : List Int) (k : Nat) : List Value := (zs.take k).map (Value.int .i64) ++ List.replicate (zs.length - k) (.int .i64 0)
theorem Part_zero (zs : List Int) : Part zs 0 = List.replicate zs.length (.int .i64 0) := by simp [Part]
theorem Part_len (zs : List Int) (k : Nat) (h : k ≤ zs.length) : (Part zs k).length = zs.length := by simp [Part]; omega
theorem Part_set (zs : List Int) (k : Nat) (h : k < zs.length) : (Part zs k).set k (.int .i64 (zs.getD k 0)) = Part zs (k + 1) := by
  unfold Part
  apply List.ext_getElem?
  intro j
  have hl : ((zs.take k).map (Value.int .i64)).length = k := by simp; omega
  rw [List.getElem?_set]
  by_cases hj : k = j
  · subst hj
    rw [if_pos rfl]
    simp only [List.getElem?_append, List.length_map, List.length_take, List.length_append, List.length_replicate]
    rw [if_pos (by omega), if_pos (by omega)]
    simp [h]
  · rw [if_neg hj]
    simp only [List.getElem?_append, List.length_map, List.length_take]
    by_cases h1 : j < k
    · rw [if_pos (by omega), if_pos (by omega)]
      simp [h1, show j < k + 1 by omega]
    · rw [if_neg (by omega), if_neg (by omega)]
      simp only [List.getElem?_replicate]
      by_cases h2 : j < zs.length
      · rw [if_pos (by omega), if_pos (by omega)]
      · rw [if_neg (by omega), if_neg (by omega)]
theorem Part_all (zs : List Int) (j : Nat) (h : j < zs.length) : (Part zs zs.length)[j]? = some (.int .i64 (zs.getD j 0)) := by
  simp [Part, h]

set_option maxHeartbeats 1600000 in
theorem toIntS_any (A : Option Addr) (n cap : Nat) (zs : List Int) (B : Nat) (w : World) (hr : IsInts w B A n zs) (hB : B ≤ w.heap.size) (hn : n ≤ 1048576) :
    Calls Try.prog 39 #[.slice A n cap] w (Copied w zs) := by
  obtain ⟨i0, hi, hz0, hz1, hz2⟩ := info_parts info3
  have hlen : zs.length = n := hr.1
  have HL := hlen
  have HLen : Hid (zs.length = n) := hlen
  clear hlen HL
  go_enter Try.func39, Try.ntmps39
  go_wp2_with (at_make; refine wpList_make_full _ rfl _ _ 43 rfl w.heap.size 3 i0 (.int .i64 0) 1 Try.underlying43 hi hz0 hz1 _ _ _ _ n rfl rfl rfl rfl ?b1 ?b2 ?b3 ?_)
  case b1 => rw [hz2]; omega
  case b2 => unfold maxLen; omega
  case b3 => exact Nat.le_refl _
  intro w1 hown hgrow
  have hbel : Below w.heap.size w w1 := (Below.refl _ _).grown hgrow (Nat.le_refl _) (by intro k h; cases h)
  have hP0 : (madeCells #[Value.int IntKind.i64 0] n).toList = Part zs 0 := by rw [Part_zero, toList_madeCells_one, HLen.out]
  rw [hP0] at hown
  have hsz : w.heap.size < w1.heap.size := own_lt hown
  clear hP0 hgrow hi hz0 hz1 hz2
  go_wp2_with fail
  go_loopw [4] (fun i wr => ∃ k : Nat, k ≤ n ∧ i = .int .i64 k ∧ wr.ownsRow w.heap.size 3 1 (.slice (some ⟨w.heap.size, 0, none⟩) n n) n (Part zs k) ∧ Below w.heap.size w wr ∧ w.heap.size < wr.heap.size) (fun i _ => n - (intOf i).toNat)
  case atStart => exact ⟨0, Nat.zero_le _, rfl, hown, hbel, hsz⟩
  case round =>
    obtain ⟨k, hk, rfl, hownr, hbr, hszr⟩ := hrel
    by_cases hlt : k < n
    · obtain ⟨b, off, z, rfl, hbB, hz, hc⟩ := (hr.below hbr hB).at_ hlt
      have hcell := (hownr.cellAt k (by omega)).trans (List.getElem?_eq_getElem (by rw [Part_len _ _ (by rw [HLen.out]; omega), HLen.out]; omega))
      have hfr := hownr.frozenAt k
      have hst := hownr.stored k (.int .i64 z)
      have HZ : Hid (z = zs.getD k 0) := hz
      clear hz
      have HS := hst
      clear hst
      go_wp2
      go_roundw
      case rel =>
        refine ⟨k + 1, by omega, by go_num, ?_, hbr.setCell (p := ⟨w.heap.size, k, none⟩) (Nat.le_refl _) _, by simpa [World.setCell] using hszr⟩
        have h1 := HS.1
        rw [HZ.out, Part_set zs k (by rw [HLen.out]; omega)] at h1
        rw [HZ.out]
        exact h1
      case measure => simp [intOf]; omega
    · have hkn : k = n := by omega
      have HK : Hid (k = n) := hkn
      clear hkn
      go_wp2
      go_ret
      have hl := HLen.out
      refine ⟨w.heap.size, by rw [hl]; rfl, Nat.le_refl _, ⟨rfl, fun hp => ⟨w.heap.size, 0, rfl, hszr, fun j hj => ?_⟩⟩, hbr⟩
      rw [Nat.zero_add, hownr.cellAt j (by omega), HK.out, ← hl]
      exact Part_all zs j hj

set_option maxHeartbeats 800000 in
theorem eqIntS_same (A C : Option Addr) (n cap cap' : Nat) (zs : List Int) (B B' : Nat) (w : World) (hr : IsInts w B A n zs) (hs : IsInts w B' C n zs) (hn : n ≤ 1048576) :
    Calls Try.prog 35 #[.slice A n cap, .slice C n cap'] w fun e w' => e = .returned (.bool true) ∧ ∃ m, w' = w.drewN m := by
  go_enter Try.func35, Try.ntmps35
  go_wp2_with fail
  go_loopw [5] (fun i wr => ∃ k m : Nat, k ≤ n ∧ i = .int .i64 k ∧ wr = w.drewN m) (fun i _ => n - (intOf i).toNat)
  case atStart => exact ⟨0, 0, Nat.zero_le _, rfl, rfl⟩
  case round =>
    obtain ⟨k, m, hk, rfl, rfl⟩ := hrel
    by_cases hlt : k < n
    · obtain ⟨b, off, z, rfl, hbB, hz, hc⟩ := hr.at_ hlt
      obtain ⟨b2, off2, z2, rfl, hbB2, hz2, hc2⟩ := hs.at_ hlt
      obtain rfl : z = z2 := by rw [hz, hz2]
      clear hz hz2 hr hs
      go_wp2
      go_quiet (fail)
      go_wp2
      go_roundw
      case rel => exact ⟨k + 1, _, by omega, by go_num, rfl⟩
      case measure => simp [intOf]; omega
    · go_wp2
      go_ret
      exact ⟨rfl, m, rfl⟩

end Go.Proofs.Ytklgjjmcflgjeaa.Ints
