/-
  THE CONTRACTS of the model's DrawRecordOk and DrawFrameRecord, and of the laws' sameBytes, over this seat's translation.
-/
import Derived.Test.YtghckkameinicaaDoorDrawLoose
namespace Go.Proofs.YtghckkameinicaaDoor.Draw
open Go.ChangeShapes Go.WideShapes Go.ChangeAt Go.RowKit
open Go.Proofs.YtghckkameinicaaDoor.Has (OwnI)
open Go.Proofs.YtghckkameinicaaDoor.Rd (RB)
open Go.Proofs.YtghckkameinicaaDoor.Rec (below_a1 ownI_base ownI_setLow below_alloc1)
set_option linter.unusedVariables false
set_option linter.unusedSimpArgs false

set_option maxRecDepth 100000 in
set_option maxHeartbeats 1600000 in
theorem drawRecordOk_any (w : World) (B : Nat) (hB : B ≤ w.heap.size) (A : Option Addr) (n cap : Nat) (zs : List UInt8) (hb : IsBytes w B A n zs) (hn : n ≤ 1048576) :
    Calls Tryd.prog 35 #[.slice A n cap] w (DrawnR w) := by
  have HB := Lib.hid hb
  have HR2 := Lib.hid (RB.new w 0 none 0 0 26)
  clear hb
  go_enter Tryd.func35, Tryd.ntmps35
  go_wp2_with fail
  refine (new_any (w.alloc (.cells #[.int .i64 0, .slice none 0 0] 26)) B (by simp; omega) A n cap zs (HB.out.keep fun p hp => World.cell?_alloc_lt w _ p (by omega)) hn).mono ?_
  rintro e w1 ⟨g, rfl, hg, hc1, hb1⟩
  have hs1 : w.heap.size < g := by simp at hg; omega
  have R21 := Lib.hid (HR2.out.low hb1 (by simp))
  have hbw1 := below_alloc1 hb1
  have H1 := Lib.hid hc1
  clear hc1 hb1 hg
  go_wp2_with fail
  refine (drawLoose_any w1 B g A n cap zs H1.out).mono ?_
  rintro e w2 ⟨kd, ys, A', m, c', rfl, hm, hO2, hc2, hg2⟩
  have hr22 := R21.out.grown hg2 (by simp; omega)
  have HC4 := Lib.hid (fun u v => hr22.cells u v)
  obtain ⟨c20, c21, f20, f21⟩ := hr22
  have hbw2 : Below w.heap.size w w2 := hbw1.grown hg2 hbw1.size (fun q hq => by cases hq; omega)
  have HO2 := Lib.hid hO2
  have hs2 : w.heap.size < w1.heap.size := R21.out.lt
  clear hO2 hc2 hg2
  go_wp2
  refine bodyPost_ret (v := .agg #[.int .i64 kd, .slice A' m c']) (by simp [results, Tryd.results35, go_sem, (HC4.out _ _).1, (HC4.out _ _).2]) rfl ⟨kd, ys, A', m, c', rfl, hm, ?_, (hbw2.setCell (p := ⟨w.heap.size, 0, none⟩) (Nat.le_refl _) _).setCell (p := ⟨w.heap.size, 1, none⟩) (Nat.le_refl _) _⟩
  exact ownI_base (ownI_setLow (ownI_setLow HO2.out (p := ⟨w.heap.size, 0, none⟩) (by show w.heap.size < w1.heap.size; omega) (.int .i64 kd)) (p := ⟨w.heap.size, 1, none⟩) (by show w.heap.size < w1.heap.size; omega) (.slice A' m c')) (by omega)

set_option maxRecDepth 100000 in
set_option maxHeartbeats 1600000 in
theorem drawFrame_any (w : World) (B : Nat) (hB : B ≤ w.heap.size) (A : Option Addr) (n cap : Nat) (zs : List UInt8) (hb : IsBytes w B A n zs) (hn : n ≤ 1048576) :
    Calls Tryd.prog 9 #[.slice A n cap] w (DrawnR w) := by
  have HB := Lib.hid hb
  have HR2 := Lib.hid (RB.new w 0 none 0 0 26)
  clear hb
  go_enter Tryd.func9, Tryd.ntmps9
  go_wp2_with fail
  refine (drawRecordOk_any (w.alloc (.cells #[.int .i64 0, .slice none 0 0] 26)) B (by simp; omega) A n cap zs (HB.out.keep fun p hp => World.cell?_alloc_lt w _ p (by omega)) hn).mono ?_
  rintro e w2 ⟨kd, ys, A', m, c', rfl, hm, hO2, hb2⟩
  have hr22 := HR2.out.low hb2 (by simp)
  have HC4 := Lib.hid (fun u v => hr22.cells u v)
  obtain ⟨c20, c21, f20, f21⟩ := hr22
  have hbw2 := below_alloc1 hb2
  have hO3 : OwnI w2 (w.heap.size + 1) A' m c' ys := by have h1 := hO2; simp at h1; exact h1
  have HO2 := Lib.hid hO3
  clear hO2 hb2 hO3
  go_wp2
  refine bodyPost_ret (v := .agg #[.int .i64 kd, .slice A' m c']) (by simp [results, Tryd.results9, go_sem, (HC4.out _ _).1, (HC4.out _ _).2]) rfl ⟨kd, ys, A', m, c', rfl, hm, ?_, (hbw2.setCell (p := ⟨w.heap.size, 0, none⟩) (Nat.le_refl _) _).setCell (p := ⟨w.heap.size, 1, none⟩) (Nat.le_refl _) _⟩
  exact ownI_base (ownI_setLow (ownI_setLow HO2.out (p := ⟨w.heap.size, 0, none⟩) (by show w.heap.size < w.heap.size + 1; omega) (.int .i64 kd)) (p := ⟨w.heap.size, 1, none⟩) (by show w.heap.size < w.heap.size + 1; omega) (.slice A' m c')) (by omega)
end Go.Proofs.YtghckkameinicaaDoor.Draw
namespace Go.Proofs.YtghckkameinicaaDoor.Bytes
open Go.ChangeShapes Go.WideShapes Go.ChangeAt Go.RowKit
open Go.Proofs.YtghckkameinicaaDoor.Ints (own_lt below_drewN)
set_option linter.unusedVariables false
set_option maxHeartbeats 800000 in
theorem sameBytes_same (A C : Option Addr) (n cap cap' : Nat) (zs : List Int) (B B' : Nat) (w : World) (hr : IsBytes w B A n zs) (hs : IsBytes w B' C n zs) (hn : n ≤ 1048576) :
    Calls Tryd.prog 11 #[.slice A n cap, .slice C n cap'] w fun e w' => e = .returned (.bool true) ∧ ∃ m, w' = w.drewN m := by
  go_enter Tryd.func11, Tryd.ntmps11
  go_wp2_with fail
  go_loopw [5] (fun i wr => ∃ k m : Nat, k ≤ n ∧ i = .int .i64 k ∧ wr = w.drewN m) (fun i _ => n - (intOf i).toNat)
  case atStart => exact ⟨0, 0, Nat.zero_le _, rfl, rfl⟩
  case round =>
    obtain ⟨k, m, hk, rfl, rfl⟩ := hrel
    by_cases hlt : k < n
    · obtain ⟨b, off, z, rfl, hbB, hz, hc, hz0, hz1⟩ := hr.at_ hlt
      obtain ⟨b2, off2, z2, rfl, hbB2, hz2, hc2, hz3, hz4⟩ := hs.at_ hlt
      obtain rfl : z = z2 := by rw [hz, hz2]
      clear hz hz2 hr hs
      go_wp2
      go_quiet (fail)
      go_wp2
      go_roundw
      case rel => exact ⟨k + 1, _, by omega, by go_num, rfl⟩
      case measure => simp [intOf]; omega
    · go_wp2
      go_ret
      exact ⟨rfl, m, rfl⟩
end Go.Proofs.YtghckkameinicaaDoor.Bytes
