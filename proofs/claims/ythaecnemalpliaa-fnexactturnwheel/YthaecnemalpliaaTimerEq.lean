/-
  CONTRACTS of the laws' eqTimer, eqTimerS, eqTimerSS, eqWheel over this seat's translation: at two values that read alike each answers true; nothing that was there has turned.
-/
import Derived.Test.YthaecnemalpliaaTimers
import Derived.Deep.RegionHeld3
namespace Go.Proofs.Ythaecnemalpliaa.Timers
open Go.ChangeShapes Go.WideShapes Go.ChangeAt Go.RowKit
set_option linter.unusedVariables false

/-- It answers true and turns nothing that was there. -/
def SaysTrue (w : World) (e : Ending) (w' : World) : Prop := e = .returned (.bool true) ∧ Below w.heap.size w w'

theorem eqTimer_same (x y : Int) (w : World) :
    Calls Try.prog 80 #[.agg #[.int .i64 x, .int .i64 y], .agg #[.int .i64 x, .int .i64 y]] w (SaysTrue w) := by
  go_enter Try.func80, Try.ntmps80
  go_wp2
  go_ret
  exact ⟨rfl, below_a2 _ _ _⟩

set_option maxHeartbeats 1600000 in
theorem eqTimerS_same (A C : Option Addr) (n cap cap' : Nat) (ts : TList) (B B' : Nat) (w : World) (hr : IsTimers w B A n ts) (hs : IsTimers w B' C n ts) (hB : B ≤ w.heap.size) (hB' : B' ≤ w.heap.size) (hn : n ≤ 1048576) :
    Calls Try.prog 75 #[.slice A n cap, .slice C n cap'] w (SaysTrue w) := by
  go_enter Try.func75, Try.ntmps75
  go_wp2_with fail
  go_loopw [5] (fun i wr => ∃ k : Nat, k ≤ n ∧ i = .int .i64 k ∧ Below w.heap.size w wr) (fun i _ => n - (intOf i).toNat)
  case atStart => exact ⟨0, Nat.zero_le _, rfl, Below.refl _ _⟩
  case round =>
    obtain ⟨k, hk, rfl, hbr⟩ := hrel
    by_cases hlt : k < n
    · obtain ⟨b, off, x, y, rfl, hbB, hz, hc1, hc2⟩ := (hr.below hbr hB).at_ hlt
      obtain ⟨b', off', x', y', rfl, hbB', hz', hd1, hd2⟩ := (hs.below hbr hB').at_ hlt
      obtain ⟨rfl, rfl⟩ : x = x' ∧ y = y' := by rw [hz] at hz'; exact ⟨congrArg Prod.fst hz', congrArg Prod.snd hz'⟩
      clear hz hz' hr hs
      go_wp2_with fail
      go_region_held3 (fun w' => w'.cell? ⟨b, off + k * 2, none⟩ = some (.int .i64 x) ∧ w'.cell? ⟨b, off + k * 2 + 1, none⟩ = some (.int .i64 y) ∧ w'.cell? ⟨b', off' + k * 2, none⟩ = some (.int .i64 x) ∧ w'.cell? ⟨b', off' + k * 2 + 1, none⟩ = some (.int .i64 y)) (first | go_keep | (refine ⟨below_keep hb2 ?_, below_keep hb2 ?_, below_keep hb2 ?_, below_keep hb2 ?_⟩ <;> simp only [*]))
        (first | (go_at_call 80; refine (eqTimer_same _ _ _).mono ?_; rintro e w2 ⟨rfl, hb2⟩))
      have hbr2 : Below w.heap.size w w2 := hbr.drew.trans (hb2.mono hbr.size)
      go_wp2
      go_roundw
      case rel => exact ⟨k + 1, by omega, by go_num, hbr2⟩
      case measure => simp [intOf]; omega
    · go_wp2
      go_ret
      exact ⟨rfl, hbr⟩

set_option maxHeartbeats 1600000 in
theorem eqTimerSS_same (A C : Option Addr) (n cap cap' : Nat) (ss : List TList) (B B' : Nat) (w : World) (hr : IsSlots w B A n ss) (hs : IsSlots w B' C n ss) (hB : B ≤ w.heap.size) (hB' : B' ≤ w.heap.size) (hn : n ≤ 1048576) (hm : ∀ j, (ss.getD j []).length ≤ 1048576) :
    Calls Try.prog 62 #[.slice A n cap, .slice C n cap'] w (SaysTrue w) := by
  have HM := Lib.hid hm
  clear hm
  go_enter Try.func62, Try.ntmps62
  go_wp2_with fail
  go_loopw [5] (fun i wr => ∃ k : Nat, k ≤ n ∧ i = .int .i64 k ∧ Below w.heap.size w wr) (fun i _ => n - (intOf i).toNat)
  case atStart => exact ⟨0, Nat.zero_le _, rfl, Below.refl _ _⟩
  case round =>
    obtain ⟨k, hk, rfl, hbr⟩ := hrel
    by_cases hlt : k < n
    · obtain ⟨b, off, A1, n1, c1, rfl, hbB, hc1, hT1⟩ := (hr.below hbr hB).at_ hlt
      obtain ⟨b', off', A2, n2, c2, rfl, hbB', hc2, hT2⟩ := (hs.below hbr hB').at_ hlt
      obtain rfl : n1 = n2 := hT1.1.symm.trans hT2.1
      have hn1 : n1 ≤ 1048576 := by rw [← hT1.1]; exact HM.out k
      have HT1 := Lib.hid hT1
      have HT2 := Lib.hid hT2
      clear hT1 hT2 hr hs
      go_wp2_with fail
      go_region_held3 (fun w' => w'.cell? ⟨b, off + k, none⟩ = some (.slice A1 n1 c1) ∧ w'.cell? ⟨b', off' + k, none⟩ = some (.slice A2 n1 c2)) (first | go_keep | (refine ⟨below_keep hb2 ?_, below_keep hb2 ?_⟩ <;> simp only [*]))
        (first | (go_at_call 75; refine (eqTimerS_same A1 A2 n1 _ _ _ B B' _ (by exact HT1.out) (by exact HT2.out) (by exact Nat.le_trans hB hbr.size) (by exact Nat.le_trans hB' hbr.size) hn1).mono ?_; rintro e w2 ⟨rfl, hb2⟩))
      have hbr2 : Below w.heap.size w w2 := hbr.drew.trans (hb2.mono hbr.size)
      go_wp2
      go_roundw
      case rel => exact ⟨k + 1, by omega, by go_num, hbr2⟩
      case measure => simp [intOf]; omega
    · go_wp2
      go_ret
      exact ⟨rfl, hbr⟩

set_option maxHeartbeats 800000 in
theorem eqWheel_same (now : Int) (A C : Option Addr) (n cap cap' : Nat) (ss : List TList) (B B' : Nat) (w : World) (hr : IsSlots w B A n ss) (hs : IsSlots w B' C n ss) (hB : B ≤ w.heap.size) (hB' : B' ≤ w.heap.size) (hn : n ≤ 1048576) (hm : ∀ j, (ss.getD j []).length ≤ 1048576) :
    Calls Try.prog 29 #[.agg #[.int .i64 now, .slice A n cap], .agg #[.int .i64 now, .slice C n cap']] w (SaysTrue w) := by
  have HM := Lib.hid hm
  have HR := Lib.hid hr
  have HS := Lib.hid hs
  clear hm hr hs
  go_enter Try.func29, Try.ntmps29
  go_wp2_with fail
  refine (eqTimerSS_same A C n cap cap' ss B B' _ (HR.out.below (below_a2 _ _ _) hB) (HS.out.below (below_a2 _ _ _) hB') (by simp; omega) (by simp; omega) hn HM.out).mono ?_
  rintro e w2 ⟨rfl, hb2⟩
  go_wp2
  go_ret
  exact ⟨rfl, (below_a2 _ _ _).trans (hb2.mono (by simp; omega))⟩
end Go.Proofs.Ythaecnemalpliaa.Timers
