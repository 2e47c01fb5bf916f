/-
  CONTRACTS of the laws' helpers on timers and lists of timers over this seat's translation: toTimer, toTimerS.
-/
import Derived.Test.YthaecnemalpliaaTimers
namespace Go.Proofs.Ythaecnemalpliaa.Timers
open Go.ChangeShapes Go.WideShapes Go.ChangeAt Go.RowKit
set_option linter.unusedVariables false

theorem toTimer_any (x y : Int) (w : World) :
    Calls Try.prog 79 #[.agg #[.int .i64 x, .int .i64 y]] w fun e w' => e = .returned (.agg #[.int .i64 x, .int .i64 y]) ∧ Below w.heap.size w w' := by
  go_enter Try.func79, Try.ntmps79
  go_wp2
  exact bodyPost_ret (v := .agg #[.int .i64 x, .int .i64 y]) (by simp [results, Try.results79, go_sem]) rfl ⟨rfl, below_a3 _ _ _ _⟩

/-- What a copy of a list of timers leaves: a row of its own in new memory; nothing older has turned. -/
def CopiedT (w : World) (ts : TList) (e : Ending) (w' : World) : Prop :=
  ∃ g, e = .returned (.slice (some ⟨g, 0, none⟩) ts.length ts.length) ∧ w'.ownsRow w.heap.size 68 2 (.slice (some ⟨g, 0, none⟩) ts.length ts.length) ts.length (flat ts) ∧ Below w.heap.size w w'

set_option maxHeartbeats 1600000 in
theorem toTimerS_any (A : Option Addr) (n cap : Nat) (ts : TList) (B : Nat) (w : World) (hr : IsTimers w B A n ts) (hB : B ≤ w.heap.size) (hn : n ≤ 1048576) :
    Calls Try.prog 73 #[.slice A n cap] w (CopiedT w ts) := by
  obtain ⟨i0, hi, hz0, hz1, hz2⟩ := info_parts info68
  have HLen : Hid (ts.length = n) := hr.1
  go_enter Try.func73, Try.ntmps73
  go_wp2_with (at_make; refine wpList_make_full _ rfl _ _ 66 rfl w.heap.size 68 i0 (.agg #[.int .i64 0, .int .i64 0]) 2 Try.underlying66 hi hz0 hz1 _ _ _ _ n rfl rfl rfl rfl ?b1 ?b2 ?b3 ?_)
  case b1 => rw [hz2]; omega
  case b2 => unfold maxLen; omega
  case b3 => exact Nat.le_refl _
  intro w1 hown hgrow
  have hbel : Below w.heap.size w w1 := (Below.refl _ _).grown hgrow (Nat.le_refl _) (by intro k h; cases h)
  have hP0 : (madeCells #[Value.int .i64 0, .int .i64 0] (n * 2)).toList = Part ts 0 := by rw [Part_zero, HLen.out]; exact made_flat n
  rw [hP0] at hown
  have hsz : w.heap.size < w1.heap.size := Ints.own_lt hown
  clear hP0 hgrow hi hz0 hz1 hz2
  go_wp2_with fail
  go_loopw [4] (fun i wr => ∃ k : Nat, k ≤ n ∧ i = .int .i64 k ∧ wr.ownsRow w.heap.size 68 2 (.slice (some ⟨w.heap.size, 0, none⟩) n n) n (Part ts k) ∧ Below w.heap.size w wr ∧ w.heap.size < wr.heap.size) (fun i _ => n - (intOf i).toNat)
  case atStart => exact ⟨0, Nat.zero_le _, rfl, hown, hbel, hsz⟩
  case round =>
    obtain ⟨k, hk, rfl, hownr, hbr, hszr⟩ := hrel
    by_cases hlt : k < n
    · obtain ⟨b, off, x, y, rfl, hbB, hz, hc, hc2⟩ := (hr.below hbr hB).at_ hlt
      have HZ := Lib.hid hz
      clear hz
      go_wp2_with fail
      refine (toTimer_any _ _ _).mono ?_
      rintro e w2 ⟨rfl, hb2⟩
      obtain ⟨⟨u1, hu1⟩, ⟨u2, hu2⟩, hf1, hf2, hst⟩ := own_cells2 (own_below hownr hb2) hlt
      have HST := Lib.hid hst
      clear hst
      have hbr2 : Below w.heap.size w w2 := hbr.trans (hb2.mono hbr.size)
      have hszr2 : w.heap.size < w2.heap.size := Nat.lt_of_lt_of_le hszr hb2.size
      go_wp2
      go_roundw
      case rel =>
        refine ⟨k + 1, by omega, by go_num, ?_, (hbr2.setCell (p := ⟨w.heap.size, k * 2, none⟩) (Nat.le_refl _) _).setCell (p := ⟨w.heap.size, k * 2 + 1, none⟩) (Nat.le_refl _) _, by simpa [World.setCell] using hszr2⟩
        have h1 := HST.out (.int .i64 x) (.int .i64 y)
        rw [Part_set ts k x y (by rw [HLen.out]; omega) HZ.out] at h1
        exact h1
      case measure => simp [intOf]; omega
    · have hkn : k = n := by omega
      have HK := Lib.hid hkn
      clear hkn
      go_wp2
      go_ret
      have hl := HLen.out
      refine ⟨w.heap.size, by rw [hl]; rfl, ?_, hbr⟩
      rw [HK.out, ← hl, Part_all] at hownr
      exact hownr
end Go.Proofs.Ythaecnemalpliaa.Timers
