/-
  THE JOURNAL's VALUES, and the contracts of the model's JournalOk, l04Copy, SyncTail, CrashTail, RoomLeft over this seat's translation.
-/
import Derived.Test.YtpghccbknlokcaaDoorJour
import Derived.Test.YtpghccbknlokcaaDoorFrame
namespace Go.Proofs.YtpghccbknlokcaaDoor.Jour
open Go.ChangeShapes Go.WideShapes Go.ChangeAt Go.RowKit
open Go.Proofs.YtpghccbknlokcaaDoor.Bytes Go.Proofs.YtpghccbknlokcaaDoor.LK
open Go.Proofs.YtpghccbknlokcaaDoor.Tick (inB in_t in_f l01In_any)
set_option linter.unusedVariables false

def jok (d : JD) : Bool := decide ((d.1.length : Int) ≤ 3000) && decide ((d.2.1.length : Int) ≤ 3000) && inB d.2.2 0 d.2.1.length
theorem jok_t {d : JD} (h : jok d = true) : d.1.length ≤ 3000 ∧ d.2.1.length ≤ 3000 ∧ 0 ≤ d.2.2 ∧ d.2.2 ≤ d.2.1.length := by
  simp [jok, inB] at h; omega
def syncD (d : JD) : JD := if jok d then (d.1, d.2.1, d.2.1.length) else d
def keepN (d : JD) (k : Int) : Nat := (d.2.2 + min (max k 0) (d.2.1.length - d.2.2)).toNat
def crashD (d : JD) (k : Int) : JD := if jok d then (d.1, d.2.1.take (keepN d k), keepN d k) else d
def roomV (d : JD) : Int := if jok d then 3000 - d.2.1.length else -1
theorem few_sync {d : JD} (h : jty.Few d) : jty.Few (syncD d) := by
  unfold syncD
  split
  · exact h
  · exact h
theorem few_crash {d : JD} (h : jty.Few d) (k : Int) : jty.Few (crashD d k) := by
  have h : d.1.length + d.2.1.length ≤ 1048576 := h
  unfold crashD
  split
  · show d.1.length + (d.2.1.take (keepN d k)).length ≤ 1048576
    rw [List.length_take]; omega
  · exact h
theorem keepN_le {d : JD} (h : jok d = true) (k : Int) : keepN d k ≤ d.2.1.length := by
  have := jok_t h; unfold keepN; omega

set_option maxHeartbeats 1600000 in
theorem specJournalOk_any (w : World) (B : Nat) (v : Value) (d : JD) (hr : JRd w B v d) (hf : jty.Few d) :
    Calls Tryd.prog 15 #[v] w (Says (.bool (jok d)) w) := by
  obtain ⟨x, y, s⟩ := d
  obtain ⟨A1, c1, A2, c2, rfl, _, _⟩ := hr
  have hf : x.length + y.length ≤ 1048576 := hf
  show Calls Tryd.prog 15 #[.agg #[.slice A1 x.length c1, .slice A2 y.length c2, .int .i64 s]] w (Says (.bool (decide ((x.length : Int) ≤ 3000) && decide ((y.length : Int) ≤ 3000) && inB s 0 y.length)) w)
  generalize x.length = m at hf ⊢
  generalize y.length = n at hf ⊢
  cases h1 : decide ((m : Int) ≤ 3000)
  · go_enter Tryd.func15, Tryd.ntmps15
    go_wp2
    go_ret
    exact ⟨rfl, bel1 _ _⟩
  · cases h2 : decide ((n : Int) ≤ 3000)
    · go_enter Tryd.func15, Tryd.ntmps15
      go_wp2
      go_ret
      exact ⟨rfl, bel1 _ _⟩
    · go_enter Tryd.func15, Tryd.ntmps15
      go_wp2_with (go_at_call 35; refine (l01In_any _ _ _ _).mono ?_; rintro e w' ⟨rfl, rfl⟩)
      go_ret
      exact ⟨by simp, bel1 _ _⟩



theorem has_cap {w : World} {lo hi : Nat} {S : Nat → Prop} {A1 A2 : Option Addr} {m n c1 c2 : Nat} {d : JD} {r : Int} (h : Has jty w lo hi S (.agg #[.slice A1 m c1, .slice A2 n c2, .int .i64 r]) d) : n ≤ c2 := by
  obtain ⟨⟨A1', c1', A2', c2', e, _, h2, _⟩, _⟩ := h
  simp only [Value.agg.injEq, Array.mk.injEq, List.cons.injEq, Value.slice.injEq] at e
  obtain ⟨_, ⟨rfl, rfl, rfl⟩, _⟩ := e
  rcases h2.2.2.2 with ⟨e, hn⟩ | ⟨g, cap, cur, e, _, _, h7, _⟩
  · omega
  · injection e with _ _ e3
    omega
theorem slice_to (A : Option Addr) (n c q : Nat) (hq : q ≤ c) (W : World) : (Instr.slice 22 (.slice A n c) none (some (.int .i64 q)) none).run Tryd.prog W = .ok (.slice A q c) W := by
  obtain ⟨i0, hi, hz0, hz1, hz2⟩ := info_parts infoByte
  rw [run_slice_h W 22 A n c (by kernel_rfl) .i64 q (by omega) (by omega)]
  have hs : (sizeOf (Tryd.prog.elem 22)).run Tryd.prog W = .ok 1 W := by
    have he : Tryd.prog.elem 22 = 5 := by kernel_rfl
    rw [he]
    simp [sizeOf, typeInfo, hi, hz1]
  rw [hs]
  have h0 : (if c = 0 then A else A.map (·.add (0 * 1))) = A := by
    split
    · rfl
    · cases A <;> simp [Addr.add]
  simpa [Result.andThen, sliced] using h0
end Go.Proofs.YtpghccbknlokcaaDoor.Jour
