/-
  THE CONTRACTS of the model's CountTimers, TimerOf and SoonestTimer over this seat's translation; nothing that was there has turned.
-/
import Derived.Test.YthaecnemalpliaaSpecOk
import Derived.Test.YthaecnemalpliaaRingCount
import Derived.Test.YthaecnemalpliaaTickList
namespace Go.Proofs.Ythaecnemalpliaa.WheelOk
open Go.ChangeShapes Go.WideShapes Go.ChangeAt Go.RowKit
open Go.Proofs.Ythaecnemalpliaa.Timers Go.Proofs.Ythaecnemalpliaa.Ring
open Go.Proofs.Ythaecnemalpliaa.Tick (tokB tok_t)
open Go.Proofs.Ythaecnemalpliaa.TickList (soonF stepV)
set_option linter.unusedVariables false

def countV (now : Int) (ss : List TList) : Int := if wheelB now ss then (tot ss : Int) else -1
def timerV (now : Int) (ss : List TList) (x : Int) : Int := if wheelB now ss then atV ss.flatten x else -1
def soonW (now : Int) (ss : List TList) : Int := if wheelB now ss then soonF (ss.flatten.map Prod.snd) else -1

/-- It answers the int v and turns nothing that was there. -/
def SaysI (v : Int) (w : World) (e : Ending) (w' : World) : Prop := e = .returned (.int .i64 v) ∧ Below w.heap.size w w'

set_option maxRecDepth 100000 in
set_option maxHeartbeats 1600000 in
theorem specCount_any (now : Int) (A : Option Addr) (n c : Nat) (ss : List TList) (B : Nat) (w : World) (hr : IsSlots w B A n ss) (hB : B ≤ w.heap.size) (hn : n ≤ 1048576) (hm : ∀ j, (ss.getD j []).length ≤ 1048576) :
    Calls Try.prog 40 #[.agg #[.int .i64 now, .slice A n c]] w (SaysI (countV now ss) w) := by
  have HL : Hid (ss.length = n) := hr.1
  have HM := Lib.hid hm
  have HR := Lib.hid hr
  clear hm hr
  go_enter Try.func40, Try.ntmps40
  go_wp2_with fail
  refine (specWheelOk_any now A n c ss B _ (HR.out.below (below_a1 _ _) hB) (by simp; omega) hn HM.out).mono ?_
  rintro e w1 ⟨rfl, hb1⟩
  have hb01 : Below w.heap.size w w1 := (below_a1 _ _).trans (hb1.mono (by simp))
  obtain ⟨a10, a11⟩ := (Box.new w now A n c 26).below hb1
  have hr1 := HR.out.below hb01 hB
  clear hb1
  cases hw : wheelB now ss
  · have HV : Hid (countV now ss = -1) := (by simp [countV, hw] : countV now ss = -1)
    clear hw
    go_wp2
    go_ret
    exact ⟨ret_int HV.out.symm, hb01⟩
  · have hG := wheelB_good hw
    have HV : Hid (countV now ss = tot ss) := (by simp [countV, hw] : countV now ss = tot ss)
    have hF := hG.few
    have h8 : n = 8 := by rw [← HL.out]; exact hG.len
    have h8a : n ≤ 8 := by omega
    have h8b : 8 ≤ n := by omega
    clear hw hG h8
    go_wp2_with fail
    go_loop [3, 4] (fun v3 v4 => ∃ (k : Nat) (s : Nat), k ≤ 8 ∧ v4 = .int .i64 k ∧ v3 = .int .i64 s ∧ s ≤ 80 ∧ Hid (s = tot (ss.take k))) (fun _ v4 => 8 - (intOf v4).toNat)
    case atStart => exact ⟨0, 0, by omega, rfl, rfl, by omega, rfl⟩
    case round =>
      obtain ⟨k, s, hk, rfl, rfl, hs, HS⟩ := hrel
      by_cases hlt : k < 8
      · have hltn : k < n := by omega
        obtain ⟨b, off, A1, m, c1, rfl, hbB, hc1, hT1⟩ := hr1.at_ hltn
        have hst : s + m = tot (ss.take (k + 1)) := by rw [tot_take ss k (by rw [HL.out]; exact hltn), hT1.1, ← HS.out]
        have hle : s + m ≤ 80 := by rw [hst]; exact Nat.le_trans (tot_take_le ss (k + 1)) hF
        have HST := Lib.hid hst
        clear hT1 hst
        go_wp2
        go_round
        case rel => exact ⟨k + 1, s + m, by omega, by go_num, by go_num, hle, HST⟩
        case measure => simp [intOf]; omega
      · go_wp2
        go_ret
        refine ⟨ret_int ?_, hb01⟩
        rw [HV.out, HS.out, List.take_of_length_le (by rw [HL.out]; omega)]

set_option maxRecDepth 100000 in
set_option maxHeartbeats 1600000 in
theorem specTimerOf_any (now x : Int) (A : Option Addr) (n c : Nat) (ss : List TList) (B : Nat) (w : World) (hr : IsSlots w B A n ss) (hB : B ≤ w.heap.size) (hn : n ≤ 1048576) (hm : ∀ j, (ss.getD j []).length ≤ 1048576) :
    Calls Try.prog 39 #[.agg #[.int .i64 now, .slice A n c], .int .i64 x] w (SaysI (timerV now ss x) w) := by
  have HL : Hid (ss.length = n) := hr.1
  have HM := Lib.hid hm
  have HR := Lib.hid hr
  clear hm hr
  go_enter Try.func39, Try.ntmps39
  go_wp2_with fail
  refine (specWheelOk_any now A n c ss B _ (HR.out.below (below_a1 _ _) hB) (by simp; omega) hn HM.out).mono ?_
  rintro e w1 ⟨rfl, hb1⟩
  have hb01 : Below w.heap.size w w1 := (below_a1 _ _).trans (hb1.mono (by simp))
  obtain ⟨a10, a11⟩ := (Box.new w now A n c 26).below hb1
  have hr1 := HR.out.below hb01 hB
  clear hb1
  cases hw : wheelB now ss
  · have HV : Hid (timerV now ss x = -1) := (by simp [timerV, hw] : timerV now ss x = -1)
    clear hw
    go_wp2
    go_ret
    exact ⟨ret_int HV.out.symm, hb01⟩
  · have hG := wheelB_good hw
    have HV : Hid (timerV now ss x = atV ss.flatten x) := (by simp [timerV, hw] : timerV now ss x = atV ss.flatten x)
    have h8 : n = 8 := by rw [← HL.out]; exact hG.len
    have h8a : n ≤ 8 := by omega
    have h8b : 8 ≤ n := by omega
    clear hw hG h8
    go_wp2_with fail
    go_loop [5] (fun v5 => ∃ k : Nat, k ≤ 8 ∧ v5 = .int .i64 k ∧ Hid (∀ q ∈ (ss.take k).flatten, q.1 ≠ x)) (fun v5 => 8 - (intOf v5).toNat)
    case atStart => exact ⟨0, by omega, rfl, fun q hq => by simp at hq⟩
    case round =>
      obtain ⟨k, hk, rfl, HP⟩ := hrel
      by_cases hlt : k < 8
      · have hltn : k < n := by omega
        have hks : k < ss.length := by rw [HL.out]; exact hltn
        have hk8 : decide ((k : Int) < 8) = true := decide_eq_true (by omega)
        obtain ⟨b, off, A1, m, c1, rfl, hbB, hc1, hT1⟩ := hr1.at_ hltn
        have hm1 : m ≤ 1048576 := by rw [← hT1.1]; exact HM.out k
        have HTL : Hid ((ss.getD k []).length = m) := hT1.1
        go_wp2_with fail
        go_loop [6] (fun v6 => ∃ i : Nat, i ≤ m ∧ v6 = .int .i64 i ∧ Hid (∀ q ∈ (ss.take k).flatten ++ (ss.getD k []).take i, q.1 ≠ x)) (fun v6 => m - (intOf v6).toNat)
        case atStart => exact ⟨0, Nat.zero_le _, rfl, by simpa [Hid] using HP.out⟩
        case round =>
          obtain ⟨i, hi, rfl, HQ⟩ := hrel
          by_cases hlt2 : i < m
          · have hil : i < (ss.getD k []).length := by rw [HTL.out]; exact hlt2
            obtain ⟨b2, off2, x2, y2, rfl, hbB2, hz, hd1, hd2⟩ := hT1.at_ hlt2
            have hnx : (ss.take k).flatten ++ (ss.getD k []).take (i + 1) = (ss.take k).flatten ++ (ss.getD k []).take i ++ [(x2, y2)] := by
              rw [List.append_assoc, List.take_succ_eq_append_getElem hil, ← hz, getD_lt (ss.getD k []) i _ hil]
            have HNX := Lib.hid hnx
            clear hz hnx
            cases he : (x2 == x)
            · go_wp2
              go_round
              case rel =>
                refine ⟨i + 1, by omega, by go_num, fun q hq => ?_⟩
                rw [HNX.out] at hq
                rcases List.mem_append.1 hq with h5 | h5
                · exact HQ.out q h5
                · simp at h5
                  subst h5
                  simpa using he
              case measure => simp [intOf]; omega
            · have hx2 : x2 = x := eq_of_beq he
              have HA : Hid (atV ss.flatten x = y2) := by
                have h5 := flatten_prefix ss k (i + 1) hks
                rw [HNX.out] at h5
                have h6 := atV_hit h5 (fun q hq => by have := HQ.out q hq; rw [← hx2] at this; exact this)
                rw [← hx2]
                exact h6
              clear hx2
              go_wp2
              go_ret
              exact ⟨ret_int (by rw [HV.out, HA.out]), hb01⟩
          · have HPN : Hid (∀ q ∈ (ss.take (k + 1)).flatten, q.1 ≠ x) := by
              have h5 := HQ.out
              rw [List.take_of_length_le (l := ss.getD k []) (by rw [HTL.out]; omega)] at h5
              show ∀ q ∈ _, _
              rw [flatten_take ss k hks]
              exact h5
            go_wp2
            go_round
            case rel => exact ⟨k + 1, by omega, by go_num, HPN⟩
            case measure => simp [intOf]; omega
      · have HA : Hid (atV ss.flatten x = -1) := by
          have h5 := HP.out
          rw [List.take_of_length_le (by rw [HL.out]; omega)] at h5
          exact atV_none h5
        go_wp2
        go_ret
        exact ⟨ret_int (by rw [HV.out, HA.out]), hb01⟩

theorem soonF_snoc (zs : List Int) (t : Int) : soonF (zs ++ [t]) = stepV (soonF zs) t := by simp [soonF]

set_option maxRecDepth 100000 in
set_option maxHeartbeats 1600000 in
theorem specSoonestW_any (now : Int) (A : Option Addr) (n c : Nat) (ss : List TList) (B : Nat) (w : World) (hr : IsSlots w B A n ss) (hB : B ≤ w.heap.size) (hn : n ≤ 1048576) (hm : ∀ j, (ss.getD j []).length ≤ 1048576) :
    Calls Try.prog 41 #[.agg #[.int .i64 now, .slice A n c]] w (SaysI (soonW now ss) w) := by
  have HL : Hid (ss.length = n) := hr.1
  have HM := Lib.hid hm
  have HR := Lib.hid hr
  clear hm hr
  go_enter Try.func41, Try.ntmps41
  go_wp2_with fail
  refine (specWheelOk_any now A n c ss B _ (HR.out.below (below_a1 _ _) hB) (by simp; omega) hn HM.out).mono ?_
  rintro e w1 ⟨rfl, hb1⟩
  have hb01 : Below w.heap.size w w1 := (below_a1 _ _).trans (hb1.mono (by simp))
  obtain ⟨a10, a11⟩ := (Box.new w now A n c 26).below hb1
  have hr1 := HR.out.below hb01 hB
  clear hb1
  cases hw : wheelB now ss
  · have HV : Hid (soonW now ss = -1) := (by simp [soonW, hw] : soonW now ss = -1)
    clear hw
    go_wp2
    go_ret
    exact ⟨ret_int HV.out.symm, hb01⟩
  · have hG := wheelB_good hw
    have HV : Hid (soonW now ss = soonF (ss.flatten.map Prod.snd)) := (by simp [soonW, hw] : soonW now ss = soonF (ss.flatten.map Prod.snd))
    have h8 : n = 8 := by rw [← HL.out]; exact hG.len
    have h8a : n ≤ 8 := by omega
    have h8b : 8 ≤ n := by omega
    have HG := Lib.hid hG
    clear hw hG h8
    go_wp2_with fail
    go_loop [3, 4] (fun v3 v4 => ∃ (k : Nat) (s : Int), k ≤ 8 ∧ v4 = .int .i64 k ∧ v3 = .int .i64 s ∧ Hid (s = soonF ((ss.take k).flatten.map Prod.snd))) (fun _ v4 => 8 - (intOf v4).toNat)
    case atStart => exact ⟨0, -1, by omega, rfl, rfl, rfl⟩
    case round =>
      obtain ⟨k, s, hk, rfl, rfl, HS⟩ := hrel
      by_cases hlt : k < 8
      · have hltn : k < n := by omega
        have hks : k < ss.length := by rw [HL.out]; exact hltn
        have hk8 : decide ((k : Int) < 8) = true := decide_eq_true (by omega)
        obtain ⟨b, off, A1, m, c1, rfl, hbB, hc1, hT1⟩ := hr1.at_ hltn
        have hm1 : m ≤ 1048576 := by rw [← hT1.1]; exact HM.out k
        have HTL : Hid ((ss.getD k []).length = m) := hT1.1
        go_wp2_with fail
        go_loop [3, 5] (fun v3 v5 => ∃ (i : Nat) (s : Int), i ≤ m ∧ v5 = .int .i64 i ∧ v3 = .int .i64 s ∧ Hid (s = soonF (((ss.take k).flatten ++ (ss.getD k []).take i).map Prod.snd))) (fun _ v5 => m - (intOf v5).toNat)
        case atStart => exact ⟨0, s, Nat.zero_le _, rfl, rfl, by simpa [Hid] using HS.out⟩
        case round =>
          obtain ⟨i, s, hi, rfl, rfl, HQ⟩ := hrel
          by_cases hlt2 : i < m
          · have hil : i < (ss.getD k []).length := by rw [HTL.out]; exact hlt2
            obtain ⟨b2, off2, x2, y2, rfl, hbB2, hz, hd1, hd2⟩ := hT1.at_ hlt2
            have htk : tokB y2 = true := by have h5 := getD_mem (ss.getD k []) i (0, 0) hil; rw [hz] at h5; exact (HG.out.at_ k (x2, y2) h5).2.2.2
            have hnx : soonF (((ss.take k).flatten ++ (ss.getD k []).take (i + 1)).map Prod.snd) = stepV s y2 := by
              rw [List.take_succ_eq_append_getElem hil, ← getD_lt (ss.getD k []) i (0, 0) hil, hz, ← List.append_assoc, List.map_append, HQ.out]
              exact soonF_snoc _ _
            have HNX := Lib.hid hnx
            clear hz hnx
            by_cases h0 : s < 0
            · have HSV : Hid (stepV s y2 = y2) := (by simp [stepV, htk, h0] : stepV s y2 = y2)
              go_wp2
              go_round
              case rel => exact ⟨i + 1, y2, by omega, by go_num, rfl, by show _ = _; rw [HNX.out, HSV.out]⟩
              case measure => simp [intOf]; omega
            · by_cases h1 : y2 < s
              · have HSV : Hid (stepV s y2 = y2) := (by simp [stepV, htk, h1] : stepV s y2 = y2)
                go_wp2
                go_round
                case rel => exact ⟨i + 1, y2, by omega, by go_num, rfl, by show _ = _; rw [HNX.out, HSV.out]⟩
                case measure => simp [intOf]; omega
              · have HSV : Hid (stepV s y2 = s) := (by simp [stepV, h0, h1] : stepV s y2 = s)
                go_wp2
                go_round
                case rel => exact ⟨i + 1, s, by omega, by go_num, rfl, by show _ = _; rw [HNX.out, HSV.out]⟩
                case measure => simp [intOf]; omega
          · have HPN : Hid (s = soonF ((ss.take (k + 1)).flatten.map Prod.snd)) := by
              have h5 := HQ.out
              rw [List.take_of_length_le (l := ss.getD k []) (by rw [HTL.out]; omega)] at h5
              show _ = _
              rw [flatten_take ss k hks]
              exact h5
            go_wp2
            go_round
            case rel => exact ⟨k + 1, s, by omega, by go_num, rfl, HPN⟩
            case measure => simp [intOf]; omega
      · go_wp2
        go_ret
        refine ⟨ret_int ?_, hb01⟩
        rw [HV.out, HS.out, List.take_of_length_le (by rw [HL.out]; omega)]
end Go.Proofs.Ythaecnemalpliaa.WheelOk
