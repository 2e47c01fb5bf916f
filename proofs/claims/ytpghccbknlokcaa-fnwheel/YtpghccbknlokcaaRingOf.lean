/-
  THE CONTRACT of ringOf over this seat's translation: nil and false at a wheel that is not as it should be; else a ring of its own that holds the wheel's lists. Nothing that was there has turned.
-/
import Derived.Test.YtpghccbknlokcaaRingHang
import Derived.Test.YtpghccbknlokcaaOkFacts
namespace Go.Proofs.Ytpghccbknlokcaa.Ring
open Go.ChangeShapes Go.WideShapes Go.ChangeAt Go.RowKit
open Go.Proofs.Ytpghccbknlokcaa.Timers Go.Proofs.Ytpghccbknlokcaa.WheelOk
open Go.Proofs.Ytpghccbknlokcaa.Tick (tokB tok_t)
open Go.Proofs.Ytpghccbknlokcaa.Spoke (spokeV spoke_t spokeOf_any)
set_option linter.unusedVariables false

theorem OwnR.base {w : World} {lo lo' g : Nat} {now : Int} {rs : List TList} (h : OwnR w lo g now rs) (hl : lo' ≤ lo) : OwnR w lo' g now rs := by
  obtain ⟨vs, h1, h2, h3, hg, hr, hd⟩ := h
  refine ⟨vs, h1, h2, by omega, hg, fun j v hv => ?_, hd⟩
  have ho := hr j v hv
  refine ⟨ho.1, ?_⟩
  rcases ho.2 with h0 | ⟨g', cap', cur, e1, e2, e3⟩
  · exact .inl h0
  · exact .inr ⟨g', cap', cur, e1, by omega, e3⟩

/-- A ring that was just made: eight empty lists. -/
theorem OwnR.made (w : World) (now : Int) (lo : Nat) (hlo : lo ≤ w.heap.size) :
    OwnR (w.alloc (.cells #[.int .i64 now, .slice none 0 0, .slice none 0 0, .slice none 0 0, .slice none 0 0, .slice none 0 0, .slice none 0 0, .slice none 0 0, .slice none 0 0] 94)) lo w.heap.size now empty8 := by
  refine ⟨List.replicate 8 (.slice none 0 0), by simp, rfl, hlo, heap_alloc_new w _, fun j v hv => ?_, fun i j u v _ hu _ => ?_⟩
  · have hv' : v = .slice none 0 0 := by
      rw [List.getElem?_replicate] at hv
      split at hv
      · injection hv with hv; exact hv.symm
      · cases hv
    subst hv'
    have e : empty8.getD j [] = [] := getD_rep 8 j
    rw [e]
    exact World.ownsRow_nil _ _ _ _
  · have hu' : u = .slice none 0 0 := by
      rw [List.getElem?_replicate] at hu
      split at hu
      · injection hu with hu; exact hu.symm
      · cases hu
    subst hu'
    exact .inl rfl

/-- What ringOf leaves. -/
def Ringed (now : Int) (ss : List TList) (w : World) (e : Ending) (w' : World) : Prop :=
  Below w.heap.size w w' ∧ ((wheelB now ss = false ∧ e = .returned (.tuple #[.pointer none, .bool false])) ∨
    (wheelB now ss = true ∧ ∃ g, e = .returned (.tuple #[.pointer (some ⟨g, 0, none⟩), .bool true]) ∧ OwnR w' w.heap.size g now ss))

def midR (ss : List TList) (k i : Nat) : List TList := (rest ss k).set k ((ss.getD k []).take i)
theorem midR_at (ss : List TList) (k i : Nat) (h : k < ss.length) : (midR ss k i).getD k [] = (ss.getD k []).take i := by
  unfold midR
  rw [Timers.getD_set_eq _ _ _ (by rw [rest_len ss k (by omega)]; exact h)]
theorem midR_next (ss : List TList) (k i : Nat) (h : k < ss.length) (hi : i < (ss.getD k []).length) : (midR ss k i).set k ((midR ss k i).getD k [] ++ [(ss.getD k []).getD i (0, 0)]) = midR ss k (i + 1) := by
  rw [midR_at ss k i h]
  unfold midR
  rw [List.set_set, List.take_succ_eq_append_getElem hi, getD_lt _ _ _ hi]
theorem rest_get (ss : List TList) (k : Nat) (h : k < ss.length) : (rest ss k).getD k [] = [] := by
  unfold rest
  have e : (ss.take k).length = k := by simp; omega
  rw [List.getD_eq_getElem?_getD, List.getElem?_append_right (by omega), e, Nat.sub_self]
  simp only [List.getElem?_replicate]
  split <;> rfl
theorem set_getD (l : List TList) (k : Nat) : l.set k (l.getD k []) = l := by
  apply List.ext_getElem?
  intro j
  by_cases h : k = j
  · subst h
    by_cases hk : k < l.length
    · rw [List.getElem?_set_self hk]; simp [List.getD, hk]
    · rw [List.getElem?_eq_none (by simp; omega), List.getElem?_eq_none (by omega)]
  · rw [List.getElem?_set_ne h]
theorem midR_zero (ss : List TList) (k : Nat) (h : k < ss.length) : midR ss k 0 = rest ss k := by
  unfold midR
  rw [List.take_zero, ← rest_get ss k h]
  exact set_getD _ _
theorem midR_all (ss : List TList) (k : Nat) (h : k < ss.length) : midR ss k (ss.getD k []).length = rest ss (k + 1) := by
  unfold midR
  rw [List.take_length]
  exact rest_set ss k h

set_option maxRecDepth 100000 in
set_option maxHeartbeats 3200000 in
theorem ringOf_any (now : Int) (A : Option Addr) (n c : Nat) (ss : List TList) (B : Nat) (w : World) (hr : IsSlots w B A n ss) (hB : B ≤ w.heap.size) (hn : n ≤ 1048576) (hm : ∀ j, (ss.getD j []).length ≤ 1048576) :
    Calls Try.prog 45 #[.agg #[.int .i64 now, .slice A n c]] w (Ringed now ss w) := by
  have HL : Hid (ss.length = n) := hr.1
  have HM := Lib.hid hm
  have HR := Lib.hid hr
  clear hm hr
  go_enter Try.func45, Try.ntmps45
  go_wp2_with fail
  refine (wheelOk_any now A n c ss B _ (HR.out.below (below_a1 _ _) hB) (by simp; omega) hn HM.out).mono ?_
  rintro e w1 ⟨rfl, hb1⟩
  have hb01 : Below w.heap.size w w1 := (below_a1 _ _).trans (hb1.mono (by simp))
  obtain ⟨a10, a11⟩ := (Box.new w now A n c 26).below hb1
  have hs1 : w.heap.size < w1.heap.size := by have := hb1.size; simp at this; omega
  have hr1 := HR.out.below hb01 hB
  clear hb1
  cases hw : wheelB now ss
  · have HW := Lib.hid hw
    clear hw
    go_wp2
    go_ret2
    exact ⟨hb01, .inl ⟨HW.out, rfl⟩⟩
  · have hG := wheelB_good hw
    have HW := Lib.hid hw
    have HG := Lib.hid hG
    have hn8 : ss.length = 8 := hG.len
    have hn8' : n = 8 := by rw [← HL.out]; exact hn8
    have h8a : n ≤ 8 := by omega
    have h8b : 8 ≤ n := by omega
    have HMADE := Lib.hid (OwnR.made w1 now w1.heap.size (Nat.le_refl _))
    have HB2 := Lib.hid (below_a1 w1 (.cells #[.int .i64 now, .slice none 0 0, .slice none 0 0, .slice none 0 0, .slice none 0 0, .slice none 0 0, .slice none 0 0, .slice none 0 0, .slice none 0 0] 94))
    clear hw hG hn8 hn8'
    go_wp2_with fail
    go_loopw [19] (fun v19 wr => ∃ k : Nat, k ≤ n ∧ v19 = .int .i64 k ∧ OwnR wr w1.heap.size w1.heap.size now (rest ss k) ∧ Below w1.heap.size w1 wr ∧ w1.heap.size ≤ wr.heap.size) (fun v19 _ => n - (intOf v19).toNat)
    case atStart => exact ⟨0, Nat.zero_le _, rfl, by rw [rest_zero, HG.out.len]; exact HMADE.out, HB2.out, HB2.out.size⟩
    case round =>
      obtain ⟨k, hk, rfl, hOr, hbr, hsr⟩ := hrel
      by_cases hlt : k < n
      · have hks : k < ss.length := by rw [HL.out]; exact hlt
        obtain ⟨b, off, A1, m, c1, rfl, hbB, hc1, hT1⟩ := (hr1.below hbr (by omega)).at_ hlt
        have hm1 : m ≤ 80 := by rw [← hT1.1]; exact HG.out.each k
        have HTL : Hid ((ss.getD k []).length = m) := hT1.1
        have HTB := Lib.hid (show IsTimers w1 B A1 m (ss.getD k []) from hT1.keep fun p hp => (hbr.cell (by omega)).symm)
        have HO := Lib.hid hOr
        clear hT1 hOr
        go_wp2_with fail
        go_loopw [25] (fun v25 wq => ∃ i : Nat, i ≤ m ∧ v25 = .int .i64 i ∧ OwnR wq w1.heap.size w1.heap.size now (midR ss k i) ∧ Below w1.heap.size w1 wq ∧ w1.heap.size ≤ wq.heap.size) (fun v25 _ => m - (intOf v25).toNat)
        case atStart => exact ⟨0, Nat.zero_le _, rfl, by rw [midR_zero ss k hks]; exact HO.out, hbr, hsr⟩
        case round =>
          clear HO hc1
          obtain ⟨i, hi, rfl, hOq, hbq, hsq⟩ := hrel
          by_cases hlt2 : i < m
          · obtain ⟨b2, off2, x, y, rfl, hbB2, hz, hd1, hd2⟩ := ((HTB.out.below hbq (by omega)).at_ hlt2)
            have hmem : (x, y) ∈ ss.getD k [] := by have h5 := getD_mem (ss.getD k []) i (0, 0) (by rw [HTL.out]; exact hlt2); rw [hz] at h5; exact h5
            obtain ⟨hsp, _, _, htk⟩ := HG.out.at_ k (x, y) hmem
            have HZ := Lib.hid hz
            have HSP := Lib.hid hsp
            have HO := Lib.hid hOq
            have hlw : w1.heap.size < wr.heap.size := hOq.lt
            clear hz hmem hsp hOq
            go_wp2_with fail
            refine (hang_any w1.heap.size w1.heap.size now x y (midR ss k i) k _ (HO.out.below (below_a1 _ _)) htk HSP.out (by omega) (by rw [midR_at ss k i hks]; simp; omega) (by simp; omega)).mono ?_
            rintro e w3 ⟨rfl, hO3, hb3⟩
            have hO3' : OwnR w3 w1.heap.size w1.heap.size now (midR ss k (i + 1)) := by
              rw [← midR_next ss k i hks (by rw [HTL.out]; exact hlt2), HZ.out]
              exact hO3
            have HO3 := Lib.hid hO3'
            have hb03 : Below w1.heap.size w1 w3 := (hbq.alloc hsq _).trans hb3
            have hs03 : w1.heap.size ≤ w3.heap.size := by have := hb3.size; simp at this; omega
            clear hO3 hO3' hb3
            go_wp2
            go_roundw
            case rel => exact ⟨i + 1, by omega, by go_num, HO3.out, hb03, hs03⟩
            case measure => simp [intOf]; omega
          · have HI : Hid (i = m) := (by omega : i = m)
            go_wp2
            go_roundw
            case rel => exact ⟨k + 1, by omega, by go_num, by rw [← midR_all ss k hks, HTL.out, ← HI.out]; exact hOq, hbq, hsq⟩
            case measure => simp [intOf]; omega
      · have HK : Hid (k = n) := (by omega : k = n)
        go_wp2
        go_ret2
        refine ⟨hb01.trans (hbr.mono (by omega)), .inr ⟨HW.out, w1.heap.size, rfl, ?_⟩⟩
        rw [HK.out, ← HL.out, rest_all] at hOr
        exact hOr.base (by omega)
end Go.Proofs.Ytpghccbknlokcaa.Ring
