/-
  CONTRACTS of the laws' toWheel (a copy in memory of its own) and of szTimerS, szTimerSS, szWheel (0 or more only where the slots and their timers are few) over this seat's translation.
-/
import Derived.Test.YthaecnemalpliaaTimerTo
namespace Go.Proofs.Ythaecnemalpliaa.Timers
open Go.ChangeShapes Go.WideShapes Go.ChangeAt Go.RowKit
set_option linter.unusedVariables false

/-- A wheel in memory of its own from lo on: what a function that answers a wheel leaves. -/
def CopiedW (w : World) (now : Int) (ss : List TList) (e : Ending) (w' : World) : Prop :=
  ∃ A c, e = .returned (.agg #[.int .i64 now, .slice A ss.length c]) ∧ OwnS w' w.heap.size w'.heap.size A ss.length c ss ∧ Below w.heap.size w w'

theorem OwnS.base {w : World} {lo lo' hi : Nat} {A : Option Addr} {n c : Nat} {ss : List TList} (h : OwnS w lo hi A n c ss) (hl : lo' ≤ lo) : OwnS w lo' hi A n c ss := by
  refine ⟨h.1, fun hn => ?_⟩
  obtain ⟨g, vs, e, hg, hrow, hj, hd⟩ := h.2 hn
  refine ⟨g, vs, e, hg, own_base hrow hl, fun j hjn => ?_, hd⟩
  obtain ⟨A', c', hv, hT⟩ := hj j hjn
  exact ⟨A', c', hv, hT.base hl⟩

theorem below_alloc3 {w w4 : World} {o p q : Obj} (h : Below (((w.alloc o).alloc p).alloc q).heap.size (((w.alloc o).alloc p).alloc q) w4) : Below w.heap.size w w4 :=
  (below_a3 w o p q).trans (h.mono (by simp; omega))

theorem blk2 {w : World} {g : Nat} {a b : Value} {t : TypeId} (h : w.heap[g]? = some (.cells #[a, b] t (0, 0))) :
    w.cell? ⟨g, 0, none⟩ = some a ∧ w.cell? ⟨g, 1, none⟩ = some b ∧ w.frozen? ⟨g, 0, none⟩ = false ∧ w.frozen? ⟨g, 1, none⟩ = false := by
  refine ⟨?_, ?_, ?_, ?_⟩ <;> simp [World.cell?, World.frozen?, h]
theorem old3 {w w4 : World} {o p q : Obj} (h : Below (((w.alloc o).alloc p).alloc q).heap.size (((w.alloc o).alloc p).alloc q) w4) :
    w4.heap[w.heap.size]? = some o ∧ w4.heap[w.heap.size + 1]? = some p ∧ w4.heap[w.heap.size + 1 + 1]? = some q := by
  have h1 : (w.alloc o).heap[w.heap.size]? = some o := heap_alloc_new w o
  have h2 : ((w.alloc o).alloc p).heap[w.heap.size + 1]? = some p := by have := heap_alloc_new (w.alloc o) p; simpa using this
  have h3 : (((w.alloc o).alloc p).alloc q).heap[w.heap.size + 1 + 1]? = some q := by have := heap_alloc_new ((w.alloc o).alloc p) q; simpa using this
  refine ⟨?_, ?_, ?_⟩
  · rw [h.block _ (by simp; omega), Below.heap_alloc _ _ _ (by simp; omega), Below.heap_alloc _ _ _ (by simp), h1]
  · rw [h.block _ (by simp), Below.heap_alloc _ _ _ (by simp), h2]
  · rw [h.block _ (by simp), h3]
theorem turned_set (w : World) (p : Addr) (u : Value) : Turned p.block (p.block + 1) w (w.setCell p u) :=
  ⟨rfl, rfl, rfl, by simp [World.setCell], fun k _ ho => Below.heap_setCell w p u k (by omega)⟩
theorem OwnS.setLow {w : World} {lo hi : Nat} {A : Option Addr} {n c : Nat} {ss : List TList} (h : OwnS w lo hi A n c ss) {p : Addr} (hp : p.block < lo) (u : Value) : OwnS (w.setCell p u) lo hi A n c ss :=
  h.turned (turned_set w p u) hp

set_option maxHeartbeats 1600000 in
theorem toWheel_any (now : Int) (A : Option Addr) (n cap : Nat) (ss : List TList) (B : Nat) (w : World) (hr : IsSlots w B A n ss) (hB : B ≤ w.heap.size) (hn : n ≤ 1048576) (hm : ∀ j, (ss.getD j []).length ≤ 1048576) :
    Calls Try.prog 27 #[.agg #[.int .i64 now, .slice A n cap]] w (CopiedW w now ss) := by
  have HR := Lib.hid hr
  have HM := Lib.hid hm
  clear hr hm
  go_enter Try.func27, Try.ntmps27
  go_wp2_with fail
  refine (toTimerSS_any A n cap ss B _ (HR.out.below (below_a3 _ _ _ _) hB) (by simp; omega) hn HM.out).mono ?_
  rintro e w4 ⟨A1, c1, rfl, hO, hb⟩
  obtain ⟨k0, k1, k2⟩ := old3 hb
  obtain ⟨c10, c11, f10, f11⟩ := blk2 k1
  obtain ⟨c20, c21, f20, f21⟩ := blk2 k2
  have hb4 := below_alloc3 hb
  have hs4 : w.heap.size + 1 + 1 < w4.heap.size := (Array.getElem?_eq_some_iff.1 k2).1
  have hO4 : OwnS w4 (w.heap.size + 1 + 1 + 1) w4.heap.size A1 ss.length c1 ss := by simpa using hO
  have HO := Lib.hid hO4
  have hl : ss.length = n := HR.out.1
  rw [hl] at HO ⊢
  have HL := Lib.hid hl
  clear hO hb k0 k1 k2 hO4 hl
  go_wp2
  refine bodyPost_ret (v := .agg #[.int .i64 now, .slice A1 n c1]) (by simp [results, Try.results27, go_sem, c10, c11]) rfl ⟨A1, c1, by rw [HL.out], ?_, ?_⟩
  · have h1 := ((HO.out.setLow (p := ⟨w.heap.size + 1 + 1, 1, none⟩) (by show w.heap.size + 1 + 1 < _; omega) (.slice A1 n c1)).setLow (p := ⟨w.heap.size + 1, 0, none⟩) (by show w.heap.size + 1 < _; omega) (.int .i64 now)).setLow (p := ⟨w.heap.size + 1, 1, none⟩) (by show w.heap.size + 1 < _; omega) (.slice A1 n c1)
    rw [HL.out]
    refine (h1.base (by omega)).more ?_
    simp [World.setCell]
  · exact ((hb4.setCell (p := ⟨w.heap.size + 1 + 1, 1, none⟩) (by show _ ≤ w.heap.size + 1 + 1; omega) _).setCell (p := ⟨w.heap.size + 1, 0, none⟩) (by show _ ≤ w.heap.size + 1; omega) _).setCell (p := ⟨w.heap.size + 1, 1, none⟩) (by show _ ≤ w.heap.size + 1; omega) _

def szV (n : Nat) (left : Int) : Int := if left < n then -1 else left - n
theorem szTimerS_any (A : Option Addr) (n cap : Nat) (left : Int) (w : World) (hn : n ≤ maxLen) (h0 : 0 ≤ left) (h1 : left ≤ 1048576) :
    Calls Try.prog 72 #[.slice A n cap, .int .i64 left] w fun e w' => e = .returned (.int .i64 (szV n left)) ∧ w = w' := by
  unfold maxLen at hn
  by_cases h : left < n
  · have HV : Hid (szV n left = -1) := if_pos h
    have hl : left - n < 0 := by omega
    go_enter Try.func72, Try.ntmps72
    go_wp2
    go_ret
    rw [HV.out]
    exact ⟨rfl, rfl⟩
  · have HV : Hid (szV n left = left - n) := if_neg h
    have hl : ¬ left - n < 0 := by omega
    go_enter Try.func72, Try.ntmps72
    go_wp2
    go_ret
    rw [HV.out]
    exact ⟨rfl, rfl⟩

/-- Less than 0, or few. -/
def Few (n : Nat) (ss : List TList) (left : Int) (w : World) (e : Ending) (w' : World) : Prop :=
  ∃ r : Int, e = .returned (.int .i64 r) ∧ w = w' ∧ (r = -1 ∨ (0 ≤ r ∧ (n : Int) + tot ss ≤ left))

set_option maxHeartbeats 1600000 in
theorem szTimerSS_any (A : Option Addr) (n cap : Nat) (ss : List TList) (B : Nat) (left : Int) (w : World) (hr : IsSlots w B A n ss) (hn : n ≤ maxLen) (hm : ∀ j, (ss.getD j []).length ≤ maxLen) (h0 : 0 ≤ left) (h1 : left ≤ 1048576) :
    Calls Try.prog 59 #[.slice A n cap, .int .i64 left] w (Few n ss left w) := by
  have HLen : Hid (ss.length = n) := hr.1
  have HM := Lib.hid hm
  clear hm
  have hn' := hn
  unfold maxLen at hn'
  by_cases h : left < n
  · have hl : left - n < 0 := by omega
    go_enter Try.func59, Try.ntmps59
    go_wp2
    go_ret
    exact ⟨-1, rfl, rfl, .inl rfl⟩
  · have hl : ¬ left - n < 0 := by omega
    go_enter Try.func59, Try.ntmps59
    go_wp2_with fail
    go_loop [1, 5] (fun l i => ∃ (k : Nat) (x : Int), k ≤ n ∧ i = .int .i64 k ∧ l = .int .i64 x ∧ 0 ≤ x ∧ x ≤ 1048576 ∧ Hid (x = left - n - tot (ss.take k))) (fun _ i => n - (intOf i).toNat)
    case atStart => exact ⟨0, _, Nat.zero_le _, rfl, rfl, by omega, by omega, by simp [Hid, tot]⟩
    case round =>
      obtain ⟨k, x, hk, rfl, rfl, hx0, hx1, HX⟩ := hrel
      by_cases hlt : k < n
      · obtain ⟨b, off, A1, n1, c1, rfl, hbB, hc1, hT1⟩ := hr.at_ hlt
        have hn1 : n1 ≤ maxLen := by rw [← hT1.1]; exact HM.out k
        have HN1 : Hid ((ss.getD k []).length = n1) := hT1.1
        clear hT1
        by_cases hs : x < n1
        · have HV : Hid (szV n1 x = -1) := if_pos hs
          go_wp2_with (go_at_call 72; refine (szTimerS_any _ _ _ _ _ hn1 hx0 hx1).mono ?_; rintro e w' ⟨rfl, rfl⟩; rw [HV.out])
          go_ret
          exact ⟨-1, rfl, rfl, .inl rfl⟩
        · have HV : Hid (szV n1 x = x - n1) := if_neg hs
          have hge : ¬ x - n1 < 0 := by omega
          go_wp2_with (go_at_call 72; refine (szTimerS_any _ _ _ _ _ hn1 hx0 hx1).mono ?_; rintro e w' ⟨rfl, rfl⟩; rw [HV.out])
          go_round
          case rel =>
            refine ⟨k + 1, _, by omega, by go_num, rfl, by omega, by omega, ?_⟩
            show _ = _
            rw [tot_take ss k (by rw [HLen.out]; exact hlt), HN1.out, HX.out]
            omega
          case measure => simp [intOf]; omega
      · go_wp2
        go_ret
        refine ⟨x, rfl, rfl, .inr ⟨hx0, ?_⟩⟩
        have h2 := HX.out
        rw [List.take_of_length_le (by rw [HLen.out]; omega)] at h2
        omega

set_option maxHeartbeats 800000 in
theorem szWheel_any (now : Int) (A : Option Addr) (n cap : Nat) (ss : List TList) (B : Nat) (w : World) (hr : IsSlots w B A n ss) (hB : B ≤ w.heap.size) (hn : n ≤ maxLen) (hm : ∀ j, (ss.getD j []).length ≤ maxLen) :
    Calls Try.prog 26 #[.agg #[.int .i64 now, .slice A n cap], .int .i64 1048576] w fun e w' => ∃ r : Int, e = .returned (.int .i64 r) ∧ Below w.heap.size w w' ∧ (r = -1 ∨ (0 ≤ r ∧ n + tot ss ≤ 1048576)) := by
  have HR := Lib.hid hr
  have HM := Lib.hid hm
  clear hr hm
  go_enter Try.func26, Try.ntmps26
  go_wp2_with fail
  refine (szTimerSS_any A n cap ss B 1048576 _ (HR.out.below (below_a1 _ _) hB) hn HM.out (by omega) (by omega)).mono ?_
  rintro e w4 ⟨r, rfl, rfl, hr⟩
  rcases hr with rfl | ⟨h0, h1⟩
  · go_wp2
    go_ret
    exact ⟨-1, rfl, below_a1 _ _, .inl rfl⟩
  · have hnl : ¬ r < 0 := by omega
    have H1 := Lib.hid h1
    clear h1
    go_wp2
    go_ret
    exact ⟨r, rfl, below_a1 _ _, .inr ⟨h0, by have := H1.out; omega⟩⟩
end Go.Proofs.Ythaecnemalpliaa.Timers
