/-
  CONTRACTS of slices.Clone at lists of timers and at slots, and of sameWheel, over this seat's translation: a copy in memory of its own; nothing that was there has turned.
-/
import Derived.Test.YtpghccbknlokcaaSlotOps
import Derived.Test.YtpghccbknlokcaaWheelNew
import Derived.Deep.Slices
import Derived.Lib.SliceRun
namespace Go.Proofs.Ytpghccbknlokcaa.Timers
open Go.ChangeShapes Go.WideShapes Go.ChangeAt Go.RowKit
set_option linter.unusedVariables false

theorem add_none (b off i : Nat) : (⟨b, off, none⟩ : Addr).add i = ⟨b, off + i, none⟩ := by
  unfold Addr.add
  split
  · subst_vars; rfl
  · rfl
theorem timers_cells {w : World} {B : Nat} {p : Addr} {n : Nat} {ts : TList} (h : IsTimers w B (some p) n ts) : ∀ j u, (flat ts)[j]? = some u → w.cell? (p.add j) = some u := by
  intro j u hu
  have hl : j < (flat ts).length := (List.getElem?_eq_some_iff.1 hu).1
  rw [flat_len, h.1] at hl
  obtain ⟨b, off, e, _, hc⟩ := h.2 (by omega)
  injection e with e
  subst e
  rw [add_none]
  have hj2 : j / 2 < n := by omega
  have hf := flat_at ts (j / 2) (by rw [h.1]; exact hj2)
  have hcc := hc (j / 2) hj2
  rcases Nat.mod_two_eq_zero_or_one j with h0 | h0
  · have e1 : j / 2 * 2 = j := by omega
    rw [e1] at hf hcc
    rw [← hu, hf.1]
    exact hcc.1
  · have e1 : j / 2 * 2 + 1 = j := by omega
    have e2 : off + j = off + j / 2 * 2 + 1 := by omega
    rw [e1] at hf
    rw [← hu, hf.2, e2]
    exact hcc.2
theorem flat_one (ts : TList) : ∀ u ∈ flat ts, u.oneCell' = true := by
  intro u hu
  obtain ⟨t, _, ht⟩ := List.mem_flatMap.1 hu
  simp at ht
  rcases ht with rfl | rfl <;> rfl
theorem own_slice' {w : World} {base : Nat} {e : TypeId} {size : Nat} {v : Value} {n : Nat} {xs : List Value} (h : w.ownsRow base e size v n xs) : ∃ A c, v = .slice A n c := by
  rcases h.2 with ⟨rfl, rfl⟩ | ⟨g, cap, cur, rfl, _⟩
  · exact ⟨none, 0, rfl⟩
  · exact ⟨_, cap, rfl⟩

/-- What a clone of a list of timers leaves. -/
def ClonedT (w : World) (ts : TList) (e : Ending) (w' : World) : Prop :=
  ∃ A' c', e = .returned (.slice A' ts.length c') ∧ OwnT w' w.heap.size w'.heap.size A' ts.length c' ts ∧ Below w.heap.size w w'

set_option maxRecDepth 100000 in
set_option maxHeartbeats 800000 in
theorem cloneT_any (A : Option Addr) (n c : Nat) (ts : TList) (B : Nat) (w : World) (hr : IsTimers w B A n ts) (hB : B ≤ w.heap.size) (hn : n ≤ 1048576) :
    Calls Try.prog 98 #[.slice A n c] w (ClonedT w ts) := by
  have hq : ∀ (w : World) (a : Option Addr) (n c n' c' : Nat), (binOp .eql 96 (.slice a n c) (.slice none n' c')).run Try.prog w = .ok (.bool a.isNone) w := fun w a n c n' c' => Lib.run_eql_slice_nil w _ _ a n c n' c' Try.underlying96
  have HLen : Hid (ts.length = n) := hr.1
  cases A with
  | none =>
    have hn0 : n = 0 := by
      rcases Nat.eq_zero_or_pos n with h | h
      · exact h
      · obtain ⟨b, off, e, _⟩ := hr.2 h; cases e
    have HN := Lib.hid hn0
    clear hn0 hr
    go_enter Try.func98, Try.ntmps98
    go_wp2
    go_ret
    have ht : ts = [] := List.eq_nil_of_length_eq_zero (by rw [HLen.out]; exact HN.out)
    subst ht
    exact ⟨none, 0, rfl, OwnT.nil _ _ _, Below.refl _ _⟩
  | some p =>
    obtain ⟨i0, hi0, hz0, hz1, hz2⟩ := info_parts info68
    have HC := Lib.hid (timers_cells (hr.below (below_a1 w (.cells #[] 98)) hB))
    clear hr
    go_enter Try.func98, Try.ntmps98
    go_wp2_with (at_builtin; refine wpList_append_own _ rfl (.tmp 5) (.tmp 6) _ rfl w.heap.size 98 i0 _ 2 16 Try.underlying96 hi0 hz0 hz1 hz2 rfl (by omega) (.slice (some ⟨w.heap.size, 0, none⟩) 0 0) 0 [] rfl ?o1 p n c (flat ts) rfl ?o0 ?o2 ?o3 ?o4 ?o5 ?o6 ?_)
    case o1 => exact World.ownsRow_lit (base := w.heap.size) (e := 98) (size := 2) w #[] 0 (Nat.le_refl _) (Nat.zero_le _) rfl
    case o0 => rw [flat_len, HLen.out]
    case o2 => exact HC.out
    case o3 => exact flat_one ts
    case o4 => unfold maxLen; omega
    case o5 => omega
    case o6 => simp
    intro v2 w2 hown2 hgr2 _
    obtain ⟨A', c', rfl⟩ := own_slice' hown2
    have HO := Lib.hid hown2
    have hb2 : Below w.heap.size w w2 := (below_a1 w _).grown hgr2 (by simp) (fun q hq => Nat.le_of_eq (by simpa [Value.ownBlock] using hq))
    clear hown2 hgr2
    go_wp2
    go_ret
    have hl := HLen.out
    refine ⟨A', c', by rw [hl]; rfl, ?_, hb2⟩
    rw [hl]
    refine ⟨hl, HO.out, fun q e => ?_⟩
    exact (HO.out.lt q.block (by rw [e]; rfl)).2

theorem slots_cells {w : World} {B : Nat} {p : Addr} {n : Nat} {ss : List TList} (h : IsSlots w B (some p) n ss) : ∃ vs : List Value, vs.length = n ∧ (∀ j u, vs[j]? = some u → w.cell? (p.add j) = some u) ∧
    (∀ u ∈ vs, u.oneCell' = true) ∧ ∀ j, j < n → ∃ A' c', vs[j]? = some (.slice A' (ss.getD j []).length c') ∧ IsTimers w B A' (ss.getD j []).length (ss.getD j []) := by
  rcases Nat.eq_zero_or_pos n with hn | hn
  · subst hn
    exact ⟨[], rfl, fun j u hu => by simp at hu, fun u hu => by simp at hu, fun j hj => absurd hj (by omega)⟩
  · obtain ⟨b, off, e, hb, hc⟩ := h.2 hn
    injection e with e
    subst e
    have hc' : ∀ j, j < n → ∃ v : Value, ∃ A' n' c', v = .slice A' n' c' ∧ w.cell? ⟨b, off + j, none⟩ = some v ∧ IsTimers w B A' n' (ss.getD j []) := by
      intro j hj
      obtain ⟨A', n', c', h1, h2⟩ := hc j hj
      exact ⟨_, A', n', c', rfl, h1, h2⟩
    obtain ⟨f, hf⟩ := Go.Deep.choose_lt hc'
    have hget : ∀ j, j < n → ((List.range n).map f)[j]? = some (f j) := fun j hj => by simp [hj]
    refine ⟨(List.range n).map f, by simp, fun j u hu => ?_, fun u hu => ?_, fun j hj => ?_⟩
    · have hj : j < n := by have := (List.getElem?_eq_some_iff.1 hu).1; simpa using this
      rw [hget j hj] at hu
      injection hu with hu
      subst hu
      rw [add_none]
      obtain ⟨A', n', c', _, h2, _⟩ := hf j hj
      exact h2
    · obtain ⟨j, hj, rfl⟩ := List.mem_map.1 hu
      obtain ⟨A', n', c', h1, _⟩ := hf j (by simpa using hj)
      rw [h1]; rfl
    · obtain ⟨A', n', c', h1, h2, h3⟩ := hf j hj
      have hl : (ss.getD j []).length = n' := h3.1
      refine ⟨A', c', ?_, by rw [hl]; exact h3⟩
      rw [hget j hj, h1, hl]

/-- What a clone of slots leaves: new slots that hold the same slices. -/
def ClonedS (w : World) (B n : Nat) (ss : List TList) (e : Ending) (w' : World) : Prop :=
  ∃ A' c' vs, e = .returned (.slice A' n c') ∧ w'.ownsRow w.heap.size 96 1 (.slice A' n c') n vs ∧ Below w.heap.size w w' ∧
    ∀ j, j < n → ∃ A1 c1, vs[j]? = some (.slice A1 (ss.getD j []).length c1) ∧ IsTimers w B A1 (ss.getD j []).length (ss.getD j [])

set_option maxRecDepth 100000 in
set_option maxHeartbeats 800000 in
theorem cloneS_any (A : Option Addr) (n c : Nat) (ss : List TList) (B : Nat) (w : World) (hr : IsSlots w B A n ss) (hB : B ≤ w.heap.size) (hn : n ≤ 1048576) :
    Calls Try.prog 97 #[.slice A n c] w (ClonedS w B n ss) := by
  have hq : ∀ (w : World) (a : Option Addr) (n c n' c' : Nat), (binOp .eql 24 (.slice a n c) (.slice none n' c')).run Try.prog w = .ok (.bool a.isNone) w := fun w a n c n' c' => Lib.run_eql_slice_nil w _ _ a n c n' c' Try.underlying24
  cases A with
  | none =>
    have hn0 : n = 0 := by
      rcases Nat.eq_zero_or_pos n with h | h
      · exact h
      · obtain ⟨b, off, e, _⟩ := hr.2 h; cases e
    have HN := Lib.hid hn0
    clear hn0 hr
    go_enter Try.func97, Try.ntmps97
    go_wp2
    go_ret
    have h0 := HN.out
    subst h0
    exact ⟨none, 0, [], rfl, World.ownsRow_nil _ _ _ _, Below.refl _ _, fun j hj => absurd hj (by omega)⟩
  | some p =>
    obtain ⟨i0, hi0, hz0, hz1, hz2⟩ := info_parts info66
    obtain ⟨vs, hvl, hvc, hv1, hvj⟩ := slots_cells hr
    have HVL := Lib.hid hvl
    have HV1 := Lib.hid hv1
    have HVJ := Lib.hid hvj
    have HVC := Lib.hid (show ∀ j u, vs[j]? = some u → (w.alloc (.cells #[] 96)).cell? (p.add j) = some u from fun j u hu => below_keep (below_a1 w _) (hvc j u hu))
    clear hr hvl hvc hv1 hvj
    go_enter Try.func97, Try.ntmps97
    go_wp2_with (at_builtin; refine wpList_append_own _ rfl (.tmp 5) (.tmp 6) _ rfl w.heap.size 96 i0 _ 1 24 Try.underlying24 hi0 hz0 hz1 hz2 rfl (by omega) (.slice (some ⟨w.heap.size, 0, none⟩) 0 0) 0 [] rfl ?o1 p n c vs rfl ?o0 ?o2 ?o3 ?o4 ?o5 ?o6 ?_)
    case o1 => exact World.ownsRow_lit (base := w.heap.size) (e := 96) (size := 1) w #[] 0 (Nat.le_refl _) (Nat.zero_le _) rfl
    case o0 => rw [HVL.out, Nat.mul_one]
    case o2 => exact HVC.out
    case o3 => exact HV1.out
    case o4 => unfold maxLen; omega
    case o5 => omega
    case o6 => simp
    intro v2 w2 hown2 hgr2 _
    obtain ⟨A', c', rfl⟩ := own_slice' hown2
    have HO := Lib.hid hown2
    have hb2 : Below w.heap.size w w2 := (below_a1 w _).grown hgr2 (by simp) (fun q hq => Nat.le_of_eq (by simpa [Value.ownBlock] using hq))
    clear hown2 hgr2
    go_wp2
    go_ret
    exact ⟨A', c', vs, rfl, HO.out, hb2, HVJ.out⟩

set_option maxRecDepth 100000 in
set_option maxHeartbeats 1600000 in
theorem sameWheel_any (now : Int) (A : Option Addr) (n c : Nat) (ss : List TList) (B : Nat) (w : World) (hr : IsSlots w B A n ss) (hB : B ≤ w.heap.size) (hn : n ≤ 1048576) (hm : ∀ j, (ss.getD j []).length ≤ 1048576) :
    Calls Try.prog 47 #[.agg #[.int .i64 now, .slice A n c]] w (CopiedW w now ss) := by
  have HL : Hid (ss.length = n) := hr.1
  have HM := Lib.hid hm
  have HR := Lib.hid hr
  clear hm hr
  go_enter Try.func47, Try.ntmps47
  go_wp2_with fail
  refine (cloneS_any A n c ss B _ (HR.out.below (below_a2 _ _ _) hB) (by simp; omega) hn).mono ?_
  rintro e w1 ⟨A', c', vs, rfl, hrow, hb1, hvj⟩
  have hb01 : Below w.heap.size w w1 := (below_a2 _ _ _).trans (hb1.mono (by simp; omega))
  have hblk0 : w1.heap[w.heap.size]? = some (.cells #[.int .i64 now, .slice A n c] 26 (0, 0)) := by
    rw [hb1.block _ (by simp; omega), Below.heap_alloc _ _ _ (by simp)]
    exact heap_alloc_new w _
  have hblk1 : w1.heap[w.heap.size + 1]? = some (.cells #[.int .i64 0, .slice none 0 0] 26 (0, 0)) := by
    rw [hb1.block _ (by simp)]
    have h5 := heap_alloc_new (w.alloc (.cells #[.int .i64 now, .slice A n c] 26)) (.cells #[.int .i64 0, .slice none 0 0] 26)
    simpa using h5
  have hrow' : w1.ownsRow (w.heap.size + 1 + 1) 96 1 (.slice A' n c') n vs := by simpa using hrow
  have HROW := Lib.hid hrow'
  have HVJ := Lib.hid hvj
  have HB0 := Lib.hid hblk0
  have HB1 := Lib.hid hblk1
  have hs1 : w.heap.size + 1 + 1 ≤ w1.heap.size := by have := hb1.size; simp at this; omega
  clear hrow hrow' hvj hblk0 hblk1
  have fin : ∀ (wr : World), OwnS wr (w.heap.size + 1 + 1) wr.heap.size A' n c' ss → Below (w.heap.size + 1 + 1) w1 wr → CopiedW w now ss (.returned (.agg #[.int .i64 now, .slice A' n c'])) ((wr.setCell ⟨w.heap.size + 1, 0, none⟩ (.int .i64 now)).setCell ⟨w.heap.size + 1, 1, none⟩ (.slice A' n c')) := by
    intro wr hO hb
    refine ⟨A', c', by rw [HL.out], ?_, ?_⟩
    · have h1 := (hO.setLow (p := ⟨w.heap.size + 1, 0, none⟩) (by show w.heap.size + 1 < _; omega) (.int .i64 now)).setLow (p := ⟨w.heap.size + 1, 1, none⟩) (by show w.heap.size + 1 < _; omega) (.slice A' n c')
      rw [HL.out]
      refine (h1.base (by omega)).more ?_
      simp [World.setCell]
    · exact ((hb01.trans (hb.mono (by omega))).setCell (p := ⟨w.heap.size + 1, 0, none⟩) (by show _ ≤ w.heap.size + 1; omega) _).setCell (p := ⟨w.heap.size + 1, 1, none⟩) (by show _ ≤ w.heap.size + 1; omega) _
  have FIN := Lib.hid fin
  clear fin
  rcases Nat.eq_zero_or_pos n with h0 | h0
  · have HN := Lib.hid h0
    have hz : ¬ (0 : Nat) < n := by omega
    obtain ⟨c0, c1, f0, f1⟩ := blk2 HB0.out
    obtain ⟨d0, d1, g0, g1⟩ := blk2 HB1.out
    clear h0
    go_wp2_with fail
    go_loop [11] (fun i => i = .int .i64 (0 : Int)) (fun _ => 0)
    case atStart => rfl
    case round =>
      obtain rfl := hrel
      go_wp2
      refine bodyPost_ret (v := .agg #[.int .i64 now, .slice A' n c']) (by simp [results, Try.results47, go_sem, d0, d1]) rfl (FIN.out w1 ?_ (Below.refl _ _))
      have h5 := HN.out
      subst h5
      have hss : ss = [] := List.eq_nil_of_length_eq_zero HL.out
      rw [hss]
      exact OwnS.none _ _ _ _ _
  · obtain ⟨g, cap, hv, hbg, hgl⟩ := HROW.out.form h0
    obtain rfl : A' = some ⟨g, 0, none⟩ := by injection hv
    have hP0 : OwnP w1 (w.heap.size + 1 + 1) w1.heap.size g n c' ss (fun j => vs.getD j undef) 0 := by
      refine ⟨HL.out, hgl, vs, HROW.out, fun j hj => absurd hj (by omega), fun j _ hj => ?_, fun i j u v _ hj => absurd hj (by omega)⟩
      have hvl : vs.length = n := by have := HROW.out.1; omega
      rw [List.getElem?_eq_getElem (by omega)]
      simp [List.getD, show j < vs.length by omega]
    clear hv
    go_wp2_with fail
    go_loopw [11] (fun i wr => ∃ k : Nat, k ≤ n ∧ i = .int .i64 k ∧ OwnP wr (w.heap.size + 1 + 1) wr.heap.size g n c' ss (fun j => vs.getD j undef) k ∧ Below (w.heap.size + 1 + 1) w1 wr) (fun i _ => n - (intOf i).toNat)
    case atStart => exact ⟨0, Nat.zero_le _, rfl, hP0, Below.refl _ _⟩
    case round =>
      obtain ⟨k, hk, rfl, hPk, hbr⟩ := hrel
      by_cases hlt : k < n
      · obtain ⟨A1, c1, hv1, hT1⟩ := HVJ.out k hlt
        have hHk : vs.getD k undef = .slice A1 (ss.getD k []).length c1 := by rw [List.getD_eq_getElem?_getD, hv1]; rfl
        obtain ⟨hck, hfk⟩ := hPk.cell hlt
        simp only [hHk] at hck
        have hT2 : IsTimers wr B A1 (ss.getD k []).length (ss.getD k []) := (hT1.below hb1 (by simp; omega)).below hbr (by omega)
        obtain ⟨m, hm⟩ : ∃ m, m = (ss.getD k []).length := ⟨_, rfl⟩
        have hm1 : m ≤ 1048576 := by rw [hm]; exact HM.out k
        rw [← hm] at hck hT2
        have HMM := Lib.hid hm
        have HT2 := Lib.hid hT2
        have HP := Lib.hid hPk
        have hsz := hbr.size
        clear hHk hm hT1 hT2 hPk hv1
        go_wp2_with fail
        refine (cloneT_any A1 m c1 (ss.getD k []) B _ HT2.out (by omega) hm1).mono ?_
        rintro e w3 ⟨A3, c3, rfl, hO3, hb3⟩
        rw [← HMM.out] at hO3 ⊢
        have hP3 := HP.out.below hb3
        obtain ⟨hc3, hf3⟩ := hP3.cell hlt
        have hN := hP3.next hlt (hO3.base (by omega)) (fun p hp => (hO3.blk p.block (by rw [hp]; rfl)).1) hb3.size
        have HN := Lib.hid hN
        have hb03 : Below (w.heap.size + 1 + 1) w1 w3 := hbr.trans (hb3.mono (by omega))
        clear hN hP3 hO3
        go_wp2
        go_roundw
        case rel =>
          refine ⟨k + 1, by omega, by go_num, ?_, hb03.setCell (p := ⟨g, k, none⟩) hbg _⟩
          have h5 : (w3.setCell ⟨g, k, none⟩ (.slice A3 m c3)).heap.size = w3.heap.size := by simp [World.setCell]
          rw [h5]
          exact HN.out
        case measure => simp [intOf]; omega
      · have HK : Hid (k = n) := (by omega : k = n)
        obtain ⟨c0, c1, f0, f1⟩ := blk2 ((hbr.block w.heap.size (by omega)).trans HB0.out)
        obtain ⟨d0, d1, g0, g1⟩ := blk2 ((hbr.block (w.heap.size + 1) (by omega)).trans HB1.out)
        have HP := Lib.hid hPk
        clear hPk
        go_wp2
        refine bodyPost_ret (v := .agg #[.int .i64 now, .slice (some ⟨g, 0, none⟩) n c']) (by simp [results, Try.results47, go_sem, d0, d1]) rfl (FIN.out _ ?_ hbr)
        have h5 := HP.out
        rw [HK.out] at h5
        exact h5.all
end Go.Proofs.Ytpghccbknlokcaa.Timers
