import Derived.Deep.Cut
import Derived.Deep.DeepCutAuto
import Derived.Deep.RegionHeld3
import Derived.IntWalk
import Derived.Laws.Tables
import Derived.Lib.Hide
import Derived.LoopIn
import Derived.LoopNIn
import Derived.OwnWalkIn
import Derived.RangeFuncBound
import Derived.RangeFuncCalls
import Derived.RangeFuncLeaves
import Derived.RangeFuncNested
import Derived.Shelf.Abstract
import Derived.Shelf.RegionOpen
import Derived.TacticsInMore
import Derived.WalkKit
import Derived.Test.YtklgjjmcflgjeaaGreatR00
import Derived.Test.YtklgjjmcflgjeaaGreatR01
set_option linter.unusedVariables false
set_option linter.unusedSimpArgs false
namespace Go.Proofs.YtklgjjmcflgjeaaGreat.Each
open Go.ChangeShapes Go.WideShapes Go.ChangeAt Go.RowKit Go.Shelf
open LK Ints
attribute [local go_sem] Oper.semAt_some
set_option maxHeartbeats 1000000 in
theorem eachI_in (F : Fence) (n : Nat) (h5 : F.fn 311) (hro : F.round = none) (A : Option Addr) (m c : Nat) (w : World) :
    CallsIn F n Tryz.prog 311 #[.slice A m c] w fun e w' => e = .returned (.func (.func 316) #[] #[.pointer (some ⟨w.heap.size, 0, none⟩)]) ∧ w' = w.alloc (.cells #[.slice A m c] 38) := by
  refine callsIn_of_wp Tryz.func311 rfl h5 ?_ hro
  simp only [Tryz.ntmps311, List.size_toArray, List.length_cons, List.length_nil, Nat.reduceAdd, Nat.reduceSub, Array.replicate_succ, Array.replicate_zero, List.push_toArray, List.append_toArray, List.nil_append, List.cons_append]
  gi_wp2
  go_ret
  exact ⟨rfl, rfl⟩
theorem take_step (zs : List Int) (k : Nat) (h : k < zs.length) : zs.take k ++ [zs.getD k 0] = zs.take (k + 1) := by
  rw [List.take_succ_eq_append_getElem h]
  simp [List.getD, h]
set_option maxRecDepth 100000 in
set_option maxHeartbeats 2000000 in
theorem eachI1_in (F : Fence) (n : Nat) (h6 : F.fn 316) (hro : F.round = none) (hn : 1 ≤ n) (l Bn n₀ : Nat) (A : Option Addr) (m c : Nat) (zs : List Int) (hm : m ≤ 1048576) (J Jx : List Int → World → Prop)
    (hY : ∀ pre x W, J pre W → pre.length < m → YieldAt F (n - 1) Tryz.prog l #[.int .i64 x] W fun e W' =>
      (e = .returned (.bool true) ∧ J (pre ++ [x]) W' ∧ Below n₀ W W') ∨ (e = .returned (.bool false) ∧ Jx (pre ++ [x]) W'))
    (W : World) (hBn : W.cell? ⟨Bn, 0, none⟩ = some (.slice A m c)) (hL : IsInts W n₀ A m zs) (h0 : J [] W) :
    CallsIn F n Tryz.prog 316 #[.func (.yield l) #[] #[], .pointer (some ⟨Bn, 0, none⟩)] W fun e W' => (∃ v, e = .returned v) ∧
      ((∃ ys, ys = zs ∧ J ys W') ∨ (∃ pre, pre <+: zs ∧ Jx pre W')) := by
  have HL := Lib.hid hL
  have HN : Hid (zs.length = m) := hL.1
  have HY := Lib.hid hY
  clear hY hL
  refine callsIn_of_wp Tryz.func316 rfl h6 ?_ hro
  simp only [Tryz.ntmps316, List.size_toArray, List.length_cons, List.length_nil, Nat.reduceAdd, Nat.reduceSub, Array.replicate_succ, Array.replicate_zero, List.push_toArray, List.append_toArray, List.nil_append, List.cons_append]
  gi_wp2
  gi_loopw [7] (fun v7 wr => ∃ k : Nat, k ≤ m ∧ v7 = .int .i64 k ∧ J (zs.take k) wr ∧ Below n₀ W wr) (fun v7 _ => m - (RowKit.intOf v7).toNat)
  case atStart => exact ⟨0, by omega, rfl, by simpa using h0, Below.refl _ _⟩
  case round =>
    obtain ⟨k, hk, rfl, hJk, hbr⟩ := hrel
    by_cases hlt : k < m
    · have hd : decide ((k : Int) < (m : Int)) = true := decide_eq_true (by omega)
      obtain ⟨b, off, z, rfl, hbB, hz, hc⟩ := (HL.out.below hbr (Nat.le_refl _)).at_ hlt
      have hks : k < zs.length := by rw [HN.out]; exact hlt
      obtain ⟨fn, tmps, assign, body, hy, hR⟩ := HY.out _ z wr hJk (by rw [List.length_take]; omega)
      have hnx : zs.take k ++ [z] = zs.take (k + 1) := by rw [hz]; exact take_step zs k hks
      have hpx : zs.take (k + 1) <+: zs := List.take_prefix _ _
      rw [hnx] at hR
      have HRR := Lib.hid hR
      have HP := Lib.hid hpx
      clear hz hnx hR hJk hpx
      gi_wp2
      refine HRR.out.mono ?_
      rintro e W3 (⟨rfl, hJ3, hk3⟩ | ⟨rfl, hJx3⟩)
      · have hb3 : Below n₀ W W3 := hbr.trans hk3
        have HJ3 := Lib.hid hJ3
        clear hJ3 hk3
        gi_wp2
        go_roundw
        case rel => exact ⟨k + 1, by omega, by go_num, HJ3.out, hb3⟩
        case measure => simp [RowKit.intOf]; omega
      · have HJX := Lib.hid hJx3
        clear hJx3
        gi_wp2
        refine bodyPost_ret (results_none rfl _ _ _) rfl ?_
        exact ⟨⟨_, rfl⟩, .inr ⟨_, HP.out, HJX.out⟩⟩
    · have hd : decide ((k : Int) < (m : Int)) = false := decide_eq_false (by omega)
      have HK : Hid (k = m) := (by omega : k = m)
      gi_wp2
      go_end0
      refine ⟨⟨_, rfl⟩, .inl ⟨_, rfl, ?_⟩⟩
      rw [HK.out, ← HN.out, List.take_length] at hJk
      exact hJk
theorem eachI_stops (F : Fence) (n : Nat) (h6 : F.fn 316) (hro : F.round = none) (hn : 1 ≤ n) (Bn n₀ : Nat) (A : Option Addr) (m c : Nat) (zs : List Int) (w : World) (hm : m ≤ 1048576)
    (hBn : Bn < w.heap.size) (hn₀ : n₀ ≤ w.heap.size) (hc : w.cell? ⟨Bn, 0, none⟩ = some (.slice A m c)) (hL : IsInts w n₀ A m zs) :
    SeqStopsK F n Tryz.prog 316 #[.pointer (some ⟨Bn, 0, none⟩)] (fun x : Int => #[.int .i64 x]) (Below n₀) (fun ys => ys = zs) (fun pre => pre <+: zs) m w := fun l J Jx W hW hJ _ hY h0 =>
  eachI1_in F n h6 hro hn l Bn n₀ A m c zs hm J Jx hY W ((hW.cell (p := ⟨Bn, 0, none⟩) hBn).trans hc) (hL.below (hW.mono hn₀) (Nat.le_refl _)) h0
theorem blk1 {w : World} {g : Nat} {a : Value} {t : TypeId} (h : w.heap[g]? = some (.cells #[a] t (0, 0))) : w.cell? ⟨g, 0, none⟩ = some a ∧ w.frozen? ⟨g, 0, none⟩ = false := by
  constructor <;> simp [World.cell?, World.frozen?, h]
theorem box1_new (W : World) (v : Value) (t : TypeId) : (W.alloc (.cells #[v] t)).cell? ⟨W.heap.size, 0, none⟩ = some v ∧ (W.alloc (.cells #[v] t)).frozen? ⟨W.heap.size, 0, none⟩ = false := by
  exact blk1 (heap_alloc_new W (.cells #[v] t))
theorem box1_alloc {W : World} {p : Addr} {v : Value} (o : Obj) (h : W.cell? p = some v ∧ W.frozen? p = false) : (W.alloc o).cell? p = some v ∧ (W.alloc o).frozen? p = false :=
  ⟨cell_kept h.1 (World.grownBy_alloc W o none) (fun r e => by cases e), (frozen_kept h.1 (World.grownBy_alloc W o none) (fun r e => by cases e)).trans h.2⟩
set_option maxRecDepth 100000 in
set_option maxHeartbeats 2000000 in
theorem greatestOf_any (a : Int) (A : Option Addr) (m c : Nat) (zs : List Int) (B : Nat) (w : World) (hL : IsInts w B A m zs) (hB : B ≤ w.heap.size) (hm : m ≤ 1048576) :
    Calls Tryz.prog 312 #[.int .i64 a, .slice A m c] w (Says (.int .i64 (zs.foldl max a)) w) := by
  have HL := Lib.hid hL
  clear hL
  refine (callsIn_wide (n := 6)).1 ?_
  refine callsIn_of_wp_marks Tryz.func312 rfl trivial ?_ rfl
  simp only [Tryz.ntmps312, List.size_toArray, List.length_cons, List.length_nil, Nat.reduceAdd, Nat.reduceSub, Array.replicate_succ, Array.replicate_zero, List.push_toArray, List.append_toArray, List.nil_append, List.cons_append]
  gi_wp2_with (refine ⟨trivial, ?_⟩; gi_at_call 311; refine (eachI_in Fence.wide _ trivial rfl _ _ _ _).mono ?_; rintro e w' ⟨rfl, rfl⟩)
  have hs := box1_new w (.int .i64 a) 3
  have hb := box1_new (w.alloc (.cells #[.int .i64 a] 3)) (.slice A m c) 38
  rw [World.size_alloc] at hb
  have hB0 : Below w.heap.size w ((w.alloc (.cells #[.int .i64 a] 3)).alloc (.cells #[.slice A m c] 38)) := bel2 _ _ _
  refine wpIn_rangeFunc_ownF rfl (by omega) (gf := 316) (lb := #[.pointer (some ⟨w.heap.size + 1, 0, none⟩)]) rfl trivial (enters_of Tryz.func316 (by kernel_rfl) rfl)
    (eachI_stops Fence.wide _ trivial rfl (by omega) (w.heap.size + 1) w.heap.size A m c zs _ hm (by simp) (by simp; omega) hb.1 ((HL.out.more hB).below hB0 (Nat.le_refl _))) belowK_t (belowK_b (by simp; omega)) (Below.refl _ _) (fun _ => rfl)
    (fun pre W => (W.cell? ⟨w.heap.size, 0, none⟩ = some (.int .i64 (pre.foldl max a)) ∧ W.frozen? ⟨w.heap.size, 0, none⟩ = false) ∧ Below w.heap.size w W)
    (fun _ _ _ => False)
    (OwnFrom.and (Own.from (fun s A B row hs hg hr => ⟨cell_kept hs.1 hg hr, (frozen_kept hs.1 hg hr).trans hs.2⟩) _) (ownFrom_below (Nat.le_refl _) (by simp; omega)))
    (fun _ _ _ _ _ hs _ _ => hs)
    ⟨box1_alloc _ hs, hB0⟩
    (fun x => { tmps := #[.int .i64 a, .slice A m c, .pointer (some ⟨w.heap.size, 0, none⟩), undef, .int .i64 0, .int .i64 x, .slice A m c, .func (.func 316) #[] #[.pointer (some ⟨w.heap.size + 1, 0, none⟩)], .int .i64 x, undef, undef, undef, undef], defers := [] }) ?assign ?body ?done ?stop
  case assign =>
    intro l x W K hK
    gi_wp2
    exact hK
  case body =>
    rintro l pre x W ⟨⟨hc, hf⟩, hB⟩ hlen
    obtain ⟨f, hf0⟩ : ∃ f, f = pre.foldl max a := ⟨_, rfl⟩
    have hfx : (pre ++ [x]).foldl max a = max f x := by rw [List.foldl_append, hf0]; rfl
    rw [← hf0] at hc
    have HFX := Lib.hid hfx
    clear hfx hf0
    by_cases hlt : f < x
    · have HV : Hid (max f x = x) := by show _ = _; omega
      gi_wp2
      exact ⟨KeepsOthers.setCell _ _ _, (Below.refl w.heap.size W).setCell (p := ⟨w.heap.size, 0, none⟩) (Nat.le_refl _) _, ⟨by rw [HFX.out, HV.out]; exact World.cell?_setCell_same' _ _ _ (by rw [hc]; rfl), by rw [World.frozen?_setCell]; exact hf⟩, hB.setCell (p := ⟨w.heap.size, 0, none⟩) (Nat.le_refl _) _⟩
    · have HV : Hid (max f x = f) := by show _ = _; omega
      gi_wp2
      exact ⟨KeepsOthers.setCell _ _ _, (Below.refl w.heap.size W).setCell (p := ⟨w.heap.size, 0, none⟩) (Nat.le_refl _) _, ⟨by rw [HFX.out, HV.out]; exact World.cell?_setCell_same' _ _ _ (by rw [hc]; rfl), by rw [World.frozen?_setCell]; exact hf⟩, hB.setCell (p := ⟨w.heap.size, 0, none⟩) (Nat.le_refl _) _⟩
  case done =>
    rintro D ys W hD rfl ⟨⟨hc, _⟩, hB⟩ hK
    gi_wp2
    refine ⟨by simp, .inl ⟨_, _, rfl, run_takeDeferred hK, ?_⟩⟩
    exact ⟨_, results_tmp rfl _ _ _, rfl, hB.trans (belowK_b (w := w) (Nat.le_refl _) W D _ _ (by simp at hD; omega) hK rfl rfl)⟩
  case stop =>
    rintro D c pre W _ _ h _
    exact h.elim
set_option maxRecDepth 100000 in
set_option maxHeartbeats 2000000 in
theorem leastOf_any (a : Int) (A : Option Addr) (m c : Nat) (zs : List Int) (B : Nat) (w : World) (hL : IsInts w B A m zs) (hB : B ≤ w.heap.size) (hm : m ≤ 1048576) :
    Calls Tryz.prog 296 #[.int .i64 a, .slice A m c] w (Says (.int .i64 (zs.foldl min a)) w) := by
  have HL := Lib.hid hL
  clear hL
  refine (callsIn_wide (n := 6)).1 ?_
  refine callsIn_of_wp_marks Tryz.func296 rfl trivial ?_ rfl
  simp only [Tryz.ntmps296, List.size_toArray, List.length_cons, List.length_nil, Nat.reduceAdd, Nat.reduceSub, Array.replicate_succ, Array.replicate_zero, List.push_toArray, List.append_toArray, List.nil_append, List.cons_append]
  gi_wp2_with (refine ⟨trivial, ?_⟩; gi_at_call 311; refine (eachI_in Fence.wide _ trivial rfl _ _ _ _).mono ?_; rintro e w' ⟨rfl, rfl⟩)
  have hs := box1_new w (.int .i64 a) 3
  have hb := box1_new (w.alloc (.cells #[.int .i64 a] 3)) (.slice A m c) 38
  rw [World.size_alloc] at hb
  have hB0 : Below w.heap.size w ((w.alloc (.cells #[.int .i64 a] 3)).alloc (.cells #[.slice A m c] 38)) := bel2 _ _ _
  refine wpIn_rangeFunc_ownF rfl (by omega) (gf := 316) (lb := #[.pointer (some ⟨w.heap.size + 1, 0, none⟩)]) rfl trivial (enters_of Tryz.func316 (by kernel_rfl) rfl)
    (eachI_stops Fence.wide _ trivial rfl (by omega) (w.heap.size + 1) w.heap.size A m c zs _ hm (by simp) (by simp; omega) hb.1 ((HL.out.more hB).below hB0 (Nat.le_refl _))) belowK_t (belowK_b (by simp; omega)) (Below.refl _ _) (fun _ => rfl)
    (fun pre W => (W.cell? ⟨w.heap.size, 0, none⟩ = some (.int .i64 (pre.foldl min a)) ∧ W.frozen? ⟨w.heap.size, 0, none⟩ = false) ∧ Below w.heap.size w W)
    (fun _ _ _ => False)
    (OwnFrom.and (Own.from (fun s A B row hs hg hr => ⟨cell_kept hs.1 hg hr, (frozen_kept hs.1 hg hr).trans hs.2⟩) _) (ownFrom_below (Nat.le_refl _) (by simp; omega)))
    (fun _ _ _ _ _ hs _ _ => hs)
    ⟨box1_alloc _ hs, hB0⟩
    (fun x => { tmps := #[.int .i64 a, .slice A m c, .pointer (some ⟨w.heap.size, 0, none⟩), undef, .int .i64 0, .int .i64 x, .slice A m c, .func (.func 316) #[] #[.pointer (some ⟨w.heap.size + 1, 0, none⟩)], .int .i64 x, undef, undef, undef, undef], defers := [] }) ?assign ?body ?done ?stop
  case assign =>
    intro l x W K hK
    gi_wp2
    exact hK
  case body =>
    rintro l pre x W ⟨⟨hc, hf⟩, hB⟩ hlen
    obtain ⟨f, hf0⟩ : ∃ f, f = pre.foldl min a := ⟨_, rfl⟩
    have hfx : (pre ++ [x]).foldl min a = min f x := by rw [List.foldl_append, hf0]; rfl
    rw [← hf0] at hc
    have HFX := Lib.hid hfx
    clear hfx hf0
    by_cases hlt : x < f
    · have HV : Hid (min f x = x) := by show _ = _; omega
      gi_wp2
      exact ⟨KeepsOthers.setCell _ _ _, (Below.refl w.heap.size W).setCell (p := ⟨w.heap.size, 0, none⟩) (Nat.le_refl _) _, ⟨by rw [HFX.out, HV.out]; exact World.cell?_setCell_same' _ _ _ (by rw [hc]; rfl), by rw [World.frozen?_setCell]; exact hf⟩, hB.setCell (p := ⟨w.heap.size, 0, none⟩) (Nat.le_refl _) _⟩
    · have HV : Hid (min f x = f) := by show _ = _; omega
      gi_wp2
      exact ⟨KeepsOthers.setCell _ _ _, (Below.refl w.heap.size W).setCell (p := ⟨w.heap.size, 0, none⟩) (Nat.le_refl _) _, ⟨by rw [HFX.out, HV.out]; exact World.cell?_setCell_same' _ _ _ (by rw [hc]; rfl), by rw [World.frozen?_setCell]; exact hf⟩, hB.setCell (p := ⟨w.heap.size, 0, none⟩) (Nat.le_refl _) _⟩
  case done =>
    rintro D ys W hD rfl ⟨⟨hc, _⟩, hB⟩ hK
    gi_wp2
    refine ⟨by simp, .inl ⟨_, _, rfl, run_takeDeferred hK, ?_⟩⟩
    exact ⟨_, results_tmp rfl _ _ _, rfl, hB.trans (belowK_b (w := w) (Nat.le_refl _) W D _ _ (by simp at hD; omega) hK rfl rfl)⟩
  case stop =>
    rintro D c pre W _ _ h _
    exact h.elim
theorem ints_lit1 (W : World) (x : Int) : IsInts (W.alloc (.cells #[.int .i64 x] 3)) (W.heap.size + 1) (some ⟨W.heap.size, 0, none⟩) 1 [x] :=
  ⟨rfl, fun _ => ⟨W.heap.size, 0, rfl, by omega, fun j hj => by
    obtain rfl : j = 0 := by omega
    exact (box1_new W _ _).1⟩⟩
theorem ints_lit2 (W : World) (x y : Int) : IsInts (W.alloc (.cells #[.int .i64 x, .int .i64 y] 3)) (W.heap.size + 1) (some ⟨W.heap.size, 0, none⟩) 2 [x, y] :=
  ⟨rfl, fun _ => ⟨W.heap.size, 0, rfl, by omega, fun j hj => by
    have h := box_new W (.cells #[.int .i64 x, .int .i64 y] 3)
    match j, hj with
    | 0, _ => exact box_cell h 0 _ rfl
    | 1, _ => exact box_cell h 1 _ rfl⟩⟩
set_option maxHeartbeats 1600000 in
theorem above_any (x l d m : Int) (w : World) (hd : x - l = d) (hb : -1000000 ≤ d ∧ d ≤ 1000000) (hm : max 0 d = m) :
    Calls Tryz.prog 297 #[.int .i64 x, .int .i64 l] w (Says (.int .i64 m) w) := by
  have hw : IntKind.i64.wrap (x - l) = d := by rw [hd]; exact IntWalk.i64_in _ ⟨by omega, by omega⟩
  have HM := Lib.hid hm
  have HD := Lib.hid hd
  clear hm hd
  go_enter Tryz.func297, Tryz.ntmps297
  go_wp2_with fail
  (try rw [hw])
  refine (greatestOf_any 0 (some ⟨w.heap.size, 0, none⟩) 1 1 [d] (w.heap.size + 1) _ (ints_lit1 w d) (by simp) (by omega)).mono ?_
  rintro e w1 ⟨rfl, hb1⟩
  have HB : Hid (Below w.heap.size w w1) := bel_then (bel1 w _) hb1 (bel1 w (.cells #[.int .i64 d] 3)).size
  clear hb1
  go_wp2
  go_ret
  exact ⟨by rw [← HM.out]; rfl, HB.out⟩
end Go.Proofs.YtklgjjmcflgjeaaGreat.Each
namespace Go.Proofs.YtklgjjmcflgjeaaGreat.EachP
open Go.ChangeShapes Go.WideShapes Go.ChangeAt Go.RowKit Go.Shelf
open LK Pods
attribute [local go_sem] Oper.semAt_some
abbrev podA (p : Pd) : Value := .agg #[.int .i64 p.1, .int .i64 p.2.1, .int .i64 p.2.2.1, .int .i64 p.2.2.2.1, .int .i64 p.2.2.2.2]
set_option maxHeartbeats 1000000 in
theorem eachP_in (F : Fence) (n : Nat) (h5 : F.fn 304) (hro : F.round = none) (A : Option Addr) (m c : Nat) (w : World) :
    CallsIn F n Tryz.prog 304 #[.slice A m c] w fun e w' => e = .returned (.func (.func 314) #[] #[.pointer (some ⟨w.heap.size, 0, none⟩)]) ∧ w' = w.alloc (.cells #[.slice A m c] 32) := by
  refine callsIn_of_wp Tryz.func304 rfl h5 ?_ hro
  simp only [Tryz.ntmps304, List.size_toArray, List.length_cons, List.length_nil, Nat.reduceAdd, Nat.reduceSub, Array.replicate_succ, Array.replicate_zero, List.push_toArray, List.append_toArray, List.nil_append, List.cons_append]
  gi_wp2
  go_ret
  exact ⟨rfl, rfl⟩
theorem take_step (zs : PList) (k : Nat) (h : k < zs.length) : zs.take k ++ [zs.getD k z5] = zs.take (k + 1) := by
  rw [List.take_succ_eq_append_getElem h]
  simp [List.getD, h]
set_option maxRecDepth 100000 in
set_option maxHeartbeats 2000000 in
theorem eachP1_in (F : Fence) (n : Nat) (h6 : F.fn 314) (hro : F.round = none) (hn : 1 ≤ n) (l Bn n₀ : Nat) (A : Option Addr) (m c : Nat) (zs : PList) (hm : m ≤ 1048576) (J Jx : PList → World → Prop) (hJ : ∀ s W o, J s W → J s (W.alloc o))
    (hY : ∀ pre x W, J pre W → pre.length < m → YieldAt F (n - 1) Tryz.prog l #[podA x] W fun e W' =>
      (e = .returned (.bool true) ∧ J (pre ++ [x]) W' ∧ Below n₀ W W') ∨ (e = .returned (.bool false) ∧ Jx (pre ++ [x]) W'))
    (W : World) (hBn : W.cell? ⟨Bn, 0, none⟩ = some (.slice A m c)) (hL : IsPods W n₀ A m zs) (hn0 : n₀ ≤ W.heap.size) (h0 : J [] W) :
    CallsIn F n Tryz.prog 314 #[.func (.yield l) #[] #[], .pointer (some ⟨Bn, 0, none⟩)] W fun e W' => (∃ v, e = .returned v) ∧
      ((∃ ys, ys = zs ∧ J ys W') ∨ (∃ pre, pre <+: zs ∧ Jx pre W')) := by
  have HL := Lib.hid hL
  have HN : Hid (zs.length = m) := hL.1
  have HY := Lib.hid hY
  have HJ := Lib.hid hJ
  have HN0 := Lib.hid hn0
  clear hY hL hJ hn0
  refine callsIn_of_wp Tryz.func314 rfl h6 ?_ hro
  simp only [Tryz.ntmps314, List.size_toArray, List.length_cons, List.length_nil, Nat.reduceAdd, Nat.reduceSub, Array.replicate_succ, Array.replicate_zero, List.push_toArray, List.append_toArray, List.nil_append, List.cons_append]
  gi_wp2
  gi_loopw [7] (fun v7 wr => ∃ k : Nat, k ≤ m ∧ v7 = .int .i64 k ∧ J (zs.take k) wr ∧ Below n₀ W wr) (fun v7 _ => m - (RowKit.intOf v7).toNat)
  case atStart => exact ⟨0, by omega, rfl, by simpa using h0, Below.refl _ _⟩
  case round =>
    obtain ⟨k, hk, rfl, hJk, hbr⟩ := hrel
    by_cases hlt : k < m
    · have hd : decide ((k : Int) < (m : Int)) = true := decide_eq_true (by omega)
      obtain ⟨b, off, y0, y1, y2, y3, y4, rfl, hbB, hz, hc0, hc1, hc2, hc3, hc4⟩ := (HL.out.below hbr (Nat.le_refl _)).at_ hlt
      have hks : k < zs.length := by rw [HN.out]; exact hlt
      obtain ⟨fn, tmps, assign, body, hy, hR⟩ := HY.out _ (y0, y1, y2, y3, y4) (wr.alloc (.cells #[.int .i64 y0, .int .i64 y1, .int .i64 y2, .int .i64 y3, .int .i64 y4] 85)) (HJ.out _ _ _ hJk) (by rw [List.length_take]; omega)
      have hnx : zs.take k ++ [(y0, y1, y2, y3, y4)] = zs.take (k + 1) := by rw [← hz]; exact take_step zs k hks
      have hpx : zs.take (k + 1) <+: zs := List.take_prefix _ _
      rw [hnx] at hR
      have HRR := Lib.hid hR
      have HP := Lib.hid hpx
      clear hz hnx hR hJk hpx
      gi_wp2
      refine HRR.out.mono ?_
      rintro e W3 (⟨rfl, hJ3, hk3⟩ | ⟨rfl, hJx3⟩)
      · have hb3 : Below n₀ W W3 := (hbr.alloc (Nat.le_trans HN0.out hbr.size) _).trans hk3
        have HJ3 := Lib.hid hJ3
        clear hJ3 hk3
        gi_wp2
        go_roundw
        case rel => exact ⟨k + 1, by omega, by go_num, HJ3.out, hb3⟩
        case measure => simp [RowKit.intOf]; omega
      · have HJX := Lib.hid hJx3
        clear hJx3
        gi_wp2
        refine bodyPost_ret (results_none rfl _ _ _) rfl ?_
        exact ⟨⟨_, rfl⟩, .inr ⟨_, HP.out, HJX.out⟩⟩
    · have hd : decide ((k : Int) < (m : Int)) = false := decide_eq_false (by omega)
      have HK : Hid (k = m) := (by omega : k = m)
      gi_wp2
      go_end0
      refine ⟨⟨_, rfl⟩, .inl ⟨_, rfl, ?_⟩⟩
      rw [HK.out, ← HN.out, List.take_length] at hJk
      exact hJk
theorem eachP_stops (F : Fence) (n : Nat) (h6 : F.fn 314) (hro : F.round = none) (hn : 1 ≤ n) (Bn n₀ : Nat) (A : Option Addr) (m c : Nat) (zs : PList) (w : World) (hm : m ≤ 1048576)
    (hBn : Bn < w.heap.size) (hn₀ : n₀ ≤ w.heap.size) (hc : w.cell? ⟨Bn, 0, none⟩ = some (.slice A m c)) (hL : IsPods w n₀ A m zs) :
    SeqStopsK F n Tryz.prog 314 #[.pointer (some ⟨Bn, 0, none⟩)] (fun x : Pd => #[podA x]) (Below n₀) (fun ys => ys = zs) (fun pre => pre <+: zs) m w := fun l J Jx W hW hJ _ hY h0 =>
  eachP1_in F n h6 hro hn l Bn n₀ A m c zs hm J Jx (fun s A o hs => hJ s A (A.alloc o) none hs (World.grownBy_alloc A o none) (fun r e => by cases e)) hY W ((hW.cell (p := ⟨Bn, 0, none⟩) hBn).trans hc) (hL.below (hW.mono hn₀) (Nat.le_refl _)) (Nat.le_trans hn₀ hW.size) h0
end Go.Proofs.YtklgjjmcflgjeaaGreat.EachP
namespace Go.Proofs.YtklgjjmcflgjeaaGreat.Put
open Go.ChangeShapes Go.WideShapes Go.ChangeAt Go.RowKit
open LK
theorem run_storeAt {P : Program} {w : World} {b : Nat} {t T : TypeId} {cur vs : Array Value} (hb : w.heap[b]? = some (.cells cur T (0, 0))) (hs : (sizeOf t).run P w = .ok vs.size w) (hc : cur.size = vs.size) (h1 : ∀ v ∈ vs.toList, v.oneCell' = true) :
    (Instr.storeAt t (.pointer (some ⟨b, 0, none⟩)) (.agg vs)).run P w = .ok () (w.setRow b vs) := by
  have h := run_storeCells_from (P := P) b T vs.toList 0 cur w hb (by simp [hc]) h1
  simp only [List.take_zero, List.nil_append, Array.toArray_toList] at h
  simp only [Instr.storeAt, storeVar, Value.cells]
  simp [go_sem, hs, Instr.sureAddr, h]
theorem wpList_put {P : Program} {ops : Array Oper} {Q : Exit → Act → World → Prop} {rest : List Oper} {o : Oper} {a : Act} {w : World} (hg : o.guard = none) (hd : o.dst = none) (t : TypeId) (x y : Operand) (hop : o.op = Op.store t x y) (b : Nat) (vs : Array Value)
    (hx : a.eval x = .pointer (some ⟨b, 0, none⟩)) (hy : a.eval y = .agg vs) (cur : Array Value) (T : TypeId) (hb : w.heap[b]? = some (.cells cur T (0, 0))) (hs : (sizeOf t).run P w = .ok vs.size w) (hc : cur.size = vs.size) (h1 : ∀ v ∈ vs.toList, v.oneCell' = true)
    (hK : wpList P ops Q rest a (w.setRow b vs)) : wpList P ops Q (o :: rest) a w := by
  refine wpList_plain hg fun K' hK' => ?_
  unfold Oper.wp
  have hr := run_storeAt (P := P) (t := t) hb hs hc h1
  have he : (execOp a.eval o).run P w = .ok .skip (w.setRow b vs) := by
    unfold execOp
    rw [hop]
    dsimp only
    rw [hx, hy]
    simp only [Sem.run_bind, hr, Result.andThen_ok]
    rfl
  rw [he, Oper.upon_skip, hd]
  exact hK' _ _ hK
theorem setRow_turned (w : World) (b : Nat) (vs : Array Value) : Turned (fun k => k = b) w (w.setRow b vs) :=
  ⟨rfl, rfl, rfl, by simp, fun k _ hk => setRow_other w b k vs hk⟩
theorem setRow_below {B : Nat} {w V : World} (h : Below B w V) (b : Nat) (vs : Array Value) (hb : B ≤ b) (hV : B ≤ V.heap.size) : Below B w (V.setRow b vs) :=
  Turned.low h (setRow_turned V b vs) (fun k hk => by omega) hV
theorem setRow_box {w : World} {b : Nat} {cur vs : Array Value} {T : TypeId} (h : w.heap[b]? = some (.cells cur T (0, 0))) : (w.setRow b vs).heap[b]? = some (.cells vs T (0, 0)) := setRow_heap w b cur vs T (0, 0) h
end Go.Proofs.YtklgjjmcflgjeaaGreat.Put
namespace Go.Proofs.YtklgjjmcflgjeaaGreat.Cnt
open Go.ChangeShapes Go.WideShapes Go.ChangeAt Go.RowKit
open LK Sp Put
open Tick (inB in_t in_f l01In_any)
def countB (l a : Int) : Bool := inB l 0 30 && inB a 0 l
theorem countB_t {l a : Int} (h : countB l a = true) : (0 ≤ l ∧ l ≤ 30) ∧ (0 ≤ a ∧ a ≤ l) := by
  simp only [countB, inB, Bool.and_eq_true, decide_eq_true_eq] at h
  omega
def ceilV (x0 x1 x2 x3 x4 x5 x6 x7 x8 x9 x10 : Int) : Int := if specB x0 x1 x2 x3 x4 x5 x6 x7 x8 x9 x10 then x0 + x1 else -1
def floorV (x0 x1 x2 x3 x4 x5 x6 x7 x8 x9 x10 : Int) : Int := if specB x0 x1 x2 x3 x4 x5 x6 x7 x8 x9 x10 then x0 - x2 else -1
def limV (x0 x1 x2 x3 x4 x5 x6 x7 x8 x9 x10 : Int) (b : Bool) : Int := if specB x0 x1 x2 x3 x4 x5 x6 x7 x8 x9 x10 then (if 0 < x9 ∧ b = false then x9 else x0) else 0
def overB (x0 x1 x2 x3 x4 x5 x6 x7 x8 x9 x10 fl fa ol oa go : Int) : Bool := specB x0 x1 x2 x3 x4 x5 x6 x7 x8 x9 x10 && countB fl fa && countB ol oa && decide (fl = x0) && decide (fa = x0) && decide (ol = 0) && decide (go = 0)
def planB (x0 x1 x2 x3 x4 x5 x6 x7 x8 x9 x10 fl fa ol oa go li : Int) : Bool := specB x0 x1 x2 x3 x4 x5 x6 x7 x8 x9 x10 && countB fl fa && countB ol oa && inB go 0 30 && inB li 0 x0
def crV (r s fl ol go li : Int) : Int := max 0 (min (li - fl) (r + s - fl - ol - go))
def spV (r o fa oa : Int) : Int := max 0 (fa + oa - (r - o))
def roV (r ol li : Int) : Int := if li < r then max 0 (ol - (r - li)) else ol
def drV (r ol oa li : Int) : Int := min (roV r ol li) (ol - oa)
def daV (r o fa ol oa li : Int) : Int := min (min (spV r o fa oa) oa) (roV r ol li - drV r ol oa li)
def dfV (r fl : Int) : Int := max 0 (fl - r)
def planT (x0 x1 x2 x3 x4 x5 x6 x7 x8 x9 x10 fl fa ol oa go li : Int) : Value := if planB x0 x1 x2 x3 x4 x5 x6 x7 x8 x9 x10 fl fa ol oa go li then .tuple #[.agg #[.int .i64 (crV x0 x1 fl ol go li), .int .i64 (drV x0 ol oa li), .int .i64 (daV x0 x2 fa ol oa li), .int .i64 (dfV x0 fl)], .bool true] else .tuple #[.agg #[.int .i64 0, .int .i64 0, .int .i64 0, .int .i64 0], .bool false]
set_option maxHeartbeats 1600000 in
theorem specCountOk_any (l a : Int) (w : World) : Calls Tryz.prog 220 #[.agg #[.int .i64 l, .int .i64 a]] w (Says (.bool (countB l a)) w) := by
  obtain ⟨V, hV⟩ : ∃ V, V = w.alloc (.cells #[.int .i64 l, .int .i64 a] 231) := ⟨_, rfl⟩
  have hbV : Below w.heap.size w V := by rw [hV]; exact bel1 _ _
  have KC : Hid (V.heap[w.heap.size]? = some (.cells #[.int .i64 l, .int .i64 a] 231)) := by rw [hV]; exact box_new w _
  have c0 := box_cell KC.out 0 _ rfl
  have c1 := box_cell KC.out 1 _ rfl
  go_enter Tryz.func220, Tryz.ntmps220
  go_wp2_with fail
  rw [← hV]
  clear hV
  refine (l01In_any _ _ _ _).mono ?_
  rintro e w' ⟨rfl, rfl⟩
  cases h1 : inB l 0 30
  · go_wp2
    go_ret
    exact ⟨by simp [countB, h1], hbV⟩
  · go_wp2_with fail
    refine (l01In_any _ _ _ _).mono ?_
    rintro e w' ⟨rfl, rfl⟩
    go_wp2
    go_ret
    exact ⟨by simp [countB, h1], hbV⟩
set_option maxRecDepth 100000 in
set_option maxHeartbeats 1600000 in
theorem specCeiling_any (x0 x1 x2 x3 x4 x5 x6 x7 x8 x9 x10 : Int) (w : World) : Calls Tryz.prog 57 #[.agg #[.int .i64 x0, .int .i64 x1, .int .i64 x2, .int .i64 x3, .int .i64 x4, .int .i64 x5, .int .i64 x6, .int .i64 x7, .int .i64 x8, .int .i64 x9, .int .i64 x10]] w (Says (.int .i64 (ceilV x0 x1 x2 x3 x4 x5 x6 x7 x8 x9 x10)) w) := by
  obtain ⟨V, hV⟩ : ∃ V, V = w.alloc (.cells #[.int .i64 x0, .int .i64 x1, .int .i64 x2, .int .i64 x3, .int .i64 x4, .int .i64 x5, .int .i64 x6, .int .i64 x7, .int .i64 x8, .int .i64 x9, .int .i64 x10] 25) := ⟨_, rfl⟩
  have hbV : Below w.heap.size w V := by rw [hV]; exact bel1 _ _
  have KS : Hid (V.heap[w.heap.size]? = some (.cells #[.int .i64 x0, .int .i64 x1, .int .i64 x2, .int .i64 x3, .int .i64 x4, .int .i64 x5, .int .i64 x6, .int .i64 x7, .int .i64 x8, .int .i64 x9, .int .i64 x10] 25)) := by rw [hV]; exact box_new w _
  go_enter Tryz.func57, Tryz.ntmps57
  go_wp2_with fail
  rw [← hV]
  clear hV
  refine (specSpecOk_any x0 x1 x2 x3 x4 x5 x6 x7 x8 x9 x10 _).mono ?_
  rintro e w1 ⟨rfl, hb⟩
  have KS' := Lib.hid (box_below KS.out hb)
  have HB := Lib.hid (bel_then hbV hb hbV.size)
  clear KS hb hbV
  cases hs : specB x0 x1 x2 x3 x4 x5 x6 x7 x8 x9 x10
  · go_wp2
    go_ret
    exact ⟨by simp [ceilV, hs], HB.out⟩
  · have hbd := specB_t hs
    have c0 := box_cell KS'.out 0 _ rfl
    have c1 := box_cell KS'.out 1 _ rfl
    have c2 := box_cell KS'.out 2 _ rfl
    have HS := Lib.hid hs
    clear hs
    go_wp2
    go_ret
    exact ⟨by simp [ceilV, HS.out], HB.out⟩
set_option maxRecDepth 100000 in
set_option maxHeartbeats 1600000 in
theorem specLimitOf_any (x0 x1 x2 x3 x4 x5 x6 x7 x8 x9 x10 : Int) (b : Bool) (w : World) : Calls Tryz.prog 188 #[.agg #[.int .i64 x0, .int .i64 x1, .int .i64 x2, .int .i64 x3, .int .i64 x4, .int .i64 x5, .int .i64 x6, .int .i64 x7, .int .i64 x8, .int .i64 x9, .int .i64 x10], .bool b] w (Says (.int .i64 (limV x0 x1 x2 x3 x4 x5 x6 x7 x8 x9 x10 b)) w) := by
  obtain ⟨V, hV⟩ : ∃ V, V = w.alloc (.cells #[.int .i64 x0, .int .i64 x1, .int .i64 x2, .int .i64 x3, .int .i64 x4, .int .i64 x5, .int .i64 x6, .int .i64 x7, .int .i64 x8, .int .i64 x9, .int .i64 x10] 25) := ⟨_, rfl⟩
  have hbV : Below w.heap.size w V := by rw [hV]; exact bel1 _ _
  have KS : Hid (V.heap[w.heap.size]? = some (.cells #[.int .i64 x0, .int .i64 x1, .int .i64 x2, .int .i64 x3, .int .i64 x4, .int .i64 x5, .int .i64 x6, .int .i64 x7, .int .i64 x8, .int .i64 x9, .int .i64 x10] 25)) := by rw [hV]; exact box_new w _
  go_enter Tryz.func188, Tryz.ntmps188
  go_wp2_with fail
  rw [← hV]
  clear hV
  refine (specSpecOk_any x0 x1 x2 x3 x4 x5 x6 x7 x8 x9 x10 _).mono ?_
  rintro e w1 ⟨rfl, hb⟩
  have KS' := Lib.hid (box_below KS.out hb)
  have HB := Lib.hid (bel_then hbV hb hbV.size)
  clear KS hb hbV
  cases hs : specB x0 x1 x2 x3 x4 x5 x6 x7 x8 x9 x10
  · go_wp2
    go_ret
    exact ⟨by simp [limV, hs], HB.out⟩
  · have c0 := box_cell KS'.out 0 _ rfl
    have c9 := box_cell KS'.out 9 _ rfl
    have HS := Lib.hid hs
    clear hs
    by_cases h9 : 0 < x9 <;> cases b
    · have hv : Hid (limV x0 x1 x2 x3 x4 x5 x6 x7 x8 x9 x10 false = x9) := by show _ = _; unfold limV; rw [if_pos HS.out]; exact if_pos ⟨h9, rfl⟩
      go_wp2
      go_ret
      exact ⟨by rw [hv.out]; rfl, HB.out⟩
    · have hv : Hid (limV x0 x1 x2 x3 x4 x5 x6 x7 x8 x9 x10 true = x0) := by show _ = _; unfold limV; rw [if_pos HS.out]; exact if_neg (fun h => absurd h.2 (by simp))
      go_wp2
      go_ret
      exact ⟨by rw [hv.out]; rfl, HB.out⟩
    · have hv : Hid (limV x0 x1 x2 x3 x4 x5 x6 x7 x8 x9 x10 false = x0) := by show _ = _; unfold limV; rw [if_pos HS.out]; exact if_neg (fun h => absurd h.1 h9)
      go_wp2
      go_ret
      exact ⟨by rw [hv.out]; rfl, HB.out⟩
    · have hv : Hid (limV x0 x1 x2 x3 x4 x5 x6 x7 x8 x9 x10 true = x0) := by show _ = _; unfold limV; rw [if_pos HS.out]; exact if_neg (fun h => absurd h.1 h9)
      go_wp2
      go_ret
      exact ⟨by rw [hv.out]; rfl, HB.out⟩
theorem least_any (a b : Int) (w : World) : Calls Tryz.prog 222 #[.int .i64 a, .int .i64 b] w fun e w' => e = .returned (.int .i64 (min a b)) ∧ w = w' := by
  by_cases h : a < b
  · have hv : min a b = a := by omega
    rw [hv]
    clear hv
    go_enter Tryz.func222, Tryz.ntmps222
    go_wp2
    go_ret
    exact ⟨rfl, rfl⟩
  · have hv : min a b = b := by omega
    rw [hv]
    clear hv
    go_enter Tryz.func222, Tryz.ntmps222
    go_wp2
    go_ret
    exact ⟨rfl, rfl⟩
theorem above_any (a : Int) (w : World) : Calls Tryz.prog 221 #[.int .i64 a] w fun e w' => e = .returned (.int .i64 (max 0 a)) ∧ w = w' := by
  by_cases h : a < 0
  · have hv : max 0 a = 0 := by omega
    rw [hv]
    clear hv
    go_enter Tryz.func221, Tryz.ntmps221
    go_wp2
    go_ret
    exact ⟨rfl, rfl⟩
  · have hv : max 0 a = a := by omega
    rw [hv]
    clear hv
    go_enter Tryz.func221, Tryz.ntmps221
    go_wp2
    go_ret
    exact ⟨rfl, rfl⟩
set_option maxRecDepth 100000 in
set_option maxHeartbeats 6400000 in
theorem specPlanOver_any (x0 x1 x2 x3 x4 x5 x6 x7 x8 x9 x10 fl fa ol oa go : Int) (w : World) : Calls Tryz.prog 193 #[.agg #[.int .i64 x0, .int .i64 x1, .int .i64 x2, .int .i64 x3, .int .i64 x4, .int .i64 x5, .int .i64 x6, .int .i64 x7, .int .i64 x8, .int .i64 x9, .int .i64 x10], .agg #[.int .i64 fl, .int .i64 fa], .agg #[.int .i64 ol, .int .i64 oa], .int .i64 go] w (Says (.bool (overB x0 x1 x2 x3 x4 x5 x6 x7 x8 x9 x10 fl fa ol oa go)) w) := by
  obtain ⟨R, hR⟩ : ∃ R, R = overB x0 x1 x2 x3 x4 x5 x6 x7 x8 x9 x10 fl fa ol oa go := ⟨_, rfl⟩
  rw [← hR]
  have HR := Lib.hid hR
  clear hR
  obtain ⟨V, hV⟩ : ∃ V, V = ((w.alloc (.cells #[.int .i64 x0, .int .i64 x1, .int .i64 x2, .int .i64 x3, .int .i64 x4, .int .i64 x5, .int .i64 x6, .int .i64 x7, .int .i64 x8, .int .i64 x9, .int .i64 x10] 25)).alloc (.cells #[.int .i64 fl, .int .i64 fa] 231)).alloc (.cells #[.int .i64 ol, .int .i64 oa] 231) := ⟨_, rfl⟩
  have hbV : Below w.heap.size w V := by rw [hV]; exact bel3 _ _ _ _
  have KS : Hid (V.heap[w.heap.size]? = some (.cells #[.int .i64 x0, .int .i64 x1, .int .i64 x2, .int .i64 x3, .int .i64 x4, .int .i64 x5, .int .i64 x6, .int .i64 x7, .int .i64 x8, .int .i64 x9, .int .i64 x10] 25)) := by have h := box_alloc (box_alloc (box_new w (.cells #[.int .i64 x0, .int .i64 x1, .int .i64 x2, .int .i64 x3, .int .i64 x4, .int .i64 x5, .int .i64 x6, .int .i64 x7, .int .i64 x8, .int .i64 x9, .int .i64 x10] 25)) (.cells #[.int .i64 fl, .int .i64 fa] 231)) (.cells #[.int .i64 ol, .int .i64 oa] 231); (try simp only [World.size_alloc] at h); rw [hV]; exact h
  have KF : Hid (V.heap[w.heap.size + 1]? = some (.cells #[.int .i64 fl, .int .i64 fa] 231)) := by have h := box_alloc (box_new (w.alloc (.cells #[.int .i64 x0, .int .i64 x1, .int .i64 x2, .int .i64 x3, .int .i64 x4, .int .i64 x5, .int .i64 x6, .int .i64 x7, .int .i64 x8, .int .i64 x9, .int .i64 x10] 25)) (.cells #[.int .i64 fl, .int .i64 fa] 231)) (.cells #[.int .i64 ol, .int .i64 oa] 231); (try simp only [World.size_alloc] at h); rw [hV]; exact h
  have KO : Hid (V.heap[w.heap.size + 1 + 1]? = some (.cells #[.int .i64 ol, .int .i64 oa] 231)) := by have h := box_new ((w.alloc (.cells #[.int .i64 x0, .int .i64 x1, .int .i64 x2, .int .i64 x3, .int .i64 x4, .int .i64 x5, .int .i64 x6, .int .i64 x7, .int .i64 x8, .int .i64 x9, .int .i64 x10] 25)).alloc (.cells #[.int .i64 fl, .int .i64 fa] 231)) (.cells #[.int .i64 ol, .int .i64 oa] 231); (try simp only [World.size_alloc] at h); rw [hV]; exact h
  have HB := Lib.hid hbV
  clear hbV
  go_enter Tryz.func193, Tryz.ntmps193
  have c0 := box_cell KS.out 0 _ rfl
  have c1 := box_cell KS.out 1 _ rfl
  have c2 := box_cell KS.out 2 _ rfl
  have c3 := box_cell KS.out 3 _ rfl
  have c4 := box_cell KS.out 4 _ rfl
  have c5 := box_cell KS.out 5 _ rfl
  have c6 := box_cell KS.out 6 _ rfl
  have c7 := box_cell KS.out 7 _ rfl
  have c8 := box_cell KS.out 8 _ rfl
  have c9 := box_cell KS.out 9 _ rfl
  have c10 := box_cell KS.out 10 _ rfl
  have f0 := box_cell KF.out 0 _ rfl
  have g0 := box_cell KO.out 0 _ rfl
  have f1 := box_cell KF.out 1 _ rfl
  have g1 := box_cell KO.out 1 _ rfl
  go_wp2_with fail
  rw [← hV]
  clear hV
  refine (specSpecOk_any x0 x1 x2 x3 x4 x5 x6 x7 x8 x9 x10 _).mono ?_
  rintro e wq ⟨rfl, hb⟩
  have KS' := Lib.hid (box_below KS.out hb)
  have KF' := Lib.hid (box_below KF.out hb)
  have KO' := Lib.hid (box_below KO.out hb)
  have HB' := Lib.hid (bel_then HB.out hb HB.out.size)
  clear KS KF KO HB hb
  have KS := KS'
  have KF := KF'
  have KO := KO'
  have HB := HB'
  clear KS' KF' KO' HB'
  clear c0 c1 c2 c3 c4 c5 c6 c7 c8 c9 c10 f0 f1 g0 g1
  cases h1 : specB x0 x1 x2 x3 x4 x5 x6 x7 x8 x9 x10
  · have HV : Hid (R = false) := by show R = false; rw [HR.out]; simp [overB, h1]
    go_wp2
    go_ret
    exact ⟨by rw [HV.out]; rfl, HB.out⟩
  have c0 := box_cell KS.out 0 _ rfl
  have c1 := box_cell KS.out 1 _ rfl
  have c2 := box_cell KS.out 2 _ rfl
  have c3 := box_cell KS.out 3 _ rfl
  have c4 := box_cell KS.out 4 _ rfl
  have c5 := box_cell KS.out 5 _ rfl
  have c6 := box_cell KS.out 6 _ rfl
  have c7 := box_cell KS.out 7 _ rfl
  have c8 := box_cell KS.out 8 _ rfl
  have c9 := box_cell KS.out 9 _ rfl
  have c10 := box_cell KS.out 10 _ rfl
  have f0 := box_cell KF.out 0 _ rfl
  have g0 := box_cell KO.out 0 _ rfl
  have f1 := box_cell KF.out 1 _ rfl
  have g1 := box_cell KO.out 1 _ rfl
  have H1 := Lib.hid h1
  clear h1
  go_wp2_with fail
  refine (specCountOk_any fl fa _).mono ?_
  rintro e wq ⟨rfl, hb⟩
  have KS' := Lib.hid (box_below KS.out hb)
  have KF' := Lib.hid (box_below KF.out hb)
  have KO' := Lib.hid (box_below KO.out hb)
  have HB' := Lib.hid (bel_then HB.out hb HB.out.size)
  clear KS KF KO HB hb
  have KS := KS'
  have KF := KF'
  have KO := KO'
  have HB := HB'
  clear KS' KF' KO' HB'
  clear c0 c1 c2 c3 c4 c5 c6 c7 c8 c9 c10 f0 f1 g0 g1
  cases h2 : countB fl fa
  · have HV : Hid (R = false) := by show R = false; rw [HR.out]; simp [overB, h2]
    go_wp2
    go_ret
    exact ⟨by rw [HV.out]; rfl, HB.out⟩
  have c0 := box_cell KS.out 0 _ rfl
  have c1 := box_cell KS.out 1 _ rfl
  have c2 := box_cell KS.out 2 _ rfl
  have c3 := box_cell KS.out 3 _ rfl
  have c4 := box_cell KS.out 4 _ rfl
  have c5 := box_cell KS.out 5 _ rfl
  have c6 := box_cell KS.out 6 _ rfl
  have c7 := box_cell KS.out 7 _ rfl
  have c8 := box_cell KS.out 8 _ rfl
  have c9 := box_cell KS.out 9 _ rfl
  have c10 := box_cell KS.out 10 _ rfl
  have f0 := box_cell KF.out 0 _ rfl
  have g0 := box_cell KO.out 0 _ rfl
  have f1 := box_cell KF.out 1 _ rfl
  have g1 := box_cell KO.out 1 _ rfl
  have H2 := Lib.hid h2
  clear h2
  go_wp2_with fail
  refine (specCountOk_any ol oa _).mono ?_
  rintro e wq ⟨rfl, hb⟩
  have KS' := Lib.hid (box_below KS.out hb)
  have KF' := Lib.hid (box_below KF.out hb)
  have KO' := Lib.hid (box_below KO.out hb)
  have HB' := Lib.hid (bel_then HB.out hb HB.out.size)
  clear KS KF KO HB hb
  have KS := KS'
  have KF := KF'
  have KO := KO'
  have HB := HB'
  clear KS' KF' KO' HB'
  clear c0 c1 c2 c3 c4 c5 c6 c7 c8 c9 c10 f0 f1 g0 g1
  cases h3 : countB ol oa
  · have HV : Hid (R = false) := by show R = false; rw [HR.out]; simp [overB, h3]
    go_wp2
    go_ret
    exact ⟨by rw [HV.out]; rfl, HB.out⟩
  have c0 := box_cell KS.out 0 _ rfl
  have c1 := box_cell KS.out 1 _ rfl
  have c2 := box_cell KS.out 2 _ rfl
  have c3 := box_cell KS.out 3 _ rfl
  have c4 := box_cell KS.out 4 _ rfl
  have c5 := box_cell KS.out 5 _ rfl
  have c6 := box_cell KS.out 6 _ rfl
  have c7 := box_cell KS.out 7 _ rfl
  have c8 := box_cell KS.out 8 _ rfl
  have c9 := box_cell KS.out 9 _ rfl
  have c10 := box_cell KS.out 10 _ rfl
  have f0 := box_cell KF.out 0 _ rfl
  have g0 := box_cell KO.out 0 _ rfl
  have f1 := box_cell KF.out 1 _ rfl
  have g1 := box_cell KO.out 1 _ rfl
  have H3 := Lib.hid h3
  clear h3
  by_cases q1 : fl = x0 <;> by_cases q2 : fa = x0 <;> by_cases q3 : ol = 0 <;> by_cases q4 : go = 0
  all_goals
    have HV : Hid (R = (decide (fl = x0) && decide (fa = x0) && decide (ol = 0) && decide (go = 0))) := by show R = _; rw [HR.out]; simp [overB, H1.out, H2.out, H3.out]
    go_wp2
    go_ret
    exact ⟨by rw [HV.out]; simp [q1, q2, q3, q4] <;> rfl, HB.out⟩
end Go.Proofs.YtklgjjmcflgjeaaGreat.Cnt
