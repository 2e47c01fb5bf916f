/-
  THE ITERATOR OVER A LIST OF INTS, and the least and the greatest of ints, over this seat's translation: each hands back a function value; ranged over, it yields each number in its order; leastOf and greatestOf fold; above is what is above a line.
-/
import Derived.Test.YtlghdmakaocokaaInts
import Derived.Test.YtlghdmakaocokaaLawKit
import Derived.Lib.Hide
import Derived.RangeFuncNested
import Derived.RangeFuncBound
import Derived.RangeFuncCalls
import Derived.RangeFuncLeaves
import Derived.Shelf.Abstract
import Derived.Shelf.RegionOpen
import Derived.WalkKit
import Derived.OwnWalkIn
import Derived.TacticsInMore
import Derived.LoopNIn
import Derived.LoopIn
import Derived.IntWalk
namespace Go.Proofs.Ytlghdmakaocokaa.Each
open Go.ChangeShapes Go.WideShapes Go.ChangeAt Go.RowKit Go.Shelf
open Go.Proofs.Ytlghdmakaocokaa.LK Go.Proofs.Ytlghdmakaocokaa.Ints
set_option linter.unusedVariables false
attribute [local go_sem] Oper.semAt_some

set_option maxHeartbeats 1000000 in
theorem eachI_in (F : Fence) (n : Nat) (h5 : F.fn 50) (hro : F.round = none) (A : Option Addr) (m c : Nat) (w : World) :
    CallsIn F n Try.prog 50 #[.slice A m c] w fun e w' => e = .returned (.func (.func 53) #[] #[.pointer (some ⟨w.heap.size, 0, none⟩)]) ∧ w' = w.alloc (.cells #[.slice A m c] 76) := by
  refine callsIn_of_wp Try.func50 rfl h5 ?_ hro
  simp only [Try.ntmps50, List.size_toArray, List.length_cons, List.length_nil, Nat.reduceAdd, Nat.reduceSub, Array.replicate_succ, Array.replicate_zero, List.push_toArray, List.append_toArray, List.nil_append, List.cons_append]
  gi_wp2
  go_ret
  exact ⟨rfl, rfl⟩

theorem take_step (zs : List Int) (k : Nat) (h : k < zs.length) : zs.take k ++ [zs.getD k 0] = zs.take (k + 1) := by
  rw [List.take_succ_eq_append_getElem h]
  simp [List.getD, h]

set_option maxRecDepth 100000 in
set_option maxHeartbeats 2000000 in
theorem eachI1_in (F : Fence) (n : Nat) (h6 : F.fn 53) (hro : F.round = none) (hn : 1 ≤ n) (l Bn n₀ : Nat) (A : Option Addr) (m c : Nat) (zs : List Int) (hm : m ≤ 1048576) (J Jx : List Int → World → Prop)
    (hY : ∀ pre x W, J pre W → pre.length < m → YieldAt F (n - 1) Try.prog l #[.int .i64 x] W fun e W' =>
      (e = .returned (.bool true) ∧ J (pre ++ [x]) W' ∧ Below n₀ W W') ∨ (e = .returned (.bool false) ∧ Jx (pre ++ [x]) W'))
    (W : World) (hBn : W.cell? ⟨Bn, 0, none⟩ = some (.slice A m c)) (hL : IsInts W n₀ A m zs) (h0 : J [] W) :
    CallsIn F n Try.prog 53 #[.func (.yield l) #[] #[], .pointer (some ⟨Bn, 0, none⟩)] W fun e W' => (∃ v, e = .returned v) ∧
      ((∃ ys, ys = zs ∧ J ys W') ∨ (∃ pre, pre <+: zs ∧ Jx pre W')) := by
  have HL := Lib.hid hL
  have HN : Hid (zs.length = m) := hL.1
  have HY := Lib.hid hY
  clear hY hL
  refine callsIn_of_wp Try.func53 rfl h6 ?_ hro
  simp only [Try.ntmps53, List.size_toArray, List.length_cons, List.length_nil, Nat.reduceAdd, Nat.reduceSub, Array.replicate_succ, Array.replicate_zero, List.push_toArray, List.append_toArray, List.nil_append, List.cons_append]
  gi_wp2
  gi_loopw [7] (fun v7 wr => ∃ k : Nat, k ≤ m ∧ v7 = .int .i64 k ∧ J (zs.take k) wr ∧ Below n₀ W wr) (fun v7 _ => m - (intOf v7).toNat)
  case atStart => exact ⟨0, by omega, rfl, by simpa using h0, Below.refl _ _⟩
  case round =>
    obtain ⟨k, hk, rfl, hJk, hbr⟩ := hrel
    by_cases hlt : k < m
    · have hd : decide ((k : Int) < (m : Int)) = true := decide_eq_true (by omega)
      obtain ⟨b, off, z, rfl, hbB, hz, hc⟩ := (HL.out.below hbr (Nat.le_refl _)).at_ hlt
      have hks : k < zs.length := by rw [HN.out]; exact hlt
      obtain ⟨fn, tmps, assign, body, hy, hR⟩ := HY.out _ z wr hJk (by rw [List.length_take]; omega)
      have hnx : zs.take k ++ [z] = zs.take (k + 1) := by rw [hz]; exact take_step zs k hks
      have hpx : zs.take (k + 1) <+: zs := List.take_prefix _ _
      rw [hnx] at hR
      have HRR := Lib.hid hR
      have HP := Lib.hid hpx
      clear hz hnx hR hJk hpx
      gi_wp2
      refine HRR.out.mono ?_
      rintro e W3 (⟨rfl, hJ3, hk3⟩ | ⟨rfl, hJx3⟩)
      · have hb3 : Below n₀ W W3 := hbr.trans hk3
        have HJ3 := Lib.hid hJ3
        clear hJ3 hk3
        gi_wp2
        go_roundw
        case rel => exact ⟨k + 1, by omega, by go_num, HJ3.out, hb3⟩
        case measure => simp [intOf]; omega
      · have HJX := Lib.hid hJx3
        clear hJx3
        gi_wp2
        refine bodyPost_ret (results_none rfl _ _ _) rfl ?_
        exact ⟨⟨_, rfl⟩, .inr ⟨_, HP.out, HJX.out⟩⟩
    · have hd : decide ((k : Int) < (m : Int)) = false := decide_eq_false (by omega)
      have HK : Hid (k = m) := (by omega : k = m)
      gi_wp2
      go_end0
      refine ⟨⟨_, rfl⟩, .inl ⟨_, rfl, ?_⟩⟩
      rw [HK.out, ← HN.out, List.take_length] at hJk
      exact hJk

theorem eachI_stops (F : Fence) (n : Nat) (h6 : F.fn 53) (hro : F.round = none) (hn : 1 ≤ n) (Bn n₀ : Nat) (A : Option Addr) (m c : Nat) (zs : List Int) (w : World) (hm : m ≤ 1048576)
    (hBn : Bn < w.heap.size) (hn₀ : n₀ ≤ w.heap.size) (hc : w.cell? ⟨Bn, 0, none⟩ = some (.slice A m c)) (hL : IsInts w n₀ A m zs) :
    SeqStopsK F n Try.prog 53 #[.pointer (some ⟨Bn, 0, none⟩)] (fun x : Int => #[.int .i64 x]) (Below n₀) (fun ys => ys = zs) (fun pre => pre <+: zs) m w := fun l J Jx W hW hJ _ hY h0 =>
  eachI1_in F n h6 hro hn l Bn n₀ A m c zs hm J Jx hY W ((hW.cell (p := ⟨Bn, 0, none⟩) hBn).trans hc) (hL.below (hW.mono hn₀) (Nat.le_refl _)) h0

theorem blk1 {w : World} {g : Nat} {a : Value} {t : TypeId} (h : w.heap[g]? = some (.cells #[a] t (0, 0))) : w.cell? ⟨g, 0, none⟩ = some a ∧ w.frozen? ⟨g, 0, none⟩ = false := by
  constructor <;> simp [World.cell?, World.frozen?, h]
theorem box1_new (W : World) (v : Value) (t : TypeId) : (W.alloc (.cells #[v] t)).cell? ⟨W.heap.size, 0, none⟩ = some v ∧ (W.alloc (.cells #[v] t)).frozen? ⟨W.heap.size, 0, none⟩ = false := by
  exact blk1 (heap_alloc_new W (.cells #[v] t))
theorem box1_alloc {W : World} {p : Addr} {v : Value} (o : Obj) (h : W.cell? p = some v ∧ W.frozen? p = false) : (W.alloc o).cell? p = some v ∧ (W.alloc o).frozen? p = false :=
  ⟨cell_kept h.1 (World.grownBy_alloc W o none) (fun r e => by cases e), (frozen_kept h.1 (World.grownBy_alloc W o none) (fun r e => by cases e)).trans h.2⟩

set_option maxRecDepth 100000 in
set_option maxHeartbeats 2000000 in
theorem greatestOf_any (a : Int) (A : Option Addr) (m c : Nat) (zs : List Int) (B : Nat) (w : World) (hL : IsInts w B A m zs) (hB : B ≤ w.heap.size) (hm : m ≤ 1048576) :
    Calls Try.prog 51 #[.int .i64 a, .slice A m c] w (Says (.int .i64 (zs.foldl max a)) w) := by
  have HL := Lib.hid hL
  clear hL
  refine (callsIn_wide (n := 6)).1 ?_
  refine callsIn_of_wp_marks Try.func51 rfl trivial ?_ rfl
  simp only [Try.ntmps51, List.size_toArray, List.length_cons, List.length_nil, Nat.reduceAdd, Nat.reduceSub, Array.replicate_succ, Array.replicate_zero, List.push_toArray, List.append_toArray, List.nil_append, List.cons_append]
  gi_wp2_with (refine ⟨trivial, ?_⟩; gi_at_call 50; refine (eachI_in Fence.wide _ trivial rfl _ _ _ _).mono ?_; rintro e w' ⟨rfl, rfl⟩)
  have hs := box1_new w (.int .i64 a) 3
  have hb := box1_new (w.alloc (.cells #[.int .i64 a] 3)) (.slice A m c) 76
  rw [World.size_alloc] at hb
  have hB0 : Below w.heap.size w ((w.alloc (.cells #[.int .i64 a] 3)).alloc (.cells #[.slice A m c] 76)) := bel2 _ _ _
  refine wpIn_rangeFunc_ownF rfl (by omega) (gf := 53) (lb := #[.pointer (some ⟨w.heap.size + 1, 0, none⟩)]) rfl trivial (enters_of Try.func53 (by kernel_rfl) rfl)
    (eachI_stops Fence.wide _ trivial rfl (by omega) (w.heap.size + 1) w.heap.size A m c zs _ hm (by simp) (by simp; omega) hb.1 ((HL.out.more hB).below hB0 (Nat.le_refl _))) belowK_t (belowK_b (by simp; omega)) (Below.refl _ _) (fun _ => rfl)
    (fun pre W => (W.cell? ⟨w.heap.size, 0, none⟩ = some (.int .i64 (pre.foldl max a)) ∧ W.frozen? ⟨w.heap.size, 0, none⟩ = false) ∧ Below w.heap.size w W)
    (fun _ _ _ => False)
    (OwnFrom.and (Own.from (fun s A B row hs hg hr => ⟨cell_kept hs.1 hg hr, (frozen_kept hs.1 hg hr).trans hs.2⟩) _) (ownFrom_below (Nat.le_refl _) (by simp; omega)))
    (fun _ _ _ _ _ hs _ _ => hs)
    ⟨box1_alloc _ hs, hB0⟩
    (fun x => { tmps := #[.int .i64 a, .slice A m c, .pointer (some ⟨w.heap.size, 0, none⟩), undef, .int .i64 0, .int .i64 x, .slice A m c, .func (.func 53) #[] #[.pointer (some ⟨w.heap.size + 1, 0, none⟩)], .int .i64 x, undef, undef, undef, undef], defers := [] }) ?assign ?body ?done ?stop
  case assign =>
    intro l x W K hK
    gi_wp2
    exact hK
  case body =>
    rintro l pre x W ⟨⟨hc, hf⟩, hB⟩ hlen
    obtain ⟨f, hf0⟩ : ∃ f, f = pre.foldl max a := ⟨_, rfl⟩
    have hfx : (pre ++ [x]).foldl max a = max f x := by rw [List.foldl_append, hf0]; rfl
    rw [← hf0] at hc
    have HFX := Lib.hid hfx
    clear hfx hf0
    by_cases hlt : f < x
    · have HV : Hid (max f x = x) := by show _ = _; omega
      gi_wp2
      exact ⟨KeepsOthers.setCell _ _ _, (Below.refl w.heap.size W).setCell (p := ⟨w.heap.size, 0, none⟩) (Nat.le_refl _) _, ⟨by rw [HFX.out, HV.out]; exact World.cell?_setCell_same' _ _ _ (by rw [hc]; rfl), by rw [World.frozen?_setCell]; exact hf⟩, hB.setCell (p := ⟨w.heap.size, 0, none⟩) (Nat.le_refl _) _⟩
    · have HV : Hid (max f x = f) := by show _ = _; omega
      gi_wp2
      exact ⟨KeepsOthers.setCell _ _ _, (Below.refl w.heap.size W).setCell (p := ⟨w.heap.size, 0, none⟩) (Nat.le_refl _) _, ⟨by rw [HFX.out, HV.out]; exact World.cell?_setCell_same' _ _ _ (by rw [hc]; rfl), by rw [World.frozen?_setCell]; exact hf⟩, hB.setCell (p := ⟨w.heap.size, 0, none⟩) (Nat.le_refl _) _⟩
  case done =>
    rintro D ys W hD rfl ⟨⟨hc, _⟩, hB⟩ hK
    gi_wp2
    refine ⟨by simp, .inl ⟨_, _, rfl, run_takeDeferred hK, ?_⟩⟩
    exact ⟨_, results_tmp rfl _ _ _, rfl, hB.trans (belowK_b (w := w) (Nat.le_refl _) W D _ _ (by simp at hD; omega) hK rfl rfl)⟩
  case stop =>
    rintro D c pre W _ _ h _
    exact h.elim

set_option maxRecDepth 100000 in
set_option maxHeartbeats 2000000 in
theorem leastOf_any (a : Int) (A : Option Addr) (m c : Nat) (zs : List Int) (B : Nat) (w : World) (hL : IsInts w B A m zs) (hB : B ≤ w.heap.size) (hm : m ≤ 1048576) :
    Calls Try.prog 41 #[.int .i64 a, .slice A m c] w (Says (.int .i64 (zs.foldl min a)) w) := by
  have HL := Lib.hid hL
  clear hL
  refine (callsIn_wide (n := 6)).1 ?_
  refine callsIn_of_wp_marks Try.func41 rfl trivial ?_ rfl
  simp only [Try.ntmps41, List.size_toArray, List.length_cons, List.length_nil, Nat.reduceAdd, Nat.reduceSub, Array.replicate_succ, Array.replicate_zero, List.push_toArray, List.append_toArray, List.nil_append, List.cons_append]
  gi_wp2_with (refine ⟨trivial, ?_⟩; gi_at_call 50; refine (eachI_in Fence.wide _ trivial rfl _ _ _ _).mono ?_; rintro e w' ⟨rfl, rfl⟩)
  have hs := box1_new w (.int .i64 a) 3
  have hb := box1_new (w.alloc (.cells #[.int .i64 a] 3)) (.slice A m c) 76
  rw [World.size_alloc] at hb
  have hB0 : Below w.heap.size w ((w.alloc (.cells #[.int .i64 a] 3)).alloc (.cells #[.slice A m c] 76)) := bel2 _ _ _
  refine wpIn_rangeFunc_ownF rfl (by omega) (gf := 53) (lb := #[.pointer (some ⟨w.heap.size + 1, 0, none⟩)]) rfl trivial (enters_of Try.func53 (by kernel_rfl) rfl)
    (eachI_stops Fence.wide _ trivial rfl (by omega) (w.heap.size + 1) w.heap.size A m c zs _ hm (by simp) (by simp; omega) hb.1 ((HL.out.more hB).below hB0 (Nat.le_refl _))) belowK_t (belowK_b (by simp; omega)) (Below.refl _ _) (fun _ => rfl)
    (fun pre W => (W.cell? ⟨w.heap.size, 0, none⟩ = some (.int .i64 (pre.foldl min a)) ∧ W.frozen? ⟨w.heap.size, 0, none⟩ = false) ∧ Below w.heap.size w W)
    (fun _ _ _ => False)
    (OwnFrom.and (Own.from (fun s A B row hs hg hr => ⟨cell_kept hs.1 hg hr, (frozen_kept hs.1 hg hr).trans hs.2⟩) _) (ownFrom_below (Nat.le_refl _) (by simp; omega)))
    (fun _ _ _ _ _ hs _ _ => hs)
    ⟨box1_alloc _ hs, hB0⟩
    (fun x => { tmps := #[.int .i64 a, .slice A m c, .pointer (some ⟨w.heap.size, 0, none⟩), undef, .int .i64 0, .int .i64 x, .slice A m c, .func (.func 53) #[] #[.pointer (some ⟨w.heap.size + 1, 0, none⟩)], .int .i64 x, undef, undef, undef, undef], defers := [] }) ?assign ?body ?done ?stop
  case assign =>
    intro l x W K hK
    gi_wp2
    exact hK
  case body =>
    rintro l pre x W ⟨⟨hc, hf⟩, hB⟩ hlen
    obtain ⟨f, hf0⟩ : ∃ f, f = pre.foldl min a := ⟨_, rfl⟩
    have hfx : (pre ++ [x]).foldl min a = min f x := by rw [List.foldl_append, hf0]; rfl
    rw [← hf0] at hc
    have HFX := Lib.hid hfx
    clear hfx hf0
    by_cases hlt : x < f
    · have HV : Hid (min f x = x) := by show _ = _; omega
      gi_wp2
      exact ⟨KeepsOthers.setCell _ _ _, (Below.refl w.heap.size W).setCell (p := ⟨w.heap.size, 0, none⟩) (Nat.le_refl _) _, ⟨by rw [HFX.out, HV.out]; exact World.cell?_setCell_same' _ _ _ (by rw [hc]; rfl), by rw [World.frozen?_setCell]; exact hf⟩, hB.setCell (p := ⟨w.heap.size, 0, none⟩) (Nat.le_refl _) _⟩
    · have HV : Hid (min f x = f) := by show _ = _; omega
      gi_wp2
      exact ⟨KeepsOthers.setCell _ _ _, (Below.refl w.heap.size W).setCell (p := ⟨w.heap.size, 0, none⟩) (Nat.le_refl _) _, ⟨by rw [HFX.out, HV.out]; exact World.cell?_setCell_same' _ _ _ (by rw [hc]; rfl), by rw [World.frozen?_setCell]; exact hf⟩, hB.setCell (p := ⟨w.heap.size, 0, none⟩) (Nat.le_refl _) _⟩
  case done =>
    rintro D ys W hD rfl ⟨⟨hc, _⟩, hB⟩ hK
    gi_wp2
    refine ⟨by simp, .inl ⟨_, _, rfl, run_takeDeferred hK, ?_⟩⟩
    exact ⟨_, results_tmp rfl _ _ _, rfl, hB.trans (belowK_b (w := w) (Nat.le_refl _) W D _ _ (by simp at hD; omega) hK rfl rfl)⟩
  case stop =>
    rintro D c pre W _ _ h _
    exact h.elim

theorem fold1 (op : Int → Int → Int) (a x : Int) : [x].foldl op a = op a x := rfl
/-- A literal slice of ints, new. -/
theorem ints_lit1 (W : World) (x : Int) : IsInts (W.alloc (.cells #[.int .i64 x] 3)) (W.heap.size + 1) (some ⟨W.heap.size, 0, none⟩) 1 [x] :=
  ⟨rfl, fun _ => ⟨W.heap.size, 0, rfl, by omega, fun j hj => by
    obtain rfl : j = 0 := by omega
    exact (box1_new W _ _).1⟩⟩
theorem ints_lit2 (W : World) (x y : Int) : IsInts (W.alloc (.cells #[.int .i64 x, .int .i64 y] 3)) (W.heap.size + 1) (some ⟨W.heap.size, 0, none⟩) 2 [x, y] :=
  ⟨rfl, fun _ => ⟨W.heap.size, 0, rfl, by omega, fun j hj => by
    have h := box_new W (.cells #[.int .i64 x, .int .i64 y] 3)
    match j, hj with
    | 0, _ => exact box_cell h 0 _ rfl
    | 1, _ => exact box_cell h 1 _ rfl⟩⟩
set_option maxHeartbeats 1600000 in
/-- What x is above l, where the difference turns nothing over. -/
theorem above_any (x l d m : Int) (w : World) (hd : x - l = d) (hb : -1000000 ≤ d ∧ d ≤ 1000000) (hm : max 0 d = m) :
    Calls Try.prog 42 #[.int .i64 x, .int .i64 l] w (Says (.int .i64 m) w) := by
  have hw : IntKind.i64.wrap (x - l) = d := by rw [hd]; exact IntWalk.i64_in _ ⟨by omega, by omega⟩
  have HM := Lib.hid hm
  have HD := Lib.hid hd
  clear hm hd
  go_enter Try.func42, Try.ntmps42
  go_wp2_with fail
  (try rw [hw])
  refine (greatestOf_any 0 (some ⟨w.heap.size, 0, none⟩) 1 1 [d] (w.heap.size + 1) _ (ints_lit1 w d) (by simp) (by omega)).mono ?_
  rintro e w1 ⟨rfl, hb1⟩
  have HB : Hid (Below w.heap.size w w1) := bel_then (bel1 w _) hb1 (bel1 w (.cells #[.int .i64 d] 3)).size
  clear hb1
  go_wp2
  go_ret
  exact ⟨by rw [← HM.out]; rfl, HB.out⟩
end Go.Proofs.Ytlghdmakaocokaa.Each
