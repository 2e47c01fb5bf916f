/-
  THE ITERATOR OVER A LIST OF PODS over this seat's translation: ranged over, it yields each pod in its order.
-/
import Derived.Test.YtdefckbgcggnoaaGreatEachI
import Derived.Test.YtdefckbgcggnoaaGreatPods
namespace Go.Proofs.YtdefckbgcggnoaaGreat.EachP
open Go.ChangeShapes Go.WideShapes Go.ChangeAt Go.RowKit Go.Shelf
open Go.Proofs.YtdefckbgcggnoaaGreat.LK Go.Proofs.YtdefckbgcggnoaaGreat.Pods
set_option linter.unusedVariables false
attribute [local go_sem] Oper.semAt_some
/-- A pod as it is handed to a round. -/
abbrev podA (p : Pd) : Value := .agg #[.int .i64 p.1, .int .i64 p.2.1, .int .i64 p.2.2.1, .int .i64 p.2.2.2.1, .int .i64 p.2.2.2.2]

set_option maxHeartbeats 1000000 in
theorem eachP_in (F : Fence) (n : Nat) (h5 : F.fn 256) (hro : F.round = none) (A : Option Addr) (m c : Nat) (w : World) :
    CallsIn F n Tryz.prog 256 #[.slice A m c] w fun e w' => e = .returned (.func (.func 266) #[] #[.pointer (some ⟨w.heap.size, 0, none⟩)]) ∧ w' = w.alloc (.cells #[.slice A m c] 32) := by
  refine callsIn_of_wp Tryz.func256 rfl h5 ?_ hro
  simp only [Tryz.ntmps256, List.size_toArray, List.length_cons, List.length_nil, Nat.reduceAdd, Nat.reduceSub, Array.replicate_succ, Array.replicate_zero, List.push_toArray, List.append_toArray, List.nil_append, List.cons_append]
  gi_wp2
  go_ret
  exact ⟨rfl, rfl⟩

theorem take_step (zs : PList) (k : Nat) (h : k < zs.length) : zs.take k ++ [zs.getD k z5] = zs.take (k + 1) := by
  rw [List.take_succ_eq_append_getElem h]
  simp [List.getD, h]

set_option maxRecDepth 100000 in
set_option maxHeartbeats 2000000 in
theorem eachP1_in (F : Fence) (n : Nat) (h6 : F.fn 266) (hro : F.round = none) (hn : 1 ≤ n) (l Bn n₀ : Nat) (A : Option Addr) (m c : Nat) (zs : PList) (hm : m ≤ 1048576) (J Jx : PList → World → Prop) (hJ : ∀ s W o, J s W → J s (W.alloc o))
    (hY : ∀ pre x W, J pre W → pre.length < m → YieldAt F (n - 1) Tryz.prog l #[podA x] W fun e W' =>
      (e = .returned (.bool true) ∧ J (pre ++ [x]) W' ∧ Below n₀ W W') ∨ (e = .returned (.bool false) ∧ Jx (pre ++ [x]) W'))
    (W : World) (hBn : W.cell? ⟨Bn, 0, none⟩ = some (.slice A m c)) (hL : IsPods W n₀ A m zs) (hn0 : n₀ ≤ W.heap.size) (h0 : J [] W) :
    CallsIn F n Tryz.prog 266 #[.func (.yield l) #[] #[], .pointer (some ⟨Bn, 0, none⟩)] W fun e W' => (∃ v, e = .returned v) ∧
      ((∃ ys, ys = zs ∧ J ys W') ∨ (∃ pre, pre <+: zs ∧ Jx pre W')) := by
  have HL := Lib.hid hL
  have HN : Hid (zs.length = m) := hL.1
  have HY := Lib.hid hY
  have HJ := Lib.hid hJ
  have HN0 := Lib.hid hn0
  clear hY hL hJ hn0
  refine callsIn_of_wp Tryz.func266 rfl h6 ?_ hro
  simp only [Tryz.ntmps266, List.size_toArray, List.length_cons, List.length_nil, Nat.reduceAdd, Nat.reduceSub, Array.replicate_succ, Array.replicate_zero, List.push_toArray, List.append_toArray, List.nil_append, List.cons_append]
  gi_wp2
  gi_loopw [7] (fun v7 wr => ∃ k : Nat, k ≤ m ∧ v7 = .int .i64 k ∧ J (zs.take k) wr ∧ Below n₀ W wr) (fun v7 _ => m - (intOf v7).toNat)
  case atStart => exact ⟨0, by omega, rfl, by simpa using h0, Below.refl _ _⟩
  case round =>
    obtain ⟨k, hk, rfl, hJk, hbr⟩ := hrel
    by_cases hlt : k < m
    · have hd : decide ((k : Int) < (m : Int)) = true := decide_eq_true (by omega)
      obtain ⟨b, off, y0, y1, y2, y3, y4, rfl, hbB, hz, hc0, hc1, hc2, hc3, hc4⟩ := (HL.out.below hbr (Nat.le_refl _)).at_ hlt
      have hks : k < zs.length := by rw [HN.out]; exact hlt
      obtain ⟨fn, tmps, assign, body, hy, hR⟩ := HY.out _ (y0, y1, y2, y3, y4) (wr.alloc (.cells #[.int .i64 y0, .int .i64 y1, .int .i64 y2, .int .i64 y3, .int .i64 y4] 77)) (HJ.out _ _ _ hJk) (by rw [List.length_take]; omega)
      have hnx : zs.take k ++ [(y0, y1, y2, y3, y4)] = zs.take (k + 1) := by rw [← hz]; exact take_step zs k hks
      have hpx : zs.take (k + 1) <+: zs := List.take_prefix _ _
      rw [hnx] at hR
      have HRR := Lib.hid hR
      have HP := Lib.hid hpx
      clear hz hnx hR hJk hpx
      gi_wp2
      refine HRR.out.mono ?_
      rintro e W3 (⟨rfl, hJ3, hk3⟩ | ⟨rfl, hJx3⟩)
      · have hb3 : Below n₀ W W3 := (hbr.alloc (Nat.le_trans HN0.out hbr.size) _).trans hk3
        have HJ3 := Lib.hid hJ3
        clear hJ3 hk3
        gi_wp2
        go_roundw
        case rel => exact ⟨k + 1, by omega, by go_num, HJ3.out, hb3⟩
        case measure => simp [intOf]; omega
      · have HJX := Lib.hid hJx3
        clear hJx3
        gi_wp2
        refine bodyPost_ret (results_none rfl _ _ _) rfl ?_
        exact ⟨⟨_, rfl⟩, .inr ⟨_, HP.out, HJX.out⟩⟩
    · have hd : decide ((k : Int) < (m : Int)) = false := decide_eq_false (by omega)
      have HK : Hid (k = m) := (by omega : k = m)
      gi_wp2
      go_end0
      refine ⟨⟨_, rfl⟩, .inl ⟨_, rfl, ?_⟩⟩
      rw [HK.out, ← HN.out, List.take_length] at hJk
      exact hJk

theorem eachP_stops (F : Fence) (n : Nat) (h6 : F.fn 266) (hro : F.round = none) (hn : 1 ≤ n) (Bn n₀ : Nat) (A : Option Addr) (m c : Nat) (zs : PList) (w : World) (hm : m ≤ 1048576)
    (hBn : Bn < w.heap.size) (hn₀ : n₀ ≤ w.heap.size) (hc : w.cell? ⟨Bn, 0, none⟩ = some (.slice A m c)) (hL : IsPods w n₀ A m zs) :
    SeqStopsK F n Tryz.prog 266 #[.pointer (some ⟨Bn, 0, none⟩)] (fun x : Pd => #[podA x]) (Below n₀) (fun ys => ys = zs) (fun pre => pre <+: zs) m w := fun l J Jx W hW hJ _ hY h0 =>
  eachP1_in F n h6 hro hn l Bn n₀ A m c zs hm J Jx (fun s A o hs => hJ s A (A.alloc o) none hs (World.grownBy_alloc A o none) (fun r e => by cases e)) hY W ((hW.cell (p := ⟨Bn, 0, none⟩) hBn).trans hc) (hL.below (hW.mono hn₀) (Nat.le_refl _)) (Nat.le_trans hn₀ hW.size) h0

end Go.Proofs.YtdefckbgcggnoaaGreat.EachP
