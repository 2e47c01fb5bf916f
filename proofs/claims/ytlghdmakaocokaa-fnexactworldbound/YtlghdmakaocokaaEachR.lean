/-
  THE ITERATOR OVER A LIST OF RULES over this seat's translation: ranged over, it yields each function value in its order; a round may turn the plan's block.
-/
import Derived.Test.YtlghdmakaocokaaEachI
namespace Go.Proofs.Ytlghdmakaocokaa.EachR
open Go.ChangeShapes Go.WideShapes Go.ChangeAt Go.RowKit Go.Shelf
open Go.Proofs.Ytlghdmakaocokaa.LK
set_option linter.unusedVariables false
attribute [local go_sem] Oper.semAt_some
/-- The rules' functions. -/
def num : Nat → Nat
  | 0 => 40
  | 1 => 45
  | 2 => 47
  | _ => 49
abbrev rv (Bc : Nat) (x : Nat) : Value := .func (.func (num x)) #[] #[.pointer (some ⟨Bc, 0, none⟩)]
/-- Below n₀ nothing but the block Bp has turned. -/
structure KpB (n₀ Bp : Nat) (W W' : World) : Prop where
  size : W.heap.size ≤ W'.heap.size
  block : ∀ k, k < n₀ → k ≠ Bp → W'.heap[k]? = W.heap[k]?
theorem KpB.refl (n₀ Bp : Nat) (W : World) : KpB n₀ Bp W W := ⟨Nat.le_refl _, fun _ _ _ => rfl⟩
theorem KpB.trans {n₀ Bp : Nat} {A B C : World} (h : KpB n₀ Bp A B) (k : KpB n₀ Bp B C) : KpB n₀ Bp A C := ⟨Nat.le_trans h.size k.size, fun i h1 h2 => (k.block i h1 h2).trans (h.block i h1 h2)⟩
theorem kpB_b {n₀ Bp : Nat} {w : World} (hn : n₀ ≤ w.heap.size) (W : World) (l : Nat) (o o' : Obj) (hl : w.heap.size ≤ l) (h : W.heap[l]? = some o) (_ : o.isCells = false) (_ : o.isWalk = false) : KpB n₀ Bp W (W.putObj l o') :=
  ⟨by simp, fun k hk _ => World.putObj_heap_other (by omega)⟩
theorem KpB.of {n₀ Bp : Nat} {W W' : World} (h : Turned (fun k => k = Bp) W W') (hn : n₀ ≤ W.heap.size) : KpB n₀ Bp W W' := ⟨h.size, fun k hk hne => h.block k (by omega) hne⟩
/-- The slice at A holds the rules zs over the scene's block Bc, in a block below n₀ that is not Bp. -/
def IsRules (Bc : Nat) (w : World) (n₀ Bp : Nat) (A : Option Addr) (m : Nat) (zs : List Nat) : Prop :=
  zs.length = m ∧ (0 < m → ∃ b off, A = some ⟨b, off, none⟩ ∧ b < n₀ ∧ b ≠ Bp ∧ ∀ j, j < m → w.cell? ⟨b, off + j, none⟩ = some (rv Bc (zs.getD j 0)))
theorem IsRules.keep {Bc n₀ Bp m : Nat} {w w' : World} {A : Option Addr} {zs : List Nat} (h : IsRules Bc w n₀ Bp A m zs) (hk : KpB n₀ Bp w w') : IsRules Bc w' n₀ Bp A m zs :=
  ⟨h.1, fun hn => by
    obtain ⟨b, off, e, hlt, hne, hc⟩ := h.2 hn
    exact ⟨b, off, e, hlt, hne, fun j hj => (World.cell?_of_block (hk.block b hlt hne)).trans (hc j hj)⟩⟩
theorem IsRules.more {Bc n₀ n₁ Bp m : Nat} {w : World} {A : Option Addr} {zs : List Nat} (h : IsRules Bc w n₀ Bp A m zs) (hn : n₀ ≤ n₁) : IsRules Bc w n₁ Bp A m zs :=
  ⟨h.1, fun hm => by
    obtain ⟨b, off, e, hlt, hne, hc⟩ := h.2 hm
    exact ⟨b, off, e, by omega, hne, hc⟩⟩
theorem IsRules.at_ {Bc n₀ Bp m k : Nat} {w : World} {A : Option Addr} {zs : List Nat} (h : IsRules Bc w n₀ Bp A m zs) (hk : k < m) : ∃ b off z, A = some ⟨b, off, none⟩ ∧ z = zs.getD k 0 ∧ w.cell? ⟨b, off + k, none⟩ = some (rv Bc z) := by
  obtain ⟨b, off, e, _, _, hc⟩ := h.2 (by omega)
  exact ⟨b, off, _, e, rfl, hc k hk⟩

set_option maxHeartbeats 1000000 in
theorem eachR_in (F : Fence) (n : Nat) (h5 : F.fn 36) (hro : F.round = none) (A : Option Addr) (m c : Nat) (w : World) :
    CallsIn F n Try.prog 36 #[.slice A m c] w fun e w' => e = .returned (.func (.func 39) #[] #[.pointer (some ⟨w.heap.size, 0, none⟩)]) ∧ w' = w.alloc (.cells #[.slice A m c] 70) := by
  refine callsIn_of_wp Try.func36 rfl h5 ?_ hro
  simp only [Try.ntmps36, List.size_toArray, List.length_cons, List.length_nil, Nat.reduceAdd, Nat.reduceSub, Array.replicate_succ, Array.replicate_zero, List.push_toArray, List.append_toArray, List.nil_append, List.cons_append]
  gi_wp2
  go_ret
  exact ⟨rfl, rfl⟩

theorem take_step (zs : List Nat) (k : Nat) (h : k < zs.length) : zs.take k ++ [zs.getD k 0] = zs.take (k + 1) := by
  rw [List.take_succ_eq_append_getElem h]
  simp [List.getD, h]

set_option maxRecDepth 100000 in
set_option maxHeartbeats 2000000 in
theorem eachR1_in (F : Fence) (n : Nat) (h6 : F.fn 39) (hro : F.round = none) (hn : 1 ≤ n) (Bc Bp l Bn n₀ : Nat) (A : Option Addr) (m c : Nat) (zs : List Nat) (hm : m ≤ 1048576) (J Jx : List Nat → World → Prop)
    (hY : ∀ pre x W, J pre W → pre.length < m → YieldAt F (n - 1) Try.prog l #[rv Bc x] W fun e W' =>
      (e = .returned (.bool true) ∧ J (pre ++ [x]) W' ∧ KpB n₀ Bp W W') ∨ (e = .returned (.bool false) ∧ Jx (pre ++ [x]) W'))
    (W : World) (hBn : W.cell? ⟨Bn, 0, none⟩ = some (.slice A m c)) (hL : IsRules Bc W n₀ Bp A m zs) (h0 : J [] W) :
    CallsIn F n Try.prog 39 #[.func (.yield l) #[] #[], .pointer (some ⟨Bn, 0, none⟩)] W fun e W' => (∃ v, e = .returned v) ∧
      ((∃ ys, ys = zs ∧ J ys W') ∨ (∃ pre, pre <+: zs ∧ Jx pre W')) := by
  have HL := Lib.hid hL
  have HN : Hid (zs.length = m) := hL.1
  have HY := Lib.hid hY
  clear hY hL
  refine callsIn_of_wp Try.func39 rfl h6 ?_ hro
  simp only [Try.ntmps39, List.size_toArray, List.length_cons, List.length_nil, Nat.reduceAdd, Nat.reduceSub, Array.replicate_succ, Array.replicate_zero, List.push_toArray, List.append_toArray, List.nil_append, List.cons_append]
  gi_wp2
  gi_loopw [7] (fun v7 wr => ∃ k : Nat, k ≤ m ∧ v7 = .int .i64 k ∧ J (zs.take k) wr ∧ KpB n₀ Bp W wr) (fun v7 _ => m - (intOf v7).toNat)
  case atStart => exact ⟨0, by omega, rfl, by simpa using h0, KpB.refl _ _ _⟩
  case round =>
    obtain ⟨k, hk, rfl, hJk, hbr⟩ := hrel
    by_cases hlt : k < m
    · have hd : decide ((k : Int) < (m : Int)) = true := decide_eq_true (by omega)
      obtain ⟨b, off, z, rfl, hz, hc⟩ := (HL.out.keep hbr).at_ hlt
      have hks : k < zs.length := by rw [HN.out]; exact hlt
      obtain ⟨fn, tmps, assign, body, hy, hR⟩ := HY.out _ z wr hJk (by rw [List.length_take]; omega)
      have hnx : zs.take k ++ [z] = zs.take (k + 1) := by rw [hz]; exact take_step zs k hks
      have hpx : zs.take (k + 1) <+: zs := List.take_prefix _ _
      rw [hnx] at hR
      have HRR := Lib.hid hR
      have HP := Lib.hid hpx
      clear hz hnx hR hJk hpx
      gi_wp2
      refine HRR.out.mono ?_
      rintro e W3 (⟨rfl, hJ3, hk3⟩ | ⟨rfl, hJx3⟩)
      · have hb3 : KpB n₀ Bp W W3 := hbr.trans hk3
        have HJ3 := Lib.hid hJ3
        clear hJ3 hk3
        gi_wp2
        go_roundw
        case rel => exact ⟨k + 1, by omega, by go_num, HJ3.out, hb3⟩
        case measure => simp [intOf]; omega
      · have HJX := Lib.hid hJx3
        clear hJx3
        gi_wp2
        refine bodyPost_ret (results_none rfl _ _ _) rfl ?_
        exact ⟨⟨_, rfl⟩, .inr ⟨_, HP.out, HJX.out⟩⟩
    · have hd : decide ((k : Int) < (m : Int)) = false := decide_eq_false (by omega)
      have HK : Hid (k = m) := (by omega : k = m)
      gi_wp2
      go_end0
      refine ⟨⟨_, rfl⟩, .inl ⟨_, rfl, ?_⟩⟩
      rw [HK.out, ← HN.out, List.take_length] at hJk
      exact hJk

theorem eachR_stops (F : Fence) (n : Nat) (h6 : F.fn 39) (hro : F.round = none) (hn : 1 ≤ n) (Bc Bp Bn n₀ : Nat) (A : Option Addr) (m c : Nat) (zs : List Nat) (w : World) (hm : m ≤ 1048576)
    (hBn : Bn < w.heap.size) (hn₀ : n₀ ≤ w.heap.size) (hc : w.cell? ⟨Bn, 0, none⟩ = some (.slice A m c)) (hL : IsRules Bc w n₀ Bp A m zs) :
    SeqStopsK F n Try.prog 39 #[.pointer (some ⟨Bn, 0, none⟩)] (fun x : Nat => #[rv Bc x]) (KpB n₀ Bp) (fun ys => ys = zs) (fun pre => pre <+: zs) m w := fun l J Jx W hW hJ _ hY h0 =>
  eachR1_in F n h6 hro hn Bc Bp l Bn n₀ A m c zs hm J Jx hY W ((hW.cell (p := ⟨Bn, 0, none⟩) hBn).trans hc) (hL.keep ⟨hW.size, fun k hk _ => hW.block k (by omega)⟩) h0

end Go.Proofs.Ytlghdmakaocokaa.EachR
