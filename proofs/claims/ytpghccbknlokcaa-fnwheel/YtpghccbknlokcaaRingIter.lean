/-
  THE RING'S ITERATOR over this seat's translation: timers hands back a function value; ranged over, it yields each timer's Id and tick, list by list, in their order.
-/
import Derived.Test.YtpghccbknlokcaaRingOf
import Derived.RangeFuncNested
import Derived.RangeFuncBound
import Derived.RangeFuncCalls
import Derived.RangeFuncLeaves
import Derived.Shelf.Abstract
import Derived.Shelf.RegionOpen
import Derived.WalkKit
import Derived.OwnWalkIn
import Derived.TacticsInMore
import Derived.LoopNIn
import Derived.LoopIn
namespace Go.Proofs.Ytpghccbknlokcaa.Ring
open Go.ChangeShapes Go.WideShapes Go.ChangeAt Go.RowKit Go.Shelf
open Go.Proofs.Ytpghccbknlokcaa.Timers Go.Proofs.Ytpghccbknlokcaa.WheelOk
open Go.Proofs.Ytpghccbknlokcaa.Tick (tokB tok_t)
set_option linter.unusedVariables false
attribute [local go_sem] Oper.semAt_some

/-- A row of armed timers reads as a list of pairs. -/
def IsArmed (w : World) (B : Nat) (A : Option Addr) (n : Nat) (ts : TList) : Prop := IsTimers w B A n (ts.map fun p => (p.2, p.1))
/-- The ring's lists, as they are read, all below n₀. -/
def IsRing (w : World) (n₀ g : Nat) (rs : List TList) : Prop :=
  g < n₀ ∧ rs.length = 8 ∧ ∃ vs : List Value, vs.length = 8 ∧ ∀ j, j < 8 → ∃ A c, vs[j]? = some (.slice A (rs.getD j []).length c) ∧ w.cell? ⟨g, 1 + j, none⟩ = some (.slice A (rs.getD j []).length c) ∧ IsArmed w n₀ A (rs.getD j []).length (rs.getD j [])
theorem IsRing.keep {w w' : World} {n₀ g : Nat} {rs : List TList} (h : IsRing w n₀ g rs) (hb : Below n₀ w w') : IsRing w' n₀ g rs := by
  obtain ⟨h1, h2, vs, h3, h4⟩ := h
  refine ⟨h1, h2, vs, h3, fun j hj => ?_⟩
  obtain ⟨A, c, e1, e2, e3⟩ := h4 j hj
  exact ⟨A, c, e1, (hb.cell (p := ⟨g, 1 + j, none⟩) h1).trans e2, e3.below hb (Nat.le_refl _)⟩
theorem OwnR.reads {w : World} {lo g : Nat} {now : Int} {rs : List TList} (h : OwnR w lo g now rs) : IsRing w w.heap.size g rs := by
  have hlt := h.lt
  obtain ⟨vs, h1, h2, h3, hg, hr, hd⟩ := h
  refine ⟨hlt, h2, vs, h1, fun j hj => ?_⟩
  have hv : vs[j]? = some vs[j] := List.getElem?_eq_getElem (by omega)
  have hrow := hr j _ hv
  obtain ⟨A, c, e⟩ := own_slice hrow
  rw [e] at hrow hv
  refine ⟨A, c, hv, ?_, ?_⟩
  · rw [cell_of_row w g (1 + j) _ _ (0, 0) hg, Nat.add_comm 1 j]
    simpa using hv
  · exact own_timers hrow

set_option maxHeartbeats 1000000 in
theorem timers_in (F : Fence) (n : Nat) (h5 : F.fn 58) (hro : F.round = none) (p0 : Option Addr) (w : World) :
    CallsIn F n Try.prog 58 #[.pointer p0] w fun e w' => e = .returned (.func (.func 102) #[] #[.pointer (some ⟨w.heap.size, 0, none⟩)]) ∧ w' = w.alloc (.cells #[.pointer p0] 84) := by
  refine callsIn_of_wp Try.func58 rfl h5 ?_ hro
  simp only [Try.ntmps58, List.size_toArray, List.length_cons, List.length_nil, Nat.reduceAdd, Nat.reduceSub, Array.replicate_succ, Array.replicate_zero, List.push_toArray, List.append_toArray, List.nil_append, List.cons_append]
  gi_wp2
  go_ret
  exact ⟨rfl, rfl⟩

/-- A tick, whatever is handed. -/
def norm (y : Int) : Int := if tokB y then y else 0
theorem norm_tok (y : Int) : tokB (norm y) = true := by
  unfold norm
  split
  · assumption
  · decide
theorem norm_of {y : Int} (h : tokB y = true) : norm y = y := by simp [norm, h]
/-- What is handed to a round. -/
abbrev encs (p : Int × Int) : Array Value := #[.int .i64 p.1, .int .i64 (norm p.2)]

theorem index8 (v1 v2 v3 v4 v5 v6 v7 v8 : Value) (A : Option Addr) (m c k : Nat) (hk : k < 8) (h : [v1, v2, v3, v4, v5, v6, v7, v8][k]? = some (.slice A m c)) (W : World) :
    Sem.run Try.prog (Instr.index 92 (.agg #[v1, v2, v3, v4, v5, v6, v7, v8]) (.int .i64 (k : Int))) W = .ok (.slice A m c) W := by
  match k, hk with
  | 0, _ => simp at h; subst h; simp [Instr.index, go_sem]
  | 1, _ => simp at h; subst h; simp [Instr.index, go_sem]
  | 2, _ => simp at h; subst h; simp [Instr.index, go_sem]
  | 3, _ => simp at h; subst h; simp [Instr.index, go_sem]
  | 4, _ => simp at h; subst h; simp [Instr.index, go_sem]
  | 5, _ => simp at h; subst h; simp [Instr.index, go_sem]
  | 6, _ => simp at h; subst h; simp [Instr.index, go_sem]
  | 7, _ => simp at h; subst h; simp [Instr.index, go_sem]

theorem flat_len_tot (ls : List TList) : ls.flatten.length = tot ls := by simp [tot, List.length_flatten]
theorem flatten_take (rs : List TList) (k : Nat) (h : k < rs.length) : (rs.take (k + 1)).flatten = (rs.take k).flatten ++ rs.getD k [] := by
  rw [List.take_succ_eq_append_getElem h, List.flatten_append, getD_lt rs k [] h]
  simp
theorem flatten_prefix (rs : List TList) (k i : Nat) (h : k < rs.length) : (rs.take k).flatten ++ (rs.getD k []).take i <+: rs.flatten := by
  have h1 : rs.flatten = (rs.take (k + 1)).flatten ++ (rs.drop (k + 1)).flatten := by rw [← List.flatten_append, List.take_append_drop]
  rw [h1, flatten_take rs k h]
  refine List.IsPrefix.trans ?_ (List.prefix_append _ _)
  exact (List.prefix_append_right_inj _).2 (List.take_prefix _ _)
theorem mid_len (rs : List TList) (k i : Nat) (h : k < rs.length) (hi : i < (rs.getD k []).length) : ((rs.take k).flatten ++ (rs.getD k []).take i).length < tot rs := by
  have h1 := tot_take_le rs (k + 1)
  rw [tot_take rs k h] at h1
  rw [List.length_append, flat_len_tot, List.length_take]
  omega

set_option maxRecDepth 100000 in
set_option maxHeartbeats 2000000 in
theorem timers1_in (F : Fence) (n : Nat) (h6 : F.fn 102) (hro : F.round = none) (hn : 1 ≤ n) (l Bn n₀ g : Nat) (rs : List TList) (hT : ∀ j t, t ∈ rs.getD j [] → tokB t.2 = true) (hF : tot rs ≤ 100) (J Jx : TList → World → Prop) (hJ : ∀ s W o, J s W → J s (W.alloc o))
    (hY : ∀ pre x W, J pre W → pre.length < tot rs → YieldAt F (n - 1) Try.prog l (encs x) W fun e W' =>
      (e = .returned (.bool true) ∧ J (pre ++ [x]) W' ∧ Below n₀ W W') ∨ (e = .returned (.bool false) ∧ Jx (pre ++ [x]) W'))
    (W : World) (hBn : W.cell? ⟨Bn, 0, none⟩ = some (.pointer (some ⟨g, 0, none⟩))) (hL : IsRing W n₀ g rs) (hn0 : n₀ ≤ W.heap.size) (h0 : J [] W) :
    CallsIn F n Try.prog 102 #[.func (.yield l) #[] #[], .pointer (some ⟨Bn, 0, none⟩)] W fun e W' => (∃ v, e = .returned v) ∧
      ((∃ ys, ys = rs.flatten ∧ J ys W') ∨ (∃ pre, pre <+: rs.flatten ∧ Jx pre W')) := by
  have HL := Lib.hid hL
  obtain ⟨hg, hrl, vs, hvl, hv⟩ := hL
  have HV := Lib.hid hv
  match vs, hvl with
  | [v1, v2, v3, v4, v5, v6, v7, v8], _ =>
  have c1 : W.cell? ⟨g, 1, none⟩ = some v1 := by obtain ⟨A, c, e1, e2, _⟩ := hv 0 (by omega); rw [e2, ← e1]; rfl
  have c2 : W.cell? ⟨g, 2, none⟩ = some v2 := by obtain ⟨A, c, e1, e2, _⟩ := hv 1 (by omega); rw [show 2 = 1 + 1 from rfl, e2, ← e1]; rfl
  have c3 : W.cell? ⟨g, 3, none⟩ = some v3 := by obtain ⟨A, c, e1, e2, _⟩ := hv 2 (by omega); rw [show 3 = 1 + 2 from rfl, e2, ← e1]; rfl
  have c4 : W.cell? ⟨g, 4, none⟩ = some v4 := by obtain ⟨A, c, e1, e2, _⟩ := hv 3 (by omega); rw [show 4 = 1 + 3 from rfl, e2, ← e1]; rfl
  have c5 : W.cell? ⟨g, 5, none⟩ = some v5 := by obtain ⟨A, c, e1, e2, _⟩ := hv 4 (by omega); rw [show 5 = 1 + 4 from rfl, e2, ← e1]; rfl
  have c6 : W.cell? ⟨g, 6, none⟩ = some v6 := by obtain ⟨A, c, e1, e2, _⟩ := hv 5 (by omega); rw [show 6 = 1 + 5 from rfl, e2, ← e1]; rfl
  have c7 : W.cell? ⟨g, 7, none⟩ = some v7 := by obtain ⟨A, c, e1, e2, _⟩ := hv 6 (by omega); rw [show 7 = 1 + 6 from rfl, e2, ← e1]; rfl
  have c8 : W.cell? ⟨g, 8, none⟩ = some v8 := by obtain ⟨A, c, e1, e2, _⟩ := hv 7 (by omega); rw [show 8 = 1 + 7 from rfl, e2, ← e1]; rfl
  have HT := Lib.hid hT
  have HY := Lib.hid hY
  have HJ := Lib.hid hJ
  have HRL := Lib.hid hrl
  clear hv hT hY hJ hrl
  refine callsIn_of_wp Try.func102 rfl h6 ?_ hro
  simp only [Try.ntmps102, List.size_toArray, List.length_cons, List.length_nil, Nat.reduceAdd, Nat.reduceSub, Array.replicate_succ, Array.replicate_zero, List.push_toArray, List.append_toArray, List.nil_append, List.cons_append]
  gi_wp2
  gi_loopw [11] (fun v11 wr => ∃ k : Nat, k ≤ 8 ∧ v11 = .int .i64 k ∧ J (rs.take k).flatten wr ∧ Below n₀ W wr) (fun v11 _ => 8 - (intOf v11).toNat)
  case atStart => exact ⟨0, by omega, rfl, by simpa using h0, Below.refl _ _⟩
  case round =>
    obtain ⟨k, hk, rfl, hJk, hbr⟩ := hrel
    by_cases hlt : k < 8
    · obtain ⟨A1, cc, e1, e2, e3⟩ := HV.out k hlt
      have hk8 : decide ((k : Int) < 8) = true := decide_eq_true (by omega)
      have HE1 := Lib.hid e1
      have HE3 := Lib.hid e3
      have hidx := index8 v1 v2 v3 v4 v5 v6 v7 v8 A1 (rs.getD k []).length cc k hlt e1
      have hks : k < rs.length := by rw [HRL.out]; exact hlt
      obtain ⟨m, hm⟩ : ∃ m, m = (rs.getD k []).length := ⟨_, rfl⟩
      have hm1 : m ≤ 100 := by rw [hm]; exact Nat.le_trans (tot_get rs k) hF
      rw [← hm] at hidx HE3
      have HM := Lib.hid hm
      have hJk0 : J ((rs.take k).flatten ++ (rs.getD k []).take 0) wr := by simpa using hJk
      have HJK := Lib.hid hJk0
      clear e1 e2 e3 hm hJk hJk0
      gi_wp2
      gi_loopw [16] (fun v16 wq => ∃ i : Nat, i ≤ m ∧ v16 = .int .i64 i ∧ J ((rs.take k).flatten ++ (rs.getD k []).take i) wq ∧ Below n₀ W wq) (fun v16 _ => m - (intOf v16).toNat)
      case atStart => exact ⟨0, Nat.zero_le _, rfl, HJK.out, hbr⟩
      case round =>
        clear HJK hidx
        obtain ⟨i, hi, rfl, hJi, hbq⟩ := hrel
        by_cases hlt2 : i < m
        · have hil : i < (rs.getD k []).length := by rw [← HM.out]; exact hlt2
          obtain ⟨b2, off2, y, x, rfl, hbB2, hz, hd1, hd2⟩ := ((HE3.out.below hbq (Nat.le_refl _)).at_ hlt2)
          have hz' : (rs.getD k []).getD i (0, 0) = (x, y) := by
            have h5 : ((rs.getD k []).map fun p : Int × Int => (p.2, p.1)).getD i (0, 0) = (((rs.getD k []).getD i (0, 0)).2, ((rs.getD k []).getD i (0, 0)).1) := by
              rw [getD_lt _ i _ (by simpa using hil), getD_lt (rs.getD k []) i _ hil]
              simp
            rw [h5] at hz
            exact Prod.ext (congrArg Prod.snd hz) (congrArg Prod.fst hz)
          have htk : tokB y = true := by have h5 := getD_mem (rs.getD k []) i (0, 0) hil; rw [hz'] at h5; exact HT.out k (x, y) h5
          obtain ⟨fn, tmps, assign, body, hy, hR⟩ := HY.out _ (x, y) (wr.alloc (.cells #[.int .i64 y, .int .i64 x] 150)) (HJ.out _ _ _ hJi) (mid_len rs k i hks hil)
          have hy' : (Instr.yield l #[.int .i64 x, .int .i64 y]).run Try.prog (wr.alloc (.cells #[.int .i64 y, .int .i64 x] 150)) = .ok (.round l fn tmps assign body) (wr.alloc (.cells #[.int .i64 y, .int .i64 x] 150)) := by
            have h5 := hy
            simp only [encs, norm_of htk] at h5
            exact h5
          have hnx : (rs.take k).flatten ++ (rs.getD k []).take i ++ [(x, y)] = (rs.take k).flatten ++ (rs.getD k []).take (i + 1) := by
            rw [List.append_assoc, List.take_succ_eq_append_getElem hil, ← hz', getD_lt (rs.getD k []) i _ hil]
          rw [hnx] at hR
          have HRR := Lib.hid hR
          clear hz hz' hy hnx hR htk
          gi_wp2
          refine HRR.out.mono ?_
          rintro e W3 (⟨rfl, hJ3, hk3⟩ | ⟨rfl, hJx3⟩)
          · have hb3 : Below n₀ W W3 := (hbq.alloc (Nat.le_trans hn0 hbq.size) _).trans hk3
            have HJ3 := Lib.hid hJ3
            clear hJ3 hk3
            gi_wp2
            go_roundw
            case rel => exact ⟨i + 1, by omega, by go_num, HJ3.out, hb3⟩
            case measure => simp [intOf]; omega
          · have HJX := Lib.hid hJx3
            clear hJx3
            gi_wp2
            refine bodyPost_ret (results_none rfl _ _ _) rfl ?_
            exact ⟨⟨_, rfl⟩, .inr ⟨_, flatten_prefix rs k (i + 1) hks, HJX.out⟩⟩
        · have HI : Hid (i = m) := (by omega : i = m)
          have hJn : J (rs.take (k + 1)).flatten wr := by
            rw [flatten_take rs k hks]
            rw [HI.out, HM.out, List.take_length] at hJi
            exact hJi
          have HJN := Lib.hid hJn
          clear hJn
          gi_wp2
          go_roundw
          case rel => exact ⟨k + 1, by omega, by go_num, HJN.out, hbq⟩
          case measure => simp [intOf]; omega
    · have HK : Hid (k = 8) := (by omega : k = 8)
      have hk8 : decide ((k : Int) < 8) = false := decide_eq_false (by omega)
      gi_wp2
      go_end0
      refine ⟨⟨_, rfl⟩, .inl ⟨_, rfl, ?_⟩⟩
      rw [HK.out, ← HRL.out, List.take_length] at hJk
      exact hJk

/-- What timers hands back, ranged over: all of the ring's timers, or, where a round has said 'no more', a beginning of them. -/
theorem timers_stops (F : Fence) (n : Nat) (h6 : F.fn 102) (hro : F.round = none) (hn : 1 ≤ n) (Bn n₀ g : Nat) (rs : List TList) (w : World) (hT : ∀ j t, t ∈ rs.getD j [] → tokB t.2 = true) (hF : tot rs ≤ 100)
    (hBn : Bn < w.heap.size) (hn₀ : n₀ ≤ w.heap.size) (hc : w.cell? ⟨Bn, 0, none⟩ = some (.pointer (some ⟨g, 0, none⟩))) (hL : IsRing w n₀ g rs) :
    SeqStopsK F n Try.prog 102 #[.pointer (some ⟨Bn, 0, none⟩)] encs (Below n₀) (fun ys => ys = rs.flatten) (fun pre => pre <+: rs.flatten) (tot rs) w := fun l J Jx W hW hJ _ hY h0 =>
  timers1_in F n h6 hro hn l Bn n₀ g rs hT hF J Jx (fun s A o hs => hJ s A (A.alloc o) none hs (World.grownBy_alloc A o none) (fun r e => by cases e)) hY W ((hW.cell (p := ⟨Bn, 0, none⟩) hBn).trans hc) (hL.keep (hW.mono hn₀)) (Nat.le_trans hn₀ hW.size) h0
end Go.Proofs.Ytpghccbknlokcaa.Ring
