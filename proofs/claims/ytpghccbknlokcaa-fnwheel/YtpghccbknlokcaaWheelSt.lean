/-
  A WHEEL AGAINST ITS ARMINGS, step by step: what each of the program's functions answers at a wheel that holds them, and what it then holds.
-/
import Derived.Test.YtpghccbknlokcaaImplTurn
import Derived.Test.YtpghccbknlokcaaImplArm
import Derived.Test.YtpghccbknlokcaaPairs2
import Derived.Test.YtpghccbknlokcaaSoon
import Derived.Test.YtpghccbknlokcaaImplRead
namespace Go.Proofs.Ytpghccbknlokcaa.Ring
open Go.Proofs.Ytpghccbknlokcaa.Timers Go.Proofs.Ytpghccbknlokcaa.WheelOk Go.Proofs.Ytpghccbknlokcaa.Has
open Go.Proofs.Ytpghccbknlokcaa.Tick (tokB tok_t inB)
open Go.Proofs.Ytpghccbknlokcaa.Spoke (spokeV spoke_t)
open Go.Proofs.Ytpghccbknlokcaa.TickList (soonF stepV)
set_option linter.unusedVariables false

structure GoodP (now : Int) (ps : TList) : Prop where
  tick : tokB now = true
  at_ : ∀ p ∈ ps, now < p.2 ∧ tokB p.2 = true ∧ inB p.1 1 1000000000 = true
  few : ps.length ≤ 80
  once : (ps.map Prod.fst).Nodup
def St (now : Int) (ss : List TList) (ps : TList) : Prop := Held ss ps ∧ GoodP now ps

theorem St.good {now : Int} {ss : List TList} {ps : TList} (h : St now ss ps) : WheelOk.Good now ss := by
  obtain ⟨hh, hg⟩ := h
  refine ⟨hg.tick, hh.1, fun j t ht => ?_, by rw [held_tot hh]; exact hg.few, ?_⟩
  · rw [hh.2 j] at ht
    have h1 : t ∈ ps ∧ spk t.2 = j := by simpa [onSpoke] using ht
    obtain ⟨h2, h3, h4⟩ := hg.at_ t h1.1
    refine ⟨?_, h2, h4, h3⟩
    have := tok_t h3
    rw [spoke_t h3, ← h1.2]
    unfold spk
    omega
  · exact ((held_flat hh).map Prod.fst).nodup_iff.2 hg.once
theorem St.wheelB {now : Int} {ss : List TList} {ps : TList} (h : St now ss ps) : wheelB now ss = true := good_wheelB h.good

theorem mem_off {x : Int} {ps : TList} {p : Int × Int} (h : p ∈ offL x ps) : p ∈ ps ∧ p.1 ≠ x := by simpa [offL] using h
theorem off_len (x : Int) (ps : TList) : (offL x ps).length ≤ ps.length := List.length_filter_le _ _
theorem off_nodup {x : Int} {ps : TList} (h : (ps.map Prod.fst).Nodup) : ((offL x ps).map Prod.fst).Nodup := (List.filter_sublist.map Prod.fst).nodup h

theorem St.arm {now : Int} {ss : List TList} {ps : TList} (h : St now ss ps) {x y : Int} (hx : 1 ≤ x ∧ x ≤ 1000000000) (hy : now < y) (hy2 : y ≤ 1000000000) (hl : ps.length < 80) :
    armB now ss x y = true ∧ armS now ss x y = armL x y ss ∧ St now (armL x y ss) (offL x ps ++ [(x, y)]) := by
  have hnow := tok_t h.2.tick
  have hty : tokB y = true := by simp [tokB]; omega
  have hin : inB x 1 1000000000 = true := by simp [inB]; omega
  have hh := held_arm h.1 x y
  have hgp : GoodP now (offL x ps ++ [(x, y)]) := by
    refine ⟨h.2.tick, fun p hp => ?_, ?_, ?_⟩
    · rcases List.mem_append.mp hp with hp | hp
      · exact h.2.at_ p (mem_off hp).1
      · obtain rfl : p = (x, y) := by simpa using hp
        exact ⟨hy, hty, hin⟩
    · have := off_len x ps
      simp only [List.length_append, List.length_cons, List.length_nil]
      omega
    · rw [List.map_append, List.nodup_append]
      refine ⟨off_nodup h.2.once, by simp, fun a ha b hb => ?_⟩
      obtain ⟨p, hp, rfl⟩ := List.mem_map.mp ha
      obtain rfl : b = x := by simpa using hb
      exact (mem_off hp).2
  have hst : St now (armL x y ss) (offL x ps ++ [(x, y)]) := ⟨hh, hgp⟩
  have hB : armB now ss x y = true := by unfold armB; rw [h.wheelB, hty, hst.wheelB]; rfl
  exact ⟨hB, by unfold armS; rw [hB]; rfl, hst⟩

theorem has_mem (ps : TList) (x : Int) : hasB (ps.map Prod.fst) x = true ↔ ∃ p ∈ ps, p.1 = x := by
  unfold hasB
  rw [List.any_eq_true]
  constructor
  · rintro ⟨z, hz, he⟩
    obtain ⟨p, hp, rfl⟩ := List.mem_map.mp hz
    exact ⟨p, hp, by simpa using he⟩
  · rintro ⟨p, hp, rfl⟩
    exact ⟨p.1, List.mem_map.mpr ⟨p, hp, rfl⟩, by simp⟩
theorem St.spots {now : Int} {ss : List TList} {ps : TList} (h : St now ss ps) : ∀ j t, t ∈ ss.getD j [] → tokB t.2 = true ∧ spokeV t.2 = (j : Int) := fun j t ht => ⟨(h.good.at_ j t ht).2.2.2, (h.good.at_ j t ht).1⟩
theorem mem_spoke {ss : List TList} {ps : TList} (h : Held ss ps) {k : Nat} {p : Int × Int} (hp : p ∈ ss.getD k []) : p ∈ ps := by
  rw [h.2 k] at hp
  exact (List.mem_filter.mp hp).1

theorem St.stop {now : Int} {ss : List TList} {ps : TList} (h : St now ss ps) (x : Int) :
    stopB now ss x = hasB (ps.map Prod.fst) x ∧ stopS now ss x = stopL x ss ∧ St now (stopL x ss) (offL x ps) := by
  refine ⟨?_, stopS_good h.wheelB, held_stop h.1 x, h.2.tick, fun p hp => h.2.at_ p (mem_off hp).1, Nat.le_trans (off_len x ps) h.2.few, off_nodup h.2.once⟩
  unfold stopB
  rw [h.wheelB, Bool.true_and]
  rcases atV_cases ss x h.spots with ⟨h1, h2⟩ | ⟨k, p, h1, h2, h3, h4, _⟩
  · rw [h1]
    have : hasB (ps.map Prod.fst) x = false := by
      rw [Bool.eq_false_iff]
      intro hc
      obtain ⟨p, hp, e⟩ := (has_mem ps x).1 hc
      exact h2 p ((held_flat h.1).mem_iff.2 hp) e
    rw [this]; rfl
  · rw [h1]
    have : hasB (ps.map Prod.fst) x = true := (has_mem ps x).2 ⟨p, mem_spoke h.1 h2, h3⟩
    rw [this]
    have := tok_t h4
    simp
    omega

theorem St.turn {now : Int} {ss : List TList} {ps : TList} (h : St now ss ps) (i : Nat) (hi : i ≤ 2000) (hn : now + i ≤ 1000000000) :
    turnNow now ss i = now + i ∧ turnSS now ss i = turnR now ss i ∧ turnZS now ss i = toldP now ps i ∧ St (now + i) (turnR now ss i) (leftP now ps i) := by
  have hnow := tok_t h.2.tick
  have hN : turnN now i = i := by unfold turnN; omega
  have hB : turnB now ss i = true := by unfold turnB; rw [h.wheelB]; simp [inB]; omega
  obtain ⟨h1, h2⟩ := held_turn h.1 now i
  refine ⟨?_, ?_, ?_, h1, ?_⟩
  · unfold turnNow; rw [hB, hN]; rfl
  · unfold turnSS; rw [hB, hN]; rfl
  · unfold turnZS; rw [hB, hN]; exact h2
  · rw [leftP_mem]
    refine ⟨by simp [tokB]; omega, fun p hp => ?_, Nat.le_trans (List.length_filter_le _ _) h.2.few, (List.filter_sublist.map Prod.fst).nodup h.2.once⟩
    obtain ⟨hp1, hp2⟩ := List.mem_filter.mp hp
    obtain ⟨h3, h4, h5⟩ := h.2.at_ p hp1
    refine ⟨?_, h4, h5⟩
    have : ¬ (now < p.2 ∧ p.2 ≤ now + i) := by
      intro hc
      simp [hc.1, hc.2] at hp2
    omega

theorem St.count {now : Int} {ss : List TList} {ps : TList} (h : St now ss ps) : countV now ss = (ps.length : Int) := by
  unfold countV; rw [h.wheelB, if_pos rfl, held_tot h.1]
theorem St.soon {now : Int} {ss : List TList} {ps : TList} (h : St now ss ps) : soonW now ss = soonF (ps.map Prod.snd) := by
  unfold soonW; rw [h.wheelB, if_pos rfl, soon_held h.1]
theorem St.timer {now : Int} {ss : List TList} {ps : TList} (h : St now ss ps) {p : Int × Int} (hp : p ∈ ps) : timerV now ss p.1 = p.2 := by
  unfold timerV
  rw [h.wheelB, if_pos rfl]
  rcases atV_cases ss p.1 h.spots with ⟨_, h2⟩ | ⟨k, q, h1, h2, h3, _⟩
  · exact absurd rfl (h2 p ((held_flat h.1).mem_iff.2 hp))
  · rw [h1, same_of_id h.2.once (mem_spoke h.1 h2) hp h3]
end Go.Proofs.Ytpghccbknlokcaa.Ring
