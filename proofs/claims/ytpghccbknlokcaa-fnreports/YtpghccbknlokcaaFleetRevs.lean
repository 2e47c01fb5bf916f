/-
  RevsOf, the model's and the program's, over this seat's translation.
-/
import Derived.Test.YtpghccbknlokcaaFleetCount
import Derived.Test.YtpghccbknlokcaaRevV
import Derived.Test.YtpghccbknlokcaaIntTy
namespace Go.Proofs.Ytpghccbknlokcaa.Crew
open Go.ChangeShapes Go.WideShapes Go.ChangeAt Go.RowKit Go.Maps Go.Sort Go.Shelf
open Go.Proofs.Ytpghccbknlokcaa.LK Go.Proofs.Ytpghccbknlokcaa.Pods Go.Proofs.Ytpghccbknlokcaa.FleetV Go.Proofs.Ytpghccbknlokcaa.Has Go.Proofs.Ytpghccbknlokcaa.Ints
open Go.Proofs.Ytpghccbknlokcaa.RevV (AscI insK revV revD mapB mapB_put mapB_keys mapB_size mem_insK asc_insK len_insK rev_asc rev_mem rev_len rev_eq next_some next_none)
open Go.Proofs.Ytpghccbknlokcaa.Rec (ownI_base)
set_option linter.unusedVariables false

theorem keysB_any (mb : Option Nat) (W : World) : Calls Try.prog 115 #[.map mb] W fun e w' => e = .returned (.func (.func 135) #[] #[.pointer (some ⟨W.heap.size, 0, none⟩)]) ∧ w' = W.alloc (.cells #[.map mb] 160) :=
  (callsIn_wide (n := 5)).1 (AnyZI.keys_in Try.keysB Fence.wide 5 trivial rfl mb W)
/-- slices.Sorted of the keys of a set of ints. -/
theorem sortedB_any (Bm mb nn : Nat) (m : List Int) (W : World) (hc : W.cell? ⟨Bm, 0, none⟩ = some (.map (some mb))) (hown : W.ownsMap Try.prog 3 rdP mb nn (mapB m)) (ha : AscI m) (hn : m.length ≤ 1000) :
    Calls Try.prog 114 #[.func (.func 135) #[] #[.pointer (some ⟨Bm, 0, none⟩)]] W fun e w' => ∃ A c, e = .returned (.slice A m.length c) ∧ OwnI w' W.heap.size A m.length c m ∧ Below W.heap.size W w' := by
  have hbl : Bm < W.heap.size := by simpa using World.block_lt_of_cell? W _ hc
  have hseq : SeqGives Fence.wide 2 Try.prog 135 #[.pointer (some ⟨Bm, 0, none⟩)] encZ (fun ss => ss.Perm (intKeys (mapB m))) (Maps.size (mapB m)) W :=
    AnyZI.keys_gives (ρ := Try.keysB_ren) { Try.keysB with } Fence.wide _ trivial rfl (by omega) Bm mb nn (mapB m) W hbl hc hown
  have cS := AnyZI.sorted_in Try.sortedI Fence.wide 5 trivial trivial trivial trivial rfl (by omega) (sorts _) (enters_of Try.func134 (by kernel_rfl) rfl) 135 #[.pointer (some ⟨Bm, 0, none⟩)] trivial (enters_of Try.func135 (by kernel_rfl) rfl) _ _ (by rw [mapB_size]; unfold maxLen; omega) (by rw [mapB_size]; omega) _ hseq
  change CallsIn _ _ Try.prog 114 _ _ _ at cS
  refine ((callsIn_wide (n := 5)).1 cS).mono ?_
  rintro e w' ⟨v, ss, rfl, hp, hrow, _, hb⟩
  rw [mapB_keys] at hp
  have hl : ss.length = m.length := hp.length_eq
  rw [sorted_asc hp ha, hl] at hrow
  rcases hrow.2 with ⟨rfl, h0⟩ | ⟨g, cap, cur, rfl, _⟩
  · refine ⟨none, 0, by rw [h0], ⟨rfl, ?_⟩, hb⟩
    rw [h0] at hrow ⊢
    exact hrow
  · exact ⟨_, _, rfl, ⟨rfl, hrow⟩, hb⟩
/-- The Revs of those that have come. -/
def Seen (ps : PList) (left : Lit → Bool) (l : List Int) : Prop := AscI l ∧ l.length ≤ ps.length * 0 + l.length ∧ ∀ y, y ∈ l ↔ ∃ p ∈ ps, left (.int .i64 p.1) = false ∧ p.2.1 = y
theorem seen_start (ps : PList) : Seen ps (Maps.has (mapOf ps)) [] := by
  refine ⟨List.Pairwise.nil, by simp, fun y => ?_⟩
  simp only [List.not_mem_nil, false_iff]
  rintro ⟨p, hp, hl, _⟩
  rw [map_has] at hl
  cases e : fndP ps p.1 with
  | none => exact fnd_none e p hp rfl
  | some q => rw [e] at hl; cases hl
theorem seen_step {ps : PList} {left : Lit → Bool} {l : List Int} {p : Pd} (ha : Asc ps) (h : Seen ps left l) (hp : p ∈ ps) : Seen ps (fun z => left z && !z.sameKey (.int .i64 p.1)) (insK p.2.1 l) := by
  refine ⟨asc_insK h.1, by simp, fun y => ?_⟩
  rw [mem_insK, h.2.2 y]
  constructor
  · rintro (rfl | ⟨q, hq, hl, he⟩)
    · exact ⟨p, hp, by simp [same_int], rfl⟩
    · exact ⟨q, hq, by simp [hl], he⟩
  · rintro ⟨q, hq, hl, he⟩
    by_cases hlq : left (.int .i64 q.1) = true
    · simp only [hlq, Bool.true_and, Bool.not_eq_false', same_int, decide_eq_true_eq] at hl
      have := asc_inj ha hq hp hl
      subst this
      exact .inl he.symm
    · exact .inr ⟨q, hq, by simpa using hlq, he⟩
theorem seen_end {ps : PList} {left : Lit → Bool} {l : List Int} (h : Seen ps left l) (hl : ∀ kl, left kl = false) : l = revV ps :=
  rev_eq h.1 (fun y => by rw [h.2.2 y]; simp [hl])
theorem mapK {w w' : World} {mb nn : Nat} {D : DataW Value} {row : Nat} (h : w.ownsMap Try.prog 3 rdP mb nn D) (hg : w.grownBy w' (some row)) (hne : mb ≠ row) : w'.ownsMap Try.prog 3 rdP mb nn D := h.kept hg (by simp [hne])

set_option maxRecDepth 100000 in
set_option maxHeartbeats 3200000 in
theorem revs_any (cb mb nn : Nat) (ps : PList) (nx : Int) (w : World) (hC : CrewAt w cb mb nn ps nx) (hn : ps.length ≤ 30) (hrv : ∀ p ∈ ps, 0 ≤ p.2.1 ∧ p.2.1 ≤ 1000000000) :
    Calls Try.prog 73 #[.pointer (some ⟨cb, 0, none⟩)] w (Made IntTy.ity (revV ps) w) := by
  have c0 : w.cell? ⟨cb, 0, none⟩ = some (.map (some mb)) := box_cell hC.box 0 _ rfl
  have hcb := box_lt hC.box
  have HA := Lib.hid hC.asc
  have hmb := hC.own.lt
  have hown := hC.own.alloc (.map #[] 0)
  have HRV := Lib.hid hrv
  have hmm := @run_makeMap Try.prog
  have hM0 : (w.alloc (.map #[] 0)).ownsMap Try.prog 3 rdP w.heap.size 0 (mapB []) := World.ownsMap_made w Try.prog 3 rdP
  clear hC hrv
  go_enter Try.func73, Try.ntmps73
  go_wp2_with (first | (at_range; refine wpList_range_own _ rfl _ 121 rfl 3 52 law Try.underlying121 _ mb nn (mapOf ps) rfl hown ?_; intro w0 hrg0 hg0 hs0) | go_in)
  go_frame
  simp only [World.size_alloc] at hrg0 hs0 ⊢
  have hM1 : w0.ownsMap Try.prog 3 rdP w.heap.size 0 (mapB []) := hM0.kept hg0 (by simp)
  have hb0 : Below w.heap.size w w0 := (bel1 w _).grown hg0 (by simp) (by intro k h; cases h)
  clear c0 hown hg0 hM0
  have hk0 : Maps.size (mapOf ps) + 0 ≤ 30 := by rw [map_size]; omega
  have hsz1 : w.heap.size + 1 < w0.heap.size := by omega
  go_loopw [13] (fun _ wr => ∃ (left : Lit → Bool) (cnt kk : Nat) (l : List Int), wr.ranges Try.prog 3 rdP mb (w.heap.size + 1) nn (mapOf ps) left cnt ∧ Hid (wr.ownsMap Try.prog 3 rdP w.heap.size kk (mapB l)) ∧ cnt + kk ≤ 30 ∧ Hid (Seen ps left l) ∧ Below w.heap.size w wr ∧ w.heap.size + 1 < wr.heap.size) (fun _ wr => wr.rangeLeft mb (w.heap.size + 1))
  case atStart => exact ⟨_, _, 0, [], hrg0, hM1, hk0, seen_start ps, hb0, hsz1⟩
  case round =>
    obtain ⟨left, cnt, kk, l, hrg, HM, hck, HS, hbr, hsr⟩ := hrel
    clear hrg0 hM1 hb0 hk0 hsz1 hs0
    go_wp2_with (first | (at_next; refine wpList_next_pods _ rfl _ rfl mb (w.heap.size + 1) nn ps left cnt rfl hrg ?_ ?_) | go_in)
    · intro _ hl0
      have hl : l = revV ps := seen_end HS.out hl0
      have hlen : l.length ≤ 30 := by rw [hl]; have := rev_len ps; omega
      have HLL := Lib.hid hl
      clear hl hrg
      go_wp2_with fail
      refine (keysB_any _ _).mono ?_
      rintro e w3 ⟨rfl, rfl⟩
      go_wp2_with fail
      refine (sortedB_any wr.heap.size w.heap.size kk l _ (by simp) (HM.out.alloc _) HS.out.1 (by omega)).mono ?_
      rintro e w4 ⟨A4, c4, rfl, hO4, hb4⟩
      have HB4 : Hid (Below w.heap.size w w4) := bel_then (hbr.alloc hbr.size (.cells #[.map (some w.heap.size)] 160)) hb4 (by have := hbr.size; simp; omega)
      have HO4 := Lib.hid hO4
      obtain ⟨q, hq⟩ : ∃ q, q = l.length := ⟨_, rfl⟩
      rw [← hq] at HO4 ⊢
      clear hb4 hO4 hq
      go_wp2
      go_ret
      rw [← HLL.out]
      exact IntTy.made_of HB4.out HO4.out (by have := hbr.size; simp; omega)
    · intro x0 x1 x2 x3 x4 w1 cnt1 hp hlk hrg1 hlt hg1 hs1 hen
      have hrv1 := HRV.out _ hp
      have HS1 := Lib.hid (seen_step HA.out HS.out hp)
      have hbr1 : Below w.heap.size w w1 := hbr.grown hg1 hbr.size (by intro q hq; cases hq; omega)
      have hMA : (w1.alloc (.cells #[.int .i64 x0, .int .i64 x1, .int .i64 x2, .int .i64 x3, .int .i64 x4] 52)).ownsMap Try.prog 3 rdP w.heap.size kk (mapB l) := (HM.out.kept hg1 (by simp)).alloc _
      have hrgA : (w1.alloc (.cells #[.int .i64 x0, .int .i64 x1, .int .i64 x2, .int .i64 x3, .int .i64 x4] 52)).ranges Try.prog 3 rdP mb (w.heap.size + 1) nn (mapOf ps) (fun z => left z && !z.sameKey (.int .i64 x0)) cnt1 := hrg1.alloc _
      have hbrA : Below w.heap.size w (w1.alloc (.cells #[.int .i64 x0, .int .i64 x1, .int .i64 x2, .int .i64 x3, .int .i64 x4] 52)) := hbr1.alloc hbr1.size _
      obtain ⟨w3, hrun, hM3, hg3⟩ := hMA.update (t := 160) (e := 4) law Try.underlying160 (by unfold maxLen; omega) (key := .int .i64 x1) (val := .bool true) (kl := .int .i64 x1) (d := .held (.bool true)) (ps := []) (keyOf_int_mk Try.underlying3 (id_wf hrv1)) rfl
      rw [mapB_put] at hM3
      have hrg3 := hrgA.kept hg3 (by simp; omega) (by simp)
      have hb3 : Below w.heap.size w w3 := hbrA.grown hg3 hbrA.size (by intro q hq; cases hq; exact Nat.le_refl _)
      have hs3 : w.heap.size + 1 < w3.heap.size := by have := hg3.size; simp at this; omega
      have hlm : w3.rangeLeft mb (w.heap.size + 1) < wr.rangeLeft mb (w.heap.size + 1) := by rw [hrg3.left_eq, hrg.left_eq]; exact hlt
      have HM3 := Lib.hid hM3
      have HRG3 := Lib.hid hrg3
      have HLM := Lib.hid hlm
      clear hg1 hg3 hM3 hrg3 hlm hMA hrgA hrg1 hrg HM
      go_wp2
      go_roundw
      case rel => exact ⟨_, cnt1, kk + 1, _, HRG3.out, HM3, by omega, HS1, hb3, hs3⟩
      case measure => exact HLM.out
set_option maxHeartbeats 1600000 in
theorem revsOf_any (A : Option Addr) (n c : Nat) (nx : Int) (ps : PList) (B : Nat) (w : World) (hr : IsPods w B A n ps) (hB : B ≤ w.heap.size) (hn : n ≤ 1048576) :
    Calls Try.prog 25 #[.agg #[.slice A n c, .int .i64 nx]] w (Made IntTy.ity (revD (ps, nx)) w) := by
  have HR := Lib.hid hr
  clear hr
  go_enter Try.func25, Try.ntmps25
  go_wp2_with fail
  refine (crewOf_any A n c nx ps B _ (HR.out.below (bel1 _ _) hB) (by simp; omega) hn).mono ?_
  rintro e w2 ⟨r, o, rfl, hb, hg, hC⟩
  have HB := Lib.hid (bel_then (bel1 w _) hb (by simp))
  have HG := Lib.hid hg
  clear hb hg
  cases r
  · have HV : Hid (revD (ps, nx) = []) := if_neg (fun h => by have := HG.out.2 h; cases this)
    go_wp2
    go_ret
    rw [HV.out]
    exact IntTy.made_of (lo := w.heap.size) HB.out ⟨rfl, World.ownsRow_nil _ _ _ _⟩ (Nat.le_refl _)
  · obtain ⟨cb, mb, rfl, _, _, hC⟩ := hC rfl
    have hgd := HG.out.1 rfl
    have HV : Hid (revD (ps, nx) = revV ps) := if_pos hgd
    have hl : ps.length ≤ 30 := hgd.1
    have HRV : Hid (∀ p ∈ ps, 0 ≤ p.2.1 ∧ p.2.1 ≤ 1000000000) := fun p hp => by have := (hgd.2.2.1 p hp).1.2.1; omega
    have HC := Lib.hid hC
    clear hC hgd
    go_wp2_with fail
    refine (revs_any cb mb 30 ps nx _ HC.out hl HRV.out).mono ?_
    rintro e w3 ⟨v, S, rfl, hH, hb3⟩
    obtain ⟨A3, c3, rfl, hO3, hS3⟩ := hH.own
    have hi3 := hH.inn
    have HB3 := Lib.hid (bel_then HB.out hb3 HB.out.size)
    have HO3 : Hid (OwnI w3 w2.heap.size A3 (revV ps).length c3 (revV ps)) := by
      refine ⟨hO3.1, hO3.2.1, ?_⟩
      rcases hO3.2.2 with h0 | ⟨g, cap, cur, h3, h4, h5⟩
      · exact .inl h0
      · exact .inr ⟨g, cap, cur, h3, (hi3 g (hS3 g (by rw [h3]; rfl))).1, h5⟩
    have hsz := HB.out.size
    obtain ⟨q, hq⟩ : ∃ q, q = (revV ps).length := ⟨_, rfl⟩
    rw [← hq] at HO3 ⊢
    clear hH hb3 hO3 hS3 hi3 hq
    go_wp2
    go_ret
    rw [HV.out]
    exact IntTy.made_of HB3.out HO3.out hsz
end Go.Proofs.Ytpghccbknlokcaa.Crew
