/-
  THE CONTRACTS of the program's CountTimers, TimerOf and SoonestTimer over this seat's translation; nothing that was there has turned.
-/
import Derived.Test.YtpghccbknlokcaaSpecRead
import Derived.Maps.AppendAt
namespace Go.Proofs.Ytpghccbknlokcaa.WheelOk
open Go.ChangeShapes Go.WideShapes Go.ChangeAt Go.RowKit Go.Shelf
open Go.Proofs.Ytpghccbknlokcaa.Timers Go.Proofs.Ytpghccbknlokcaa.Ring
open Go.Proofs.Ytpghccbknlokcaa.Tick (tokB tok_t)
open Go.Proofs.Ytpghccbknlokcaa.TickList (soonF stepV soonV soonest_any)
open Go.Proofs.Ytpghccbknlokcaa.Has (OwnI infoInt)
set_option linter.unusedVariables false
attribute [local go_sem] Oper.semAt_some

theorem Good.ticks {now : Int} {ss : List TList} (h : Good now ss) : ∀ j t, t ∈ ss.getD j [] → tokB t.2 = true := fun j t ht => (h.at_ j t ht).2.2.2
theorem Good.hundred {now : Int} {ss : List TList} (h : Good now ss) : tot ss ≤ 100 := by have := h.few; omega

set_option maxHeartbeats 800000 in
theorem count_w (now : Int) (A : Option Addr) (n c : Nat) (ss : List TList) (B : Nat) (w : World) (hr : IsSlots w B A n ss) (hB : B ≤ w.heap.size) (hn : n ≤ 1048576) (hm : ∀ j, (ss.getD j []).length ≤ 1048576) :
    Calls Try.prog 17 #[.agg #[.int .i64 now, .slice A n c]] w (SaysI (countV now ss) w) := by
  have HM := Lib.hid hm
  have HR := Lib.hid hr
  clear hm hr
  go_enter Try.func17, Try.ntmps17
  go_wp2_with fail
  refine (ringOf_any now A n c ss B _ (HR.out.below (below_a1 _ _) hB) (by simp; omega) hn HM.out).mono ?_
  rintro e w1 ⟨hb1, ⟨hw, rfl⟩ | ⟨hw, g, rfl, hO⟩⟩
  · have HV : Hid (countV now ss = -1) := (by simp [countV, hw] : countV now ss = -1)
    clear hw
    go_wp2
    go_ret
    exact ⟨ret_int HV.out.symm, (below_a1 _ _).trans (hb1.mono (by simp))⟩
  · have HV : Hid (countV now ss = tot ss) := (by simp [countV, hw] : countV now ss = tot ss)
    have HG := Lib.hid (wheelB_good hw)
    have HO := Lib.hid hO
    clear hw hO
    go_wp2_with fail
    refine (count_any _ g now ss _ HO.out HG.out.ticks HG.out.hundred).mono ?_
    rintro e w2 ⟨rfl, hb2⟩
    go_wp2
    go_ret
    exact ⟨ret_int HV.out.symm, (below_a1 _ _).trans ((hb1.trans (hb2.mono hb1.size)).mono (by simp))⟩

set_option maxHeartbeats 800000 in
theorem timerOf_w (now x : Int) (A : Option Addr) (n c : Nat) (ss : List TList) (B : Nat) (w : World) (hr : IsSlots w B A n ss) (hB : B ≤ w.heap.size) (hn : n ≤ 1048576) (hm : ∀ j, (ss.getD j []).length ≤ 1048576) :
    Calls Try.prog 18 #[.agg #[.int .i64 now, .slice A n c], .int .i64 x] w (SaysI (timerV now ss x) w) := by
  have HM := Lib.hid hm
  have HR := Lib.hid hr
  clear hm hr
  go_enter Try.func18, Try.ntmps18
  go_wp2_with fail
  refine (ringOf_any now A n c ss B _ (HR.out.below (below_a1 _ _) hB) (by simp; omega) hn HM.out).mono ?_
  rintro e w1 ⟨hb1, ⟨hw, rfl⟩ | ⟨hw, g, rfl, hO⟩⟩
  · have HV : Hid (timerV now ss x = -1) := (by simp [timerV, hw] : timerV now ss x = -1)
    clear hw
    go_wp2
    go_ret
    exact ⟨ret_int HV.out.symm, (below_a1 _ _).trans (hb1.mono (by simp))⟩
  · have HV : Hid (timerV now ss x = atV ss.flatten x) := (by simp [timerV, hw] : timerV now ss x = atV ss.flatten x)
    have HG := Lib.hid (wheelB_good hw)
    have HO := Lib.hid hO
    clear hw hO
    go_wp2_with fail
    refine (atOf_any _ g now x ss _ HO.out HG.out.ticks HG.out.hundred).mono ?_
    rintro e w2 ⟨rfl, hb2⟩
    go_wp2
    go_ret
    exact ⟨ret_int HV.out.symm, (below_a1 _ _).trans ((hb1.trans (hb2.mono hb1.size)).mono (by simp))⟩

set_option maxRecDepth 100000 in
set_option maxHeartbeats 2000000 in
theorem soonest_w (now : Int) (A : Option Addr) (n c : Nat) (ss : List TList) (B : Nat) (w : World) (hr : IsSlots w B A n ss) (hB : B ≤ w.heap.size) (hn : n ≤ 1048576) (hm : ∀ j, (ss.getD j []).length ≤ 1048576) :
    Calls Try.prog 19 #[.agg #[.int .i64 now, .slice A n c]] w (SaysI (soonW now ss) w) := by
  have HM := Lib.hid hm
  have HR := Lib.hid hr
  clear hm hr
  refine (callsIn_wide (n := 6)).1 ?_
  refine callsIn_of_wp_marks Try.func19 rfl trivial ?_ rfl
  simp only [Try.ntmps19, List.size_toArray, List.length_cons, List.length_nil, Nat.reduceAdd, Nat.reduceSub, Array.replicate_succ, Array.replicate_zero, List.push_toArray, List.append_toArray, List.nil_append, List.cons_append]
  gi_wp2_with fail
  refine ⟨trivial, ?_⟩
  refine (callsIn_wide.2 (ringOf_any now A n c ss B _ (HR.out.below (below_a1 _ _) hB) (by simp; omega) hn HM.out)).mono ?_
  rintro e w1 ⟨hb1, ⟨hw, rfl⟩ | ⟨hw, g, rfl, hO⟩⟩
  · have HV : Hid (soonW now ss = -1) := (by simp [soonW, hw] : soonW now ss = -1)
    clear hw
    gi_wp2
    exact ⟨_, results_tmp (t := 2) rfl _ _ _, ret_int HV.out.symm, (below_a1 _ _).trans (hb1.mono (by simp))⟩
  · have HV : Hid (soonW now ss = soonF (ss.flatten.map Prod.snd)) := (by simp [soonW, hw] : soonW now ss = soonF (ss.flatten.map Prod.snd))
    have HG := Lib.hid (wheelB_good hw)
    have HO := Lib.hid hO
    clear hw hO
    gi_wp2_with (refine ⟨trivial, ?_⟩; gi_at_call 58; refine (timers_in Fence.wide _ trivial rfl _ _).mono ?_; rintro e w' ⟨rfl, rfl⟩)
    have hb01 : Below w.heap.size w w1 := (below_a1 _ _).trans (hb1.mono (by simp))
    obtain ⟨i0, hi0, hz0, hz1, hz2⟩ := info_parts infoInt
    have c2 := box1_new ((w1.alloc (.cells #[] 3)).alloc (.cells #[.slice (some ⟨w1.heap.size, 0, none⟩) 0 0] 30)) (.pointer (some ⟨g, 0, none⟩)) 84
    simp only [World.size_alloc] at c2
    have hB0 : Below w1.heap.size w1 (((w1.alloc (.cells #[] 3)).alloc (.cells #[.slice (some ⟨w1.heap.size, 0, none⟩) 0 0] 30)).alloc (.cells #[.pointer (some ⟨g, 0, none⟩)] 84)) := below_a3 _ _ _ _
    have hbx0 : Boxed (((w1.alloc (.cells #[] 3)).alloc (.cells #[.slice (some ⟨w1.heap.size, 0, none⟩) 0 0] 30)).alloc (.cells #[.pointer (some ⟨g, 0, none⟩)] 84)) (w1.heap.size + 1) 30 (.slice (some ⟨w1.heap.size, 0, none⟩) 0 0) := by
      have h5 := (Boxed.new (w1.alloc (.cells #[] 3)) 30 (.slice (some ⟨w1.heap.size, 0, none⟩) 0 0)).alloc (.cells #[.pointer (some ⟨g, 0, none⟩)] 84)
      rwa [World.size_alloc] at h5
    have hrow0 : (((w1.alloc (.cells #[] 3)).alloc (.cells #[.slice (some ⟨w1.heap.size, 0, none⟩) 0 0] 30)).alloc (.cells #[.pointer (some ⟨g, 0, none⟩)] 84)).ownsRow w1.heap.size 3 1 (.slice (some ⟨w1.heap.size, 0, none⟩) 0 0) 0 [] :=
      ((World.ownsRow_lit (base := w1.heap.size) (e := 3) (size := 1) w1 #[] 0 (Nat.le_refl _) (Nat.zero_le _) rfl).alloc _).alloc _
    refine wpIn_rangeFunc_ownF rfl (by omega) (gf := 102) (lb := #[.pointer (some ⟨w1.heap.size + 1 + 1, 0, none⟩)]) rfl trivial (enters_of Try.func102 (by kernel_rfl) rfl)
      (timers_stops Fence.wide _ trivial rfl (by omega) (w1.heap.size + 1 + 1) w1.heap.size g ss _ HG.out.ticks HG.out.hundred (by simp) (by simp; omega) c2.1 (HO.out.reads.keep hB0)) belowK_t (belowK_b (by simp; omega)) (Below.refl _ _) (fun _ => rfl)
      (fun pre W => (∃ v, Boxed W (w1.heap.size + 1) 30 v ∧ W.ownsRow w1.heap.size 3 1 v pre.length (pre.map fun p => Value.int .i64 (norm p.2)) ∧ ∃ A c, v = .slice A pre.length c) ∧ Below w1.heap.size w1 W)
      (fun _ _ _ => False)
      (OwnFrom.and (Own.from (holdsRow_own w1.heap.size (w1.heap.size + 1) 30 3 1 (fun pre : TList => pre.length) (fun pre => pre.map fun p => Value.int .i64 (norm p.2)) (fun pre v => ∃ A c, v = .slice A pre.length c)) _) (ownFrom_below (Nat.le_refl _) (by simp; omega)))
      (fun _ _ _ _ _ hs _ _ => hs)
      ⟨⟨_, hbx0, hrow0, _, _, rfl⟩, hB0⟩
      (fun p => { tmps := #[.agg #[.int .i64 now, .slice A n c], .pointer (some ⟨w.heap.size, 0, none⟩), .int .i64 0, .pointer (some ⟨g, 0, none⟩), .bool true, .pointer (some ⟨w1.heap.size + 1, 0, none⟩), undef, .int .i64 (norm p.2), .tuple #[.pointer (some ⟨g, 0, none⟩), .bool true], .agg #[.int .i64 now, .slice A n c], .tuple #[.pointer (some ⟨g, 0, none⟩), .bool true], .pointer (some ⟨g, 0, none⟩), .bool true, .bool true, .bool false, .slice (some ⟨w1.heap.size, 0, none⟩) 0 0, .pointer (some ⟨g, 0, none⟩), .func (.func 102) #[] #[.pointer (some ⟨w1.heap.size + 1 + 1, 0, none⟩)], .int .i64 p.1, .int .i64 (norm p.2), undef, undef, undef, undef, undef, undef], defers := [] }) ?assign ?body ?done ?stop
    case assign =>
      intro l p W K hK
      simp only [encs]
      gi_wp2
      simpa [encs] using hK
    case body =>
      rintro l pre p W ⟨⟨v, hv, hrow, A5, c5, rfl⟩, hB⟩ hlen
      have hpl : pre.length ≤ 100 := by have := HG.out.hundred; omega
      have hvc := hv.cell
      have hle : w1.heap.size ≤ w1.heap.size + 1 := by omega
      gi_wp2_with (gi_at_builtin; refine wpListIn_append_own _ rfl _ _ 30 rfl w1.heap.size 3 i0 (.int .i64 0) 1 8 Try.underlying30 hi0 hz0 hz1 hz2 rfl (by decide) _ _ _ rfl (hrow.alloc _) ⟨W.heap.size, 0, none⟩ 1 1 [.int .i64 (norm p.2)] rfl rfl (cell_one_new _ _ _) (by simp [Value.oneCell']) (by unfold maxLen; omega) (by omega) (by have := hB.size; simp; omega) ?_; intro v' w5 hown' hgrow _; obtain ⟨g', cap', rfl⟩ := ownsRow_succ hown'; obtain ⟨hv1, hv2, hr2, hk2, hb2⟩ := hv.appended (by decide) hrow hB.size hle hown' hgrow; have hc1 := hv1.cell; have hf1 := hv1.frozen)
      exact ⟨hk2, hb2, ⟨_, hv2, by simpa using hr2, some ⟨g', 0, none⟩, cap', by simp⟩, hB.trans hb2⟩
    case done =>
      rintro D ys W hD rfl ⟨⟨v, hv, hrow, A5, c5, rfl⟩, hB⟩ hK
      have hvc := hv.cell
      have hml : (ss.flatten.map fun p => Value.int .i64 (norm p.2)) = (ss.flatten.map Prod.snd).map (Value.int .i64) := by
        rw [List.map_map]
        refine List.map_congr_left fun p hp => ?_
        obtain ⟨j, hj⟩ := mem_getD hp
        simp [norm_of (HG.out.ticks j p hj)]
      have hOI : OwnI W w1.heap.size A5 ss.flatten.length c5 (ss.flatten.map Prod.snd) := ⟨List.length_map _, by rw [← hml]; exact hrow⟩
      have hlen : ss.flatten.length ≤ 100 := by rw [flat_len_tot]; exact HG.out.hundred
      have HSV : Hid (soonV (ss.flatten.map Prod.snd) = soonF (ss.flatten.map Prod.snd)) := by show _ = _; unfold soonV; rw [if_neg (by simp only [List.length_map]; omega)]
      have HOI := Lib.hid hOI
      obtain ⟨m, hm⟩ : ∃ m, m = ss.flatten.length := ⟨_, rfl⟩
      rw [← hm] at HOI hvc hlen
      have HMM := Lib.hid hm
      clear hOI hml hrow hv hm
      gi_wp2_with fail
      refine ⟨trivial, ?_⟩
      refine (callsIn_wide.2 (soonest_any A5 m c5 (ss.flatten.map Prod.snd) W.heap.size _ HOI.out.ints (by omega))).mono ?_
      rintro e w6 ⟨rfl, rfl⟩
      rw [HSV.out]
      obtain ⟨q, hq⟩ : ∃ q, q = soonF (ss.flatten.map Prod.snd) := ⟨_, rfl⟩
      have HQ := Lib.hid hq
      rw [← hq]
      clear hq
      gi_wp2
      refine ⟨by simp, .inl ⟨_, _, rfl, run_takeDeferred hK, ?_⟩⟩
      refine ⟨_, results_tmp (t := 2) rfl _ _ _, ret_int (by rw [HV.out, HQ.out]), hb01.trans ((hB.trans (belowK_b (w := w1) (Nat.le_refl _) W D _ _ (by simp at hD; omega) hK rfl rfl)).mono hb01.size)⟩
    case stop =>
      rintro D c pre W _ _ h _
      exact h.elim
end Go.Proofs.Ytpghccbknlokcaa.WheelOk
