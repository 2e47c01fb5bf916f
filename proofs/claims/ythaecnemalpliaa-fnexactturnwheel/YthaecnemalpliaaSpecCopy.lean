/-
  THE CONTRACT of the model's l02Copy over this seat's translation: a wheel of its own that reads as the one handed in.
-/
import Derived.Test.YthaecnemalpliaaSlotOps
import Derived.Test.YthaecnemalpliaaCloneW
import Derived.Deep.AppendLies
namespace Go.Proofs.Ythaecnemalpliaa.Timers
open Go.ChangeShapes Go.WideShapes Go.ChangeAt Go.RowKit
set_option linter.unusedVariables false

theorem own_unique {w : World} {base : Nat} {e : TypeId} {size n : Nat} {v : Value} {xs ys : List Value} (h : w.ownsRow base e size v n xs) (h' : w.ownsRow base e size v n ys) : xs = ys := by
  rcases h.2 with ⟨rfl, rfl⟩ | ⟨g, cap, cur, rfl, _, hg, _, _, _, ht⟩
  · have h1 := h.1
    have h2 := h'.1
    rw [Nat.zero_mul] at h1 h2
    rw [List.eq_nil_of_length_eq_zero h1, List.eq_nil_of_length_eq_zero h2]
  · rcases h'.2 with ⟨h5, _⟩ | ⟨g', cap', cur', h5, _, hg', _, _, _, ht'⟩
    · simp at h5
    · simp only [Value.slice.injEq, Option.some.injEq, Addr.mk.injEq, and_true, true_and] at h5
      obtain ⟨rfl, rfl⟩ := h5
      rw [hg] at hg'
      injection hg' with hg'
      injection hg' with hg' _
      rw [← ht, ← ht', hg']
theorem take_snoc (ss : List TList) (k : Nat) (h : k < ss.length) : ss.take (k + 1) = ss.take k ++ [ss.getD k []] := by
  rw [List.take_succ_eq_append_getElem h]
  simp [List.getD, h]
theorem take_snocT (ts : TList) (k : Nat) (h : k < ts.length) : ts.take (k + 1) = ts.take k ++ [ts.getD k (0, 0)] := by
  rw [List.take_succ_eq_append_getElem h]
  simp [List.getD, h]

/-- Slots of one's own that grow list by list. -/
def OwnG (w : World) (lo : Nat) (A : Option Addr) (n c : Nat) (ss : List TList) : Prop := OwnS w lo w.heap.size A n c ss ∧ ∃ vs, w.ownsRow lo 66 1 (.slice A n c) n vs
theorem OwnG.below {w w' : World} {lo : Nat} {A : Option Addr} {n c : Nat} {ss : List TList} (h : OwnG w lo A n c ss) (hb : Below w.heap.size w w') : OwnG w' lo A n c ss := by
  obtain ⟨h1, vs, h2⟩ := h
  exact ⟨(h1.below hb).more hb.size, vs, own_below h2 hb⟩

theorem slots_at {w : World} {B : Nat} {A : Option Addr} {n : Nat} {ss : List TList} (h : IsSlots w B A n ss) {k : Nat} (hk : k < n) : ∃ b off A1 c1, A = some ⟨b, off, none⟩ ∧ b < B ∧ w.cell? ⟨b, off + k, none⟩ = some (.slice A1 (ss.getD k []).length c1) ∧ IsTimers w B A1 (ss.getD k []).length (ss.getD k []) := by
  obtain ⟨b, off, e, hb, hc⟩ := h.2 (by omega)
  obtain ⟨A1, n1, c1, h1, h2⟩ := hc k hk
  have hl : (ss.getD k []).length = n1 := h2.1
  exact ⟨b, off, A1, c1, e, hb, by rw [hl]; exact h1, by rw [hl]; exact h2⟩

set_option maxRecDepth 100000 in
set_option maxHeartbeats 2000000 in
theorem l02Copy_any (now : Int) (A : Option Addr) (n c : Nat) (ss : List TList) (B : Nat) (w : World) (hr : IsSlots w B A n ss) (hB : B ≤ w.heap.size) (hn : n ≤ 1048576) (hm : ∀ j, (ss.getD j []).length ≤ 1048576) :
    Calls Try.prog 65 #[.agg #[.int .i64 now, .slice A n c]] w (CopiedW w now ss) := by
  have HL : Hid (ss.length = n) := hr.1
  have HM := Lib.hid hm
  have HR := Lib.hid hr
  obtain ⟨i8, hi8, hy0, hy1, hy2⟩ := info_parts info68
  obtain ⟨i6, hi6, hz0, hz1, hz2⟩ := info_parts info66
  clear hm hr
  go_enter Try.func65, Try.ntmps65
  go_wp2_with fail
  obtain ⟨w1, hw1⟩ : ∃ w1, w1 = ((w.alloc (.cells #[.int .i64 now, .slice A n c] 26)).alloc (.cells #[.int .i64 0, .slice none 0 0] 26)).alloc (.cells #[.int .i64 now, .slice none 0 0] 26) := ⟨_, rfl⟩
  rw [← hw1]
  have hb01 : Below w.heap.size w w1 := by rw [hw1]; exact below_a3 _ _ _ _
  have hs1 : w1.heap.size = w.heap.size + 1 + 1 + 1 := by rw [hw1]; simp
  have hx0 : w1.heap[w.heap.size]? = some (.cells #[.int .i64 now, .slice A n c] 26 (0, 0)) := by
    rw [hw1, Below.heap_alloc _ _ _ (by simp; omega), Below.heap_alloc _ _ _ (by simp)]
    exact heap_alloc_new w _
  have hx1 : w1.heap[w.heap.size + 1]? = some (.cells #[.int .i64 0, .slice none 0 0] 26 (0, 0)) := by
    rw [hw1, Below.heap_alloc _ _ _ (by simp)]
    have h5 := heap_alloc_new (w.alloc (.cells #[.int .i64 now, .slice A n c] 26)) (.cells #[.int .i64 0, .slice none 0 0] 26)
    rwa [World.size_alloc] at h5
  have hx2 : w1.heap[w.heap.size + 1 + 1]? = some (.cells #[.int .i64 now, .slice none 0 0] 26 (0, 0)) := by
    rw [hw1]
    have h5 := heap_alloc_new ((w.alloc (.cells #[.int .i64 now, .slice A n c] 26)).alloc (.cells #[.int .i64 0, .slice none 0 0] 26)) (.cells #[.int .i64 now, .slice none 0 0] 26)
    simpa only [World.size_alloc] using h5
  have HX0 := Lib.hid hx0
  have HX1 := Lib.hid hx1
  have HX2 := Lib.hid hx2
  clear hw1 hx0 hx1 hx2
  go_loopw [4] (fun v4 wr => ∃ (k : Nat) (A1 : Option Addr) (c1 : Nat), k ≤ n ∧ v4 = .int .i64 k ∧ Hid (OwnG wr (w.heap.size + 1 + 1 + 1) A1 k c1 (ss.take k)) ∧ Hid (wr.heap[w.heap.size + 1 + 1]? = some (.cells #[.int .i64 now, .slice A1 k c1] 26 (0, 0))) ∧ Below (w.heap.size + 1 + 1) w1 wr ∧ w.heap.size + 1 + 1 + 1 ≤ wr.heap.size) (fun v4 _ => n - (intOf v4).toNat)
  case atStart => exact ⟨0, none, 0, Nat.zero_le _, rfl, ⟨OwnS.none _ _ _ _ _, [], World.ownsRow_nil _ _ _ _⟩, HX2, Below.refl _ _, by omega⟩
  case round =>
    obtain ⟨k, A1, c1, hk, rfl, HO, HBX, hbr, hsr⟩ := hrel
    obtain ⟨a0, a1, _, _⟩ := blk2 ((hbr.block w.heap.size (by omega)).trans HX0.out)
    obtain ⟨o0, o1, of0, of1⟩ := blk2 HBX.out
    have hbwr : Below w.heap.size w wr := hb01.trans (hbr.mono (by omega))
    by_cases hlt : k < n
    · obtain ⟨b, off, A2, c2, rfl, hbB, hc2, hT2⟩ := slots_at (HR.out.below hbwr hB) hlt
      obtain ⟨m, hm⟩ : ∃ m, m = (ss.getD k []).length := ⟨_, rfl⟩
      have hm1 : m ≤ 1048576 := by rw [hm]; exact HM.out k
      rw [← hm] at hc2 hT2
      have HMM := Lib.hid hm
      have HT2 := Lib.hid hT2
      clear hm hT2
      obtain ⟨wo, hwo⟩ : ∃ wo : World, wo = wr := ⟨_, rfl⟩
      subst hwo
      have HC2 := Lib.hid hc2
      have hbz : b < wo.heap.size := by have := hbwr.size; omega
      go_wp2_with fail
      go_loopw [5, 6] (fun v5 v6 wq => ∃ (i : Nat) (A5 : Option Addr) (c5 : Nat), i ≤ m ∧ v6 = .int .i64 i ∧ v5 = .slice A5 i c5 ∧ Hid (OwnT wq wo.heap.size wq.heap.size A5 i c5 ((ss.getD k []).take i)) ∧ Below wo.heap.size wo wq) (fun _ v6 _ => m - (intOf v6).toNat)
      case atStart =>
        refine ⟨0, _, 0, Nat.zero_le _, rfl, rfl, ⟨rfl, World.ownsRow_lit (base := wo.heap.size) (e := 68) (size := 2) wo #[] 0 (Nat.le_refl _) (Nat.zero_le _) rfl, fun p e => ?_⟩, below_a1 _ _⟩
        injection e with e
        subst e
        simp
      case round =>
        obtain ⟨i, A5, c5, hi, rfl, rfl, HT5, hbq⟩ := hrel
        have hq0 : wr.cell? ⟨w.heap.size, 0, none⟩ = some (.int .i64 now) := below_keep hbq a0
        have hq1 : wr.cell? ⟨w.heap.size, 1, none⟩ = some (.slice (some ⟨b, off, none⟩) n c) := below_keep hbq a1
        have hq2 : wr.cell? ⟨b, off + k, none⟩ = some (.slice A2 m c2) := below_keep hbq HC2.out
        have hp0 : wr.cell? ⟨w.heap.size + 1 + 1, 0, none⟩ = some (.int .i64 now) := below_keep hbq o0
        have hp1 : wr.cell? ⟨w.heap.size + 1 + 1, 1, none⟩ = some (.slice A1 k c1) := below_keep hbq o1
        have hszq := hbq.size
        have hlw : w.heap.size < wr.heap.size := by omega
        have hbr2 : b < wr.heap.size := by omega
        by_cases hlt2 : i < m
        · obtain ⟨b2, off2, x, y, rfl, hbB2, hz, hd1, hd2⟩ := ((HT2.out.below hbq (by omega)).at_ hlt2)
          have hil : i < (ss.getD k []).length := by rw [← HMM.out]; exact hlt2
          have HZ : Hid ((ss.getD k []).take (i + 1) = (ss.getD k []).take i ++ [(x, y)]) := by show _ = _; rw [take_snocT _ i hil, hz]
          have hb2r : b2 < wr.heap.size := by omega
          clear hz
          go_wp2_with (at_builtin; refine wpList_append_lies _ rfl (.tmp 28) (.tmp 37) _ rfl wo.heap.size 68 i8 _ 2 16 Try.underlying66 hi8 hy0 hy1 hy2 rfl (by omega) (.slice A5 i c5) i _ rfl (by exact own_below HT5.out.2.1 (below_a1 _ _)) ⟨wr.heap.size, 0, none⟩ 1 1 [.int .i64 x, .int .i64 y] rfl rfl ?o2 ?o3 (by omega) ?o4 ?o5 ?o6 (wr.heap.size + 1) ?o7 ?_)
          case o2 => exact World.news_of_block (cs := #[.int .i64 x, .int .i64 y]) (heap_alloc_new wr _)
          case o3 => intro u hu; simp at hu; rcases hu with rfl | rfl <;> rfl
          case o4 => unfold maxLen; omega
          case o5 => omega
          case o6 => simp; omega
          case o7 => simp
          intro g2 cap2 w2 hown2 hgr2 hat2 hlt3
          have HN : Hid (OwnT w2 wo.heap.size w2.heap.size (some ⟨g2, 0, none⟩) (i + 1) cap2 ((ss.getD k []).take (i + 1))) := by
            refine ⟨by rw [List.length_take]; omega, by rw [HZ.out, flat_app]; exact hown2, fun p e => ?_⟩
            injection e with e
            subst e
            exact hlt3
          have hbn : Below wo.heap.size wo w2 := (hbq.alloc hszq _).grown hgr2 (by simp; omega) (fun q hq => (HT5.out.blk q hq).1)
          clear hown2 hgr2 hat2
          go_wp2_with fail
          go_roundw
          case rel => exact ⟨i + 1, _, cap2, by omega, by go_num, rfl, HN, hbn⟩
          case measure => simp [intOf]; omega
        · have HI : Hid (i = m) := (by omega : i = m)
          have HT6 : Hid (OwnT wr wo.heap.size wr.heap.size A5 i c5 (ss.getD k [])) := by
            have h5 := HT5.out
            rw [List.take_of_length_le (by rw [← HMM.out, HI.out]; exact Nat.le_refl _)] at h5
            exact h5
          have HG := Lib.hid (HO.out.below hbq)
          obtain ⟨hS, vs, hrow⟩ := HG.out
          have HROW := Lib.hid hrow
          have hfz : wr.frozen? ⟨w.heap.size + 1 + 1, 1, none⟩ = false := (World.frozen?_of_block (hbq.block (w.heap.size + 1 + 1) (by omega))).trans of1
          clear hS hrow
          go_wp2_with (at_builtin; refine wpList_append_lies _ rfl (.tmp 40) (.tmp 42) _ rfl (w.heap.size + 1 + 1 + 1) 66 i6 _ 1 24 Try.underlying24 hi6 hz0 hz1 hz2 rfl (by omega) (.slice A1 k c1) k vs rfl (by exact own_below HROW.out (below_a1 _ _)) ⟨wr.heap.size, 0, none⟩ 1 1 [.slice A5 i c5] rfl rfl ?o2 ?o3 (by omega) ?o4 ?o5 ?o6 (wr.heap.size + 1) ?o7 ?_)
          case o2 => exact World.news_of_block (cs := #[.slice A5 i c5]) (heap_alloc_new wr _)
          case o3 => intro u hu; simp at hu; subst hu; rfl
          case o4 => unfold maxLen; omega
          case o5 => omega
          case o6 => simp; omega
          case o7 => simp
          intro g2 cap2 w2 hown2 hgr2 hat2 hlt3
          have hsz2 := hgr2.size
          rw [World.size_alloc] at hsz2
          have hA1 : ∀ q, (Value.slice A1 k c1).ownBlock = some q → w.heap.size + 1 + 1 + 1 ≤ q := fun q hq => (HROW.out.lt q hq).1
          have hblk2 : w2.heap[w.heap.size + 1 + 1]? = some (.cells #[.int .i64 now, .slice A1 k c1] 26 (0, 0)) := by
            rw [hgr2.block _ (by simp; omega) (fun e => by have := hA1 _ e.symm; omega), Below.heap_alloc _ _ _ (by omega), hbq.block _ (by omega)]
            exact HBX.out
          have hpush := OwnS.push (w := wr.alloc (.cells #[.slice A5 i c5] 66)) (hi' := w2.heap.size) ((HO.out.1.below hbq).below ((below_a1 _ _))) hgr2
            (((HT6.out.base (lo' := w.heap.size + 1 + 1 + 1) hsr).below (below_a1 _ _)).more (by omega)) vs (fun _ vs' h => own_unique (own_below HROW.out (below_a1 _ _)) h) (fun h => by have h5 := HROW.out.1; rw [h] at h5; exact List.eq_nil_of_length_eq_zero (by omega)) (own_below HROW.out (below_a1 _ _)) hown2 (fun p e => by injection e with e; subst e; exact hlt3) (fun p e => (HT6.out.blk p.block (by rw [e]; rfl)).1) (by omega)
          rw [← take_snoc ss k (by rw [HL.out]; exact hlt)] at hpush
          obtain ⟨e0, e1, ef0, ef1⟩ := blk2 hblk2
          have hgs : w2.grownBy (w2.setCell ⟨w.heap.size + 1 + 1, 1, none⟩ (.slice (some ⟨g2, 0, none⟩) (k + 1) cap2)) (some (w.heap.size + 1 + 1)) := ⟨rfl, rfl, rfl, by simp [World.setCell], fun q _ hne => Below.heap_setCell w2 ⟨w.heap.size + 1 + 1, 1, none⟩ _ q (fun e => hne (by rw [e]))⟩
          have hg2 := (hown2.lt g2 rfl).1
          have HN : Hid (OwnG (w2.setCell ⟨w.heap.size + 1 + 1, 1, none⟩ (.slice (some ⟨g2, 0, none⟩) (k + 1) cap2)) (w.heap.size + 1 + 1 + 1) (some ⟨g2, 0, none⟩) (k + 1) cap2 (ss.take (k + 1))) := by
            refine ⟨?_, _, hown2.kept hgs (.inr (fun e => ?_))⟩
            · have h5 := hpush.setLow (p := ⟨w.heap.size + 1 + 1, 1, none⟩) (by show w.heap.size + 1 + 1 < _; omega) (.slice (some ⟨g2, 0, none⟩) (k + 1) cap2)
              refine h5.more ?_
              simp [World.setCell]
            · have h5 : g2 = w.heap.size + 1 + 1 := by simpa [Value.ownBlock] using e
              omega
          have HNB : Hid ((w2.setCell ⟨w.heap.size + 1 + 1, 1, none⟩ (.slice (some ⟨g2, 0, none⟩) (k + 1) cap2)).heap[w.heap.size + 1 + 1]? = some (.cells #[.int .i64 now, .slice (some ⟨g2, 0, none⟩) (k + 1) cap2] 26 (0, 0))) := by
            have h5 := heap_setCell_same w2 (w.heap.size + 1 + 1) 1 #[.int .i64 now, .slice A1 k c1] 26 (.slice (some ⟨g2, 0, none⟩) (k + 1) cap2) hblk2
            exact h5
          have hbn : Below (w.heap.size + 1 + 1) w1 w2 := ((hbr.trans (hbq.mono (by omega))).alloc (by omega) _).grown hgr2 (by simp; omega) (fun q hq => by have := hA1 q hq; omega)
          have hlw2 : w.heap.size + 1 + 1 < w2.heap.size := by omega
          clear hpush hown2 hgr2 hat2 hblk2 hgs
          go_wp2_with fail
          go_roundw
          case rel => exact ⟨k + 1, _, cap2, by omega, by go_num, HN, HNB, hbn.setCell (p := ⟨w.heap.size + 1 + 1, 1, none⟩) (Nat.le_refl _) _, by simp [World.setCell]; omega⟩
          case measure => simp [intOf]; omega
    · have HK : Hid (k = n) := (by omega : k = n)
      obtain ⟨r0, r1, rf0, rf1⟩ := blk2 ((hbr.block (w.heap.size + 1) (by omega)).trans HX1.out)
      have hl1 : w.heap.size + 1 < wr.heap.size := by omega
      go_wp2_with fail
      refine bodyPost_ret (v := .agg #[.int .i64 now, .slice A1 k c1]) (by simp [results, Try.results65, go_sem, r0, r1]) rfl ⟨A1, c1, by rw [HL.out, HK.out], ?_, ?_⟩
      · have h5 := HO.out.1
        rw [HK.out, List.take_of_length_le (by rw [HL.out]; exact Nat.le_refl _)] at h5
        have h1 := (h5.setLow (p := ⟨w.heap.size + 1, 0, none⟩) (by show w.heap.size + 1 < _; omega) (.int .i64 now)).setLow (p := ⟨w.heap.size + 1, 1, none⟩) (by show w.heap.size + 1 < _; omega) (.slice A1 k c1)
        rw [HL.out]
        refine (h1.base (by omega)).more ?_
        simp [World.setCell]
      · exact (hbwr.setCell (p := ⟨w.heap.size + 1, 0, none⟩) (by show _ ≤ w.heap.size + 1; omega) _).setCell (p := ⟨w.heap.size + 1, 1, none⟩) (by show _ ≤ w.heap.size + 1; omega) _
end Go.Proofs.Ythaecnemalpliaa.Timers
