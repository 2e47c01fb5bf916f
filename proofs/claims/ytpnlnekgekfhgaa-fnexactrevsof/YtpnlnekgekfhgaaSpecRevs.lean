/-
  THE MODEL'S RevsOf over this seat's translation.
-/
import Derived.Test.YtpnlnekgekfhgaaFleetRevs
namespace Go.Proofs.Ytpnlnekgekfhgaa.Crew
open Go.ChangeShapes Go.WideShapes Go.ChangeAt Go.RowKit Go.Maps Go.Sort Go.Shelf
open Go.Proofs.Ytpnlnekgekfhgaa.LK Go.Proofs.Ytpnlnekgekfhgaa.Pods Go.Proofs.Ytpnlnekgekfhgaa.FleetV Go.Proofs.Ytpnlnekgekfhgaa.Has Go.Proofs.Ytpnlnekgekfhgaa.Ints
open Go.Proofs.Ytpnlnekgekfhgaa.RevV (AscI insK revV revD mapB mapB_put mapB_keys mapB_size mem_insK asc_insK len_insK rev_asc rev_mem rev_len rev_eq next_some next_none)
open Go.Proofs.Ytpnlnekgekfhgaa.FleetSpec (specFleetOk_any wrap_id)
set_option linter.unusedVariables false

def lenOf : Value → Nat | .slice _ n _ => n | _ => 0
/-- The least Rev above the last one among the pods. -/
def Best (k : Nat) (last : Int) (ps : PList) (best : Int) : Prop :=
  (best = 0 ∧ ∀ p ∈ ps, ¬ (k = 0 ∨ last < p.2.1)) ∨ (1 ≤ best ∧ (∃ p ∈ ps, p.2.1 = best) ∧ (k = 0 ∨ last < best) ∧ ∀ p ∈ ps, (k = 0 ∨ last < p.2.1) → best ≤ p.2.1)
theorem best_nil (k : Nat) (last : Int) : Best k last [] 0 := .inl ⟨rfl, by simp⟩
theorem best_skip {k : Nat} {last best : Int} {ps : PList} {p : Pd} (h : Best k last ps best) (hn : ¬ ((k = 0 ∨ last < p.2.1) ∧ (best = 0 ∨ p.2.1 < best))) : Best k last (ps ++ [p]) best := by
  rcases h with ⟨h0, h1⟩ | ⟨h0, ⟨q, hq, he⟩, h2, h3⟩
  · refine .inl ⟨h0, fun q hq => ?_⟩
    rcases List.mem_append.1 hq with hq | hq
    · exact h1 q hq
    · obtain rfl : q = p := by simpa using hq
      intro hg
      exact hn ⟨hg, .inl h0⟩
  · refine .inr ⟨h0, ⟨q, by simp [hq], he⟩, h2, fun r hr hg => ?_⟩
    rcases List.mem_append.1 hr with hr | hr
    · exact h3 r hr hg
    · obtain rfl : r = p := by simpa using hr
      rcases Int.lt_or_le r.2.1 best with h4 | h4
      · exact absurd ⟨hg, .inr h4⟩ hn
      · exact h4
theorem best_take {k : Nat} {last best : Int} {ps : PList} {p : Pd} (h : Best k last ps best) (hg : k = 0 ∨ last < p.2.1) (hb : best = 0 ∨ p.2.1 < best) (hp : 1 ≤ p.2.1) : Best k last (ps ++ [p]) p.2.1 := by
  refine .inr ⟨hp, ⟨p, by simp, rfl⟩, hg, fun r hr hgr => ?_⟩
  rcases List.mem_append.1 hr with hr | hr
  · rcases h with ⟨h0, h1⟩ | ⟨h0, _, _, h3⟩
    · exact absurd hgr (h1 r hr)
    · have := h3 r hr hgr; omega
  · obtain rfl : r = p := by simpa using hr
    exact Int.le_refl _
set_option maxRecDepth 100000 in
set_option maxHeartbeats 6400000 in
theorem specRevsOf_any (A : Option Addr) (n c : Nat) (nx : Int) (ps : PList) (B : Nat) (w : World) (hr : IsPods w B A n ps) (hB : B ≤ w.heap.size) (hn : n ≤ 1048576) :
    Calls Try.prog 48 #[.agg #[.slice A n c, .int .i64 nx]] w (Made IntTy.ity (revD (ps, nx)) w) := by
  obtain ⟨i0, hi0, hz0, hz1, hz2⟩ := info_parts infoInt
  have HL : Hid (ps.length = n) := hr.1
  have HR := Lib.hid hr
  clear hr
  go_enter Try.func48, Try.ntmps48
  go_wp2_with fail
  have k1 : ((w.alloc (.cells #[.slice A n c, .int .i64 nx] 26)).alloc (.cells #[] 3)).heap[w.heap.size + 1]? = some (.cells #[] 3) := by
    have h := box_new (w.alloc (.cells #[.slice A n c, .int .i64 nx] 26)) (.cells #[] 3)
    simp only [World.size_alloc] at h
    exact h
  refine (specFleetOk_any A n c nx ps B _ (HR.out.below (bel2 _ _ _) hB) (by simp; omega) hn).mono ?_
  rintro e w2 ⟨rfl, hb⟩
  have hb2 : Below w.heap.size w w2 := bel_then (bel2 w _ _) hb (by simp; omega)
  have E0 : Hid (w2.heap[w.heap.size]? = some (.cells #[.slice A n c, .int .i64 nx] 26)) := box_below (box_alloc (box_new w (.cells #[.slice A n c, .int .i64 nx] 26)) (.cells #[] 3)) hb
  have E1 := box_below k1 hb
  clear hb k1
  by_cases hg : FGood ps nx
  · have HV : Hid (revD (ps, nx) = revV ps) := if_pos hg
    have HG := Lib.hid hg
    rw [decide_eq_true hg]
    obtain ⟨R, hR⟩ : ∃ R, R = revV ps := ⟨_, rfl⟩
    have HRA : Hid (AscI R) := by rw [hR]; exact rev_asc ps
    have HRM : Hid (∀ y, y ∈ R ↔ ∃ p ∈ ps, p.2.1 = y) := by rw [hR]; exact rev_mem ps
    have hRl : R.length ≤ 30 := by rw [hR]; have := rev_len ps; have := hg.1; omega
    have HRR := Lib.hid hR
    have HP1 : Hid (∀ p ∈ ps, 1 ≤ p.2.1) := fun p hp => (hg.2.2.1 p hp).1.2.1.1
    have hO0 : OwnI w2 (w.heap.size + 1) (some ⟨w.heap.size + 1, 0, none⟩) 0 0 (R.take 0) := by
      refine ⟨by simp, by simp, .inr ⟨w.heap.size + 1, 0, #[], rfl, Nat.le_refl _, E1, Nat.le_refl _, Nat.zero_le _, rfl, by simp⟩⟩
    have hsz : w.heap.size + 1 < w2.heap.size := box_lt E1
    clear hg hR E1
    go_wp2_with fail
    go_loopw [3] (fun s3 wr => ∃ (k : Nat) (A3 : Option Addr) (c3 : Nat), k ≤ R.length ∧ s3 = .slice A3 k c3 ∧ Hid (OwnI wr (w.heap.size + 1) A3 k c3 (R.take k)) ∧ Hid (wr.heap[w.heap.size]? = some (.cells #[.slice A n c, .int .i64 nx] 26)) ∧ Below w.heap.size w wr ∧ w.heap.size + 1 < wr.heap.size) (fun s3 _ => R.length - lenOf s3)
    case atStart => exact ⟨0, _, 0, Nat.zero_le _, rfl, hO0, E0, hb2, hsz⟩
    case round =>
      obtain ⟨k, A3, c3, hk, rfl, HO, F0, hbr, hsr⟩ := hrel
      clear hO0 hb2 hsz E0
      have f0 := box_cell F0.out 0 _ rfl
      have hrw := HR.out.below hbr hB
      obtain ⟨last, hlast⟩ : ∃ last, last = R.getD (k - 1) 0 := ⟨_, rfl⟩
      have hkm : (R.take k).length = k := HO.out.1
      go_wp2_with fail
      go_loop [4, 5] (fun b i => ∃ (j : Nat) (best : Int), j ≤ n ∧ i = .int .i64 j ∧ b = .int .i64 best ∧ Hid (Best k last (ps.take j) best)) (fun _ i => n - (RowKit.intOf i).toNat)
      case atStart => exact ⟨0, 0, Nat.zero_le _, rfl, rfl, by simp [Hid, best_nil]⟩
      case round =>
        obtain ⟨j, best, hj, rfl, rfl, HBE⟩ := hrel
        by_cases hlt : j < n
        · obtain ⟨b, off, x0, x1, x2, x3, x4, rfl, hbB, hz, hc0, hc1, hc2, hc3, hc4⟩ := hrw.at_ hlt
          have hjp : j < ps.length := by rw [HL.out]; exact hlt
          have hx1 : 1 ≤ x1 := by have := HP1.out _ (get_mem hjp); rw [hz] at this; exact this
          have HTK : Hid (ps.take (j + 1) = ps.take j ++ [(x0, x1, x2, x3, x4)]) := by show _ = _; rw [take_get hjp, hz]
          clear hz hjp
          rcases Nat.eq_zero_or_pos k with hk0 | hk0
          · have hd0 : ((k : Int) == 0) = true := by simp; omega
            have HK0 := Lib.hid hk0
            clear hk0
            cases h3 : (best == 0) <;> cases h4 : decide (x1 < best)
            all_goals
              have h3' := h3
              have h4' := h4
              simp at h3' h4'
              have H3 := Lib.hid h3'
              have H4 := Lib.hid h4'
              clear h3' h4'
              go_wp2
              go_round
              case rel =>
                first
                | exact ⟨j + 1, best, by omega, by go_num, rfl, by show Best _ _ _ _; rw [HTK.out]; exact best_skip HBE.out (fun h => by have h1 := H3.out; have h2 := H4.out; have h5 := h.2; simp only at h5; omega)⟩
                | exact ⟨j + 1, x1, by omega, by go_num, rfl, by show Best _ _ _ _; rw [HTK.out]; exact best_take HBE.out (.inl HK0.out) (by have h1 := H3.out; have h2 := H4.out; simp only; omega) hx1⟩
              case measure => simp [RowKit.intOf]; omega
          · have hd0 : ((k : Int) == 0) = false := by simp; omega
            obtain ⟨b3, off3, z, hA3, _, hz3, hc5⟩ := HO.out.ints.at_ (k := k - 1) (by omega)
            subst hA3
            have hzl : z = last := by rw [hlast, hz3]; simp [List.getD, show k - 1 < k by omega]
            subst hzl
            have hkw : IntKind.i64.wrap ((k : Int) - 1) = (k : Int) - 1 := wrap_id (by omega) (by omega)
            have hkt : ((k : Int) - 1).toNat = k - 1 := by omega
            have hki : ((k : Int) - 1) = ((k - 1 : Nat) : Int) := by omega
            have hkl : k - 1 < k := by omega
            have HK0 := Lib.hid hk0
            have HLA := Lib.hid hlast
            clear hz3 hlast
            cases h2 : decide (z < x1) <;> cases h3 : (best == 0) <;> cases h4 : decide (x1 < best)
            all_goals
              have h2' := h2
              have h3' := h3
              have h4' := h4
              simp at h2' h3' h4'
              have H2 := Lib.hid h2'
              have H3 := Lib.hid h3'
              have H4 := Lib.hid h4'
              clear h2' h3' h4'
              go_wp2
              go_round
              case rel =>
                first
                | exact ⟨j + 1, best, by omega, by go_num, rfl, by show Best _ _ _ _; rw [HTK.out]; exact best_skip HBE.out (fun h => by have h0 := HK0.out; have h1 := H3.out; have h2 := H4.out; have h6 := H2.out; have h5 := h.2; have h7 := h.1; simp only at h5 h7; omega)⟩
                | exact ⟨j + 1, x1, by omega, by go_num, rfl, by show Best _ _ _ _; rw [HTK.out]; exact best_take HBE.out (.inr H2.out) (by have h1 := H3.out; have h2 := H4.out; simp only; omega) hx1⟩
              case measure => simp [RowKit.intOf]; omega
        · have HJ : Hid (j = n) := (by omega : j = n)
          have HBA : Hid (Best k last ps best) := by
            have h := HBE.out
            rw [List.take_of_length_le (by rw [HL.out, HJ.out]; exact Nat.le_refl _)] at h
            exact h
          have hll : k = 0 ∨ last = R.getD (k - 1) 0 := .inr hlast
          have HLL := Lib.hid hll
          clear hlast hll HBE
          cases h3 : (best == 0)
          · have hb0 : best ≠ 0 := by simpa using h3
            have hnx : k < R.length ∧ best = R.getD k 0 := by
              rcases HBA.out with ⟨h0, _⟩ | ⟨h0, ⟨p, hp, he⟩, h1, h2⟩
              · exact absurd h0 hb0
              · exact next_some HRA.out hk HLL.out ((HRM.out best).2 ⟨p, hp, he⟩) h1 (fun y hy hgy => by
                  obtain ⟨q, hq, hqe⟩ := (HRM.out y).1 hy
                  rw [← hqe]
                  exact h2 q hq (by rw [hqe]; exact hgy))
            have hkR := hnx.1
            have HTR : Hid (R.take k ++ [best] = R.take (k + 1)) := by
              show _ = _
              rw [List.take_succ_eq_append_getElem hkR, hnx.2]
              simp [List.getD, hkR]
            have hsw : w.heap.size + 1 ≤ wr.heap.size := by omega
            obtain ⟨T, hT⟩ : ∃ T, T = R.take k := ⟨_, rfl⟩
            rw [← hT] at HO hkm HTR
            clear hnx hb0 hT
            go_wp2_with (at_builtin; refine wpList_append_own _ rfl (.tmp 50) (.tmp 52) _ rfl (w.heap.size + 1) 3 i0 _ 1 8 Try.underlying38 hi0 hz0 hz1 hz2 rfl (by omega) (.slice A3 k c3) k (T.map (Value.int .i64)) rfl ?o1 ⟨wr.heap.size, 0, none⟩ 1 1 [.int .i64 best] rfl rfl (news_new wr [.int .i64 best] 3) ?o3 ?o4 ?o5 ?o6 ?_)
            case o1 => exact (HO.out.alloc _).2
            case o3 => first | rfl | (intro u hu; simp at hu; subst hu; rfl)
            case o4 => unfold maxLen; omega
            case o5 => omega
            case o6 => first | omega | (simp; omega)
            intro v2 w5 hown hgr _
            obtain ⟨A5, c5, rfl, hO5⟩ := OwnI.of_append (zs := T) (x := best) hkm hown
            rw [HTR.out] at hO5
            have HO5 := Lib.hid hO5
            have hne : ∀ q, (Value.slice A3 k c3).ownBlock = some q → w.heap.size + 1 ≤ q := fun q hq => (HO.out.lt q hq).1
            have F5 : Hid (w5.heap[w.heap.size]? = some (.cells #[.slice A n c, .int .i64 nx] 26)) := (hgr.block w.heap.size (by simp; omega) (fun e => by have := hne _ e.symm; omega)).trans (box_alloc F0.out _)
            have hb5 : Below w.heap.size w w5 := (hbr.alloc hbr.size _).grown hgr (by simp; omega) (fun qq hq => by have := hne qq hq; omega)
            have hs5 : w.heap.size + 1 < w5.heap.size := by have := hgr.size; simp at this; omega
            clear hown hgr hO5 hne
            go_wp2
            go_roundw
            case rel => exact ⟨k + 1, A5, c5, hkR, rfl, HO5, F5, hb5, hs5⟩
            case measure => simp only [lenOf]; omega
          · have hb0 : best = 0 := by simpa using h3
            have hkR : k = R.length := by
              rcases HBA.out with ⟨_, h1⟩ | ⟨h0, _⟩
              · exact next_none HRA.out hk HLL.out (fun y hy hgy => by
                  obtain ⟨q, hq, hqe⟩ := (HRM.out y).1 hy
                  exact h1 q hq (by rw [hqe]; exact hgy))
              · omega
            have HKR := Lib.hid hkR
            clear hb0 hkR
            go_wp2
            go_ret
            have h1 := HO.out
            rw [List.take_of_length_le (by rw [HKR.out]; exact Nat.le_refl _)] at h1
            rw [HV.out, ← HRR.out]
            exact IntTy.made_of hbr h1 (by omega)
  · have HV : Hid (revD (ps, nx) = []) := if_neg hg
    rw [decide_eq_false hg]
    clear hg
    go_wp2
    go_ret
    rw [HV.out]
    exact IntTy.made_of (lo := w.heap.size) hb2 ⟨rfl, World.ownsRow_nil _ _ _ _⟩ (Nat.le_refl _)
end Go.Proofs.Ytpnlnekgekfhgaa.Crew
