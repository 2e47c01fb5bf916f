/-
  THE MODEL'S AddPod over this seat's translation.
-/
import Derived.Test.YtdefckbgcggnoaaGreatFleetAdd
namespace Go.Proofs.YtdefckbgcggnoaaGreat.Crew
open Go.ChangeShapes Go.WideShapes Go.ChangeAt Go.RowKit Go.Maps Go.Sort Go.Shelf
open Go.Proofs.YtdefckbgcggnoaaGreat.LK Go.Proofs.YtdefckbgcggnoaaGreat.Pods Go.Proofs.YtdefckbgcggnoaaGreat.FleetV Go.Proofs.YtdefckbgcggnoaaGreat.Has Go.Proofs.YtdefckbgcggnoaaGreat.Ints
set_option linter.unusedVariables false

theorem turned_drew {S : Nat → Prop} {a b : World} (h : Turned S a b) : Turned S a b.drew := ⟨h.os, h.tape, h.output, h.size, h.block⟩
/-- A row of pods lies in no box of another type. -/
theorem own_ne {w : World} {lo : Nat} {A : Option Addr} {n c : Nat} {ps : PList} {q : Nat} {cs : Array Value} {t : TypeId} {f : Nat × Nat} (h : OwnP w lo A n c ps) (hq : w.heap[q]? = some (.cells cs t f)) (ht : t ≠ 77) (k : Nat) (hk : (Value.slice A n c).ownBlock = some k) : k ≠ q := by
  intro e
  subst e
  rcases h.2.2 with ⟨h, _⟩ | ⟨g, cap, cur, h, _, hh, _⟩
  · injection h with h; rw [h] at hk; simp [Value.ownBlock] at hk
  · rw [h] at hk
    simp [Value.ownBlock] at hk
    subst hk
    rw [hq] at hh
    injection hh with hh
    injection hh with _ h2
    exact ht h2
set_option maxRecDepth 100000 in
set_option maxHeartbeats 6400000 in
theorem specAddPod_any (A : Option Addr) (n c : Nat) (nx rev now : Int) (ps : PList) (B : Nat) (w : World) (hr : IsPods w B A n ps) (hB : B ≤ w.heap.size) (hn : n ≤ 1048576) :
    Calls Tryz.prog 155 #[.agg #[.slice A n c, .int .i64 nx], .int .i64 rev, .int .i64 now] w (Made1 FleetTy.fty (addD (ps, nx) rev now) (.int .i64 (addV (ps, nx) rev now)) w) := by
  obtain ⟨i0, hi0, hz0, hz1, hz2⟩ := info_parts infoP
  have HL : Hid (ps.length = n) := hr.1
  have HR := Lib.hid hr
  clear hr
  have k0 : ((w.alloc (.cells #[.slice A n c, .int .i64 nx] 34)).alloc (.cells #[.slice none 0 0, .int .i64 0] 34)).heap[w.heap.size]? = some (.cells #[.slice A n c, .int .i64 nx] 34) := box_alloc (box_new _ _) _
  have k1 : ((w.alloc (.cells #[.slice A n c, .int .i64 nx] 34)).alloc (.cells #[.slice none 0 0, .int .i64 0] 34)).heap[w.heap.size + 1]? = some (.cells #[.slice none 0 0, .int .i64 0] 34) := by
    have h := box_new (w.alloc (.cells #[.slice A n c, .int .i64 nx] 34)) (.cells #[.slice none 0 0, .int .i64 0] 34)
    simp only [World.size_alloc] at h
    exact h
  have K0 := Lib.hid k0
  have K1 := Lib.hid k1
  clear k0 k1
  go_enter Tryz.func155, Tryz.ntmps155
  go_wp2_with fail
  refine (FleetSpec.copy_any A n c nx ps B _ (HR.out.below (bel2 _ _ _) hB) (by simp; omega) hn).mono ?_
  intro e w2 hM
  obtain ⟨A2, c2, rfl, hO, hb⟩ := made_own hM
  simp only [World.size_alloc] at hO
  rw [HL.out] at hO ⊢
  have hbw : Below w.heap.size w w2 := bel_then (bel2 w _ _) hb (by simp; omega)
  have hs2 : w.heap.size + 1 + 1 ≤ w2.heap.size := by have := hb.size; simp at this; omega
  have E0 : Hid ((w2.alloc (.cells #[.slice A2 n c2, .int .i64 nx] 34)).heap[w.heap.size]? = some (.cells #[.slice A n c, .int .i64 nx] 34)) := box_alloc (box_below K0.out hb) _
  have E1 : Hid ((w2.alloc (.cells #[.slice A2 n c2, .int .i64 nx] 34)).heap[w.heap.size + 1]? = some (.cells #[.slice none 0 0, .int .i64 0] 34)) := box_alloc (box_below K1.out hb) _
  have E2 : Hid ((w2.alloc (.cells #[.slice A2 n c2, .int .i64 nx] 34)).heap[w2.heap.size]? = some (.cells #[.slice A2 n c2, .int .i64 nx] 34)) := box_new _ _
  have HO := Lib.hid (hO.below (bel1 w2 (.cells #[.slice A2 n c2, .int .i64 nx] 34)))
  have HB := Lib.hid (hbw.alloc hbw.size (.cells #[.slice A2 n c2, .int .i64 nx] 34))
  have a0 : w2.cell? ⟨w.heap.size, 0, none⟩ = some (.slice A n c) := box_cell (box_below K0.out hb) 0 _ rfl
  have a1 : w2.cell? ⟨w.heap.size, 1, none⟩ = some (.int .i64 nx) := box_cell (box_below K0.out hb) 1 _ rfl
  have hl0 : w.heap.size < w2.heap.size := by omega
  have hl1 : w.heap.size + 1 < w2.heap.size := by omega
  clear hM hO hb hbw K0 K1
  go_wp2_with fail
  refine (FleetSpec.specFleetOk_any A n c nx ps B _ (HR.out.below HB.out hB) (by have := HB.out.size; simp at this ⊢; omega) hn).mono ?_
  rintro e w3 ⟨rfl, hb3⟩
  have F0 := box_below E0.out hb3
  have F1 := box_below E1.out hb3
  have F2 := box_below E2.out hb3
  have HO3 := Lib.hid (HO.out.below hb3)
  have HB3 := Lib.hid (bel_then HB.out hb3 HB.out.size)
  have hs3 : w2.heap.size + 1 ≤ w3.heap.size := by have := hb3.size; simp at this; omega
  clear hb3 E0 E1 E2 HO HB a0 a1
  have f00 := box_cell F0 0 _ rfl
  have f01 := box_cell F0 1 _ rfl
  have f10 := box_cell F1 0 _ rfl
  have f11 := box_cell F1 1 _ rfl
  have f20 := box_cell F2 0 _ rfl
  have f21 := box_cell F2 1 _ rfl
  have g10 := box_frozen F1 0
  have g11 := box_frozen F1 1
  have g20 := box_frozen F2 0
  have g21 := box_frozen F2 1
  by_cases hg : FGood ps nx
  · rw [decide_eq_true hg]
    have HG := Lib.hid hg
    have hn30 : n ≤ 30 := by have := hg.1; have := HL.out; omega
    have hx1 := hg.2.1.1
    have hx2 := hg.2.1.2
    clear hg
    go_wp2_with (at_builtin; refine wpList_append_own _ rfl (.tmp 16) (.tmp 22) _ rfl (w.heap.size + 1 + 1) 77 i0 _ 5 40 Tryz.underlying32 hi0 hz0 hz1 hz2 rfl (by omega) (.slice A2 n c2) n (flat ps) rfl ?o1 ⟨w3.heap.size, 0, none⟩ 1 1 [.int .i64 nx, .int .i64 rev, .int .i64 0, .int .i64 0, .int .i64 now] rfl rfl ?o2 ?o3 ?o4 ?o5 ?o6 ?_)
    case o1 => exact (HO3.out.2.alloc _)
    case o2 => exact news_new w3 [.int .i64 nx, .int .i64 rev, .int .i64 0, .int .i64 0, .int .i64 now] 77
    case o3 => intro u hu; simp at hu; rcases hu with rfl | rfl | rfl | rfl | rfl <;> rfl
    case o4 => unfold maxLen; omega
    case o5 => omega
    case o6 => simp; omega
    intro v2 w5 hown hgr _
    obtain ⟨A5, c5, rfl, hO5⟩ := own_app (ps := ps) (p := (nx, rev, 0, 0, now)) HL.out hown
    have hne : ∀ q, (Value.slice A2 n c2).ownBlock = some q → w.heap.size + 1 + 1 ≤ q ∧ q ≠ w2.heap.size := fun q hq => ⟨(HO3.out.lt q hq).1, own_ne HO3.out F2 (by decide) q hq⟩
    have keep : ∀ (q : Nat) (o : Obj), (q < w.heap.size + 1 + 1 ∨ q = w2.heap.size) → w3.heap[q]? = some o → w5.heap[q]? = some o := fun q o hq ho => (hgr.block q (by have := box_lt ho; simp; omega) (fun e => by have := hne q e.symm; omega)).trans (box_alloc ho _)
    have G0 := keep _ _ (.inl (by omega)) F0
    have G1 := keep _ _ (.inl (by omega)) F1
    have G2 := keep _ _ (.inr rfl) F2
    have hb5 : Below w.heap.size w w5 := ((HB3.out.alloc HB3.out.size _).grown hgr (by have := HB3.out.size; simp; omega) (fun qq hq => by have := (hne qq hq).1; omega))
    have hne5 := fun q hq => own_ne hO5 G2 (by decide) q hq
    obtain ⟨W6, hW6⟩ : ∃ W6, W6 = (w5.setCell ⟨w2.heap.size, 0, none⟩ (.slice A5 (n + 1) c5)).setCell ⟨w2.heap.size, 1, none⟩ (.int .i64 (nx + 1)) := ⟨_, rfl⟩
    have ht6 : Turned (fun k => k = w2.heap.size) w5 W6 := by rw [hW6]; exact (Turned.set (S := fun k => k = w2.heap.size) _ ⟨w2.heap.size, 0, none⟩ _ rfl).trans (Turned.set (S := fun k => k = w2.heap.size) _ ⟨w2.heap.size, 1, none⟩ _ rfl)
    have I0 : Hid (W6.heap[w.heap.size]? = some (.cells #[.slice A n c, .int .i64 nx] 34)) := box_turned G0 ht6 (by omega)
    have I1 : Hid (W6.heap[w.heap.size + 1]? = some (.cells #[.slice none 0 0, .int .i64 0] 34)) := box_turned G1 ht6 (by omega)
    have I2 : Hid (W6.heap[w2.heap.size]? = some (.cells #[.slice A5 (n + 1) c5, .int .i64 (nx + 1)] 34)) := by rw [hW6]; exact box_set (i := 1) (box_set (i := 0) G2 (.slice A5 (n + 1) c5)) (.int .i64 (nx + 1))
    have HO6 : Hid (OwnP W6 (w.heap.size + 1 + 1) A5 (n + 1) c5 (ps ++ [(nx, rev, 0, 0, now)])) := hO5.same (fun q hq => ht6.block q (hO5.lt q hq).2 (hne5 q hq))
    have HB6 : Hid (Below w.heap.size w W6) := Turned.low hb5 ht6 (fun k hk => by omega) hb5.size
    have m01 := box_cell G0 1 _ rfl
    have m20 := box_cell G2 0 _ rfl
    have m21 := box_cell G2 1 _ rfl
    have n20 := box_frozen G2 0
    have n21 := box_frozen G2 1
    have hw2 : w.heap.size ≠ w2.heap.size := by omega
    clear hown hgr hO5 hne keep G0 G1 G2 hb5 hne5 ht6 F0 F1 F2 f00 f01 f10 f11 f20 f21 g10 g11 g20 g21
    go_wp2_with fail
    rw [← hW6]
    clear hW6 m01 m20 m21 n20 n21
    refine (FleetSpec.specFleetOk_any A5 (n + 1) c5 (nx + 1) (ps ++ [(nx, rev, 0, 0, now)]) W6.heap.size _ HO6.out.podsAll (Nat.le_refl _) (by omega)).mono ?_
    rintro e w7 ⟨rfl, hb7⟩
    have J0 := box_below I0.out hb7
    have J1 := box_below I1.out hb7
    have J2 := box_below I2.out hb7
    have HO7 := Lib.hid (HO6.out.below hb7)
    have HB7 := Lib.hid (bel_then HB6.out hb7 HB6.out.size)
    have hs7 : w.heap.size + 1 < w7.heap.size := box_lt J1
    clear hb7 I0 I1 I2 HO6 HB6
    have j00 := box_cell J0 0 _ rfl
    have j01 := box_cell J0 1 _ rfl
    have j10 := box_cell J1 0 _ rfl
    have j11 := box_cell J1 1 _ rfl
    have j20 := box_cell J2 0 _ rfl
    have j21 := box_cell J2 1 _ rfl
    have l10 := box_frozen J1 0
    have l11 := box_frozen J1 1
    by_cases hA : AddOk ps nx rev now
    · rw [decide_eq_true ((good_app HG.out).2 hA)]
      have HYES := Lib.hid (add_yes hA)
      clear hA J0 J1 J2
      go_wp2_with fail
      go_region
      all_goals
        go_wp2
        refine bodyPost_ret (v := .tuple #[.agg #[.slice A5 (n + 1) c5, .int .i64 (nx + 1)], .int .i64 nx]) (by simp [results, Tryz.results155, go_sem, j10, j11]) rfl ?_
        rw [HYES.out.1, HYES.out.2]
        exact made1_of (w2 := w7) HB7.out HO7.out (by omega) (S := fun k => k = w.heap.size + 1) (fun k hk => by omega) (turned_drew ((Turned.set (S := fun k => k = w.heap.size + 1) _ ⟨w.heap.size + 1, 0, none⟩ _ rfl).trans (Turned.set (S := fun k => k = w.heap.size + 1) _ ⟨w.heap.size + 1, 1, none⟩ _ rfl)))
    · rw [decide_eq_false (fun h => hA ((good_app HG.out).1 h))]
      have HNO := Lib.hid (add_no hA)
      have X1 := Lib.hid J1
      clear hA J0 J1 J2
      go_wp2_with fail
      refine (FleetSpec.copy_any A n c nx ps B _ (HR.out.below HB7.out hB) (by have := HB7.out.size; omega) hn).mono ?_
      intro e w8 hM
      obtain ⟨A8, c8, rfl, hO8, hb8⟩ := made_own hM
      rw [HL.out] at hO8 ⊢
      have Z1 := box_below X1.out hb8
      have z0 := box_cell Z1 0 _ rfl
      have z1 := box_cell Z1 1 _ rfl
      have y0 := box_frozen Z1 0
      have y1 := box_frozen Z1 1
      have HB8 := Lib.hid (bel_then HB7.out hb8 HB7.out.size)
      have HO8 := Lib.hid hO8
      clear hM hb8 hO8 Z1 j00 j01 j10 j11 j20 j21 l10 l11
      go_wp2
      refine bodyPost_ret (v := .tuple #[.agg #[.slice A8 n c8, .int .i64 nx], .int .i64 0]) (by simp [results, Tryz.results155, go_sem, z0, z1]) rfl ?_
      rw [HNO.out.1, HNO.out.2]
      exact made1_of HB8.out HO8.out (by omega) (S := fun k => k = w.heap.size + 1) (fun k hk => by omega) ((Turned.set (S := fun k => k = w.heap.size + 1) _ ⟨w.heap.size + 1, 0, none⟩ _ rfl).trans (Turned.set (S := fun k => k = w.heap.size + 1) _ ⟨w.heap.size + 1, 1, none⟩ _ rfl))
  · rw [decide_eq_false hg]
    have HNO : Hid (_ ∧ _) := add_no (ps := ps) (nx := nx) (rev := rev) (now := now) (fun h => hg h.1)
    clear hg F0 F1 F2
    go_wp2
    refine bodyPost_ret (v := .tuple #[.agg #[.slice A2 n c2, .int .i64 nx], .int .i64 0]) (by simp [results, Tryz.results155, go_sem, f10, f11]) rfl ?_
    rw [HNO.out.1, HNO.out.2]
    exact made1_of HB3.out HO3.out (by omega) (S := fun k => k = w.heap.size + 1) (fun k hk => by omega) ((Turned.set (S := fun k => k = w.heap.size + 1) _ ⟨w.heap.size + 1, 0, none⟩ _ rfl).trans (Turned.set (S := fun k => k = w.heap.size + 1) _ ⟨w.heap.size + 1, 1, none⟩ _ rfl))
end Go.Proofs.YtdefckbgcggnoaaGreat.Crew
