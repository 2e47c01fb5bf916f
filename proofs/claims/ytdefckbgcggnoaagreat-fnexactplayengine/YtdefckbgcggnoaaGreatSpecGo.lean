/-
  THE MODEL'S MarkGoing over this seat's translation.
-/
import Derived.Test.YtdefckbgcggnoaaGreatFleetGo
namespace Go.Proofs.YtdefckbgcggnoaaGreat.Crew
open Go.ChangeShapes Go.WideShapes Go.ChangeAt Go.RowKit Go.Maps Go.Sort Go.Shelf
open Go.Proofs.YtdefckbgcggnoaaGreat.LK Go.Proofs.YtdefckbgcggnoaaGreat.Pods Go.Proofs.YtdefckbgcggnoaaGreat.FleetV Go.Proofs.YtdefckbgcggnoaaGreat.Has Go.Proofs.YtdefckbgcggnoaaGreat.Ints
open Go.Proofs.YtdefckbgcggnoaaGreat.Tick (inB in_t in_f tokB tok_t tok_f tickOk_any specTickOk_any)
open Go.Proofs.YtdefckbgcggnoaaGreat.FleetSpec (atP at_cases at_any copy_any specFleetOk_any)
set_option linter.unusedVariables false

set_option maxRecDepth 100000 in
set_option maxHeartbeats 6400000 in
theorem specMarkGoing_any (A : Option Addr) (n c : Nat) (nx id now : Int) (ps : PList) (B : Nat) (w : World) (hr : IsPods w B A n ps) (hB : B ≤ w.heap.size) (hn : n ≤ 1048576) :
    Calls Tryz.prog 172 #[.agg #[.slice A n c, .int .i64 nx], .int .i64 id, .int .i64 now] w (Made1 FleetTy.fty (goD (ps, nx) id now) (.bool (goB (ps, nx) id now)) w) := by
  have HL : Hid (ps.length = n) := hr.1
  have HR := Lib.hid hr
  clear hr
  have k0 : ((w.alloc (.cells #[.slice A n c, .int .i64 nx] 34)).alloc (.cells #[.slice none 0 0, .int .i64 0] 34)).heap[w.heap.size]? = some (.cells #[.slice A n c, .int .i64 nx] 34) := box_alloc (box_new _ _) _
  have k1 : ((w.alloc (.cells #[.slice A n c, .int .i64 nx] 34)).alloc (.cells #[.slice none 0 0, .int .i64 0] 34)).heap[w.heap.size + 1]? = some (.cells #[.slice none 0 0, .int .i64 0] 34) := by
    have h := box_new (w.alloc (.cells #[.slice A n c, .int .i64 nx] 34)) (.cells #[.slice none 0 0, .int .i64 0] 34)
    simp only [World.size_alloc] at h
    exact h
  have K0 := Lib.hid k0
  have K1 := Lib.hid k1
  clear k0 k1
  go_enter Tryz.func172, Tryz.ntmps172
  go_wp2_with fail
  refine (copy_any A n c nx ps B _ (HR.out.below (bel2 _ _ _) hB) (by simp; omega) hn).mono ?_
  intro e w2 hM
  obtain ⟨A2, c2, rfl, hO, hb⟩ := made_own hM
  simp only [World.size_alloc] at hO
  rw [HL.out] at hO ⊢
  have hbw : Below w.heap.size w w2 := bel_then (bel2 w _ _) hb (by simp; omega)
  have hs2 : w.heap.size + 1 + 1 ≤ w2.heap.size := by have := hb.size; simp at this; omega
  have E0 : Hid ((w2.alloc (.cells #[.slice A2 n c2, .int .i64 nx] 34)).heap[w.heap.size]? = some (.cells #[.slice A n c, .int .i64 nx] 34)) := box_alloc (box_below K0.out hb) _
  have E1 : Hid ((w2.alloc (.cells #[.slice A2 n c2, .int .i64 nx] 34)).heap[w.heap.size + 1]? = some (.cells #[.slice none 0 0, .int .i64 0] 34)) := box_alloc (box_below K1.out hb) _
  have E2 : Hid ((w2.alloc (.cells #[.slice A2 n c2, .int .i64 nx] 34)).heap[w2.heap.size]? = some (.cells #[.slice A2 n c2, .int .i64 nx] 34)) := box_new _ _
  have HO := Lib.hid (hO.below (bel1 w2 (.cells #[.slice A2 n c2, .int .i64 nx] 34)))
  have HB := Lib.hid (hbw.alloc hbw.size (.cells #[.slice A2 n c2, .int .i64 nx] 34))
  have a0 : w2.cell? ⟨w.heap.size, 0, none⟩ = some (.slice A n c) := box_cell (box_below K0.out hb) 0 _ rfl
  have a1 : w2.cell? ⟨w.heap.size, 1, none⟩ = some (.int .i64 nx) := box_cell (box_below K0.out hb) 1 _ rfl
  have hl0 : w.heap.size < w2.heap.size := by omega
  have hl1 : w.heap.size + 1 < w2.heap.size := by omega
  clear hM hO hb hbw K0 K1
  go_wp2_with fail
  refine (at_any A n c nx id ps B _ (HR.out.below HB.out hB) (by have := HB.out.size; simp at this ⊢; omega) hn).mono ?_
  rintro e w3 ⟨rfl, hb3⟩
  have E03 := Lib.hid (box_below E0.out hb3)
  have E13 := Lib.hid (box_below E1.out hb3)
  have E23 := Lib.hid (box_below E2.out hb3)
  have HO3 := Lib.hid (HO.out.below hb3)
  have HB3 := Lib.hid (bel_then HB.out hb3 HB.out.size)
  have e00 := box_cell E03.out 0 _ rfl
  have e01 := box_cell E03.out 1 _ rfl
  clear hb3 E0 E1 E2 HO HB a0 a1
  obtain ⟨at0, hat⟩ : ∃ at0, at0 = atP ps id := ⟨_, rfl⟩
  rw [← hat]
  have HAT := Lib.hid hat
  clear hat
  go_wp2_with fail
  refine (specFleetOk_any A n c nx ps B _ (HR.out.below HB3.out hB) (by have := HB3.out.size; omega) hn).mono ?_
  rintro e w4 ⟨rfl, hb4⟩
  have F0 := box_below E03.out hb4
  have F1 := box_below E13.out hb4
  have F2 := box_below E23.out hb4
  have HO4 := Lib.hid (HO3.out.below hb4)
  have HB4 := Lib.hid (bel_then HB3.out hb4 HB3.out.size)
  clear hb4 E03 E13 E23 HO3 HB3 e00 e01
  have f00 := box_cell F0 0 _ rfl
  have f01 := box_cell F0 1 _ rfl
  have f10 := box_cell F1 0 _ rfl
  have f11 := box_cell F1 1 _ rfl
  have f20 := box_cell F2 0 _ rfl
  have f21 := box_cell F2 1 _ rfl
  have g10 := box_frozen F1 0
  have g11 := box_frozen F1 1
  have hw12 : w.heap.size + 1 ≠ w2.heap.size := by omega
  by_cases hg : FGood ps nx
  · rw [decide_eq_true hg]
    rcases at_cases ps id with ⟨hat, hfn⟩ | ⟨j, hj, hat, hfn, hjid⟩
    · have HNO := Lib.hid (go_no (d := (ps, nx)) (id := id) (now := now) (by simp [goP, hfn]))
      have ha : at0 = -1 := HAT.out.trans hat
      subst ha
      clear F0 F1 F2 hg hat hfn
      go_wp2
      refine bodyPost_ret (v := .tuple #[.agg #[.slice A2 n c2, .int .i64 nx], .bool false]) (by simp [results, Tryz.results172, go_sem, f10, f11]) rfl ?_
      rw [HNO.out.1, HNO.out.2]
      exact made1_of HB4.out HO4.out (by omega) (S := fun k => k = w.heap.size + 1) (fun k hk => by omega) ((Turned.set (S := fun k => k = w.heap.size + 1) _ ⟨w.heap.size + 1, 0, none⟩ _ rfl).trans (Turned.set (S := fun k => k = w.heap.size + 1) _ ⟨w.heap.size + 1, 1, none⟩ _ rfl))
    · have ha : at0 = (j : Int) := HAT.out.trans hat
      subst ha
      have hjn : j < n := by rw [← HL.out]; exact hj
      obtain ⟨b, off, x0, x1, x2, x3, x4, rfl, hbB, hz, hc0, hc1, hc2, hc3, hc4⟩ := (HR.out.below HB4.out hB).at_ hjn
      rw [hz] at hfn hjid
      have hjid : x0 = id := hjid
      by_cases h4 : x2 = 4
      · have HNO := Lib.hid (go_no (d := (ps, nx)) (id := id) (now := now) (by simp [goP, hfn, h4]))
        have hd : (x2 == 4) = true := by simp [h4]
        clear F0 F1 F2 hg hat hfn h4 hz hjid HAT
        go_wp2
        refine bodyPost_ret (v := .tuple #[.agg #[.slice A2 n c2, .int .i64 nx], .bool false]) (by simp [results, Tryz.results172, go_sem, f10, f11]) rfl ?_
        rw [HNO.out.1, HNO.out.2]
        exact made1_of HB4.out HO4.out (by omega) (S := fun k => k = w.heap.size + 1) (fun k hk => by omega) ((Turned.set (S := fun k => k = w.heap.size + 1) _ ⟨w.heap.size + 1, 0, none⟩ _ rfl).trans (Turned.set (S := fun k => k = w.heap.size + 1) _ ⟨w.heap.size + 1, 1, none⟩ _ rfl))
      · have hd : (x2 == 4) = false := by simp [h4]
        cases hnw : tokB now
        · have HNO := Lib.hid (go_no (d := (ps, nx)) (id := id) (now := now) (by simp [goP, hnw]))
          clear F0 F1 F2 hg hat hfn h4 hz hjid HAT
          go_wp2_with (go_at_call 46; refine (specTickOk_any _ _).mono ?_; rintro e w' ⟨rfl, rfl⟩; rw [hnw])
          refine bodyPost_ret (v := .tuple #[.agg #[.slice A2 n c2, .int .i64 nx], .bool false]) (by simp [results, Tryz.results172, go_sem, f10, f11]) rfl ?_
          rw [HNO.out.1, HNO.out.2]
          exact made1_of HB4.out HO4.out (by omega) (S := fun k => k = w.heap.size + 1) (fun k hk => by omega) ((Turned.set (S := fun k => k = w.heap.size + 1) _ ⟨w.heap.size + 1, 0, none⟩ _ rfl).trans (Turned.set (S := fun k => k = w.heap.size + 1) _ ⟨w.heap.size + 1, 1, none⟩ _ rfl))
        · have HY := Lib.hid (go_yes (d := (ps, nx)) (id := id) (now := now) (p := (x0, x1, 4, x3, now)) (by simp [goP, hfn, h4, hg, hnw]))
          obtain ⟨g, hA2, hg0, hg1⟩ := HO4.out.at0 (by omega)
          subst hA2
          obtain ⟨⟨u0, hu0⟩, ⟨u1, hu1⟩, ⟨u2, hu2⟩, ⟨u3, hu3⟩, ⟨u4, hu4⟩, hfr, _⟩ := own_cells5 HO4.out hjn
          have hf2 := hfr (j * 5 + 2)
          have hf4 := hfr (j * 5 + 4)
          have hgne1 : g ≠ w2.heap.size := own_ne HO4.out F2 (by decide) g rfl
          have hgne0 : g ≠ w.heap.size + 1 := by omega
          have hO5 := own_set2 HO4.out hjn 4 now
          rw [hz, set_setP hg.2.2.2 hj (by rw [hz])] at hO5
          obtain ⟨W5, hW5⟩ : ∃ W5, W5 = (w4.setCell ⟨g, j * 5 + 2, none⟩ (.int .i64 4)).setCell ⟨g, j * 5 + 4, none⟩ (.int .i64 now) := ⟨_, rfl⟩
          rw [← hW5] at hO5
          have hb5 : Below w.heap.size w W5 := by rw [hW5]; exact (HB4.out.setCell (p := ⟨g, j * 5 + 2, none⟩) (by show w.heap.size ≤ g; omega) _).setCell (p := ⟨g, j * 5 + 4, none⟩) (by show w.heap.size ≤ g; omega) _
          have G1 : W5.heap[w.heap.size + 1]? = some (.cells #[.slice none 0 0, .int .i64 0] 34) := by rw [hW5]; exact box_other (box_other F1 _ _ (Ne.symm hgne0)) _ _ (Ne.symm hgne0)
          have G2 : W5.heap[w2.heap.size]? = some (.cells #[.slice (some ⟨g, 0, none⟩) n c2, .int .i64 nx] 34) := by rw [hW5]; exact box_other (box_other F2 _ _ (Ne.symm hgne1)) _ _ (Ne.symm hgne1)
          have HO5 := Lib.hid hO5
          have HB5 := Lib.hid hb5
          have X1 := Lib.hid G1
          have X2 := Lib.hid G2
          clear F0 F1 F2 hg hat hfn h4 hz hjid HAT hfr hO5 hb5 G1 G2 f10 f11 g10 g11
          go_upto_region 7 with (go_at_call 46; refine (specTickOk_any _ _).mono ?_; rintro e w' ⟨rfl, rfl⟩; rw [hnw])
          rw [← hW5]
          have m10 := box_cell X1.out 0 _ rfl
          have m11 := box_cell X1.out 1 _ rfl
          have m20 := box_cell X2.out 0 _ rfl
          have m21 := box_cell X2.out 1 _ rfl
          have n10 := box_frozen X1.out 0
          have n11 := box_frozen X1.out 1
          clear hW5 hu0 hu1 hu2 hu3 hu4 hf2 hf4 f00 f01 f20 f21
          go_wp2
          refine bodyPost_ret (v := .tuple #[.agg #[.slice (some ⟨g, 0, none⟩) n c2, .int .i64 nx], .bool true]) (by simp [results, Tryz.results172, go_sem, m10, m11]) rfl ?_
          rw [HY.out.1, HY.out.2]
          exact made1_of HB5.out HO5.out (by omega) (S := fun k => k = w.heap.size + 1) (fun k hk => by omega) ((Turned.set (S := fun k => k = w.heap.size + 1) _ ⟨w.heap.size + 1, 0, none⟩ _ rfl).trans (Turned.set (S := fun k => k = w.heap.size + 1) _ ⟨w.heap.size + 1, 1, none⟩ _ rfl))
  · rw [decide_eq_false hg]
    have HNO := Lib.hid (go_no (d := (ps, nx)) (id := id) (now := now) (by simp [goP, hg]))
    clear hg F0 F1 F2
    go_wp2
    refine bodyPost_ret (v := .tuple #[.agg #[.slice A2 n c2, .int .i64 nx], .bool false]) (by simp [results, Tryz.results172, go_sem, f10, f11]) rfl ?_
    rw [HNO.out.1, HNO.out.2]
    exact made1_of HB4.out HO4.out (by omega) (S := fun k => k = w.heap.size + 1) (fun k hk => by omega) ((Turned.set (S := fun k => k = w.heap.size + 1) _ ⟨w.heap.size + 1, 0, none⟩ _ rfl).trans (Turned.set (S := fun k => k = w.heap.size + 1) _ ⟨w.heap.size + 1, 1, none⟩ _ rfl))
end Go.Proofs.YtdefckbgcggnoaaGreat.Crew
