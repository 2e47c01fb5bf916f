/-
  THE WALK of laws.FnExactTakeFrame over this seat's translation: it answers true and turns nothing that was there.
-/
import Derived.Test.YtghckkameinicaaDoorSpecFrame
namespace Go.Proofs.YtghckkameinicaaDoor.Rd
open Go.ChangeShapes Go.WideShapes Go.ChangeAt Go.RowKit
open Go.Proofs.YtghckkameinicaaDoor.Ints (below_drewN IsInts)
open Go.Proofs.YtghckkameinicaaDoor.Has (OwnI)
open Go.Proofs.YtghckkameinicaaDoor.Bytes (IsBytes OwnB toByteS_any eqByteS_same markByteS_any)
open Go.Proofs.YtghckkameinicaaDoor.Rec (grown_set below_a1 Box eqRecord_same markRecord_any heldRecord_any marksI)
set_option linter.unusedVariables false
set_option linter.unusedSimpArgs false

theorem numsA_len {bs : List Int} {zs : List Int} {q : Nat} : ∀ (m p : Nat) (acc : List Int), numsA bs m p acc = .ok zs q → zs.length = acc.length + m
  | 0, p, acc, h => by
    rw [numsA] at h
    injection h with h1 h2
    rw [← h1]; rfl
  | m + 1, p, acc, h => by
    generalize hnr : numR bs p = nr
    cases nr with
    | ok x r =>
      rw [numsA_ok hnr] at h
      have := numsA_len m r _ h
      rw [this, List.length_append]
      simp
      omega
    | torn => rw [numsA_torn hnr] at h; cases h
    | bent => rw [numsA_bent hnr] at h; cases h
theorem recR_len {bs : List Int} {p q : Nat} {kd : Int} {zs : List Int} (h : recR bs p = .ok kd zs q) : zs.length ≤ 12 := by
  unfold recR at h
  split at h
  · cases h
  · split at h
    · cases h
    · split at h
      · cases h
      · split at h
        · cases h
        · next h12 =>
          generalize hna : numsA bs (bs.getD (p + 1) 0).toNat (p + 2) [] = na at h
          cases na with
          | ok acc r =>
            have hl := numsA_len _ _ _ hna
            have : zs = acc := by
              have h' : tailR bs p r (bs.getD p 0) acc = .ok kd zs q := h
              clear h
              have h := h'
              clear h'
              unfold tailR at h
              split at h
              · cases h
              · split at h
                · cases h
                · split at h
                  · cases h
                  · split at h
                    · cases h
                    · injection h with _ h _; exact h.symm
            rw [this, hl, List.length_nil]
            omega
          | torn => cases h
          | bent => cases h
theorem frZ_len (bs : List Int) (a : Int) : (frZ bs a).length ≤ 12 := by
  generalize hf : frR bs a = f
  cases f with
  | ok kd zs q =>
    rw [(fr_ok hf).2.1]
    unfold frR at hf
    split at hf
    · exact recR_len hf
    · cases hf
  | torn => rw [(fr_no (.inl hf)).2.1]; simp
  | bent => rw [(fr_no (.inr hf)).2.1]; simp

theorem errs_up {w : World} {B C : Nat} {aT aB aO : Addr} (h : Errs B w aT aB aO) (hC : B ≤ C) : Errs C w aT aB aO := ⟨⟨Nat.lt_of_lt_of_le h.lt.1 hC, Nat.lt_of_lt_of_le h.lt.2.1 hC, Nat.lt_of_lt_of_le h.lt.2.2 hC⟩, h.cT, h.cB, h.cO⟩

set_option maxRecDepth 100000 in
set_option maxHeartbeats 8000000 in
theorem law_takeFrame (A : Option Addr) (n c : Nat) (a : Int) (bs : List Int) (aT aB aO : Addr) (w : World) (hE : Errs w.heap.size w aT aB aO) (hr : IsBytes w w.heap.size A n bs) :
    Calls Tryd.prog 6 #[.slice A n c, .int .i64 a] w fun e w' => e = .returned (.bool true) ∧ Below w.heap.size w w' := by
  by_cases hbig : 1048576 < n
  · go_enter Tryd.func6, Tryd.ntmps6
    go_wp2_with fail
    go_ret
    exact ⟨rfl, Below.refl _ _⟩
  · have hn : n ≤ 1048576 := by omega
    have HL : Hid (bs.length = n) := hr.1
    have HR := Lib.hid hr
    have HE := Lib.hid hE
    clear hr hE
    obtain ⟨x, hx⟩ : ∃ x, x = frK bs a := ⟨_, rfl⟩
    obtain ⟨zs, hzs⟩ : ∃ zs, zs = frZ bs a := ⟨_, rfl⟩
    obtain ⟨y, hy⟩ : ∃ y, y = frP bs a := ⟨_, rfl⟩
    have hm12 : zs.length ≤ 12 := by rw [hzs]; exact frZ_len bs a
    obtain ⟨m, hm⟩ : ∃ m, zs.length = m := ⟨_, rfl⟩
    rw [hm] at hm12
    have HM := Lib.hid hm
    have hmb : m ≤ 1048576 := by omega
    have HS : Hid (∀ (A' : Option Addr) (c' B' : Nat) (W : World), IsBytes W B' A' n bs → B' ≤ W.heap.size → n ≤ c' → Calls Tryd.prog 26 #[.slice A' n c', .int .i64 a] W (AnsR W x zs y)) := by
      intro A' c' B' W h hB hc
      rw [hx, hzs, hy]
      exact specTakeFrame_any A' n c' a bs B' W h hB hn hc
    have HI : Hid (∀ (A' : Option Addr) (c' B' : Nat) (W : World), Errs B' W aT aB aO → IsBytes W B' A' n bs → B' ≤ W.heap.size → n ≤ c' → Calls Tryd.prog 16 #[.slice A' n c', .int .i64 a] W (AnsR W x zs y)) := by
      intro A' c' B' W hE h hB hc
      rw [hx, hzs, hy]
      exact takeFrame_any A' n c' a bs B' aT aB aO W hE h hB hn hc
    have hyy : (y != y) = false := by simp
    clear hx hzs hy hm
    go_enter Tryd.func6, Tryd.ntmps6
    go_wp2_with fail
    refine (toByteS_any A n c bs _ _ HR.out (Nat.le_refl _) hn).mono ?_
    rintro e w1 ⟨g1, rfl, hg1, hr1, hb1⟩
    rw [HL.out] at hr1 ⊢
    have H1 := Lib.hid hr1.bytes
    clear hr1
    go_wp2_with fail
    refine (HS.out _ _ _ _ H1.out (Nat.le_refl _) (Nat.le_refl _)).mono ?_
    rintro e w2 ⟨Aw, cw, rfl, hO2, hb2⟩
    rw [HM.out] at hO2 ⊢
    have HW2 := Lib.hid hO2.ints
    have hb02 : Below w.heap.size w w2 := hb1.trans (hb2.mono hb1.size)
    obtain ⟨D, hD⟩ : ∃ D, D = w2.alloc (.cells #[.int .i64 x, .slice Aw m cw] 26) := ⟨_, rfl⟩
    have hDs : D.heap.size = w2.heap.size + 1 := by rw [hD]; simp
    have hb2D : Below w2.heap.size w2 D := by rw [hD]; exact below_a1 _ _
    have HB5 : Hid (Box D w2.heap.size x Aw m cw) := by rw [hD]; exact Box.new _ _ _ _ _ _
    have HWD := Lib.hid (HW2.out.below hb2D (Nat.le_refl _))
    have hb0D : Below w.heap.size w D := hb02.trans (hb2D.mono hb02.size)
    have HRD := Lib.hid (HR.out.below hb0D (Nat.le_refl _))
    have HED := Lib.hid (HE.out.below hb0D (Nat.le_refl _))
    have HDS := Lib.hid hDs
    have hs2 : w.heap.size ≤ w2.heap.size := hb02.size
    clear hO2 hDs hb2 hb2D H1 hb1 hg1
    go_wp2_with fail
    rw [← hD]
    refine (toByteS_any A n c bs _ _ HRD.out (by have := HDS.out; omega) hn).mono ?_
    rintro e w3 ⟨g3, rfl, hg3, hr3, hb3⟩
    rw [HL.out] at hr3 ⊢
    have H3 := Lib.hid hr3
    have HQ3 : Hid (∀ q, (Value.slice (some ⟨g3, 0, none⟩) n n).ownBlock = some q → D.heap.size ≤ q ∧ q < w3.heap.size) := fun q hq => hr3.lt q hq
    have hs3 : D.heap.size ≤ w3.heap.size := hb3.size
    have HE3 := Lib.hid (errs_up (HED.out.below hb3 (by have := HDS.out; omega)) (show w.heap.size ≤ w3.heap.size by have := HDS.out; omega))
    clear hD hr3
    go_wp2_with fail
    refine (HI.out _ _ _ _ HE3.out H3.out.bytes (Nat.le_refl _) (Nat.le_refl _)).mono ?_
    rintro e w4 ⟨Ag, cg, rfl, hO4, hb4⟩
    rw [HM.out] at hO4 ⊢
    have HQ4 : Hid (∀ q, (Value.slice Ag m cg).ownBlock = some q → w3.heap.size ≤ q ∧ q < w4.heap.size) := fun q hq => hO4.lt q hq
    have hs4 : w3.heap.size ≤ w4.heap.size := hb4.size
    obtain ⟨V, hV⟩ : ∃ V, V = w4.alloc (.cells #[.int .i64 x, .slice Ag m cg] 26) := ⟨_, rfl⟩
    have hVs : V.heap.size = w4.heap.size + 1 := by rw [hV]; simp
    have hb4V : Below w4.heap.size w4 V := by rw [hV]; exact below_a1 _ _
    have HXV : Hid (Box V w4.heap.size x Ag m cg) := by rw [hV]; exact Box.new _ _ _ _ _ _
    have HOV := Lib.hid (hO4.below hb4V)
    have H3V := Lib.hid ((H3.out.below hb4).below (hb4V))
    have hbDV : Below D.heap.size D V := (hb3.trans (hb4.mono hs3)).trans (hb4V.mono (Nat.le_trans hs3 hs4))
    have HVS := Lib.hid hVs
    clear hb4 hb4V hO4 H3 HE3 hb3
    have hx5V : Box V w2.heap.size x Aw m cw := HB5.out.low hbDV (by have := HDS.out; omega)
    have HX5V := Lib.hid hx5V
    have HWV := Lib.hid (HWD.out.below hbDV (by have := HDS.out; omega))
    have hw2V : w2.heap.size ≤ V.heap.size := by have := HDS.out; have := HVS.out; omega
    have hl24 : w2.heap.size < w4.heap.size := by have := HDS.out; omega
    have hx8V := HXV.out
    rw [hV] at hx5V hx8V
    obtain ⟨d0, d1⟩ := hx5V
    obtain ⟨v0, v1⟩ := hx8V
    go_wp2_with fail
    rw [← hV]
    refine (eqRecord_same x Ag Aw m cg cw zs V.heap.size w2.heap.size V HOV.out.ints HWV.out (Nat.le_refl _) hw2V hmb).mono ?_
    rintro e w5 ⟨rfl, hb5⟩
    have HX85 := Lib.hid (HXV.out.below hb5)
    have HO5 := Lib.hid (HOV.out.below hb5)
    have H35 := Lib.hid (H3V.out.below hb5)
    have hbD5 : Below D.heap.size D w5 := hbDV.trans (hb5.mono (by have := HVS.out; omega))
    have hs5 : V.heap.size ≤ w5.heap.size := hb5.size
    clear hV d0 d1 v0 v1 hb5 HXV HOV H3V HX5V HWV
    have HR5 := Lib.hid (HRD.out.below hbD5 (by have := HDS.out; omega))
    go_wp2_with fail
    refine (toByteS_any A n c bs _ _ HR5.out (by have := HDS.out; have := HVS.out; omega) hn).mono ?_
    rintro e w6 ⟨g6, rfl, hg6, hr6, hb6⟩
    rw [HL.out] at hr6 ⊢
    have H6 := Lib.hid hr6.bytes
    have H36 := Lib.hid (H35.out.below hb6)
    have HO6 := Lib.hid (HO5.out.below hb6)
    have HX86 := Lib.hid (HX85.out.below hb6)
    have hbD6 : Below D.heap.size D w6 := hbD5.trans (hb6.mono (by have := HVS.out; omega))
    have hs6 : w5.heap.size ≤ w6.heap.size := hb6.size
    clear hr6 hb6 hg6 H35 HO5 HX85
    go_wp2_with fail
    refine (eqByteS_same _ _ _ _ _ bs _ _ _ H36.out.bytes H6.out hn).mono ?_
    rintro e w7 ⟨rfl, mm, hmm⟩
    have hbD7 : Below D.heap.size D w7 := by rw [hmm]; exact below_drewN hbD6 mm
    have H37 : Hid (OwnB w7 D.heap.size (some ⟨g3, 0, none⟩) n n bs) := by rw [hmm]; exact H36.out
    have HO7 : Hid (OwnI w7 w3.heap.size Ag m cg zs) := by rw [hmm]; exact HO6.out
    have HX87 : Hid (Box w7 w4.heap.size x Ag m cg) := by rw [hmm]; exact HX86.out
    have hs7 : w6.heap.size = w7.heap.size := by rw [hmm]; rfl
    have HS7 := Lib.hid hs7
    clear hmm hs7 H36 HO6 HX86
    go_wp2_with fail
    refine (markByteS_any (some ⟨g3, 0, none⟩) n n bs 1 _ _ H37.out hn (by omega) (by omega)).mono ?_
    rintro e w8 ⟨rfl, hr8, hg8⟩
    have hbD8 : Below D.heap.size D w8 := hbD7.grown hg8 hbD7.size (fun q hq => (HQ3.out q hq).1)
    have HO8 : Hid (OwnI w8 w3.heap.size Ag m cg zs) := by
      refine HO7.out.grown hg8 ?_
      cases hq : (Value.slice Ag m cg).ownBlock with
      | none => exact .inl rfl
      | some q =>
        refine .inr fun e => ?_
        have h1 := (HQ4.out q hq).1
        have h2 := (HQ3.out q e.symm).2
        omega
    have hx88 : Box w8 w4.heap.size x Ag m cg := HX87.out.grown hg8 (fun e => by have := (HQ3.out _ e).2; omega)
    have HX88 := Lib.hid hx88
    have hx58 : Box w8 w2.heap.size x Aw m cw := HB5.out.low hbD8 (by have := HDS.out; omega)
    have HW8 := Lib.hid (HWD.out.below hbD8 (by have := HDS.out; omega))
    have hs8 : w7.heap.size ≤ w8.heap.size := hg8.size
    have hk0 : decide ((1 : Int) + (n : Int) < 0) = false := by simp; omega
    obtain ⟨d0, d1⟩ := hx58
    obtain ⟨v0, v1⟩ := hx88
    clear hr8 hg8 H37 HO7 HX87
    go_wp2_with fail
    refine (eqRecord_same x Ag Aw m cg cw zs w8.heap.size w2.heap.size w8 HO8.out.ints HW8.out (Nat.le_refl _) (by have := HDS.out; have := HVS.out; have := HS7.out; omega) hmb).mono ?_
    rintro e w9 ⟨rfl, hb9⟩
    have HO9 := Lib.hid (HO8.out.below hb9)
    have hx89 : Box w9 w4.heap.size x Ag m cg := HX88.out.below hb9
    have HX89 := Lib.hid hx89
    have hbD9 : Below D.heap.size D w9 := hbD8.trans (hb9.mono hbD8.size)
    have hs9 : w8.heap.size ≤ w9.heap.size := hb9.size
    obtain ⟨u0, u1⟩ := hx89
    clear hb9 d0 d1 v0 v1 HX88 HO8 HW8
    go_wp2_with fail
    refine (markRecord_any x Ag m cg zs 1 _ _ HO9.out hmb (by omega) (by omega)).mono ?_
    rintro e w10 ⟨rfl, hO10, hg10⟩
    have HO10 := Lib.hid hO10
    have hbD10 : Below D.heap.size D w10 := hbD9.grown hg10 hbD9.size (fun q hq => by have := (HQ4.out q hq).1; omega)
    have hx810 : Box w10 w4.heap.size x Ag m cg := HX89.out.grown hg10 (fun e => by have := (HQ4.out _ e).2; omega)
    have HX810 := Lib.hid hx810
    obtain ⟨v0, v1⟩ := hx810
    have hs10 : w9.heap.size ≤ w10.heap.size := hg10.size
    have hq0 : decide ((1 : Int) + (m : Int) < 0) = false := by simp; omega
    clear hO10 hg10 u0 u1 HO9 HX89
    go_wp2_with fail
    refine (heldRecord_any x Ag m cg 1 _ _ HO10.out.ints (Nat.le_refl _) hmb (by omega) (by omega)).mono ?_
    rintro e w11 ⟨rfl, hb11⟩
    have HO11 := Lib.hid (HO10.out.below hb11)
    have HX811 := Lib.hid (HX810.out.below hb11)
    have hbD11 : Below D.heap.size D w11 := hbD10.trans (hb11.mono hbD10.size)
    have HR11 := Lib.hid (HRD.out.below hbD11 (by have := HDS.out; omega))
    have hs11 : w10.heap.size ≤ w11.heap.size := hb11.size
    clear hb11 v0 v1 HX810 HO10
    go_wp2_with fail
    refine (toByteS_any A n c bs _ _ HR11.out (by have := HDS.out; have := HVS.out; have := HS7.out; omega) hn).mono ?_
    rintro e w12 ⟨g12, rfl, hg12, hr12, hb12⟩
    rw [HL.out] at hr12 ⊢
    have H12 := Lib.hid hr12.bytes
    have HO12 := Lib.hid (HO11.out.below hb12)
    have HX812 := Lib.hid (HX811.out.below hb12)
    have hbD12 : Below D.heap.size D w12 := hbD11.trans (hb12.mono hbD11.size)
    have hs12 : D.heap.size ≤ w12.heap.size := hbD12.size
    have HE12 := Lib.hid (errs_up (HED.out.below hbD12 (by have := HDS.out; omega)) (show w.heap.size ≤ w12.heap.size by have := HDS.out; omega))
    clear hr12 hb12 hg12 HO11 HX811
    go_wp2_with fail
    refine (HI.out _ _ _ _ HE12.out H12.out (Nat.le_refl _) (Nat.le_refl _)).mono ?_
    rintro e w13 ⟨Ah, ch, rfl, hO13, hb13⟩
    rw [HM.out] at hO13 ⊢
    have HH13 := Lib.hid hO13
    have hs13 : w12.heap.size ≤ w13.heap.size := hb13.size
    have hbD13 : Below D.heap.size D w13 := hbD12.trans (hb13.mono hs12)
    have hx813 : Box w13 w4.heap.size x Ag m cg := HX812.out.below hb13
    have hl4 : w4.heap.size < w13.heap.size := hx813.lt
    have hx513 : Box w13 w2.heap.size x Aw m cw := HB5.out.low hbD13 (by have := HDS.out; omega)
    have hl2 : w2.heap.size < w13.heap.size := hx513.lt
    have HO13 := Lib.hid (HO12.out.below hb13)
    obtain ⟨V2, hV2⟩ : ∃ V2, V2 = w13.alloc (.cells #[.int .i64 x, .slice Ah m ch] 26) := ⟨_, rfl⟩
    have hb13V : Below w13.heap.size w13 V2 := by rw [hV2]; exact below_a1 _ _
    have HX8V2 := Lib.hid (hx813.below hb13V)
    have hx5V2 := hx513.below hb13V
    have hxhV2 : Box V2 w13.heap.size x Ah m ch := by rw [hV2]; exact Box.new _ _ _ _ _ _
    have HHV2 := Lib.hid (HH13.out.below hb13V)
    have HOV2 := Lib.hid (HO13.out.below hb13V)
    have hbDV2 : Below D.heap.size D V2 := hbD13.trans (hb13V.mono hbD13.size)
    have HWV2 := Lib.hid (HWD.out.below hbDV2 (by have := HDS.out; omega))
    have hsV2 : w13.heap.size ≤ V2.heap.size := hb13V.size
    rw [hV2] at hx5V2 hxhV2
    obtain ⟨d0, d1⟩ := hx5V2
    obtain ⟨v0, v1⟩ := hxhV2
    clear hO13 hb13 hb13V hx813 hx513 HX812 HO12 HH13 HO13
    go_wp2_with fail
    rw [← hV2]
    refine (eqRecord_same x Ah Aw m ch cw zs V2.heap.size w2.heap.size V2 HHV2.out.ints HWV2.out (Nat.le_refl _) (by omega) hmb).mono ?_
    rintro e w14 ⟨rfl, hb14⟩
    have HO14 := Lib.hid (HOV2.out.below hb14)
    have hx814 : Box w14 w4.heap.size x Ag m cg := HX8V2.out.below hb14
    obtain ⟨u0, u1⟩ := hx814
    have hbD14 : Below D.heap.size D w14 := hbDV2.trans (hb14.mono hbDV2.size)
    clear hV2 hb14 d0 d1 v0 v1 HX8V2 HOV2 HHV2 HWV2
    go_wp2_with fail
    refine (heldRecord_any x Ag m cg 1 _ _ HO14.out.ints (Nat.le_refl _) hmb (by omega) (by omega)).mono ?_
    rintro e w15 ⟨rfl, hb15⟩
    have hbD15 : Below D.heap.size D w15 := hbD14.trans (hb15.mono hbD14.size)
    clear hb15 u0 u1
    go_wp2_with fail
    go_ret
    exact ⟨rfl, hb0D.trans (hbD15.mono hb0D.size)⟩
end Go.Proofs.YtghckkameinicaaDoor.Rd
