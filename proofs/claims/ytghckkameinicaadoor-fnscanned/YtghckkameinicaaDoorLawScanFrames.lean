/-
  THE WALK of laws.FnExactScanFrames over this seat's translation: it answers true and turns nothing that was there.
-/
import Derived.Test.YtghckkameinicaaDoorSpecScan
import Derived.Test.YtghckkameinicaaDoorRecsMark
namespace Go.Proofs.YtghckkameinicaaDoor.Rd
open Go.ChangeShapes Go.WideShapes Go.ChangeAt Go.RowKit
open Go.Proofs.YtghckkameinicaaDoor.Ints (below_drewN)
open Go.Proofs.YtghckkameinicaaDoor.Bytes (IsBytes OwnB toByteS_any eqByteS_same markByteS_any)
open Go.Proofs.YtghckkameinicaaDoor.Rec (OwnRs IsRecs RList eqRecordS_same markRecordS_any heldRecordS_any marksR endR endR_le)
set_option linter.unusedVariables false
set_option linter.unusedSimpArgs false

theorem scan_amid {bs : List Int} (hb : ∀ x ∈ bs, 0 ≤ x ∧ x < 256) : ∀ (d p : Nat) (acc : RList), bs.length - p ≤ d → Amid bs p acc → ∃ p' acc' t, Amid bs p' acc' ∧ scanV bs = (acc', p', t)
  | d, p, acc, hd, h => by
    by_cases hp : bs.length ≤ p
    · exact ⟨p, acc, 0, h, amid_end h hp⟩
    · cases hr : recR bs p with
      | ok kd zs q =>
        obtain ⟨h1, h2, h3⟩ := amid_next hb h (by omega) hr
        match d, hd with
        | 0, hd => omega
        | d + 1, hd => exact scan_amid hb d q _ (by omega) h1
      | torn => exact ⟨p, acc, 1, h, amid_torn h (by omega) hr⟩
      | bent => exact ⟨p, acc, 2, h, amid_bent h (by omega) hr⟩
theorem scan_facts {bs : List Int} (hb : ∀ x ∈ bs, 0 ≤ x ∧ x < 256) : endR 1 (scanV bs).1 ≤ 1 + (bs.length : Int) ∧ (scanV bs).1.length ≤ bs.length ∧ ∀ j, ((scanV bs).1.getD j (0, [])).2.length ≤ 12 := by
  obtain ⟨p, acc, t, ⟨k, _, _, h3, h4, h5⟩, hs⟩ := scan_amid hb bs.length 0 [] (by omega) (amid_start bs)
  rw [hs]
  have h6 := endR_le acc 1
  refine ⟨by show endR 1 acc ≤ _; omega, by show acc.length ≤ _; omega, fun j => ?_⟩
  show (acc.getD j (0, [])).2.length ≤ 12
  by_cases hj : j < acc.length
  · exact h5 _ (by simp [List.getD, hj])
  · simp [List.getD, hj]

theorem blk_up {w : World} {B C : Nat} {aT aB : Addr} (h : ErrBlk B w aT aB) (hC : B ≤ C) : ErrBlk C w aT aB := ⟨⟨Nat.lt_of_lt_of_le h.lt.1 hC, Nat.lt_of_lt_of_le h.lt.2 hC⟩, h.ne, h.hT, h.hB⟩

/-- What a scan leaves, in letters. -/
def AnsL (W : World) (rs : RList) (m : Nat) (y t : Int) (e : Ending) (w' : World) : Prop :=
  ∃ A c, e = .returned (.tuple #[.slice A m c, .int .i64 y, .int .i64 t]) ∧ OwnRs w' W.heap.size A m c rs ∧ Below W.heap.size W w'

set_option maxRecDepth 100000 in
set_option maxHeartbeats 8000000 in
theorem law_scanFrames (A : Option Addr) (n c : Nat) (bs : List Int) (aT aB aO : Addr) (w : World) (hE : Errs w.heap.size w aT aB aO) (hK : ErrBlk w.heap.size w aT aB) (hr : IsBytes w w.heap.size A n bs) :
    Calls Tryd.prog 7 #[.slice A n c] w fun e w' => e = .returned (.bool true) ∧ Below w.heap.size w w' := by
  by_cases hbig : 1048576 < n
  · go_enter Tryd.func7, Tryd.ntmps7
    go_wp2_with fail
    go_ret
    exact ⟨rfl, Below.refl _ _⟩
  · have hn : n ≤ 1048576 := by omega
    have HL : Hid (bs.length = n) := hr.1
    obtain ⟨hf1, hf2, hf3⟩ := scan_facts hr.2.1
    have HR := Lib.hid hr
    have HE := Lib.hid hE
    have HK := Lib.hid hK
    clear hr hE hK
    obtain ⟨rs, hrs⟩ : ∃ rs, rs = (scanV bs).1 := ⟨_, rfl⟩
    obtain ⟨y, hy⟩ : ∃ y : Int, y = ((scanV bs).2.1 : Nat) := ⟨_, rfl⟩
    obtain ⟨t, ht⟩ : ∃ t, t = (scanV bs).2.2 := ⟨_, rfl⟩
    obtain ⟨m, hm⟩ : ∃ m, m = rs.length := ⟨_, rfl⟩
    rw [← hrs] at hf1 hf2 hf3
    have hmn : m ≤ 1048576 := by rw [hm]; have := HL.out; omega
    have HEN : Hid (endR 1 rs ≤ 8000000) := by show _ ≤ _; have := HL.out; omega
    have HML : Hid (∀ j, (rs.getD j (0, [])).2.length ≤ 1048576) := fun j => by have := hf3 j; omega
    obtain ⟨x, hx⟩ : ∃ x, x = endR 1 rs := ⟨_, rfl⟩
    have hx0 : 0 ≤ x := by rw [hx]; have := endR_le rs 1; omega
    have HX := Lib.hid hx
    have HS : Hid (∀ (A' : Option Addr) (c' B' : Nat) (W : World), IsBytes W B' A' n bs → B' ≤ W.heap.size → n ≤ c' → Calls Tryd.prog 31 #[.slice A' n c'] W (AnsL W rs m y t)) := by
      intro A' c' B' W h hB hc
      refine (specScan_any A' n c' bs B' W h hB hn hc).mono ?_
      rintro e w' ⟨A1, c1, rfl, hO, hb⟩
      rw [← hrs, ← hm] at hO ⊢
      rw [← hy, ← ht]
      exact ⟨A1, c1, rfl, hO, hb⟩
    have HI : Hid (∀ (A' : Option Addr) (c' B' : Nat) (W : World), Errs B' W aT aB aO → ErrBlk B' W aT aB → IsBytes W B' A' n bs → B' ≤ W.heap.size → n ≤ c' → Calls Tryd.prog 19 #[.slice A' n c'] W (AnsL W rs m y t)) := by
      intro A' c' B' W hE hK h hB hc
      refine (scanFrames_any A' n c' bs B' aT aB aO W hE hK h hB hn hc).mono ?_
      rintro e w' ⟨A1, c1, rfl, hO, hb⟩
      rw [← hrs, ← hm] at hO ⊢
      rw [← hy, ← ht]
      exact ⟨A1, c1, rfl, hO, hb⟩
    have hyy : (y != y) = false := by simp
    have htt : (t != t) = false := by simp
    have hxx : (x != x) = false := by simp
    have hxl : decide (x < 0) = false := by simp; omega
    have hk0 : decide ((1 : Int) + (n : Int) < 0) = false := by simp; omega
    clear hrs hy ht hm hf1 hf2 hf3 hx
    go_enter Tryd.func7, Tryd.ntmps7
    go_wp2_with fail
    refine (toByteS_any A n c bs _ _ HR.out (Nat.le_refl _) hn).mono ?_
    rintro e w1 ⟨g1, rfl, hg1, hr1, hb1⟩
    rw [HL.out] at hr1 ⊢
    have H1 := Lib.hid hr1.bytes
    clear hr1
    go_wp2_with fail
    refine (HS.out _ _ _ _ H1.out (Nat.le_refl _) (Nat.le_refl _)).mono ?_
    rintro e w2 ⟨Aw, cw, rfl, hO2, hb2⟩
    have HW2 := Lib.hid hO2.reads
    have hb02 : Below w.heap.size w w2 := hb1.trans (hb2.mono hb1.size)
    have hs2 : w.heap.size ≤ w2.heap.size := hb02.size
    have HR2 := Lib.hid (HR.out.below hb02 (Nat.le_refl _))
    have HE2 := Lib.hid (HE.out.below hb02 (Nat.le_refl _))
    have HK2 := Lib.hid (HK.out.below hb02 (Nat.le_refl _))
    clear hO2 hb2 H1 hb1 hg1
    go_wp2_with fail
    refine (toByteS_any A n c bs _ _ HR2.out hs2 hn).mono ?_
    rintro e w3 ⟨g3, rfl, hg3, hr3, hb3⟩
    rw [HL.out] at hr3 ⊢
    have H3 := Lib.hid hr3
    have HQ3 : Hid (∀ q, (Value.slice (some ⟨g3, 0, none⟩) n n).ownBlock = some q → w2.heap.size ≤ q ∧ q < w3.heap.size) := fun q hq => hr3.lt q hq
    have hs3 : w2.heap.size ≤ w3.heap.size := hb3.size
    have HE3 := Lib.hid (errs_up (HE2.out.below hb3 hs2) (show w.heap.size ≤ w3.heap.size by omega))
    have HK3 := Lib.hid (blk_up (HK2.out.below hb3 hs2) (show w.heap.size ≤ w3.heap.size by omega))
    clear hr3 hg3
    go_wp2_with fail
    refine (HI.out _ _ _ _ HE3.out HK3.out H3.out.bytes (Nat.le_refl _) (Nat.le_refl _)).mono ?_
    rintro e w4 ⟨Ag, cg, rfl, hO4, hb4⟩
    have HO4 := Lib.hid hO4
    have H34 := Lib.hid (H3.out.below hb4)
    have hs4 : w3.heap.size ≤ w4.heap.size := hb4.size
    have hbD4 : Below w2.heap.size w2 w4 := hb3.trans (hb4.mono hs3)
    have HW4 := Lib.hid (HW2.out.below hbD4 (Nat.le_refl _))
    clear hO4 hb4 hb3 H3 HE3 HK3
    go_wp2_with fail
    refine (eqRecordS_same Ag Aw m cg cw rs w4.heap.size w2.heap.size w4 HO4.out.reads HW4.out (Nat.le_refl _) (by omega) hmn HML.out).mono ?_
    rintro e w5 ⟨rfl, hb5⟩
    have HO5 := Lib.hid (HO4.out.below hb5)
    have H35 := Lib.hid (H34.out.below hb5)
    have hbD5 : Below w2.heap.size w2 w5 := hbD4.trans (hb5.mono (by omega))
    have hs5 : w4.heap.size ≤ w5.heap.size := hb5.size
    have HR5 := Lib.hid (HR2.out.below hbD5 hs2)
    clear hb5 HO4 H34 HW4
    go_wp2_with fail
    refine (toByteS_any A n c bs _ _ HR5.out (by omega) hn).mono ?_
    rintro e w6 ⟨g6, rfl, hg6, hr6, hb6⟩
    rw [HL.out] at hr6 ⊢
    have H6 := Lib.hid hr6.bytes
    have H36 := Lib.hid (H35.out.below hb6)
    have HO6 := Lib.hid (HO5.out.below hb6)
    have hbD6 : Below w2.heap.size w2 w6 := hbD5.trans (hb6.mono (by omega))
    have hs6 : w5.heap.size ≤ w6.heap.size := hb6.size
    clear hr6 hb6 hg6 H35 HO5
    go_wp2_with fail
    refine (eqByteS_same _ _ _ _ _ bs _ _ _ H36.out.bytes H6.out hn).mono ?_
    rintro e w7 ⟨rfl, mm, hmm⟩
    have hbD7 : Below w2.heap.size w2 w7 := by rw [hmm]; exact below_drewN hbD6 mm
    have H37 : Hid (OwnB w7 w2.heap.size (some ⟨g3, 0, none⟩) n n bs) := by rw [hmm]; exact H36.out
    have HO7 : Hid (OwnRs w7 w3.heap.size Ag m cg rs) := by rw [hmm]; exact HO6.out
    have hs7 : w3.heap.size ≤ w7.heap.size := by rw [hmm]; show w3.heap.size ≤ w6.heap.size; omega
    clear hmm H36 HO6
    go_wp2_with fail
    refine (markByteS_any (some ⟨g3, 0, none⟩) n n bs 1 _ _ H37.out hn (by omega) (by omega)).mono ?_
    rintro e w8 ⟨rfl, hr8, hg8⟩
    have hbD8 : Below w2.heap.size w2 w8 := hbD7.grown hg8 hbD7.size (fun q hq => (HQ3.out q hq).1)
    have HO8 : Hid (OwnRs w8 w3.heap.size Ag m cg rs) := HO7.out.grown hg8 (fun q hq => (HQ3.out q hq).2)
    have HW8 := Lib.hid (HW2.out.below hbD8 (Nat.le_refl _))
    have hs8 : w3.heap.size ≤ w8.heap.size := Nat.le_trans hs7 hg8.size
    clear hr8 hg8 H37 HO7
    go_wp2_with fail
    refine (eqRecordS_same Ag Aw m cg cw rs w8.heap.size w2.heap.size w8 HO8.out.reads HW8.out (Nat.le_refl _) (by omega) hmn HML.out).mono ?_
    rintro e w9 ⟨rfl, hb9⟩
    have HO9 := Lib.hid (HO8.out.below hb9)
    have hbD9 : Below w2.heap.size w2 w9 := hbD8.trans (hb9.mono (by omega))
    have hs9 : w3.heap.size ≤ w9.heap.size := Nat.le_trans hs8 hb9.size
    clear hb9 HO8 HW8
    go_wp2_with fail
    refine (markRecordS_any Ag m cg rs 1 w3.heap.size _ HO9.out hs9 hmn (by omega) HEN.out HML.out).mono ?_
    rintro e w10 ⟨rfl, hO10, hb10⟩
    rw [← HX.out]
    have HO10 := Lib.hid hO10
    have hbD10 : Below w2.heap.size w2 w10 := hbD9.trans (hb10.mono (by omega))
    have hs10 : w3.heap.size ≤ w10.heap.size := Nat.le_trans hs9 hb10.size
    clear hO10 hb10 HO9
    go_wp2_with fail
    refine (heldRecordS_any Ag m cg rs 1 _ _ HO10.out.reads hmn (by omega) HEN.out HML.out).mono ?_
    rintro e w' ⟨rfl, rfl⟩
    rw [← HX.out]
    have HR10 := Lib.hid (HR2.out.below hbD10 hs2)
    go_wp2_with fail
    refine (toByteS_any A n c bs _ _ HR10.out (by omega) hn).mono ?_
    rintro e w11 ⟨g11, rfl, hg11, hr11, hb11⟩
    rw [HL.out] at hr11 ⊢
    have H11 := Lib.hid hr11.bytes
    have HO11 := Lib.hid (HO10.out.below hb11)
    have hbD11 : Below w2.heap.size w2 w11 := hbD10.trans (hb11.mono (by omega))
    have hs11 : w2.heap.size ≤ w11.heap.size := hbD11.size
    have HE11 := Lib.hid (errs_up (HE2.out.below hbD11 hs2) (show w.heap.size ≤ w11.heap.size by omega))
    have HK11 := Lib.hid (blk_up (HK2.out.below hbD11 hs2) (show w.heap.size ≤ w11.heap.size by omega))
    clear hr11 hb11 hg11 HO10
    go_wp2_with fail
    refine (HI.out _ _ _ _ HE11.out HK11.out H11.out (Nat.le_refl _) (Nat.le_refl _)).mono ?_
    rintro e w12 ⟨Ah, ch, rfl, hO12, hb12⟩
    have HH12 := Lib.hid hO12.reads
    have HO12 := Lib.hid (HO11.out.below hb12)
    have hbD12 : Below w2.heap.size w2 w12 := hbD11.trans (hb12.mono hs11)
    have hs12 : w2.heap.size ≤ w12.heap.size := hbD12.size
    have HW12 := Lib.hid (HW2.out.below hbD12 (Nat.le_refl _))
    clear hO12 hb12 HO11
    go_wp2_with fail
    refine (eqRecordS_same Ah Aw m ch cw rs w12.heap.size w2.heap.size w12 HH12.out HW12.out (Nat.le_refl _) hs12 hmn HML.out).mono ?_
    rintro e w13 ⟨rfl, hb13⟩
    have HO13 := Lib.hid (HO12.out.below hb13)
    have hbD13 : Below w2.heap.size w2 w13 := hbD12.trans (hb13.mono hs12)
    clear hb13 HO12
    go_wp2_with fail
    refine (heldRecordS_any Ag m cg rs 1 _ _ HO13.out.reads hmn (by omega) HEN.out HML.out).mono ?_
    rintro e w'' ⟨rfl, rfl⟩
    rw [← HX.out]
    go_wp2_with fail
    go_ret
    exact ⟨rfl, hb02.trans (hbD13.mono hs2)⟩
end Go.Proofs.YtghckkameinicaaDoor.Rd
