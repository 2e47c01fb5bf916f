/-
  CONTRACTS of slices.Equal at ints and of SameRecord, the program's and the model's, over this seat's translation.
-/
import Derived.Test.YtpghccbknlokcaaDoorRecOk
import Derived.Test.YtpghccbknlokcaaDoorRecBox
namespace Go.Proofs.YtpghccbknlokcaaDoor.Rec
open Go.ChangeShapes Go.WideShapes Go.ChangeAt Go.RowKit
open Go.Proofs.YtpghccbknlokcaaDoor.Ints Go.Proofs.YtpghccbknlokcaaDoor.Has
set_option linter.unusedVariables false

def eqL (zs ys : List Int) : Bool := decide (zs = ys)
theorem eqL_len {zs ys : List Int} (h : zs.length ≠ ys.length) : eqL zs ys = false := by
  simp only [eqL, decide_eq_false_iff_not]
  intro e; rw [e] at h; exact h rfl
theorem eqL_at {zs ys : List Int} (k : Nat) (h : zs.getD k 0 ≠ ys.getD k 0) : eqL zs ys = false := by
  simp only [eqL, decide_eq_false_iff_not]
  intro e; rw [e] at h; exact h rfl
theorem eqL_all {zs ys : List Int} (hl : zs.length = ys.length) (h : ∀ j, j < zs.length → zs.getD j 0 = ys.getD j 0) : eqL zs ys = true := by
  simp only [eqL, decide_eq_true_eq]
  apply List.ext_getElem hl
  intro j h1 h2
  have := h j h1
  simpa [List.getD, h1, h2] using this

set_option maxHeartbeats 800000 in
theorem equal_any (A C : Option Addr) (n m c d : Nat) (zs ys : List Int) (B B' : Nat) (w : World) (hr : IsInts w B A n zs) (hs : IsInts w B' C m ys) (hn : n ≤ 1048576) (hm : m ≤ 1048576) :
    Calls Tryd.prog 51 #[.slice A n c, .slice C m d] w fun e w' => e = .returned (.bool (eqL zs ys)) ∧ ∃ q, w' = w.drewN q := by
  have HL : Hid (zs.length = n) := hr.1
  have HM : Hid (ys.length = m) := hs.1
  have HR := Lib.hid hr
  have HS := Lib.hid hs
  clear hr hs
  by_cases hnm : n = m
  · subst hnm
    go_enter Tryd.func51, Tryd.ntmps51
    go_wp2_with fail
    go_loopw [13] (fun i wr => ∃ k q : Nat, k ≤ n ∧ i = .int .i64 k ∧ wr = w.drewN q ∧ Hid (∀ j, j < k → zs.getD j 0 = ys.getD j 0)) (fun i _ => n - (intOf i).toNat)
    case atStart => exact ⟨0, 0, Nat.zero_le _, rfl, rfl, fun j hj => absurd hj (by omega)⟩
    case round =>
      obtain ⟨k, q, hk, rfl, rfl, HF⟩ := hrel
      by_cases hlt : k < n
      · obtain ⟨b, off, z, rfl, hbB, hz, hc⟩ := HR.out.at_ hlt
        obtain ⟨b2, off2, z2, rfl, hbB2, hz2, hc2⟩ := HS.out.at_ hlt
        by_cases he : z = z2
        · subst he
          have HF2 : Hid (∀ j, j < k + 1 → zs.getD j 0 = ys.getD j 0) := fun j hj => by
            by_cases h : j = k
            · subst h; rw [← hz, ← hz2]
            · exact HF.out j (by omega)
          clear hz hz2
          go_wp2
          go_quiet (fail)
          go_wp2
          go_roundw
          case rel => exact ⟨k + 1, _, by omega, by go_num, rfl, HF2⟩
          case measure => simp [intOf]; omega
        · have HV : Hid (eqL zs ys = false) := eqL_at k (by rw [← hz, ← hz2]; exact he)
          have hne : (z != z2) = true := by simp [he]
          clear hz hz2
          go_wp2
          go_quiet (fail)
          go_wp2
          go_ret
          exact ⟨by rw [HV.out]; rfl, _, by rw [World.drewN_drewN]⟩
      · have HV : Hid (eqL zs ys = true) := eqL_all (by rw [HL.out, HM.out]) (fun j hj => HF.out j (by rw [HL.out] at hj; omega))
        go_wp2
        go_ret
        exact ⟨by rw [HV.out]; rfl, q, rfl⟩
  · have HV : Hid (eqL zs ys = false) := eqL_len (by rw [HL.out, HM.out]; exact hnm)
    have hne : ((n : Int) != (m : Int)) = true := by simp; omega
    go_enter Tryd.func51, Tryd.ntmps51
    go_wp2
    go_ret
    exact ⟨by rw [HV.out]; rfl, 0, rfl⟩

def sameB (k1 : Int) (z1 : List Int) (k2 : Int) (z2 : List Int) : Bool := recB k1 z1 && (recB k2 z2 && (k1 == k2 && eqL z1 z2))
theorem same_1 {k1 k2 : Int} {z1 z2 : List Int} (h : recB k1 z1 = false) : sameB k1 z1 k2 z2 = false := by simp [sameB, h]
theorem same_2 {k1 k2 : Int} {z1 z2 : List Int} (h : recB k2 z2 = false) : sameB k1 z1 k2 z2 = false := by simp [sameB, h]
theorem same_3 {k1 k2 : Int} {z1 z2 : List Int} (h : (k1 == k2) = false) : sameB k1 z1 k2 z2 = false := by simp only [sameB, h]; simp
theorem same_4 {k1 k2 : Int} {z1 z2 : List Int} (h : recB k1 z1 = true) (h2 : recB k2 z2 = true) (h3 : (k1 == k2) = true) : sameB k1 z1 k2 z2 = eqL z1 z2 := by simp only [sameB, h, h2, h3, Bool.true_and]

set_option maxHeartbeats 1600000 in
theorem sameRecord_any (k1 k2 : Int) (A C : Option Addr) (n m c d : Nat) (zs ys : List Int) (B : Nat) (w : World) (hr : IsInts w B A n zs) (hs : IsInts w B C m ys) (hB : B ≤ w.heap.size) (hn : n ≤ 1048576) (hm : m ≤ 1048576) :
    Calls Tryd.prog 33 #[.agg #[.int .i64 k1, .slice A n c], .agg #[.int .i64 k2, .slice C m d]] w fun e w' => e = .returned (.bool (sameB k1 zs k2 ys)) ∧ Below w.heap.size w w' := by
  have hx1 : Box ((w.alloc (.cells #[.int .i64 k1, .slice A n c] 30)).alloc (.cells #[.int .i64 k2, .slice C m d] 30)) w.heap.size k1 A n c := (Box.new w k1 A n c _).alloc _
  have hx2 : Box ((w.alloc (.cells #[.int .i64 k1, .slice A n c] 30)).alloc (.cells #[.int .i64 k2, .slice C m d] 30)) (w.heap.size + 1) k2 C m d := by
    have h1 := Box.new (w.alloc (.cells #[.int .i64 k1, .slice A n c] 30)) k2 C m d 30
    simpa using h1
  have HR := Lib.hid (hr.below (below_a2 w (.cells #[.int .i64 k1, .slice A n c] 30) (.cells #[.int .i64 k2, .slice C m d] 30)) hB)
  have HS := Lib.hid (hs.below (below_a2 w (.cells #[.int .i64 k1, .slice A n c] 30) (.cells #[.int .i64 k2, .slice C m d] 30)) hB)
  clear hr hs
  have hbw := below_a2 w (.cells #[.int .i64 k1, .slice A n c] 30) (.cells #[.int .i64 k2, .slice C m d] 30)
  have HX1 := Lib.hid hx1
  have HX2 := Lib.hid hx2
  clear hx1 hx2
  go_enter Tryd.func33, Tryd.ntmps33
  go_wp2_with fail
  refine (recordOk_any k1 A n c zs B _ HR.out (by simp; omega) hn).mono ?_
  rintro e w1 ⟨rfl, hb1⟩
  have hb01 : Below w.heap.size w w1 := hbw.trans (hb1.mono hbw.size)
  obtain ⟨p10, p11⟩ := HX1.out.below hb1
  obtain ⟨q10, q11⟩ := HX2.out.below hb1
  have HR1 := Lib.hid (HR.out.below hb1 (by simp; omega))
  have HS1 := Lib.hid (HS.out.below hb1 (by simp; omega))
  cases h1 : recB k1 zs
  · have HV := Lib.hid (same_1 (k2 := k2) (z2 := ys) h1)
    go_wp2_with fail
    go_ret
    exact ⟨by rw [HV.out]; rfl, hb01⟩
  · go_wp2_with fail
    refine (recordOk_any k2 C m d ys B _ HS1.out (Nat.le_trans hB hb01.size) hm).mono ?_
    rintro e w2 ⟨rfl, hb2⟩
    have hb02 : Below w.heap.size w w2 := hb01.trans (hb2.mono hb01.size)
    obtain ⟨p20, p21⟩ := (Box.below ⟨p10, p11⟩ hb2 : Box w2 w.heap.size k1 A n c)
    obtain ⟨q20, q21⟩ := (Box.below ⟨q10, q11⟩ hb2 : Box w2 (w.heap.size + 1) k2 C m d)
    have HR2 := Lib.hid (HR1.out.below hb2 (Nat.le_trans hB hb01.size))
    have HS2 := Lib.hid (HS1.out.below hb2 (Nat.le_trans hB hb01.size))
    clear p10 p11 q10 q11
    cases h2 : recB k2 ys
    · have HV := Lib.hid (same_2 (k1 := k1) (z1 := zs) h2)
      go_wp2_with fail
      go_ret
      exact ⟨by rw [HV.out]; rfl, hb02⟩
    · cases h3 : (k1 == k2)
      · have HV := Lib.hid (same_3 (z1 := zs) (z2 := ys) h3)
        go_wp2_with fail
        go_ret
        exact ⟨by rw [HV.out]; rfl, hb02⟩
      · have HV := Lib.hid (same_4 h1 h2 h3)
        go_wp2_with fail
        refine (equal_any A C n m c d zs ys _ _ _ HR2.out HS2.out hn hm).mono ?_
        rintro e w3 ⟨rfl, q, rfl⟩
        go_wp2_with fail
        go_ret
        exact ⟨by rw [HV.out]; rfl, below_drewN hb02 q⟩

end Go.Proofs.YtpghccbknlokcaaDoor.Rec
