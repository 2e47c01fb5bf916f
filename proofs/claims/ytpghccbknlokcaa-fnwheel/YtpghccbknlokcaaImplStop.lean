/-
  THE CONTRACT of the program's StopTimer over this seat's translation; nothing that was there has turned.
-/
import Derived.Test.YtpghccbknlokcaaWheelOf
import Derived.Test.YtpghccbknlokcaaTakeOff
namespace Go.Proofs.Ytpghccbknlokcaa.WheelOk
open Go.ChangeShapes Go.WideShapes Go.ChangeAt Go.RowKit Go.Shelf
open Go.Proofs.Ytpghccbknlokcaa.Timers Go.Proofs.Ytpghccbknlokcaa.Ring
open Go.Proofs.Ytpghccbknlokcaa.Tick (tokB tok_t)
open Go.Proofs.Ytpghccbknlokcaa.Spoke (spokeV)
set_option linter.unusedVariables false

theorem Good.spots {now : Int} {ss : List TList} (h : Good now ss) : ∀ j t, t ∈ ss.getD j [] → tokB t.2 = true ∧ spokeV t.2 = (j : Int) := fun j t ht => ⟨(h.at_ j t ht).2.2.2, (h.at_ j t ht).1⟩
theorem stop_spots {x : Int} {ss : List TList} (h : ∀ j t, t ∈ ss.getD j [] → tokB t.2 = true ∧ spokeV t.2 = (j : Int)) : ∀ j t, t ∈ (stopL x ss).getD j [] → tokB t.2 = true ∧ spokeV t.2 = (j : Int) := by
  intro j t ht
  rw [stopL_at] at ht
  exact h j t (off_sub ht).1
theorem tot_stop (x : Int) (ss : List TList) : tot (stopL x ss) ≤ tot ss := by
  induction ss with
  | nil => exact Nat.le_refl _
  | cons s ss ih =>
    have h1 : stopL x (s :: ss) = offL x s :: stopL x ss := rfl
    rw [h1, tot_cons, tot_cons]
    have h2 : (offL x s).length ≤ s.length := List.length_filter_le _ _
    omega

/-- What StopTimer answers. -/
def stopB (now : Int) (ss : List TList) (x : Int) : Bool := wheelB now ss && !(atV ss.flatten x == -1)
def stopS (now : Int) (ss : List TList) (x : Int) : List TList := if stopB now ss x then stopL x ss else ss
theorem stopS_len (now : Int) (ss : List TList) (x : Int) : (stopS now ss x).length = ss.length := by
  unfold stopS
  split
  · exact stopL_length x ss
  · rfl

/-- Two cells of a variable that was made for the answer. -/
theorem ansBox {w w1 wr : World} {o : Obj} {lo : Nat} {a b : Value} (hw1 : w1 = (w.alloc o).alloc (.cells #[a, b] 26)) (hb : Below w1.heap.size w1 wr) :
    wr.heap[w.heap.size + 1]? = some (.cells #[a, b] 26 (0, 0)) := by
  subst hw1
  rw [hb.block _ (by simp)]
  have h5 := heap_alloc_new (w.alloc o) (.cells #[a, b] 26)
  rwa [World.size_alloc] at h5

theorem ansW_end {w W2 : World} {now now0 : Int} {ss : List TList} {r : Value} {A : Option Addr} {c b : Nat} {lo : Nat} (hO : OwnS W2 lo W2.heap.size A ss.length c ss) (hb : Below w.heap.size w W2) (hlo : w.heap.size ≤ lo) (hbl : w.heap.size ≤ b) (hb2 : b < lo) :
    AnsW w now ss r (.returned (.tuple #[.agg #[.int .i64 now, .slice A ss.length c], r])) ((W2.setCell ⟨b, 0, none⟩ (.int .i64 now)).setCell ⟨b, 1, none⟩ (.slice A ss.length c)) := by
  refine ⟨A, c, rfl, ?_, ?_⟩
  · have h1 := (hO.setLow (p := ⟨b, 0, none⟩) hb2 (.int .i64 now)).setLow (p := ⟨b, 1, none⟩) hb2 (.slice A ss.length c)
    refine (h1.base hlo).more ?_
    simp [World.setCell]
  · exact (hb.setCell (p := ⟨b, 0, none⟩) hbl _).setCell (p := ⟨b, 1, none⟩) hbl _

set_option maxRecDepth 100000 in
set_option maxHeartbeats 1600000 in
theorem stopTimer_w (now x : Int) (A : Option Addr) (n c : Nat) (ss : List TList) (B : Nat) (w : World) (hr : IsSlots w B A n ss) (hB : B ≤ w.heap.size) (hn : n ≤ 1048576) (hm : ∀ j, (ss.getD j []).length ≤ 1048576) :
    Calls Try.prog 12 #[.agg #[.int .i64 now, .slice A n c], .int .i64 x] w (AnsW w now (stopS now ss x) (.bool (stopB now ss x))) := by
  have HM := Lib.hid hm
  have HR := Lib.hid hr
  have HL : Hid (ss.length = n) := hr.1
  clear hm hr
  go_enter Try.func12, Try.ntmps12
  go_wp2_with fail
  obtain ⟨w1, hw1⟩ : ∃ w1, w1 = (w.alloc (.cells #[.int .i64 now, .slice A n c] 26)).alloc (.cells #[.int .i64 0, .slice none 0 0] 26) := ⟨_, rfl⟩
  have hb01 : Below w.heap.size w w1 := by rw [hw1]; exact below_a2 _ _ _
  have hs1 : w1.heap.size = w.heap.size + 1 + 1 := by rw [hw1]; simp
  have hx1 : w1.heap[w.heap.size]? = some (.cells #[.int .i64 now, .slice A n c] 26 (0, 0)) := by
    rw [hw1, Below.heap_alloc _ _ _ (by simp)]
    exact heap_alloc_new w _
  have hx2 : w1.heap[w.heap.size + 1]? = some (.cells #[.int .i64 0, .slice none 0 0] 26 (0, 0)) := ansBox (lo := 0) hw1 (Below.refl _ _)
  have HX1 := Lib.hid hx1
  have HX2 := Lib.hid hx2
  rw [← hw1]
  clear hx1 hx2 hw1
  refine (ringOf_any now A n c ss B _ (HR.out.below hb01 hB) (by omega) hn HM.out).mono ?_
  rintro e w2 ⟨hb2, ⟨hw, rfl⟩ | ⟨hw, g, rfl, hO⟩⟩
  · have HV : Hid (stopB now ss x = false) := (by simp [stopB, hw] : stopB now ss x = false)
    have HVS : Hid (stopS now ss x = ss) := by show _ = _; unfold stopS; rw [HV.out]; rfl
    obtain ⟨c0, c1, f0, f1⟩ := blk2 ((hb2.block w.heap.size (by omega)).trans HX1.out)
    have hb02 : Below w.heap.size w w2 := hb01.trans (hb2.mono (by omega))
    have hs2 := hb2.size
    clear hw
    go_wp2_with fail
    refine (sameWheel_any now A n c ss B _ (HR.out.below hb02 hB) (by omega) hn HM.out).mono ?_
    rintro e w3 ⟨A3, c3, rfl, hO3, hb3⟩
    obtain ⟨d0, d1, g0, g1⟩ := blk2 ((hb3.block (w.heap.size + 1) (by omega)).trans ((hb2.block (w.heap.size + 1) (by omega)).trans HX2.out))
    have HO3 := Lib.hid hO3
    have hb03 : Below w.heap.size w w3 := hb02.trans (hb3.mono hb02.size)
    rw [HL.out] at HO3 ⊢
    clear hO3
    go_wp2_with fail
    rw [HVS.out, HV.out]
    refine bodyPost_ret (v := .tuple #[.agg #[.int .i64 now, .slice A3 n c3], .bool false]) (by simp [results, Try.results12, go_sem, d0, d1]) rfl ?_
    have h5 := ansW_end (now0 := now) (now := now) (r := .bool false) (b := w.heap.size + 1) (ss := ss) (by rw [HL.out]; exact HO3.out) hb03 (by omega) (by omega) (by omega)
    rw [HL.out] at h5
    exact h5
  · have HG := Lib.hid (wheelB_good hw)
    have HO := Lib.hid hO
    have hb02 : Below w.heap.size w w2 := hb01.trans (hb2.mono (by omega))
    have hs2 := hb2.size
    have HW := Lib.hid hw
    clear hw hO
    go_wp2_with fail
    refine (takeOff_any _ g now x ss _ HO.out HG.out.spots HG.out.once HG.out.hundred hs2).mono ?_
    rintro e w3 ⟨rfl, hO3, hb3⟩
    have HO3 := Lib.hid hO3
    have hb03 : Below w.heap.size w w3 := hb02.trans (hb3.mono (by omega))
    have hb13 : Below w1.heap.size w1 w3 := hb2.trans hb3
    obtain ⟨c0, c1, f0, f1⟩ := blk2 ((hb13.block w.heap.size (by omega)).trans HX1.out)
    have hs3 := hb13.size
    clear hO3
    cases hv : (atV ss.flatten x == -1)
    · have HV : Hid (stopB now ss x = true) := (by simp only [stopB, HW.out, hv]; rfl : stopB now ss x = true)
      have HVS : Hid (stopS now ss x = stopL x ss) := by show _ = _; unfold stopS; rw [HV.out]; rfl
      have HSL : Hid ((stopL x ss).length = n) := (stopL_length x ss).trans HL.out
      simp only [Bool.not_false]
      go_wp2_with fail
      refine (wheelOf_any _ g now (stopL x ss) _ HO3.out (stop_spots HG.out.spots) (by have := tot_stop x ss; have := HG.out.hundred; omega)).mono ?_
      rintro e w4 ⟨A4, c4, rfl, hO4, hb4⟩
      obtain ⟨d0, d1, g0, g1⟩ := blk2 ((hb4.block (w.heap.size + 1) (by omega)).trans ((hb13.block (w.heap.size + 1) (by omega)).trans HX2.out))
      have HO4 := Lib.hid hO4
      have hb04 : Below w.heap.size w w4 := hb03.trans (hb4.mono hb03.size)
      rw [HSL.out] at HO4 ⊢
      clear hO4
      go_wp2_with fail
      rw [HVS.out, HV.out]
      refine bodyPost_ret (v := .tuple #[.agg #[.int .i64 now, .slice A4 n c4], .bool true]) (by simp [results, Try.results12, go_sem, d0, d1]) rfl ?_
      have h5 := ansW_end (now0 := now) (now := now) (r := .bool true) (b := w.heap.size + 1) (ss := stopL x ss) (by rw [HSL.out]; exact HO4.out) hb04 (by omega) (by omega) (by omega)
      rw [HSL.out] at h5
      exact h5
    · have HV : Hid (stopB now ss x = false) := (by simp only [stopB, HW.out, hv]; rfl : stopB now ss x = false)
      have HVS : Hid (stopS now ss x = ss) := by show _ = _; unfold stopS; rw [HV.out]; rfl
      simp only [Bool.not_true]
      go_wp2_with fail
      refine (sameWheel_any now A n c ss B _ (HR.out.below hb03 hB) (by omega) hn HM.out).mono ?_
      rintro e w4 ⟨A4, c4, rfl, hO4, hb4⟩
      obtain ⟨d0, d1, g0, g1⟩ := blk2 ((hb4.block (w.heap.size + 1) (by omega)).trans ((hb13.block (w.heap.size + 1) (by omega)).trans HX2.out))
      have HO4 := Lib.hid hO4
      have hb04 : Below w.heap.size w w4 := hb03.trans (hb4.mono hb03.size)
      rw [HL.out] at HO4 ⊢
      clear hO4
      go_wp2_with fail
      rw [HVS.out, HV.out]
      refine bodyPost_ret (v := .tuple #[.agg #[.int .i64 now, .slice A4 n c4], .bool false]) (by simp [results, Try.results12, go_sem, d0, d1]) rfl ?_
      have h5 := ansW_end (now0 := now) (now := now) (r := .bool false) (b := w.heap.size + 1) (ss := ss) (by rw [HL.out]; exact HO4.out) hb04 (by omega) (by omega) (by omega)
      rw [HL.out] at h5
      exact h5
end Go.Proofs.Ytpghccbknlokcaa.WheelOk
