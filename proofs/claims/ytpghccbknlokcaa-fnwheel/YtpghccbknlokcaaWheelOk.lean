/-
  WHAT WheelOk ASKS, as a function on lists; and the CONTRACTS of timerIdOk and WheelOk, the program's and the model's, over this seat's translation.
-/
import Derived.Test.YtpghccbknlokcaaWheelNew
import Derived.Test.YtpghccbknlokcaaSpoke
import Derived.Test.YtpghccbknlokcaaHas
namespace Go.Proofs.Ytpghccbknlokcaa.WheelOk
open Go.ChangeShapes Go.WideShapes Go.ChangeAt Go.RowKit
open Go.Proofs.Ytpghccbknlokcaa.Timers Go.Proofs.Ytpghccbknlokcaa.Has Go.Proofs.Ytpghccbknlokcaa.Ints
open Go.Proofs.Ytpghccbknlokcaa.Tick (tokB tok_t tok_f inB in_t in_f tickOk_any specTickOk_any l01In_any)
open Go.Proofs.Ytpghccbknlokcaa.Spoke (spokeV spoke_t spoke_f spoke_bd spokeOf_any specSpokeOf_any)
set_option linter.unusedVariables false

/-- May timer t stand next in list k of a wheel at now, ids having come before? -/
def tOkB (now : Int) (k : Nat) (ids : List Int) (t : Int × Int) : Bool :=
  inB t.1 1 1000000000 && decide (now < t.2) && (spokeV t.2 == (k : Int)) && !(ids.length == 80) && !hasB ids t.1

/-- Do the lists that are left, from list k on, stand as they should, ids having come before? -/
def okS (now : Int) : Nat → List Int → List TList → Bool
  | _, _, [] => true
  | k, ids, [] :: ls => okS now (k + 1) ids ls
  | k, ids, (t :: ts) :: ls => tOkB now k ids t && okS now k (ids ++ [t.1]) (ts :: ls)
termination_by _ _ ls => (tot ls, ls.length)
decreasing_by
  · simp [tot_cons]; first | omega | (right; omega) | skip
  · simp [tot_cons]; first | omega | (left; omega) | skip

def wheelB (now : Int) (ss : List TList) : Bool := tokB now && (ss.length == 8) && okS now 0 [] ss

theorem okS_nil (now : Int) (k : Nat) (ids : List Int) : okS now k ids [] = true := by rw [okS]
theorem okS_next (now : Int) (k : Nat) (ids : List Int) (ls : List TList) : okS now k ids ([] :: ls) = okS now (k + 1) ids ls := by rw [okS]
theorem okS_step (now : Int) (k : Nat) (ids : List Int) (t : Int × Int) (ts : TList) (ls : List TList) : okS now k ids ((t :: ts) :: ls) = (tOkB now k ids t && okS now k (ids ++ [t.1]) (ts :: ls)) := by rw [okS]

section
variable {now : Int} {k : Nat} {ids : List Int} {x y : Int}
theorem tOk_1 (h : inB x 1 1000000000 = false) : tOkB now k ids (x, y) = false := by simp [tOkB, h]
theorem tOk_2 (h : y ≤ now) : tOkB now k ids (x, y) = false := by
  have h1 : decide (now < y) = false := decide_eq_false (by omega)
  simp only [tOkB, h1, Bool.and_false, Bool.false_and]
theorem tOk_3 (h : (spokeV y == (k : Int)) = false) : tOkB now k ids (x, y) = false := by simp only [tOkB, h, Bool.and_false, Bool.false_and]
theorem tOk_4 (h : (ids.length == 80) = true) : tOkB now k ids (x, y) = false := by simp only [tOkB, h, Bool.not_true, Bool.and_false, Bool.false_and]
theorem tOk_5 (h : hasB ids x = true) : tOkB now k ids (x, y) = false := by simp only [tOkB, h, Bool.not_true, Bool.and_false]
theorem tOk_yes (h1 : inB x 1 1000000000 = true) (h2 : ¬ y ≤ now) (h3 : (spokeV y == (k : Int)) = true) (h4 : (ids.length == 80) = false) (h5 : hasB ids x = false) : tOkB now k ids (x, y) = true := by
  have h6 : decide (now < y) = true := decide_eq_true (by omega)
  simp only [tOkB, h1, h3, h4, h5, h6, Bool.not_false, Bool.and_true]
theorem tOk_not_tick (h : tokB y = false) : tOkB now k ids (x, y) = false := tOk_3 (by rw [spoke_f h]; exact beq_eq_false_iff_ne.2 (by omega))
end

theorem drop_cons (ts : TList) (i : Nat) (h : i < ts.length) : ts.drop i = ts.getD i (0, 0) :: ts.drop (i + 1) := by
  rw [List.drop_eq_getElem_cons h]
  simp [List.getD, h]
theorem dropS_cons (ss : List TList) (k : Nat) (h : k < ss.length) : ss.drop k = ss.getD k [] :: ss.drop (k + 1) := by
  rw [List.drop_eq_getElem_cons h]
  simp [List.getD, h]

theorem timerIdOk_any (x : Int) (w : World) :
    Calls Try.prog 46 #[.int .i64 x] w fun e w' => e = .returned (.bool (inB x 1 1000000000)) ∧ w = w' := by
  by_cases h0 : 1 ≤ x <;> by_cases h1 : x ≤ 1000000000
  all_goals
    go_enter Try.func46, Try.ntmps46
    go_wp2
    go_ret
    exact ⟨ret_bool (by simp [inB, h0, h1]), rfl⟩

theorem lit_news {w : World} {ad : Addr} {x : Value} (h : w.cell? ad = some x) : ∀ j u, [x][j]? = some u → w.cell? (ad.add j) = some u := by
  intro j u hu
  cases j with
  | zero => simp at hu; subst hu; simpa [Addr.add] using h
  | succ j => simp at hu

/-- What a check of a wheel leaves. -/
def SaysB (b : Bool) (w : World) (e : Ending) (w' : World) : Prop := e = .returned (.bool b) ∧ Below w.heap.size w w'

/-- Within a check: nothing that was there when it began, nor its own copy of the wheel, has turned; the ids seen so far are its own. -/
def Seen (w0 wr : World) (B0 : Nat) (v : Value) (ids : List Int) : Prop :=
  ∃ A c, v = .slice A ids.length c ∧ OwnI wr B0 A ids.length c ids ∧ Below B0 w0 wr ∧ B0 ≤ wr.heap.size

theorem seen_start (w : World) (o : Obj) (t : TypeId) (ht : t = 3 := by rfl) : Seen (w.alloc o) ((w.alloc o).alloc (.cells #[] t)) (w.heap.size + 1) (.slice (some ⟨w.heap.size + 1, 0, none⟩) 0 0) [] := by
  subst ht
  refine ⟨some ⟨w.heap.size + 1, 0, none⟩, 0, rfl, ⟨rfl, ?_⟩, ?_, by simp⟩
  · have := World.ownsRow_lit (base := w.heap.size + 1) (e := 3) (size := 1) (w.alloc o) #[] 0 (by simp) (Nat.zero_le _) rfl
    simpa using this
  · have := below_a1 (w.alloc o) (.cells #[] 3)
    exact this.mono (by simp)

set_option maxRecDepth 100000 in
set_option maxHeartbeats 3200000 in
theorem wheelOk_any (now : Int) (A : Option Addr) (n c : Nat) (ss : List TList) (B : Nat) (w : World) (hr : IsSlots w B A n ss) (hB : B ≤ w.heap.size) (hn : n ≤ 1048576) (hm : ∀ j, (ss.getD j []).length ≤ 1048576) :
    Calls Try.prog 96 #[.agg #[.int .i64 now, .slice A n c]] w (SaysB (wheelB now ss) w) := by
  have HL : Hid (ss.length = n) := hr.1
  have HM := Lib.hid hm
  clear hm
  cases h0 : tokB now
  · have HV : Hid (wheelB now ss = false) := (by simp [wheelB, h0] : wheelB now ss = false)
    go_enter Try.func96, Try.ntmps96
    go_wp2_with (go_at_call 44; refine (tickOk_any _ _).mono ?_; rintro e w' ⟨rfl, rfl⟩)
    go_ret
    exact ⟨ret_bool HV.out.symm, below_a1 _ _⟩
  · by_cases h8 : n = 8
    · have HV : Hid (wheelB now ss = okS now 0 [] ss) := (by simp [wheelB, h0, HL.out, h8] : wheelB now ss = okS now 0 [] ss)
      have hne : ((n : Int) != 8) = false := by simp; omega
      have h8a : n ≤ 8 := by omega
      have h8b : 8 ≤ n := by omega
      clear h8
      obtain ⟨i0, hi0, hz0, hz1, hz2⟩ := info_parts infoInt
      obtain ⟨w0, hw0⟩ : ∃ w0, w0 = w.alloc (.cells #[.int .i64 now, .slice A n c] 26) := ⟨_, rfl⟩
      have hst : Seen w0 ((w.alloc (.cells #[.int .i64 now, .slice A n c] 26)).alloc (.cells #[] 3)) (w.heap.size + 1) (.slice (some ⟨w.heap.size + 1, 0, none⟩) 0 0) [] := by rw [hw0]; exact seen_start w _ _
      have hBX := Box.new w now A n c 26
      have hr0 := hr.below (below_a1 w (.cells #[.int .i64 now, .slice A n c] 26)) hB
      have hbel0 := below_a1 w (.cells #[.int .i64 now, .slice A n c] 26)
      rw [← hw0] at hBX hr0 hbel0
      have HST := Lib.hid hst
      have HBX := Lib.hid hBX
      clear hw0 hst hBX hr
      go_enter Try.func96, Try.ntmps96
      go_wp2_with (go_at_call 44; refine (tickOk_any _ _).mono ?_; rintro e w' ⟨rfl, rfl⟩)
      go_loopw [3, 22] (fun v3 v22 wr => ∃ (k : Nat) (ids : List Int), k ≤ n ∧ v22 = .int .i64 k ∧ Seen w0 wr (w.heap.size + 1) v3 ids ∧ ids.length ≤ 80 ∧ Hid (okS now k ids (ss.drop k) = okS now 0 [] ss)) (fun _ v22 _ => n - (intOf v22).toNat)
      case atStart => exact ⟨0, [], Nat.zero_le _, rfl, by exact HST.out, by simp, rfl⟩
      case round =>
        obtain ⟨k, ids, hk, rfl, ⟨A3, c3, rfl, hI, hbr, hsr⟩, hids, HR⟩ := hrel
        by_cases hlt : k < n
        · have hrr := hr0.below hbr (by omega)
          obtain ⟨b, off, A1, m, c1, rfl, hbB, hc1, hT1⟩ := hrr.at_ hlt
          have hm1 : m ≤ 1048576 := by rw [← hT1.1]; exact HM.out k
          have HTL : Hid ((ss.getD k []).length = m) := hT1.1
          have HTB := Lib.hid (show IsTimers w0 B A1 m (ss.getD k []) from hT1.keep fun p hp => (hbr.cell (by omega)).symm)
          have HI := Lib.hid hI
          have HRI : Hid (okS now k ids ((ss.getD k []).drop 0 :: ss.drop (k + 1)) = okS now 0 [] ss) := by
            have h1 := HR.out
            rw [dropS_cons ss k (by rw [HL.out]; exact hlt)] at h1
            exact h1
          clear hrr hT1 hI HR
          go_wp2_with fail
          go_loopw [3, 29] (fun v3 v29 wq => ∃ (i : Nat) (ids : List Int), i ≤ m ∧ v29 = .int .i64 i ∧ Seen w0 wq (w.heap.size + 1) v3 ids ∧ ids.length ≤ 80 ∧ Hid (okS now k ids ((ss.getD k []).drop i :: ss.drop (k + 1)) = okS now 0 [] ss)) (fun _ v29 _ => m - (intOf v29).toNat)
          case atStart => exact ⟨0, ids, Nat.zero_le _, rfl, ⟨A3, c3, rfl, HI.out, hbr, hsr⟩, hids, HRI⟩
          case round =>
            clear HI HRI hids hc1
            obtain ⟨i, ids, hi, rfl, ⟨A3, c3, rfl, hI, hbq, hsq⟩, hids, HR⟩ := hrel
            by_cases hlt2 : i < m
            · have hq : wr.cell? ⟨w.heap.size, 0, none⟩ = some (.int .i64 now) := (hbq.cell (p := ⟨w.heap.size, 0, none⟩) (Nat.lt_succ_self _)).trans HBX.out.1
              obtain ⟨b2, off2, x, y, rfl, hbB2, hz, hd1, hd2⟩ := ((HTB.out.below hbq (by omega)).at_ hlt2)
              have hRt := HR.out
              rw [drop_cons (ss.getD k []) i (by rw [HTL.out]; exact hlt2), hz, okS_step] at hRt
              have HRT := Lib.hid hRt
              clear hRt hz
              have HI := Lib.hid hI
              have hlw : w.heap.size < wr.heap.size := by omega
              clear hI HR
              cases ha : inB x 1 1000000000
              · have HF : Hid (okS now 0 [] ss = false) := by show _ = _; rw [← HRT.out, tOk_1 ha, Bool.false_and]
                go_wp2_with (first | (go_at_call 46; refine (timerIdOk_any _ _).mono ?_; rintro e w' ⟨rfl, rfl⟩) | (go_at_call 99; refine (spokeOf_any _ _).mono ?_; rintro e w' ⟨rfl, rfl⟩) | (go_at_call 126; refine (contains_any A3 ids.length c3 ids x _ _ (by exact (HI.out.alloc _).ints) (by omega)).mono ?_; rintro e w' ⟨rfl, rfl⟩))
                go_ret
                exact ⟨ret_bool (by rw [HV.out, HF.out]), hbel0.trans ((hbq.alloc hsq _).mono (by omega))⟩
              · by_cases hb : y ≤ now
                · have HF : Hid (okS now 0 [] ss = false) := by show _ = _; rw [← HRT.out, tOk_2 hb, Bool.false_and]
                  go_wp2_with (first | (go_at_call 46; refine (timerIdOk_any _ _).mono ?_; rintro e w' ⟨rfl, rfl⟩) | (go_at_call 99; refine (spokeOf_any _ _).mono ?_; rintro e w' ⟨rfl, rfl⟩) | (go_at_call 126; refine (contains_any A3 ids.length c3 ids x _ _ (by exact (HI.out.alloc _).ints) (by omega)).mono ?_; rintro e w' ⟨rfl, rfl⟩))
                  go_ret
                  exact ⟨ret_bool (by rw [HV.out, HF.out]), hbel0.trans ((hbq.alloc hsq _).mono (by omega))⟩
                · cases hs : (spokeV y == (k : Int))
                  · have hs2 : (spokeV y != (k : Int)) = true := by simp [bne, hs]
                    have HF : Hid (okS now 0 [] ss = false) := by show _ = _; rw [← HRT.out, tOk_3 hs, Bool.false_and]
                    go_wp2_with (first | (go_at_call 46; refine (timerIdOk_any _ _).mono ?_; rintro e w' ⟨rfl, rfl⟩) | (go_at_call 99; refine (spokeOf_any _ _).mono ?_; rintro e w' ⟨rfl, rfl⟩) | (go_at_call 126; refine (contains_any A3 ids.length c3 ids x _ _ (by exact (HI.out.alloc _).ints) (by omega)).mono ?_; rintro e w' ⟨rfl, rfl⟩))
                    go_ret
                    exact ⟨ret_bool (by rw [HV.out, HF.out]), hbel0.trans ((hbq.alloc hsq _).mono (by omega))⟩
                  · have hs2 : (spokeV y != (k : Int)) = false := by simp [bne, hs]
                    cases h80 : ((ids.length : Int) == 80)
                    · have h80n : (ids.length == 80) = false := by
                        have h1 : ¬ (ids.length : Int) = 80 := by simpa using h80
                        simp; omega
                      cases hc : hasB ids x
                      · have HY : Hid (okS now k (ids ++ [x]) ((ss.getD k []).drop (i + 1) :: ss.drop (k + 1)) = okS now 0 [] ss) := by
                          have h1 := HRT.out
                          rw [tOk_yes ha hb hs h80n hc, Bool.true_and] at h1
                          exact h1
                        have hl80 : ids.length < 80 := by
                          have h1 : ¬ ids.length = 80 := by simpa using h80n
                          omega
                        go_wp2_with (first | (go_at_call 46; refine (timerIdOk_any _ _).mono ?_; rintro e w' ⟨rfl, rfl⟩) | (go_at_call 99; refine (spokeOf_any _ _).mono ?_; rintro e w' ⟨rfl, rfl⟩) | (go_at_call 126; refine (contains_any A3 ids.length c3 ids x _ _ (by exact (HI.out.alloc _).ints) (by omega)).mono ?_; rintro e w' ⟨rfl, rfl⟩) | (at_builtin; refine wpList_append_own _ rfl (.tmp 60) (.tmp 63) _ rfl (w.heap.size + 1) 3 i0 _ 1 8 Try.underlying30 hi0 hz0 hz1 hz2 rfl (by omega) (.slice A3 ids.length c3) ids.length (ids.map (Value.int .i64)) rfl ?o1 ⟨wr.heap.size + 1, 0, none⟩ 1 1 [.int .i64 x] rfl rfl ?o2 ?o3 ?o4 ?o5 ?o6 ?_))
                        case o1 => exact ((HI.out.alloc _).alloc _).2
                        case o2 => exact lit_news (by simp [go_sem])
                        case o3 => intro u hu; simp at hu; subst hu; rfl
                        case o4 => unfold maxLen; omega
                        case o5 => omega
                        case o6 => simp; omega
                        intro v2 w2 hown2 hgr2 _
                        obtain ⟨A4, c4, rfl, hI4⟩ := OwnI.of_append (zs := ids) rfl hown2
                        have hb2 : Below (w.heap.size + 1) w0 w2 := ((hbq.alloc hsq _).alloc (by simp; omega) _).grown hgr2 (by simp; omega) (fun q hq => (HI.out.lt q hq).1)
                        have hs2' : w.heap.size + 1 ≤ w2.heap.size := by have := hgr2.size; simp at this; omega
                        have HI4 := Lib.hid hI4
                        clear hown2 hgr2 hI4
                        go_wp2
                        go_roundw
                        case rel =>
                          have he : (ids ++ [x]).length = ids.length + 1 := by simp
                          exact ⟨i + 1, ids ++ [x], by omega, by go_num, ⟨A4, c4, by rw [he], by rw [he]; exact HI4.out, hb2, hs2'⟩, by rw [he]; omega, HY⟩
                        case measure => simp [intOf]; omega
                      · have HF : Hid (okS now 0 [] ss = false) := by show _ = _; rw [← HRT.out, tOk_5 hc, Bool.false_and]
                        go_wp2_with (first | (go_at_call 46; refine (timerIdOk_any _ _).mono ?_; rintro e w' ⟨rfl, rfl⟩) | (go_at_call 99; refine (spokeOf_any _ _).mono ?_; rintro e w' ⟨rfl, rfl⟩) | (go_at_call 126; refine (contains_any A3 ids.length c3 ids x _ _ (by exact (HI.out.alloc _).ints) (by omega)).mono ?_; rintro e w' ⟨rfl, rfl⟩))
                        go_ret
                        exact ⟨ret_bool (by rw [HV.out, HF.out]), hbel0.trans ((hbq.alloc hsq _).mono (by omega))⟩
                    · have h80n : (ids.length == 80) = true := by
                        have h1 : (ids.length : Int) = 80 := by simpa using h80
                        simp; omega
                      have HF : Hid (okS now 0 [] ss = false) := by show _ = _; rw [← HRT.out, tOk_4 h80n, Bool.false_and]
                      go_wp2_with (first | (go_at_call 46; refine (timerIdOk_any _ _).mono ?_; rintro e w' ⟨rfl, rfl⟩) | (go_at_call 99; refine (spokeOf_any _ _).mono ?_; rintro e w' ⟨rfl, rfl⟩) | (go_at_call 126; refine (contains_any A3 ids.length c3 ids x _ _ (by exact (HI.out.alloc _).ints) (by omega)).mono ?_; rintro e w' ⟨rfl, rfl⟩))
                      go_ret
                      exact ⟨ret_bool (by rw [HV.out, HF.out]), hbel0.trans ((hbq.alloc hsq _).mono (by omega))⟩
            · have HRN : Hid (okS now (k + 1) ids (ss.drop (k + 1)) = okS now 0 [] ss) := by
                have h1 := HR.out
                rw [List.drop_eq_nil_of_le (by rw [HTL.out]; omega), okS_next] at h1
                exact h1
              go_wp2
              go_roundw
              case rel => exact ⟨k + 1, ids, by omega, by go_num, ⟨A3, c3, rfl, hI, hbq, hsq⟩, hids, HRN⟩
              case measure => simp [intOf]; omega
        · have HD : Hid (okS now 0 [] ss = true) := by
            have h1 := HR.out
            rw [List.drop_eq_nil_of_le (by rw [HL.out]; omega), okS_nil] at h1
            exact h1.symm
          go_wp2
          go_ret
          exact ⟨ret_bool (by rw [HV.out, HD.out]), hbel0.trans (hbr.mono (by omega))⟩
    · have HV : Hid (wheelB now ss = false) := (by simp [wheelB, HL.out, h8] : wheelB now ss = false)
      have hne : ((n : Int) != 8) = true := by simp; omega
      go_enter Try.func96, Try.ntmps96
      go_wp2_with (go_at_call 44; refine (tickOk_any _ _).mono ?_; rintro e w' ⟨rfl, rfl⟩)
      go_ret
      exact ⟨ret_bool HV.out.symm, below_a1 _ _⟩
end Go.Proofs.Ytpghccbknlokcaa.WheelOk
