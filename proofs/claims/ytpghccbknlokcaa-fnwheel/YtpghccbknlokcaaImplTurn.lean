/-
  THE CONTRACT of the program's TurnWheel over this seat's translation; nothing that was there has turned.
-/
import Derived.Test.YtpghccbknlokcaaTurnV
namespace Go.Proofs.Ytpghccbknlokcaa.WheelOk
open Go.ChangeShapes Go.WideShapes Go.ChangeAt Go.RowKit Go.Shelf
open Go.Proofs.Ytpghccbknlokcaa.Timers Go.Proofs.Ytpghccbknlokcaa.Ring Go.Proofs.Ytpghccbknlokcaa.Has
open Go.Proofs.Ytpghccbknlokcaa.Tick (tokB tok_t inB)
open Go.Proofs.Ytpghccbknlokcaa.Spoke (spokeV spoke_t)
set_option linter.unusedVariables false

theorem ansT_end {P : Prop} {w W2 : World} {now : Int} {ss : List TList} {zs : List Int} {A A1 : Option Addr} {c c1 b : Nat} {lo lo' : Nat} (hO : OwnS W2 lo W2.heap.size A ss.length c ss) (hI : OwnI W2 lo' A1 zs.length c1 zs) (hsep : P → ∀ q, (Value.slice A1 zs.length c1).ownBlock = some q → q < lo) (hb : Below w.heap.size w W2) (hlo : w.heap.size ≤ lo) (hlo' : w.heap.size ≤ lo') (hbl : w.heap.size ≤ b) (hb2 : b < lo) (hb2' : b < lo') :
    AnsT P w now ss zs (.returned (.tuple #[.agg #[.int .i64 now, .slice A ss.length c], .slice A1 zs.length c1])) ((W2.setCell ⟨b, 0, none⟩ (.int .i64 now)).setCell ⟨b, 1, none⟩ (.slice A ss.length c)) := by
  have hI' : ∀ (W : World) (o : Nat) (v : Value), OwnI W lo' A1 zs.length c1 zs → OwnI (W.setCell ⟨b, o, none⟩ v) lo' A1 zs.length c1 zs := by
    intro W o v h
    refine h.grown (row := some b) ⟨rfl, rfl, rfl, by simp [World.setCell], fun q _ hne => Below.heap_setCell W ⟨b, o, none⟩ _ q (fun e => hne (by rw [e]))⟩ ?_
    cases hq : (Value.slice A1 zs.length c1).ownBlock with
    | none => exact .inl rfl
    | some q =>
      refine .inr fun e => ?_
      injection e with e
      have := (h.lt q hq).1
      omega
  refine ⟨A, c, A1, c1, lo, rfl, hlo, ?_, ?_, hsep, ?_⟩
  · have h1 := (hO.setLow (p := ⟨b, 0, none⟩) hb2 (.int .i64 now)).setLow (p := ⟨b, 1, none⟩) hb2 (.slice A ss.length c)
    refine h1.more ?_
    simp [World.setCell]
  · have h2 := hI' _ 1 (.slice A ss.length c) (hI' _ 0 (.int .i64 now) hI)
    exact ⟨h2.1, own_base h2.2 hlo'⟩
  · exact (hb.setCell (p := ⟨b, 0, none⟩) hbl _).setCell (p := ⟨b, 1, none⟩) hbl _

set_option maxRecDepth 100000 in
set_option maxHeartbeats 3000000 in
theorem turnWheel_w (now b : Int) (A : Option Addr) (n c : Nat) (ss : List TList) (B : Nat) (w : World) (hr : IsSlots w B A n ss) (hB : B ≤ w.heap.size) (hn : n ≤ 1048576) (hm : ∀ j, (ss.getD j []).length ≤ 1048576) :
    Calls Try.prog 14 #[.agg #[.int .i64 now, .slice A n c], .int .i64 b] w (Turn True w now ss b) := by
  have HM := Lib.hid hm
  have HR := Lib.hid hr
  have HL : Hid (ss.length = n) := hr.1
  obtain ⟨iI, hiI, hI0, hI1, hI2⟩ := info_parts infoInt
  clear hm hr
  go_enter Try.func14, Try.ntmps14
  go_wp2_with fail
  obtain ⟨w1, hw1⟩ : ∃ w1, w1 = (w.alloc (.cells #[.int .i64 now, .slice A n c] 26)).alloc (.cells #[.int .i64 0, .slice none 0 0] 26) := ⟨_, rfl⟩
  have hb01 : Below w.heap.size w w1 := by rw [hw1]; exact below_a2 _ _ _
  have hs1 : w1.heap.size = w.heap.size + 1 + 1 := by rw [hw1]; simp
  have hx1 : w1.heap[w.heap.size]? = some (.cells #[.int .i64 now, .slice A n c] 26 (0, 0)) := by
    rw [hw1, Below.heap_alloc _ _ _ (by simp)]
    exact heap_alloc_new w _
  have hx2 : w1.heap[w.heap.size + 1]? = some (.cells #[.int .i64 0, .slice none 0 0] 26 (0, 0)) := ansBox (lo := 0) hw1 (Below.refl _ _)
  have HX1 := Lib.hid hx1
  have HX2 := Lib.hid hx2
  rw [← hw1]
  clear hx1 hx2 hw1
  have no : ∀ W : World, Below w1.heap.size w1 W → turnB now ss b = false → Calls Try.prog 47 #[.agg #[.int .i64 now, .slice A n c]] W fun e w' =>
      ∃ A3 c3, e = .returned (.agg #[.int .i64 now, .slice A3 n c3]) ∧ w'.heap[w.heap.size + 1]? = some (.cells #[.int .i64 0, .slice none 0 0] 26 (0, 0)) ∧
        Turn True w now ss b (.returned (.tuple #[.agg #[.int .i64 now, .slice A3 n c3], .slice none 0 0])) ((w'.setCell ⟨w.heap.size + 1, 0, none⟩ (.int .i64 now)).setCell ⟨w.heap.size + 1, 1, none⟩ (.slice A3 n c3)) := by
    intro W hbW hV
    have hb0W : Below w.heap.size w W := hb01.trans (hbW.mono (by omega))
    have hsW := hbW.size
    refine (sameWheel_any now A n c ss B _ (HR.out.below hb0W hB) (by omega) hn HM.out).mono ?_
    rintro e w3 ⟨A3, c3, rfl, hO3, hb3⟩
    have hb03 : Below w.heap.size w w3 := hb0W.trans (hb3.mono hb0W.size)
    refine ⟨A3, c3, by rw [HL.out], (hb3.block _ (by omega)).trans ((hbW.block _ (by omega)).trans HX2.out), Turn.no hV ?_⟩
    have h5 := ansT_end (P := True) (now := now) (zs := []) (A1 := none) (c1 := 0) (b := w.heap.size + 1) (ss := ss) (lo' := W.heap.size) hO3 ⟨rfl, World.ownsRow_nil _ _ _ _⟩ (fun _ q hq => by cases hq) hb03 (by omega) (by omega) (by omega) (by omega) (by omega)
    rw [HL.out] at h5
    exact h5
  have NO := Lib.hid no
  clear no
  refine (ringOf_any now A n c ss B _ (HR.out.below hb01 hB) (by omega) hn HM.out).mono ?_
  rintro e w2 ⟨hb2, ⟨hw, rfl⟩ | ⟨hw, g, rfl, hO⟩⟩
  · have HV : Hid (turnB now ss b = false) := (by simp [turnB, hw] : turnB now ss b = false)
    obtain ⟨c0, c1, f0, f1⟩ := blk2 ((hb2.block w.heap.size (by omega)).trans HX1.out)
    clear hw
    go_wp2_with fail
    refine (NO.out _ hb2 HV.out).mono ?_
    rintro e w3 ⟨A3, c3, rfl, hblk, hans⟩
    obtain ⟨d0, d1, g0, g1⟩ := blk2 hblk
    have HA := Lib.hid hans
    clear hans hblk
    go_wp2_with fail
    exact bodyPost_ret (v := .tuple #[.agg #[.int .i64 now, .slice A3 n c3], .slice none 0 0]) (by simp [results, Try.results14, go_sem, d0, d1]) rfl HA.out
  · have HG := Lib.hid (wheelB_good hw)
    have HO := Lib.hid hO
    have HW := Lib.hid hw
    have hs2 := hb2.size
    obtain ⟨c0, c1, f0, f1⟩ := blk2 ((hb2.block w.heap.size (by omega)).trans HX1.out)
    clear hO hw
    by_cases hb0 : b < 0
    · have HV : Hid (turnB now ss b = false) := (by simp [turnB, inB]; omega : turnB now ss b = false)
      go_wp2_with fail
      refine (NO.out _ hb2 HV.out).mono ?_
      rintro e w3 ⟨A3, c3, rfl, hblk, hans⟩
      obtain ⟨d0, d1, g0, g1⟩ := blk2 hblk
      have HA := Lib.hid hans
      clear hans hblk
      go_wp2_with fail
      exact bodyPost_ret (v := .tuple #[.agg #[.int .i64 now, .slice A3 n c3], .slice none 0 0]) (by simp [results, Try.results14, go_sem, d0, d1]) rfl HA.out
    · by_cases hb1 : 2000 < b
      · have HV : Hid (turnB now ss b = false) := (by simp [turnB, inB]; omega : turnB now ss b = false)
        go_wp2_with fail
        refine (NO.out _ hb2 HV.out).mono ?_
        rintro e w3 ⟨A3, c3, rfl, hblk, hans⟩
        obtain ⟨d0, d1, g0, g1⟩ := blk2 hblk
        have HA := Lib.hid hans
        clear hans hblk
        go_wp2_with fail
        exact bodyPost_ret (v := .tuple #[.agg #[.int .i64 now, .slice A3 n c3], .slice none 0 0]) (by simp [results, Try.results14, go_sem, d0, d1]) rfl HA.out
      · have HV : Hid (turnB now ss b = true) := (by simp [turnB, HW.out, inB]; omega : turnB now ss b = true)
        have hnow := tok_t HG.out.tick
        obtain ⟨n0, nf⟩ := HO.out.now_cell
        obtain ⟨N, hN⟩ : ∃ N, N = turnN now b := ⟨_, rfl⟩
        have hN1 : (N : Int) = min b (1000000000 - now) := by rw [hN]; unfold turnN; omega
        have hN2 : N ≤ 2000 := by omega
        have hN3 : now + N ≤ 1000000000 := by omega
        have HN := Lib.hid hN
        have HN1 := Lib.hid hN1
        have hgl := HO.out.lt
        clear hN
        have hbd0 : decide (b < 0) = false := decide_eq_false hb0
        have hbd1 : decide (2000 < b) = false := decide_eq_false hb1
        by_cases hmin : b ≤ 1000000000 - now
        · have hbN : b = (N : Int) := by omega
          clear hN1 HN1
          subst hbN
          go_wp2_with fail
          go_loopw [8, 34] (fun v8 v34 wr => ∃ (i qn : Nat) (A8 : Option Addr) (c8 : Nat), v8 = .slice A8 qn c8 ∧ v34 = .int .i64 i ∧ i ≤ N ∧ Hid (OwnR wr w1.heap.size g (now + i) (turnR now ss i)) ∧ Hid (OwnI wr w2.heap.size A8 qn c8 (turnZ now ss i)) ∧ Below w1.heap.size w2 wr) (fun _ v34 _ => N - (intOf v34).toNat)
          case atStart =>
            refine ⟨0, 0, _, 0, rfl, rfl, Nat.zero_le _, ?_, ⟨rfl, World.ownsRow_lit (base := w2.heap.size) (e := 3) (size := 1) w2 #[] 0 (Nat.le_refl _) (Nat.zero_le _) rfl⟩, (below_a1 w2 _).mono hs2⟩
            have h5 := HO.out.below (below_a1 w2 (.cells #[] 3))
            show OwnR _ _ _ (now + 0) ss
            rw [Int.add_zero]
            exact h5
          case round =>
            obtain ⟨i, qn, A8, c8, rfl, rfl, hi, HOr, HIr, hbr⟩ := hrel
            have hszr := hbr.size
            have hb1r : Below w1.heap.size w1 wr := hb2.trans hbr
            by_cases hlt : i < N
            · have hdl : decide ((i : Int) < (N : Int)) = true := decide_eq_true (by omega)
              have htk : tokB (now + i + 1) = true := by simp [tokB]; omega
              have HSK : Hid (spokeV (now + i + 1) = (spk (now + i + 1) : Int)) := by show _ = _; rw [spoke_t htk]; unfold spk; omega
              have hsk8 : spk (now + i + 1) < 8 := by unfold spk; omega
              have hqn : qn ≤ 200000 := by have h1 := turnZ_len now ss i HG.out.hundred; have h2 := HIr.out.1; omega
              obtain ⟨m, hm⟩ : ∃ m, m = (toldL (now + i + 1) ((turnR now ss i).getD (spk (now + i + 1)) [])).length := ⟨_, rfl⟩
              have hm1 : m ≤ 100 := by
                have h1 : m ≤ ((turnR now ss i).getD (spk (now + i + 1)) []).length := by rw [hm]; unfold toldL; rw [List.length_map]; exact List.length_filter_le _ _
                have h2 := tot_get (turnR now ss i) (spk (now + i + 1))
                have h3 := turnR_tot now ss i
                have h4 := HG.out.hundred
                omega
              have HMM := Lib.hid hm
              clear hm
              go_wp2_with fail
              refine (step_any _ g (now + i) (turnR now ss i) (spk (now + i + 1)) _ HOr.out (by omega) (by omega) HSK.out hsk8 (Nat.le_trans (turnR_tot now ss i) HG.out.hundred) (by omega)).mono ?_
              rintro e w3 ⟨A5, c5, rfl, hI5, hO3, hb3, hk3⟩
              rw [← HMM.out] at hI5 ⊢
              have HO3 : Hid (OwnR w3 w1.heap.size g (now + i + 1) (turnR now ss (i + 1))) := hO3
              have HI3 := Lib.hid (OwnI.kept HIr.out hk3)
              have HI5 := Lib.hid hI5
              have hs3 := hb3.size
              have hcap := cap_of HI3.out
              have hbr3 : Below w1.heap.size w2 w3 := hbr.trans hb3
              have HZN : Hid (turnZ now ss (i + 1) = turnZ now ss i ++ toldL (now + i + 1) ((turnR now ss i).getD (spk (now + i + 1)) [])) := rfl
              clear hI5 hO3 hk3
              cases A5 with
              | none =>
                obtain ⟨hm0, hc0⟩ := none_of HI5.out
                have HM0 : Hid (toldL (now + i + 1) ((turnR now ss i).getD (spk (now + i + 1)) []) = []) := List.eq_nil_of_length_eq_zero (by rw [← HMM.out]; exact hm0)
                subst hm0 hc0
                go_wp2_with (at_builtin; refine wpList_append_nil _ rfl (.tmp 36) (.tmp 38) 30 rfl 3 iI Try.underlying30 hiI A8 qn c8 rfl hcap rfl ?_)
                go_roundw
                case rel => exact ⟨i + 1, qn, A8, c8, rfl, by go_num, by omega, by rw [show now + ((i + 1 : Nat) : Int) = now + i + 1 by omega]; exact HO3, by rw [HZN.out, HM0.out, List.append_nil]; exact HI3, hbr3⟩
                case measure => simp [intOf]; omega
              | some ad =>
                obtain ⟨ga, rfl⟩ : ∃ ga, ad = ⟨ga, 0, none⟩ := by
                  rcases HI5.out.2.2 with ⟨h1, _⟩ | ⟨ga, _, _, h, _⟩
                  · cases h1
                  · injection h with h
                    injection h with h
                    exact ⟨ga, h⟩
                go_wp2_with (at_builtin; refine wpList_append_own _ rfl (.tmp 36) (.tmp 38) _ rfl w2.heap.size 3 iI _ 1 8 Try.underlying30 hiI hI0 hI1 hI2 rfl (by omega) (.slice A8 qn c8) qn ((turnZ now ss i).map (Value.int .i64)) rfl ?o1 ⟨ga, 0, none⟩ m c5 ((toldL (now + i + 1) ((turnR now ss i).getD (spk (now + i + 1)) [])).map (Value.int .i64)) rfl ?o0 ?o2 ?o3 ?o4 ?o5 ?o6 ?_)
                case o1 => exact HI3.out.2
                case o0 => rw [List.length_map, ← HMM.out, Nat.mul_one]
                case o2 =>
                  intro j u hu
                  have hj : j < m := by have h5 := (List.getElem?_eq_some_iff.1 hu).1; rw [List.length_map, ← HMM.out] at h5; exact h5
                  rw [add_none, Nat.zero_add]
                  exact (HI5.out.2.cellAt j (by omega)).trans hu
                case o3 => intro u hu; obtain ⟨y, _, rfl⟩ := List.mem_map.1 hu; rfl
                case o4 => unfold maxLen; omega
                case o5 => omega
                case o6 => omega
                intro v2 w5 hown2 hgr2 _
                obtain ⟨A6, c6, rfl⟩ := own_slice hown2
                have hown3 : w5.ownsRow w2.heap.size 3 1 (.slice A6 (qn + m) c6) (qn + m) ((turnZ now ss (i + 1)).map (Value.int .i64)) := by rw [HZN.out, List.map_append]; exact hown2
                have hne : ∀ q, (Value.slice A8 qn c8).ownBlock = some q → w2.heap.size ≤ q := fun q hq => (HI3.out.lt q hq).1
                have HI6 : Hid (OwnI w5 w2.heap.size A6 (qn + m) c6 (turnZ now ss (i + 1))) := ⟨by rw [HZN.out, List.length_append, ← HMM.out, HIr.out.1], hown3⟩
                have HO5 := Lib.hid (OwnR.ints HO3.out HI3.out.2 hgr2)
                have hb5 : Below w1.heap.size w2 w5 := hbr3.grown hgr2 (by omega) (fun q hq => by have := hne q hq; omega)
                clear hown2 hown3 hgr2
                go_wp2_with fail
                go_roundw
                case rel => exact ⟨i + 1, qn + m, A6, c6, rfl, by go_num, by omega, by rw [show now + ((i + 1 : Nat) : Int) = now + i + 1 by omega]; exact HO5, HI6, hb5⟩
                case measure => simp [intOf]; omega
            · have HI : Hid (i = N) := (by omega : i = N)
              have hdl : decide ((i : Int) < (N : Int)) = false := decide_eq_false (by omega)
              have HRL : Hid ((turnR now ss i).length = n) := (turnR_len now ss i).trans HL.out
              go_wp2_with fail
              refine (wheelOf_any _ g (now + i) (turnR now ss i) _ HOr.out (turnR_spots HG.out.spots i) (Nat.le_trans (turnR_tot now ss i) HG.out.hundred)).mono ?_
              rintro e w4 ⟨A4, c4, rfl, hO4, hb4⟩
              rw [HRL.out] at hO4 ⊢
              obtain ⟨d0, d1, g0, g1⟩ := blk2 ((hb4.block (w.heap.size + 1) (by omega)).trans ((hb1r.block (w.heap.size + 1) (by omega)).trans HX2.out))
              have HO4 := Lib.hid hO4
              have HI4 := Lib.hid (HIr.out.below hb4)
              have hb0r : Below w.heap.size w wr := hb01.trans (hb1r.mono (by omega))
              have hb04 : Below w.heap.size w w4 := hb0r.trans (hb4.mono hb0r.size)
              have HQ : Hid ((turnZ now ss i).length = qn) := HIr.out.1
              obtain ⟨T, hT⟩ : ∃ T, T = now + (i : Int) := ⟨_, rfl⟩
              rw [← hT]
              have HTT := Lib.hid hT
              clear hO4 hT
              go_wp2_with fail
              refine bodyPost_ret (v := .tuple #[.agg #[.int .i64 T, .slice A4 n c4], .slice A8 qn c8]) (by simp [results, Try.results14, go_sem, d0, d1]) rfl (Turn.yes HV.out ?_)
              have h5 := ansT_end (now := T) (zs := turnZ now ss i) (A1 := A8) (c1 := c8) (b := w.heap.size + 1) (lo := wr.heap.size) (lo' := w2.heap.size) (P := True) (ss := turnR now ss i) (by rw [HRL.out]; exact HO4.out) (by rw [HQ.out]; exact HI4.out) (fun _ q hq => by rw [HQ.out] at hq; exact (HIr.out.lt q hq).2) hb04 (by omega) (by omega) (by omega) (by omega) (by omega)
              rw [HRL.out, HQ.out] at h5
              rw [← HN.out, ← HI.out, ← HTT.out]
              exact h5
        · have hbN : 1000000000 - now = (N : Int) := by omega
          clear hN1 HN1
          go_wp2_with fail
          go_loopw [8, 34] (fun v8 v34 wr => ∃ (i qn : Nat) (A8 : Option Addr) (c8 : Nat), v8 = .slice A8 qn c8 ∧ v34 = .int .i64 i ∧ i ≤ N ∧ Hid (OwnR wr w1.heap.size g (now + i) (turnR now ss i)) ∧ Hid (OwnI wr w2.heap.size A8 qn c8 (turnZ now ss i)) ∧ Below w1.heap.size w2 wr) (fun _ v34 _ => N - (intOf v34).toNat)
          case atStart =>
            refine ⟨0, 0, _, 0, rfl, rfl, Nat.zero_le _, ?_, ⟨rfl, World.ownsRow_lit (base := w2.heap.size) (e := 3) (size := 1) w2 #[] 0 (Nat.le_refl _) (Nat.zero_le _) rfl⟩, (below_a1 w2 _).mono hs2⟩
            have h5 := HO.out.below (below_a1 w2 (.cells #[] 3))
            show OwnR _ _ _ (now + 0) ss
            rw [Int.add_zero]
            exact h5
          case round =>
            obtain ⟨i, qn, A8, c8, rfl, rfl, hi, HOr, HIr, hbr⟩ := hrel
            have hszr := hbr.size
            have hb1r : Below w1.heap.size w1 wr := hb2.trans hbr
            by_cases hlt : i < N
            · have hdl : decide ((i : Int) < (N : Int)) = true := decide_eq_true (by omega)
              have htk : tokB (now + i + 1) = true := by simp [tokB]; omega
              have HSK : Hid (spokeV (now + i + 1) = (spk (now + i + 1) : Int)) := by show _ = _; rw [spoke_t htk]; unfold spk; omega
              have hsk8 : spk (now + i + 1) < 8 := by unfold spk; omega
              have hqn : qn ≤ 200000 := by have h1 := turnZ_len now ss i HG.out.hundred; have h2 := HIr.out.1; omega
              obtain ⟨m, hm⟩ : ∃ m, m = (toldL (now + i + 1) ((turnR now ss i).getD (spk (now + i + 1)) [])).length := ⟨_, rfl⟩
              have hm1 : m ≤ 100 := by
                have h1 : m ≤ ((turnR now ss i).getD (spk (now + i + 1)) []).length := by rw [hm]; unfold toldL; rw [List.length_map]; exact List.length_filter_le _ _
                have h2 := tot_get (turnR now ss i) (spk (now + i + 1))
                have h3 := turnR_tot now ss i
                have h4 := HG.out.hundred
                omega
              have HMM := Lib.hid hm
              clear hm
              go_wp2_with fail
              refine (step_any _ g (now + i) (turnR now ss i) (spk (now + i + 1)) _ HOr.out (by omega) (by omega) HSK.out hsk8 (Nat.le_trans (turnR_tot now ss i) HG.out.hundred) (by omega)).mono ?_
              rintro e w3 ⟨A5, c5, rfl, hI5, hO3, hb3, hk3⟩
              rw [← HMM.out] at hI5 ⊢
              have HO3 : Hid (OwnR w3 w1.heap.size g (now + i + 1) (turnR now ss (i + 1))) := hO3
              have HI3 := Lib.hid (OwnI.kept HIr.out hk3)
              have HI5 := Lib.hid hI5
              have hs3 := hb3.size
              have hcap := cap_of HI3.out
              have hbr3 : Below w1.heap.size w2 w3 := hbr.trans hb3
              have HZN : Hid (turnZ now ss (i + 1) = turnZ now ss i ++ toldL (now + i + 1) ((turnR now ss i).getD (spk (now + i + 1)) [])) := rfl
              clear hI5 hO3 hk3
              cases A5 with
              | none =>
                obtain ⟨hm0, hc0⟩ := none_of HI5.out
                have HM0 : Hid (toldL (now + i + 1) ((turnR now ss i).getD (spk (now + i + 1)) []) = []) := List.eq_nil_of_length_eq_zero (by rw [← HMM.out]; exact hm0)
                subst hm0 hc0
                go_wp2_with (at_builtin; refine wpList_append_nil _ rfl (.tmp 36) (.tmp 38) 30 rfl 3 iI Try.underlying30 hiI A8 qn c8 rfl hcap rfl ?_)
                go_roundw
                case rel => exact ⟨i + 1, qn, A8, c8, rfl, by go_num, by omega, by rw [show now + ((i + 1 : Nat) : Int) = now + i + 1 by omega]; exact HO3, by rw [HZN.out, HM0.out, List.append_nil]; exact HI3, hbr3⟩
                case measure => simp [intOf]; omega
              | some ad =>
                obtain ⟨ga, rfl⟩ : ∃ ga, ad = ⟨ga, 0, none⟩ := by
                  rcases HI5.out.2.2 with ⟨h1, _⟩ | ⟨ga, _, _, h, _⟩
                  · cases h1
                  · injection h with h
                    injection h with h
                    exact ⟨ga, h⟩
                go_wp2_with (at_builtin; refine wpList_append_own _ rfl (.tmp 36) (.tmp 38) _ rfl w2.heap.size 3 iI _ 1 8 Try.underlying30 hiI hI0 hI1 hI2 rfl (by omega) (.slice A8 qn c8) qn ((turnZ now ss i).map (Value.int .i64)) rfl ?o1 ⟨ga, 0, none⟩ m c5 ((toldL (now + i + 1) ((turnR now ss i).getD (spk (now + i + 1)) [])).map (Value.int .i64)) rfl ?o0 ?o2 ?o3 ?o4 ?o5 ?o6 ?_)
                case o1 => exact HI3.out.2
                case o0 => rw [List.length_map, ← HMM.out, Nat.mul_one]
                case o2 =>
                  intro j u hu
                  have hj : j < m := by have h5 := (List.getElem?_eq_some_iff.1 hu).1; rw [List.length_map, ← HMM.out] at h5; exact h5
                  rw [add_none, Nat.zero_add]
                  exact (HI5.out.2.cellAt j (by omega)).trans hu
                case o3 => intro u hu; obtain ⟨y, _, rfl⟩ := List.mem_map.1 hu; rfl
                case o4 => unfold maxLen; omega
                case o5 => omega
                case o6 => omega
                intro v2 w5 hown2 hgr2 _
                obtain ⟨A6, c6, rfl⟩ := own_slice hown2
                have hown3 : w5.ownsRow w2.heap.size 3 1 (.slice A6 (qn + m) c6) (qn + m) ((turnZ now ss (i + 1)).map (Value.int .i64)) := by rw [HZN.out, List.map_append]; exact hown2
                have hne : ∀ q, (Value.slice A8 qn c8).ownBlock = some q → w2.heap.size ≤ q := fun q hq => (HI3.out.lt q hq).1
                have HI6 : Hid (OwnI w5 w2.heap.size A6 (qn + m) c6 (turnZ now ss (i + 1))) := ⟨by rw [HZN.out, List.length_append, ← HMM.out, HIr.out.1], hown3⟩
                have HO5 := Lib.hid (OwnR.ints HO3.out HI3.out.2 hgr2)
                have hb5 : Below w1.heap.size w2 w5 := hbr3.grown hgr2 (by omega) (fun q hq => by have := hne q hq; omega)
                clear hown2 hown3 hgr2
                go_wp2_with fail
                go_roundw
                case rel => exact ⟨i + 1, qn + m, A6, c6, rfl, by go_num, by omega, by rw [show now + ((i + 1 : Nat) : Int) = now + i + 1 by omega]; exact HO5, HI6, hb5⟩
                case measure => simp [intOf]; omega
            · have HI : Hid (i = N) := (by omega : i = N)
              have hdl : decide ((i : Int) < (N : Int)) = false := decide_eq_false (by omega)
              have HRL : Hid ((turnR now ss i).length = n) := (turnR_len now ss i).trans HL.out
              go_wp2_with fail
              refine (wheelOf_any _ g (now + i) (turnR now ss i) _ HOr.out (turnR_spots HG.out.spots i) (Nat.le_trans (turnR_tot now ss i) HG.out.hundred)).mono ?_
              rintro e w4 ⟨A4, c4, rfl, hO4, hb4⟩
              rw [HRL.out] at hO4 ⊢
              obtain ⟨d0, d1, g0, g1⟩ := blk2 ((hb4.block (w.heap.size + 1) (by omega)).trans ((hb1r.block (w.heap.size + 1) (by omega)).trans HX2.out))
              have HO4 := Lib.hid hO4
              have HI4 := Lib.hid (HIr.out.below hb4)
              have hb0r : Below w.heap.size w wr := hb01.trans (hb1r.mono (by omega))
              have hb04 : Below w.heap.size w w4 := hb0r.trans (hb4.mono hb0r.size)
              have HQ : Hid ((turnZ now ss i).length = qn) := HIr.out.1
              obtain ⟨T, hT⟩ : ∃ T, T = now + (i : Int) := ⟨_, rfl⟩
              rw [← hT]
              have HTT := Lib.hid hT
              clear hO4 hT
              go_wp2_with fail
              refine bodyPost_ret (v := .tuple #[.agg #[.int .i64 T, .slice A4 n c4], .slice A8 qn c8]) (by simp [results, Try.results14, go_sem, d0, d1]) rfl (Turn.yes HV.out ?_)
              have h5 := ansT_end (now := T) (zs := turnZ now ss i) (A1 := A8) (c1 := c8) (b := w.heap.size + 1) (lo := wr.heap.size) (lo' := w2.heap.size) (P := True) (ss := turnR now ss i) (by rw [HRL.out]; exact HO4.out) (by rw [HQ.out]; exact HI4.out) (fun _ q hq => by rw [HQ.out] at hq; exact (HIr.out.lt q hq).2) hb04 (by omega) (by omega) (by omega) (by omega) (by omega)
              rw [HRL.out, HQ.out] at h5
              rw [← HN.out, ← HI.out, ← HTT.out]
              exact h5
end Go.Proofs.Ytpghccbknlokcaa.WheelOk
