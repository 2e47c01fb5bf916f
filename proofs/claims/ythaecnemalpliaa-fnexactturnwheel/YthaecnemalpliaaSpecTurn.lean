/-
  THE CONTRACT of the model's TurnWheel over this seat's translation; nothing that was there has turned.
-/
import Derived.Test.YthaecnemalpliaaImplTurn
import Derived.Test.YthaecnemalpliaaSpecStop
namespace Go.Proofs.Ythaecnemalpliaa.WheelOk
open Go.ChangeShapes Go.WideShapes Go.ChangeAt Go.RowKit Go.Shelf
open Go.Proofs.Ythaecnemalpliaa.Timers Go.Proofs.Ythaecnemalpliaa.Ring Go.Proofs.Ythaecnemalpliaa.Has
open Go.Proofs.Ythaecnemalpliaa.Tick (tokB tok_t inB l01In_any)
open Go.Proofs.Ythaecnemalpliaa.Spoke (spokeV spoke_t specSpokeOf_any)
set_option linter.unusedVariables false

theorem row_apart {w : World} {base base' : Nat} {e e' : TypeId} {size size' n n' : Nat} {u v : Value} {xs ys : List Value} (h : w.ownsRow base e size u n xs) (h' : w.ownsRow base' e' size' v n' ys) (hne : e ≠ e') : u.ownBlock = none ∨ u.ownBlock ≠ v.ownBlock := by
  cases hb : u.ownBlock with
  | none => exact .inl rfl
  | some q => exact .inr fun e2 => row_ne h h' hne hb e2.symm
/-- Slots, where a row of ints has grown. -/
theorem OwnS.ints {w w' : World} {lo hi : Nat} {A : Option Addr} {n c : Nat} {ss : List TList} {base m : Nat} {v : Value} {xs : List Value} (h : OwnS w lo hi A n c ss) (hI : w.ownsRow base 3 1 v m xs) (hg : w.grownBy w' v.ownBlock) : OwnS w' lo hi A n c ss := by
  refine ⟨h.1, fun hn => ?_⟩
  obtain ⟨g, vs, e, hg2, hrow, hj, hd⟩ := h.2 hn
  refine ⟨g, vs, e, hg2, hrow.kept hg (row_apart hrow hI (by decide)), fun j hjn => ?_, hd⟩
  obtain ⟨A', c', hv, hT⟩ := hj j hjn
  exact ⟨A', c', hv, hT.1, hT.2.1.kept hg (row_apart hT.2.1 hI (by decide)), hT.2.2⟩
/-- Slots, where a block beyond them has turned. -/
theorem OwnS.high {w w' : World} {lo hi : Nat} {A : Option Addr} {n c : Nat} {ss : List TList} {row : Option Nat} (h : OwnS w lo hi A n c ss) (hg : w.grownBy w' row) (hr : ∀ q, row = some q → hi ≤ q) : OwnS w' lo hi A n c ss := by
  refine ⟨h.1, fun hn => ?_⟩
  obtain ⟨g, vs, e, hg2, hrow, hj, hd⟩ := h.2 hn
  refine ⟨g, vs, e, hg2, hrow.kept hg (.inr ?_), fun j hjn => ?_, hd⟩
  · subst e
    intro e2
    have := hr g e2.symm
    omega
  · obtain ⟨A', c', hv, hT⟩ := hj j hjn
    refine ⟨A', c', hv, hT.grown hg ?_⟩
    cases hb : (Value.slice A' (ss.getD j []).length c').ownBlock with
    | none => exact .inl rfl
    | some q =>
      refine .inr fun e2 => ?_
      have h1 := hr q e2.symm
      have h2 := (hT.blk q hb).2.1
      omega
theorem box_set {w : World} {b : Nat} {u v x : Value} (h : w.heap[b]? = some (.cells #[u, v] 26 (0, 0))) : (w.setCell ⟨b, 0, none⟩ x).heap[b]? = some (.cells #[x, v] 26 (0, 0)) :=
  heap_setCell_same w b 0 #[u, v] 26 x h

set_option maxRecDepth 100000 in
set_option maxHeartbeats 4000000 in
theorem specTurn_any (now b : Int) (A : Option Addr) (n c : Nat) (ss : List TList) (B : Nat) (w : World) (hr : IsSlots w B A n ss) (hB : B ≤ w.heap.size) (hn : n ≤ 1048576) (hm : ∀ j, (ss.getD j []).length ≤ 1048576) :
    Calls Try.prog 35 #[.agg #[.int .i64 now, .slice A n c], .int .i64 b] w (Turn False w now ss b) := by
  have HM := Lib.hid hm
  have HR := Lib.hid hr
  have HL : Hid (ss.length = n) := hr.1
  obtain ⟨iI, hiI, hI0, hI1, hI2⟩ := info_parts infoInt
  obtain ⟨i8, hi8, hy0, hy1, hy2⟩ := info_parts info68
  clear hm hr
  go_enter Try.func35, Try.ntmps35
  go_wp2_with fail
  obtain ⟨w1, hw1⟩ : ∃ w1, w1 = (w.alloc (.cells #[.int .i64 now, .slice A n c] 26)).alloc (.cells #[.int .i64 0, .slice none 0 0] 26) := ⟨_, rfl⟩
  have hb01 : Below w.heap.size w w1 := by rw [hw1]; exact below_a2 _ _ _
  have hs1 : w1.heap.size = w.heap.size + 1 + 1 := by rw [hw1]; simp
  have hx1 : w1.heap[w.heap.size]? = some (.cells #[.int .i64 now, .slice A n c] 26 (0, 0)) := by
    rw [hw1, Below.heap_alloc _ _ _ (by simp)]
    exact heap_alloc_new w _
  have hx2 : w1.heap[w.heap.size + 1]? = some (.cells #[.int .i64 0, .slice none 0 0] 26 (0, 0)) := ansBox (lo := 0) hw1 (Below.refl _ _)
  have HX1 := Lib.hid hx1
  have HX2 := Lib.hid hx2
  rw [← hw1]
  clear hx1 hx2 hw1
  have no : ∀ W : World, Below w1.heap.size w1 W → turnB now ss b = false → Calls Try.prog 65 #[.agg #[.int .i64 now, .slice A n c]] W fun e w' =>
      ∃ A3 c3, e = .returned (.agg #[.int .i64 now, .slice A3 n c3]) ∧ w'.heap[w.heap.size + 1]? = some (.cells #[.int .i64 0, .slice none 0 0] 26 (0, 0)) ∧
        Turn False w now ss b (.returned (.tuple #[.agg #[.int .i64 now, .slice A3 n c3], .slice none 0 0])) ((w'.setCell ⟨w.heap.size + 1, 0, none⟩ (.int .i64 now)).setCell ⟨w.heap.size + 1, 1, none⟩ (.slice A3 n c3)) := by
    intro W hbW hV
    have hb0W : Below w.heap.size w W := hb01.trans (hbW.mono (by omega))
    have hsW := hbW.size
    refine (l02Copy_any now A n c ss B _ (HR.out.below hb0W hB) (by omega) hn HM.out).mono ?_
    rintro e w3 ⟨A3, c3, rfl, hO3, hb3⟩
    have hb03 : Below w.heap.size w w3 := hb0W.trans (hb3.mono hb0W.size)
    refine ⟨A3, c3, by rw [HL.out], (hb3.block _ (by omega)).trans ((hbW.block _ (by omega)).trans HX2.out), Turn.no hV ?_⟩
    have h5 := ansT_end (P := False) (now := now) (zs := []) (A1 := none) (c1 := 0) (b := w.heap.size + 1) (ss := ss) (lo' := W.heap.size) hO3 ⟨rfl, World.ownsRow_nil _ _ _ _⟩ (fun h => h.elim) hb03 (by omega) (by omega) (by omega) (by omega) (by omega)
    rw [HL.out] at h5
    exact h5
  have NO := Lib.hid no
  clear no
  refine (specWheelOk_any now A n c ss B _ (HR.out.below hb01 hB) (by omega) hn HM.out).mono ?_
  rintro e w2 ⟨rfl, hb2⟩
  have hs2 := hb2.size
  obtain ⟨a0, a1, _, _⟩ := blk2 ((hb2.block w.heap.size (by omega)).trans HX1.out)
  cases hw : wheelB now ss
  · have HV : Hid (turnB now ss b = false) := (by simp [turnB, hw] : turnB now ss b = false)
    go_wp2_with fail
    refine (NO.out _ hb2 HV.out).mono ?_
    rintro e w3 ⟨A3, c3, rfl, hblk, hans⟩
    obtain ⟨d0, d1, g0, g1⟩ := blk2 hblk
    have HA := Lib.hid hans
    clear hans hblk
    go_wp2_with fail
    exact bodyPost_ret (v := .tuple #[.agg #[.int .i64 now, .slice A3 n c3], .slice none 0 0]) (by simp [results, Try.results35, go_sem, d0, d1]) rfl HA.out
  · cases hbi : inB b 0 2000
    · have HV : Hid (turnB now ss b = false) := (by simp [turnB, hbi] : turnB now ss b = false)
      go_wp2_with (go_at_call 54; refine (l01In_any _ _ _ _).mono ?_; rintro e w' ⟨rfl, rfl⟩)
      refine (NO.out _ hb2 HV.out).mono ?_
      rintro e w3 ⟨A3, c3, rfl, hblk, hans⟩
      obtain ⟨d0, d1, g0, g1⟩ := blk2 hblk
      have HA := Lib.hid hans
      clear hans hblk
      go_wp2_with fail
      exact bodyPost_ret (v := .tuple #[.agg #[.int .i64 now, .slice A3 n c3], .slice none 0 0]) (by simp [results, Try.results35, go_sem, d0, d1]) rfl HA.out
    · have HV : Hid (turnB now ss b = true) := (by simp [turnB, hw, hbi] : turnB now ss b = true)
      have HG := Lib.hid (wheelB_good hw)
      have hnow := tok_t HG.out.tick
      have hb00 : 0 ≤ b ∧ b ≤ 2000 := by simpa [inB] using hbi
      have hb02 : Below w.heap.size w w2 := hb01.trans (hb2.mono (by omega))
      have HN8 : Hid (n = 8) := HL.out.symm.trans HG.out.len
      obtain ⟨N, hN⟩ : ∃ N, N = turnN now b := ⟨_, rfl⟩
      have hN1 : (N : Int) = min b (1000000000 - now) := by rw [hN]; unfold turnN; omega
      have HN := Lib.hid hN
      have HN1 := Lib.hid hN1
      have hN2 : N ≤ 2000 := by omega
      have hN3 : now + N ≤ 1000000000 := by omega
      have hN4 : (N : Int) ≤ b := by omega
      clear hN hN1
      go_wp2_with (go_at_call 54; refine (l01In_any _ _ _ _).mono ?_; rintro e w' ⟨rfl, rfl⟩)
      refine (l02Copy_any now A n c ss B _ (HR.out.below hb02 hB) (by omega) hn HM.out).mono ?_
      rintro e w4 ⟨A4, c4, rfl, hO4, hb4⟩
      rw [HL.out] at hO4 ⊢
      obtain ⟨ga, rfl, hga1, hga2⟩ := hO4.at_ (by have := HN8.out; omega)
      have hbx5 : Below w4.heap.size w4 ((w4.alloc (.cells #[.int .i64 now, .slice (some ⟨ga, 0, none⟩) n c4] 26)).alloc (.cells #[] 3)) := below_a2 _ _ _
      have HO5 := Lib.hid ((hO4.below hbx5).more (hi' := w4.heap.size + 1 + 1) (by omega))
      have hx5 : ((w4.alloc (.cells #[.int .i64 now, .slice (some ⟨ga, 0, none⟩) n c4] 26)).alloc (.cells #[] 3)).heap[w4.heap.size]? = some (.cells #[.int .i64 now, .slice (some ⟨ga, 0, none⟩) n c4] 26 (0, 0)) := by
        rw [Below.heap_alloc _ _ _ (by simp)]
        exact heap_alloc_new w4 _
      have HX5 := Lib.hid hx5
      have hs4 := hb4.size
      have HB5 : Hid (Below w2.heap.size w2 ((w4.alloc (.cells #[.int .i64 now, .slice (some ⟨ga, 0, none⟩) n c4] 26)).alloc (.cells #[] 3))) := hb4.trans (hbx5.mono hs4)
      have HROW5 : Hid (((w4.alloc (.cells #[.int .i64 now, .slice (some ⟨ga, 0, none⟩) n c4] 26)).alloc (.cells #[] 3)).ownsRow w2.heap.size 3 1 (.slice (some ⟨w4.heap.size + 1, 0, none⟩) 0 0) 0 []) := by
        have h5 := World.ownsRow_lit (base := w2.heap.size) (e := 3) (size := 1) (w4.alloc (.cells #[.int .i64 now, .slice (some ⟨ga, 0, none⟩) n c4] 26)) #[] 0 (by simp; omega) (Nat.zero_le _) rfl
        rw [World.size_alloc] at h5
        exact h5
      clear hO4 hx5 hbx5 a0 a1
      go_wp2_with fail
      go_loopw [7, 8] (fun v7 v8 wr => ∃ (i qn : Nat) (A7 : Option Addr) (c7 : Nat), v7 = .slice A7 qn c7 ∧ v8 = .int .i64 i ∧ i ≤ N ∧ Hid (OwnS wr w2.heap.size wr.heap.size (some ⟨ga, 0, none⟩) n c4 (turnR now ss i)) ∧ Hid (wr.heap[w4.heap.size]? = some (.cells #[.int .i64 (now + i), .slice (some ⟨ga, 0, none⟩) n c4] 26 (0, 0))) ∧ Hid (OwnI wr w2.heap.size A7 qn c7 (turnZ now ss i)) ∧ Below w2.heap.size w2 wr ∧ w4.heap.size < wr.heap.size) (fun _ v8 _ => N - (intOf v8).toNat)
      case atStart =>
        refine ⟨0, 0, _, 0, rfl, rfl, Nat.zero_le _, ?_, ?_, ⟨rfl, HROW5.out⟩, HB5.out, by simp; omega⟩
        · show OwnS _ _ _ _ _ _ ss
          simp only [World.size_alloc]
          exact HO5.out
        · have h5 : now + ((0 : Nat) : Int) = now := by omega
          rw [h5]
          exact HX5
      case round =>
        obtain ⟨i, qn, A7, c7, rfl, rfl, hi, HO, HBX, HI, hbr, hsr⟩ := hrel
        obtain ⟨T, hT⟩ : ∃ T, T = now + (i : Int) := ⟨_, rfl⟩
        have hbx := HBX.out
        rw [← hT] at hbx
        obtain ⟨o0, o1, of0, of1⟩ := blk2 hbx
        have HBT := Lib.hid hbx
        have HTT := Lib.hid hT
        have hb1r : Below w1.heap.size w1 wr := hb2.trans (hbr.mono hs2)
        have hszr := hbr.size
        by_cases hlt : i < N
        · have hd1 : decide ((i : Int) < b) = true := decide_eq_true (by omega)
          have hT1 : T < 1000000000 := by omega
          have hd2 : decide (T < 1000000000) = true := decide_eq_true hT1
          obtain ⟨t, ht⟩ : ∃ t, t = T + 1 := ⟨_, rfl⟩
          have hwr : IntKind.i64.wrap (T + 1) = t := by rw [ht, IntKind.wrap_i64]; omega
          have htn : now + (i : Int) + 1 = t := by omega
          have htk : tokB t = true := by simp [tokB]; omega
          obtain ⟨k, hk⟩ : ∃ k, k = spk t := ⟨_, rfl⟩
          have HSK : Hid (spokeV t = (k : Int)) := by show _ = _; rw [spoke_t htk, hk]; unfold spk; omega
          have hk8 : k < 8 := by rw [hk]; unfold spk; omega
          have hkn : k < n := by have := HN8.out; omega
          have HRN : Hid (turnR now ss (i + 1) = (turnR now ss i).set k (stayL t ((turnR now ss i).getD k []))) := by show _ = _; rw [turnR, htn, hk]
          have HZN : Hid (turnZ now ss (i + 1) = turnZ now ss i ++ toldL t ((turnR now ss i).getD k [])) := by show _ = _; rw [turnZ, htn, hk]
          have hqn : qn ≤ 200000 := by have h1 := turnZ_len now ss i HG.out.hundred; have h2 := HI.out.1; omega
          obtain ⟨L, hL⟩ : ∃ L, L = (turnR now ss i).getD k [] := ⟨_, rfl⟩
          obtain ⟨m, hm⟩ : ∃ m, m = L.length := ⟨_, rfl⟩
          have hm1 : m ≤ 100 := by
            have h2 := tot_get (turnR now ss i) k
            have h3 := turnR_tot now ss i
            have h4 := HG.out.hundred
            rw [← hL] at h2
            omega
          rw [← hL] at HRN HZN
          have HLL := Lib.hid hL
          have HMM := Lib.hid hm
          obtain ⟨so, hso⟩ : ∃ so, so = wr.heap.size := ⟨_, rfl⟩
          obtain ⟨wo, hwo⟩ : ∃ wo, wo = wr.setCell ⟨w4.heap.size, 0, none⟩ (.int .i64 t) := ⟨_, rfl⟩
          have hsso : wo.heap.size = so := by rw [hwo, hso]; simp [World.setCell]
          have hgs : wr.grownBy wo (some w4.heap.size) := by rw [hwo]; exact ⟨rfl, rfl, rfl, by simp [World.setCell], fun q _ hne => Below.heap_setCell wr ⟨w4.heap.size, 0, none⟩ _ q (fun e => hne (by rw [e]))⟩
          have HBo : Hid (wo.heap[w4.heap.size]? = some (.cells #[.int .i64 t, .slice (some ⟨ga, 0, none⟩) n c4] 26 (0, 0))) := by rw [hwo]; exact box_set HBT.out
          have HOo : Hid (OwnS wo w2.heap.size so (some ⟨ga, 0, none⟩) n c4 (turnR now ss i)) := by
            rw [hso]
            refine ⟨HO.out.1, fun hn0 => ?_⟩
            obtain ⟨g', vs, e, hg2, hrow, hj, hd⟩ := HO.out.2 hn0
            refine ⟨g', vs, e, hg2, hrow.kept hgs (.inr (fun e2 => row_ne_blk hrow HBT.out (by decide) e2)), fun j hjn => ?_, hd⟩
            obtain ⟨A', c', hv, hTj⟩ := hj j hjn
            exact ⟨A', c', hv, hTj.1, hTj.2.1.kept hgs (.inr (fun e2 => row_ne_blk hTj.2.1 HBT.out (by decide) e2)), hTj.2.2⟩
          have HIo : Hid (OwnI wo w2.heap.size A7 qn c7 (turnZ now ss i)) := HI.out.grown hgs (.inr (fun e2 => row_ne_blk HI.out.2 HBT.out (by decide) e2))
          have hbo : Below w2.heap.size w2 wo := by rw [hwo]; exact hbr.setCell (p := ⟨w4.heap.size, 0, none⟩) (by show _ ≤ w4.heap.size; omega) _
          have hlso : w4.heap.size < so := by omega
          have HZ0 : Hid (turnZ now ss i ++ toldL t (L.take 0) = turnZ now ss i) := by show _ = _; simp [toldL]
          have HSO := Lib.hid hso
          have HT1 := Lib.hid ht
          clear hL hm hk ht htn hT hso hgs hbx
          go_wp2_with (go_at_call 42; refine (specSpokeOf_any _ _).mono ?_; rintro e w' ⟨rfl, rfl⟩; rw [HSK.out])
          rw [← hwo]
          clear hwo
          go_loopw [7, 10, 11] (fun v7 v10 v11 wq => ∃ (j r q5 : Nat) (A10 : Option Addr) (c10 : Nat) (A5 : Option Addr) (c5 : Nat), v7 = .slice A5 q5 c5 ∧ v10 = .slice A10 r c10 ∧ v11 = .int .i64 j ∧ j ≤ m ∧ r ≤ j ∧ q5 ≤ qn + j ∧ Hid (OwnS wq w2.heap.size so (some ⟨ga, 0, none⟩) n c4 (turnR now ss i)) ∧ Hid (wq.heap[w4.heap.size]? = some (.cells #[.int .i64 t, .slice (some ⟨ga, 0, none⟩) n c4] 26 (0, 0))) ∧ Hid (OwnI wq w2.heap.size A5 q5 c5 (turnZ now ss i ++ toldL t (L.take j))) ∧ Hid (OwnT wq so wq.heap.size A10 r c10 (stayL t (L.take j))) ∧ Below w2.heap.size w2 wq ∧ so ≤ wq.heap.size) (fun _ _ v11 _ => m - (intOf v11).toNat)
          case atStart =>
            refine ⟨0, 0, qn, _, 0, A7, c7, rfl, rfl, rfl, Nat.zero_le _, Nat.le_refl _, Nat.le_refl _, HOo.out.below (below_a1 _ _), ?_, ?_, ⟨rfl, ?_, fun p e => ?_⟩, hbo.alloc (by omega) _, by simp; omega⟩
            · exact (Below.heap_alloc _ _ _ (by omega)).trans HBo.out
            · rw [HZ0.out]
              exact HIo.out.alloc _
            · have h5 := World.ownsRow_lit (base := so) (e := 68) (size := 2) wo #[] 0 (by omega) (Nat.zero_le _) rfl
              rw [hsso, HSO.out] at h5
              rw [HSO.out]
              exact h5
            · injection e with e
              subst e
              have h5 := HSO.out
              simp
              omega
          case round =>
            obtain ⟨j, r, q5, A10, c10, A5, c5, rfl, rfl, rfl, hj, hrj, hq5, HOq, HBq, HIq, HTq, hbq, hsq⟩ := hrel
            obtain ⟨A2, c2, hcl, hfz, hT2⟩ := HOq.out.cell hkn
            rw [← HLL.out, ← HMM.out] at hcl
            rw [← HLL.out, ← HMM.out] at hT2
            obtain ⟨p0, p1, pf0, pf1⟩ := blk2 HBq.out
            have hl4 : w4.heap.size < wr.heap.size := by omega
            have hlga : ga < wr.heap.size := by have := HOq.out.at_ (by omega); obtain ⟨g', e, _, h5⟩ := this; injection e with e; injection e with e; omega
            by_cases hlt2 : j < m
            · obtain ⟨b2, off2, z, y, rfl, hbB2, hz, hd1', hd2'⟩ := hT2.reads.at_ hlt2
              have hjl : j < L.length := by rw [← HMM.out]; exact hlt2
              have HZt := Lib.hid (told_snoc t L j hjl hz)
              have HZs : Hid (stayL t (L.take (j + 1)) = if y == t then stayL t (L.take j) else stayL t (L.take j) ++ [(z, y)]) := by
                show _ = _
                unfold stayL
                rw [filt_snoc _ L j hjl, hz]
                cases (y == t) <;> rfl
              have hb2r : b2 < wr.heap.size := by omega
              clear hz hT2
              go_wp2_with fail
              go_quiet (fail)
              obtain ⟨wc, hwc⟩ : ∃ wc, wc = wr.drewN nq := ⟨_, rfl⟩
              rw [← hwc]
              have hbc : Below wr.heap.size wr wc := by rw [hwc]; exact Ints.below_drewN (Below.refl _ _) nq
              have hsc := hbc.size
              have k0 := below_keep hbc p0
              have k1 := below_keep hbc p1
              have k2 := below_keep hbc hcl
              have k3 := below_keep hbc hd1'
              have k4 := below_keep hbc hd2'
              have HOc := Lib.hid (HOq.out.below hbc)
              have HBc : Hid (wc.heap[w4.heap.size]? = some (.cells #[.int .i64 t, .slice (some ⟨ga, 0, none⟩) n c4] 26 (0, 0))) := (hbc.block _ hl4).trans HBq.out
              have HIc := Lib.hid (HIq.out.below hbc)
              have HTc := Lib.hid ((HTq.out.below hbc).more hsc)
              have hbc2 : Below w2.heap.size w2 wc := hbq.trans (hbc.mono (by omega))
              have hl4c : w4.heap.size < wc.heap.size := by omega
              have hlgac : ga < wc.heap.size := by omega
              have hb2c : b2 < wc.heap.size := by omega
              clear hwc hbc p0 p1 hcl hd1' hd2' hfz
              cases he : (y == t)
              · have HTN : Hid (turnZ now ss i ++ toldL t (L.take (j + 1)) = turnZ now ss i ++ toldL t (L.take j)) := by show _ = _; rw [HZt.out, he]; rfl
                have HSN : Hid (stayL t (L.take (j + 1)) = stayL t (L.take j) ++ [(z, y)]) := by show _ = _; rw [HZs.out, he]; rfl
                go_wp2_with (at_builtin; refine wpList_append_lies _ rfl (.tmp 77) (.tmp 86) _ rfl so 68 i8 _ 2 16 Try.underlying66 hi8 hy0 hy1 hy2 rfl (by omega) (.slice A10 r c10) r _ rfl (by exact own_below HTc.out.2.1 (below_a1 _ _)) ⟨wc.heap.size, 0, none⟩ 1 1 [.int .i64 z, .int .i64 y] rfl rfl ?o2 ?o3 (by omega) ?o4 ?o5 ?o6 (wc.heap.size + 1) ?o7 ?_)
                case o2 => exact World.news_of_block (cs := #[.int .i64 z, .int .i64 y]) (heap_alloc_new wc _)
                case o3 => intro u hu; simp at hu; rcases hu with rfl | rfl <;> rfl
                case o4 => unfold maxLen; omega
                case o5 => omega
                case o6 => simp; omega
                case o7 => simp
                intro g2 cap2 w5 hown2 hgr2 hat2 hlt3
                have hsz5 := hgr2.size
                rw [World.size_alloc] at hsz5
                have hhi : ∀ q, (Value.slice A10 r c10).ownBlock = some q → so ≤ q := fun q hq => (HTc.out.blk q hq).1
                have HN1' : Hid (OwnT w5 so w5.heap.size (some ⟨g2, 0, none⟩) (r + 1) cap2 (stayL t (L.take (j + 1)))) := by
                  refine ⟨by rw [HSN.out, List.length_append, HTc.out.1]; rfl, by rw [HSN.out, flat_app]; exact hown2, fun p e => ?_⟩
                  injection e with e
                  subst e
                  exact hlt3
                have HO5' := Lib.hid (OwnS.high (HOc.out.below (below_a1 _ _)) hgr2 hhi)
                have HI5' : Hid (OwnI w5 w2.heap.size A5 q5 c5 (turnZ now ss i ++ toldL t (L.take (j + 1)))) := by
                  rw [HTN.out]
                  have h7 := HIc.out.alloc (.cells #[.int .i64 z, .int .i64 y] 68)
                  exact h7.grown hgr2 (row_apart h7.2 (own_below HTc.out.2.1 (below_a1 wc (.cells #[.int .i64 z, .int .i64 y] 68))) (by decide))
                have HB5' : Hid (w5.heap[w4.heap.size]? = some (.cells #[.int .i64 t, .slice (some ⟨ga, 0, none⟩) n c4] 26 (0, 0))) := (hgr2.block _ (by simp; omega) (fun e => by have := hhi _ e.symm; omega)).trans ((Below.heap_alloc _ _ _ hl4c).trans HBc.out)
                have hb5 : Below w2.heap.size w2 w5 := (hbc2.alloc (by omega) _).grown hgr2 (by simp; omega) (fun q hq => by have := hhi q hq; omega)
                clear hown2 hgr2 hat2
                go_wp2_with fail
                go_roundw
                case rel => exact ⟨j + 1, r + 1, q5, _, cap2, A5, c5, rfl, rfl, by go_num, by omega, by omega, by omega, HO5', HB5', HI5', HN1', hb5, by omega⟩
                case measure => simp [intOf]; omega
              · have HTN : Hid (turnZ now ss i ++ toldL t (L.take (j + 1)) = (turnZ now ss i ++ toldL t (L.take j)) ++ [z]) := by show _ = _; rw [HZt.out, he, if_pos rfl, List.append_assoc]
                have HSN : Hid (stayL t (L.take (j + 1)) = stayL t (L.take j)) := by show _ = _; rw [HZs.out, he]; rfl
                obtain ⟨ZZ, hZZ⟩ : ∃ ZZ, ZZ = turnZ now ss i ++ toldL t (L.take j) := ⟨_, rfl⟩
                rw [← hZZ] at HIc HIq HTN
                clear hZZ
                go_wp2_with (at_builtin; refine wpList_append_own _ rfl (.tmp 65) (.tmp 75) _ rfl w2.heap.size 3 iI _ 1 8 Try.underlying30 hiI hI0 hI1 hI2 rfl (by omega) (.slice A5 q5 c5) q5 (ZZ.map (Value.int .i64)) rfl ?o1 ⟨wc.heap.size, 0, none⟩ 1 1 [.int .i64 z] rfl rfl ?o2 ?o3 ?o4 ?o5 ?o6 ?_)
                case o1 => exact (HIc.out.alloc _).2
                case o2 => exact lit_news (by simp [go_sem])
                case o3 => intro u hu; simp at hu; subst hu; rfl
                case o4 => unfold maxLen; omega
                case o5 => omega
                case o6 => simp; omega
                intro v2 w5 hown2 hgr2 _
                obtain ⟨A6, c6, rfl, hI6⟩ := OwnI.of_append (zs := ZZ) HIq.out.1 hown2
                have hsz5 := hgr2.size
                rw [World.size_alloc] at hsz5
                have hlo5 : ∀ q, (Value.slice A5 q5 c5).ownBlock = some q → w2.heap.size ≤ q := fun q hq => (HIc.out.lt q hq).1
                have HI6 : Hid (OwnI w5 w2.heap.size A6 (q5 + 1) c6 (turnZ now ss i ++ toldL t (L.take (j + 1)))) := by rw [HTN.out]; exact hI6
                have HO5' := Lib.hid (OwnS.ints (HOc.out.below (below_a1 wc (.cells #[.int .i64 z] 3))) (HIc.out.alloc _).2 hgr2)
                have HT5' : Hid (OwnT w5 so w5.heap.size A10 r c10 (stayL t (L.take (j + 1)))) := by
                  rw [HSN.out]
                  have h5 := HTc.out.below (below_a1 wc (.cells #[.int .i64 z] 3))
                  exact OwnT.more ⟨h5.1, h5.2.1.kept hgr2 (row_apart h5.2.1 (HIc.out.alloc _).2 (by decide)), h5.2.2⟩ (by omega)
                have HB5' : Hid (w5.heap[w4.heap.size]? = some (.cells #[.int .i64 t, .slice (some ⟨ga, 0, none⟩) n c4] 26 (0, 0))) := by
                  have h5 := (Below.heap_alloc wc (.cells #[.int .i64 z] 3) _ hl4c).trans HBc.out
                  exact (hgr2.block _ (by simp; omega) (fun e => row_ne_blk (HIc.out.alloc _).2 h5 (by decide) e.symm)).trans h5
                have hb5 : Below w2.heap.size w2 w5 := (hbc2.alloc (by omega) _).grown hgr2 (by simp; omega) hlo5
                clear hown2 hgr2 hI6
                go_wp2_with fail
                go_roundw
                case rel => exact ⟨j + 1, r, q5 + 1, A10, c10, A6, c6, rfl, rfl, by go_num, by omega, by omega, by omega, HO5', HB5', HI6, HT5', hb5, by omega⟩
                case measure => simp [intOf]; omega
            · have HJ : Hid (L.take j = L) := List.take_of_length_le (by rw [← HMM.out]; omega)
              have HT6 : Hid (OwnT wr so wr.heap.size A10 r c10 (stayL t L)) := by have h5 := HTq.out; rw [HJ.out] at h5; exact h5
              have HI6 : Hid (OwnI wr w2.heap.size A5 q5 c5 (turnZ now ss (i + 1))) := by have h5 := HIq.out; rw [HJ.out, ← HZN.out] at h5; exact h5
              have HP := Lib.hid (HOq.out.put hkn (HT6.out.base (lo' := w2.heap.size) (by omega)) (fun p e => (HT6.out.blk p.block (by rw [e]; rfl)).1) hsq)
              rw [← HRN.out] at HP
              have hwg : w4.heap.size ≠ ga := by omega
              go_wp2_with fail
              go_roundw
              case rel =>
                have h5 : (wr.setCell ⟨ga, k, none⟩ (.slice A10 r c10)).heap.size = wr.heap.size := by simp [World.setCell]
                have h6 : now + ((i + 1 : Nat) : Int) = t := by have h8 := HTT.out; have h9 := HT1.out; omega
                refine ⟨i + 1, q5, A5, c5, rfl, by go_num, by omega, by rw [h5]; exact HP, ?_, ?_, hbq.setCell (p := ⟨ga, k, none⟩) hga1 _, by rw [h5]; omega⟩
                · rw [h6]
                  exact (Below.heap_setCell wr ⟨ga, k, none⟩ _ w4.heap.size hwg).trans HBq.out
                · refine HI6.out.grown (row := some ga) ⟨rfl, rfl, rfl, by simp [World.setCell], fun q _ hne => Below.heap_setCell wr ⟨ga, k, none⟩ _ q (fun e => hne (by rw [e]))⟩ ?_
                  obtain ⟨g', vs, e, _, hrow, _⟩ := HOq.out.2 (by omega)
                  have h7 := row_apart HI6.out.2 hrow (by decide)
                  rw [show (Value.slice (some (⟨ga, 0, none⟩ : Addr)) n c4).ownBlock = some ga from rfl] at h7
                  exact h7
              case measure => simp [intOf]; omega
        · have HI0 : Hid (i = N) := (by omega : i = N)
          have hTb0 : ¬ (i : Int) < b ∨ ¬ T < 1000000000 := by have h1 := HN1.out; have h2 := HI0.out; omega
          clear hT hbx
          have HRL : Hid ((turnR now ss i).length = n) := (turnR_len now ss i).trans HL.out
          obtain ⟨r0, r1, rf0, rf1⟩ := blk2 ((hb1r.block (w.heap.size + 1) (by omega)).trans HX2.out)
          have hl1 : w.heap.size + 1 < wr.heap.size := by omega
          have hb0r : Below w.heap.size w wr := hb01.trans (hb1r.mono (by omega))
          have HQ : Hid ((turnZ now ss i).length = qn) := HI.out.1
          have fin : Turn False w now ss b (.returned (.tuple #[.agg #[.int .i64 T, .slice (some ⟨ga, 0, none⟩) n c4], .slice A7 qn c7])) ((wr.setCell ⟨w.heap.size + 1, 0, none⟩ (.int .i64 T)).setCell ⟨w.heap.size + 1, 1, none⟩ (.slice (some ⟨ga, 0, none⟩) n c4)) := by
            refine Turn.yes HV.out ?_
            have h5 := ansT_end (now := T) (zs := turnZ now ss i) (A1 := A7) (c1 := c7) (b := w.heap.size + 1) (lo := w2.heap.size) (lo' := w2.heap.size) (P := False) (ss := turnR now ss i) (by rw [HRL.out]; exact HO.out) (by rw [HQ.out]; exact HI.out) (fun h => h.elim) hb0r (by omega) (by omega) (by omega) (by omega) (by omega)
            rw [HRL.out, HQ.out] at h5
            rw [← HN.out, ← HI0.out, ← HTT.out]
            exact h5
          have FIN := Lib.hid fin
          clear fin
          by_cases hib : (i : Int) < b
          · have hd1 : decide ((i : Int) < b) = true := decide_eq_true hib
            have hTb : ¬ T < 1000000000 := hTb0.resolve_left (fun h => h hib)
            have hd2 : decide (T < 1000000000) = false := decide_eq_false hTb
            go_wp2_with fail
            exact bodyPost_ret (v := .tuple #[.agg #[.int .i64 T, .slice (some ⟨ga, 0, none⟩) n c4], .slice A7 qn c7]) (by simp [results, Try.results35, go_sem, r0, r1]) rfl FIN.out
          · have hd1 : decide ((i : Int) < b) = false := decide_eq_false hib
            go_wp2_with fail
            exact bodyPost_ret (v := .tuple #[.agg #[.int .i64 T, .slice (some ⟨ga, 0, none⟩) n c4], .slice A7 qn c7]) (by simp [results, Try.results35, go_sem, r0, r1]) rfl FIN.out
end Go.Proofs.Ythaecnemalpliaa.WheelOk
