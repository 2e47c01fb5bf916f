/-
  LISTS OF RECORDS AS ARGUMENTS: the contracts of the laws' toRecordS and szRecordS over this seat's translation; how such a list comes in.
-/
import Derived.Test.YtpghccbknlokcaaRecsTy
import Derived.Lib.SmallJoins
import Derived.Deep.Slices
namespace Go.Proofs.Ytpghccbknlokcaa.RecsTy
open Go.ChangeShapes Go.WideShapes Go.ChangeAt Go.RowKit Go.Joins Go.Deep
open Go.Proofs.Ytpghccbknlokcaa.LK Go.Proofs.Ytpghccbknlokcaa.Ints Go.Proofs.Ytpghccbknlokcaa.Has Go.Proofs.Ytpghccbknlokcaa.Rec
set_option linter.unusedVariables false
set_option linter.unusedSimpArgs false

theorem flatH_set2 (hs : List Hd) (j : Nat) (kd : Int) (A1 : Option Addr) (m1 c1 : Nat) (h : j < hs.length) : ((flatH hs).set (j * 2) (.int .i64 kd)).set (j * 2 + 1) (.slice A1 m1 c1) = flatH (hs.set j (kd, A1, m1, c1)) := by
  induction hs generalizing j with
  | nil => simp at h
  | cons a l ih =>
    cases j with
    | zero => rfl
    | succ j =>
      have h' : j < l.length := by simpa using h
      have e : (j + 1) * 2 = j * 2 + 1 + 1 := by omega
      rw [e]
      simpa [flatH] using ih j h'
theorem ownH_setR {w0 w : World} {base g n c : Nat} {hs : List Hd} {rs : RList} {kd : Int} {A1 : Option Addr} {m1 c1 : Nat} {zs : List Int} (h : OwnRsH w0 base (some ⟨g, 0, none⟩) n c hs rs) (hb : Below w0.heap.size w0 w) (hO : OwnI w w0.heap.size A1 m1 c1 zs) (hbase : base ≤ w0.heap.size) (j : Nat) (hj : j < n) :
    OwnRsH ((w.setCell ⟨g, j * 2, none⟩ (.int .i64 kd)).setCell ⟨g, j * 2 + 1, none⟩ (.slice A1 m1 c1)) base (some ⟨g, 0, none⟩) n c (hs.set j (kd, A1, m1, c1)) (rs.set j (kd, zs)) := by
  obtain ⟨hl, hr, hrow, hjj, hd⟩ := h.below hb
  obtain ⟨_, _, _, hj0, _⟩ := h
  obtain ⟨hs1, hs2⟩ := hrow.stored (j * 2) (.int .i64 kd)
  obtain ⟨hs3, hs4⟩ := hs1.stored (j * 2 + 1) (.slice A1 m1 c1)
  have hk : ∀ {A2 : Option Addr} {n2 c2 : Nat} {ys : List Int}, OwnI w base A2 n2 c2 ys → OwnI ((w.setCell ⟨g, j * 2, none⟩ (.int .i64 kd)).setCell ⟨g, j * 2 + 1, none⟩ (.slice A1 m1 c1)) base A2 n2 c2 ys := fun hq => by
    have h5 := hq.grown hs2 (row_ne hq.2 hrow (by decide))
    exact h5.grown hs4 (row_ne h5.2 hs1 (by decide))
  refine ⟨by simp [hl], by simp [hr], ?_, fun i hi => ?_, fun i i' hi hi' hne q hq => ?_⟩
  · rw [← flatH_set2 hs j kd A1 m1 c1 (by omega)]
    exact hs3
  · by_cases e : i = j
    · subst e
      rw [Rec.getD_set_eq _ _ _ _ (by omega), Rec.getD_set_eq _ _ _ _ (by omega)]
      exact ⟨rfl, hk (ownI_base hO hbase)⟩
    · rw [Rec.getD_set_ne _ _ _ _ _ e, Rec.getD_set_ne _ _ _ _ _ e]
      exact ⟨(hjj i hi).1, hk (hjj i hi).2⟩
  · by_cases e : i = j
    · subst e
      rw [Rec.getD_set_eq _ _ _ _ (by omega)] at hq
      rw [Rec.getD_set_ne _ _ _ _ _ (Ne.symm hne)]
      intro e2
      have h5 := (hO.lt q hq).1
      have h6 := ((hj0 i' hi').2.lt q e2).2
      omega
    · rw [Rec.getD_set_ne _ _ _ _ _ e] at hq
      by_cases e' : i' = j
      · subst e'
        rw [Rec.getD_set_eq _ _ _ _ (by omega)]
        intro e2
        have h5 := (hO.lt q e2).1
        have h6 := ((hj0 i hi).2.lt q hq).2
        omega
      · rw [Rec.getD_set_ne _ _ _ _ _ e']
        exact hd i i' hi hi' hne q hq
def partR (rs : RList) (k : Nat) : RList := rs.take k ++ List.replicate (rs.length - k) (0, [])
theorem partR_len (rs : RList) (k : Nat) (h : k ≤ rs.length) : (partR rs k).length = rs.length := by simp [partR]; omega
theorem partR_set (rs : RList) (k : Nat) (h : k < rs.length) : (partR rs k).set k (rs.getD k (0, [])) = partR rs (k + 1) := by
  unfold partR
  rw [List.set_append_right _ _ (by simp; omega)]
  have e : k - (rs.take k).length = 0 := by simp; omega
  have e2 : rs.length - k = (rs.length - (k + 1)) + 1 := by omega
  have e3 : rs.getD k (0, []) = rs[k] := by simp [List.getD, h]
  rw [e, e2, List.replicate_succ, List.set_cons_zero, List.take_succ_eq_append_getElem h, e3, List.append_assoc]
  rfl
theorem partR_zero (rs : RList) : partR rs 0 = List.replicate rs.length (0, []) := by simp [partR]
theorem partR_all (rs : RList) : partR rs rs.length = rs := by simp [partR]
theorem made_flatH (n : Nat) : (madeCells (Value.agg #[.int .i64 0, .slice none 0 0]).cells (n * 2)).toList = flatH (List.replicate n hd0) := by
  apply List.ext_getElem?
  intro j
  have hc : (Value.agg #[.int .i64 0, .slice none 0 0]).cells = #[.int .i64 0, .slice none 0 0] := rfl
  rw [hc]
  have hl : (flatH (List.replicate n hd0)).length = n * 2 := by rw [flatH_len]; simp
  by_cases hj : j < n * 2
  · have hh : j / 2 < n := by omega
    have hf := flatH_at (List.replicate n hd0) (j / 2) (by simpa using hh)
    have hg : (List.replicate n hd0).getD (j / 2) hd0 = hd0 := by simp [List.getD, hh]
    rw [hg] at hf
    rcases (by omega : j % 2 = 0 ∨ j % 2 = 1) with h0 | h0
    · have he : j / 2 * 2 = j := by omega
      rw [he] at hf
      rw [hf.1]
      simp [madeCells, hj, h0, hd0]
    · have he : j / 2 * 2 + 1 = j := by omega
      rw [he] at hf
      rw [hf.2]
      simp [madeCells, hj, h0, hd0, hdV]
  · rw [List.getElem?_eq_none (l := flatH _) (by omega), List.getElem?_eq_none]
    simp [madeCells]; omega
theorem infoR : (Try.prog.info? 68).map (fun i => (i.zero, i.size, i.bytes)) = some (some (.agg #[.int .i64 0, .slice none 0 0]), 2, 32) := by kernel_rfl
theorem own_zeros {w : World} {base g n : Nat} (h : w.ownsRow base 68 2 (.slice (some ⟨g, 0, none⟩) n n) n (flatH (List.replicate n hd0))) : OwnRsH w base (some ⟨g, 0, none⟩) n n (List.replicate n hd0) (List.replicate n (0, [])) := by
  have e : ∀ i, (List.replicate n hd0).getD i hd0 = hd0 := fun i => by simp [List.getD, List.getElem?_replicate]; split <;> rfl
  have e2 : ∀ i, (List.replicate n ((0 : Int), ([] : List Int))).getD i (0, []) = (0, []) := fun i => by simp [List.getD, List.getElem?_replicate]; split <;> rfl
  refine ⟨by simp, by simp, h, fun j hj => ?_, fun i j hi hj hne q hq => ?_⟩
  · rw [e, e2]
    exact ⟨rfl, rfl, World.ownsRow_nil _ _ _ _⟩
  · rw [e] at hq
    cases hq
set_option maxHeartbeats 1600000 in
theorem toRecordS_own (A : Option Addr) (n cap : Nat) (rs : RList) (B : Nat) (w : World) (hr : IsRecs w B A n rs) (hB : B ≤ w.heap.size) (hn : n ≤ 1048576) (hm : ∀ j, (rs.getD j (0, [])).2.length ≤ 1048576) :
    Calls Try.prog 40 #[.slice A n cap] w fun e w' => ∃ g, e = .returned (.slice (some ⟨g, 0, none⟩) n n) ∧ OwnRs w' w.heap.size (some ⟨g, 0, none⟩) n n rs ∧ Below w.heap.size w w' := by
  obtain ⟨i0, hi, hz0, hz1, hz2⟩ := info_parts infoR
  have HLen : Hid (rs.length = n) := hr.1
  have HM := Lib.hid hm
  clear hm
  go_enter Try.func40, Try.ntmps40
  go_wp2_with (at_make; refine wpList_make_full _ rfl _ _ 78 rfl w.heap.size 68 i0 (.agg #[.int .i64 0, .slice none 0 0]) 2 Try.underlying78 hi hz0 hz1 _ _ _ _ n rfl rfl rfl rfl ?b1 ?b2 ?b3 ?_)
  case b1 => rw [hz2]; omega
  case b2 => unfold maxLen; omega
  case b3 => exact Nat.le_refl _
  intro w1 hown hgrow
  have hbel : Below w.heap.size w w1 := (Below.refl _ _).grown hgrow (Nat.le_refl _) (by intro k h; cases h)
  have hown0 : OwnRs w1 w.heap.size (some ⟨w.heap.size, 0, none⟩) n n (partR rs 0) := by
    refine ⟨List.replicate n hd0, ?_⟩
    rw [partR_zero, HLen.out]
    exact own_zeros (by rw [← made_flatH]; exact hown)
  have hsz : w.heap.size < w1.heap.size := Ints.own_lt hown
  clear hgrow hi hz0 hz1 hz2 hown
  go_wp2_with fail
  go_loopw [4] (fun i wr => ∃ k : Nat, k ≤ n ∧ i = .int .i64 k ∧ Hid (OwnRs wr w.heap.size (some ⟨w.heap.size, 0, none⟩) n n (partR rs k)) ∧ Below w.heap.size w wr ∧ w.heap.size < wr.heap.size) (fun i _ => n - (intOf i).toNat)
  case atStart => exact ⟨0, Nat.zero_le _, rfl, hown0, hbel, hsz⟩
  case round =>
    obtain ⟨k, hk, rfl, HO, hbr, hszr⟩ := hrel
    by_cases hlt : k < n
    · obtain ⟨b, off, A', c', kd, zs, rfl, hbB, hz, hc1, hc2, hI⟩ := (hr.below hbr hB).at_ hlt
      have hzl : zs.length ≤ 1048576 := by have h5 := HM.out k; rw [← hz] at h5; exact h5
      have HZ := Lib.hid hz
      have HI := Lib.hid hI
      obtain ⟨m, hm⟩ : ∃ m, m = zs.length := ⟨_, rfl⟩
      rw [← hm] at hc2 hzl HI
      have HMM := Lib.hid hm
      clear hz hI hm
      go_wp2_with fail
      refine (toRecord_any kd A' m c' zs B wr HI.out (Nat.le_trans hB hbr.size) hzl).mono ?_
      rintro e w2 ⟨A1, c1, rfl, hO1, hb2⟩
      rw [← HMM.out] at hO1 ⊢
      obtain ⟨hs, hH⟩ := HO.out
      have hH2 := hH.below hb2
      have hu0 : ∃ u, w2.cell? ⟨w.heap.size, k * 2, none⟩ = some u := ⟨_, (hH2.2.2.1.cellAt (k * 2) (by omega)).trans (flatH_at hs k (by rw [hH.1]; exact hlt)).1⟩
      have hu1 : ∃ u, w2.cell? ⟨w.heap.size, k * 2 + 1, none⟩ = some u := ⟨_, (hH2.2.2.1.cellAt (k * 2 + 1) (by omega)).trans (flatH_at hs k (by rw [hH.1]; exact hlt)).2⟩
      obtain ⟨u0, hu0⟩ := hu0
      obtain ⟨u1, hu1⟩ := hu1
      have hf0 := hH2.2.2.1.frozenAt (k * 2)
      have hf1 := hH2.2.2.1.frozenAt (k * 2 + 1)
      have HNX := Lib.hid (ownH_setR (kd := kd) hH hb2 hO1 hbr.size k hlt)
      have hbr2 : Below w.heap.size w w2 := hbr.trans (hb2.mono hbr.size)
      have hszr2 : w.heap.size < w2.heap.size := Nat.lt_of_lt_of_le hszr hb2.size
      clear hH hH2 hO1 hb2
      go_wp2
      go_roundw
      case rel =>
        refine ⟨k + 1, by omega, by go_num, ?_, (hbr2.setCell (p := ⟨w.heap.size, k * 2, none⟩) (Nat.le_refl _) _).setCell (p := ⟨w.heap.size, k * 2 + 1, none⟩) (Nat.le_refl _) _, by simpa [World.setCell] using hszr2⟩
        have h1 := HNX.out
        rw [HZ.out, partR_set rs k (by rw [HLen.out]; omega)] at h1
        exact ⟨_, h1⟩
      case measure => simp [intOf]; omega
    · have hkn : k = n := by omega
      have HK := Lib.hid hkn
      clear hkn
      go_wp2
      go_ret
      have hl := HLen.out
      refine ⟨w.heap.size, rfl, ?_, hbr⟩
      have h1 := HO.out
      rw [HK.out, ← hl, partR_all] at h1
      rw [← hl]
      exact h1
theorem toRecordS_any : ToC 40 sty := by
  intro w B v (rs : RList)
  rintro ⟨A, c, rfl, h1⟩ hB hf
  have hf : cntR rs ≤ 1048576 := hf
  refine (toRecordS_own A rs.length c rs B w h1 hB (by have := cnt_len rs; omega) (fun j => by have := cnt_at rs j; omega)).mono ?_
  rintro e w' ⟨g, rfl, hO, hb⟩
  exact ⟨_, _, rfl, has_of hb hO (Nat.le_refl _), hb⟩
theorem cnt_take_le (rs : RList) (j : Nat) : cntR (rs.take j) ≤ cntR rs := by
  have h := cntR_app (rs.take j) (rs.drop j)
  rw [List.take_append_drop] at h
  omega
theorem cnt_step (rs : RList) (j : Nat) (h : j < rs.length) : cntR (rs.take (j + 1)) = cntR (rs.take j) + 1 + (rs.getD j (0, [])).2.length := by
  rw [List.take_succ_eq_append_getElem h, cntR_app]
  simp [cntR, List.getD, h]; omega
set_option maxHeartbeats 1600000 in
theorem szRecordS_any (A : Option Addr) (c : Nat) (rs : RList) (w : World) (hr : IsRecs w w.heap.size A rs.length rs) (hn : rs.length ≤ maxLen) (hm : ∀ j, (rs.getD j (0, [])).2.length ≤ maxLen) : SzC 38 sty (.slice A rs.length c) rs w := by
  intro W k hW hk0 hk1
  have HR := Lib.hid hr
  have HM := Lib.hid hm
  have HL : Hid (rs.length = rs.length) := rfl
  obtain ⟨n, hn2⟩ : ∃ n, n = rs.length := ⟨_, rfl⟩
  have HN := Lib.hid hn2
  rw [← hn2] at HR hn ⊢
  have hm9 : (n : Int) ≤ 9223372036854775807 := by unfold maxLen at hn; omega
  clear hr hm hn2 HL
  by_cases h : k < n
  · have hd : decide (k - (n : Int) < 0) = true := by simp; omega
    go_enter Try.func38, Try.ntmps38
    go_wp2
    go_ret
    exact ⟨-1, rfl, Below.refl _ _, .inl rfl⟩
  · have hd : decide (k - (n : Int) < 0) = false := by simp; omega
    go_enter Try.func38, Try.ntmps38
    go_wp2_with fail
    go_loopw [1, 5] (fun l i wr => ∃ (j : Nat) (x : Int), j ≤ n ∧ l = .int .i64 x ∧ i = .int .i64 j ∧ Hid (x + (cntR (rs.take j) : Int) = k - n + j) ∧ 0 ≤ x ∧ x ≤ 1048576 ∧ Hid (Below W.heap.size W wr)) (fun _ i _ => n - (intOf i).toNat)
    case atStart => exact ⟨0, k - n, Nat.zero_le _, rfl, rfl, by show _ = _; simp [cntR], by omega, by omega, Below.refl _ _⟩
    case round =>
      obtain ⟨j, x, hj, rfl, rfl, HX, hx0, hx1, HB⟩ := hrel
      by_cases hlt : j < n
      · have hjl : j < rs.length := by rw [← HN.out]; exact hlt
        have hbb : Below w.heap.size w wr := hW.trans (HB.out.mono hW.size)
        obtain ⟨b, off, A', c', kd, zs, rfl, hbB, hz, hc1, hc2, hI⟩ := (HR.out.below hbb (Nat.le_refl _)).at_ hlt
        have hzl : zs.length ≤ maxLen := by have h5 := HM.out j; rw [← hz] at h5; exact h5
        have HST : Hid (cntR (rs.take (j + 1)) = cntR (rs.take j) + 1 + zs.length) := by show _ = _; rw [cnt_step rs j hjl, ← hz]
        obtain ⟨m, hm⟩ : ∃ m, m = zs.length := ⟨_, rfl⟩
        rw [← hm] at hc2 hzl HST
        clear hz hI hm hbb
        go_wp2_with fail
        refine (szRecord_any kd A' m c' x wr hzl hx0 hx1).mono ?_
        rintro e w2 ⟨r, rfl, hb2, hr2⟩
        have HB2 := Lib.hid (HB.out.trans (hb2.mono HB.out.size))
        rcases hr2 with rfl | ⟨hr0, hr1⟩
        · go_wp2
          go_ret
          exact ⟨-1, rfl, HB2.out, .inl rfl⟩
        · have hdr : decide (r < 0) = false := by simp; omega
          have HR1 := Lib.hid hr1
          have hr3 : r ≤ 1048576 := by omega
          clear hr1 hb2
          go_wp2
          go_roundw
          case rel => exact ⟨j + 1, r, by omega, rfl, by go_num, by have h5 := HST.out; have h6 := HX.out; have h7 := HR1.out; show _ = _; omega, hr0, hr3, HB2⟩
          case measure => simp [intOf]; omega
      · have hjn : j = n := by omega
        have HJ := Lib.hid hjn
        clear hjn
        go_wp2
        go_ret
        refine ⟨x, rfl, HB.out, .inr ⟨hx0, hx1, ?_⟩⟩
        show cntR rs ≤ 1048576
        have h5 := HX.out
        rw [List.take_of_length_le (by have h6 := HJ.out; have h7 := HN.out; omega)] at h5
        have h6 := HJ.out
        omega
section
variable {H : Type} {enc : TypeId × Value → H} {w : World} {base : Nat} {spare : Nat → Bool} {held : Bool}
theorem add_off (b off i : Nat) : (⟨b, off, none⟩ : Addr).add i = ⟨b, off + i, none⟩ := by
  unfold Addr.add
  split
  · subst_vars; rfl
  · rfl
set_option maxRecDepth 100000 in
theorem recs_read {fuel : Nat} {v : Value} {x : DataW H × List MemPlace} (h : DataW.trod enc Try.prog w base spare held fuel 75 [v] = some x) :
    ∃ A n c rs, v = .slice A n c ∧ IsRecs w w.heap.size A n rs ∧ n ≤ maxLen ∧ ∀ j, (rs.getD j (0, [])).2.length ≤ maxLen := by
  rcases open_slice Try.underlying75 h with ⟨hcs, _⟩ | ⟨a, len, cap, m, n, D, Pl, hcs, hb, hl, hm, hmm, hx, hi⟩
  · injection hcs with hcs
    exact ⟨none, 0, 0, [], hcs, ⟨rfl, fun h => absurd h (by omega)⟩, Nat.zero_le _, fun j => by simp⟩
  · injection hcs with hcs
    have hlm : len ≤ m := by rw [hmm]; split <;> omega
    have hcell : ∀ i, i < len → ∃ p : Int × List Int, ∃ A' n' c', w.cell? (a.add (i * 2)) = some (.int .i64 p.1) ∧ w.cell? (a.add (i * 2 + 1)) = some (.slice A' n' c') ∧ IsInts w w.heap.size A' n' p.2 ∧ n' ≤ maxLen := by
      intro i hi'
      obtain ⟨cs', hc, ht'⟩ := hi i (by omega)
      have hC : Try.prog.cellsOf 61 = 2 := by kernel_rfl
      rw [hC] at hc
      obtain ⟨y0, y1, n', hx', hcl, h0, h1⟩ := trod_struct2 Try.underlying61 ht'
      obtain ⟨_, hcl2, hat⟩ := World.cells?_some hc
      match cs', hcl2 with
      | [c0, c1], _ =>
        have k0 : DataW.trod enc Try.prog w base spare held n' 3 [c0] = some y0 := by simpa [show Try.prog.cellsOf 3 = 1 by kernel_rfl] using h0
        have k1 : DataW.trod enc Try.prog w base spare held n' 30 [c1] = some y1 := by simpa [show Try.prog.cellsOf 3 = 1 by kernel_rfl, show Try.prog.cellsOf 30 = 1 by kernel_rfl] using h1
        obtain ⟨x0, e0, _⟩ := DataW.trod_int Try.underlying3 k0
        obtain ⟨A', n2, c', zs, e1, hI, hn2⟩ := ints_read k1
        injection e0 with e0
        subst e0 e1
        refine ⟨(x0, zs), A', n2, c', ?_, ?_, hI, hn2⟩
        · have := hat 0 (by omega)
          simpa [add_add] using this
        · have := hat 1 (by omega)
          simpa [add_add] using this
    obtain ⟨f, hf⟩ := choose_lt hcell
    have hget : ∀ j, j < len → ((List.range len).map f).getD j (0, []) = f j := fun j hj => by simp [List.getD, hj]
    refine ⟨some a, len, cap, (List.range len).map f, hcs, ⟨by simp, fun hp => ?_⟩, by omega, fun j => ?_⟩
    · obtain ⟨b, off, spot⟩ := a
      obtain ⟨_, _, _, h00, _⟩ := hf 0 hp
      have hspot : spot = none := by simpa [Addr.add] using World.cell?_spot h00
      subst hspot
      have hb' : b < w.heap.size := by simpa [Addr.add] using World.block_lt_of_cell? w _ h00
      refine ⟨b, off, rfl, hb', fun j hj => ?_⟩
      rw [hget j hj]
      obtain ⟨A', n', c', h1, h2, h3, _⟩ := hf j hj
      rw [add_off] at h1 h2
      have hl : (f j).2.length = n' := h3.1
      subst hl
      exact ⟨A', c', h1, by rw [Nat.add_assoc]; exact h2, h3⟩
    · by_cases hj : j < len
      · rw [hget j hj]
        obtain ⟨A', n', c', _, _, h3, h4⟩ := hf j hj
        rw [h3.1]; exact h4
      · have : ((List.range len).map f).getD j (0, []) = (0, []) := by simp [List.getD, hj]
        rw [this]
        exact Nat.zero_le _
set_option maxRecDepth 100000 in
theorem open_records {r : Reach} {b0 : Nat} {v : Value} {d : DataW H} {p : List MemPlace} (hv : Value.okWide Try.prog w r b0 75 v) (h : DataW.Trod enc Try.prog w base spare held 75 v d p) :
    ∃ A n c dd, v = .slice A n c ∧ sty.Rd w w.heap.size (.slice A n c) dd ∧ SzC 38 sty (.slice A n c) dd w := by
  obtain ⟨A, n, c, rfl⟩ := okWide_slice Try.underlying75 hv
  obtain ⟨fuel, hf⟩ := h
  have hf : DataW.trod enc Try.prog w base spare held fuel 75 [.slice A n c] = some (d, p) := hf
  obtain ⟨A', n', c', rs, e, h1, h2, h3⟩ := recs_read hf
  injection e with e1 e2 e3
  subst e1 e2 e3
  obtain rfl : rs.length = n := h1.1
  exact ⟨A, _, c, rs, rfl, ⟨A, c, rfl, h1⟩, szRecordS_any A c rs w h1 h2 h3⟩
end
end Go.Proofs.Ytpghccbknlokcaa.RecsTy
