/-
  LISTS OF RECORDS as a kind of data for the walks of exact laws.
-/
import Derived.Test.YtpghccbknlokcaaDoorRecTy
import Derived.Test.YtpghccbknlokcaaDoorRecsMark
import Derived.Deep.OwnRows
namespace Go.Proofs.YtpghccbknlokcaaDoor.RecsTy
open Go.ChangeShapes Go.WideShapes Go.ChangeAt Go.RowKit
open Go.Proofs.YtpghccbknlokcaaDoor.LK Go.Proofs.YtpghccbknlokcaaDoor.Ints Go.Proofs.YtpghccbknlokcaaDoor.Has Go.Proofs.YtpghccbknlokcaaDoor.Rec
open Go.Proofs.YtpghccbknlokcaaDoor.RecTy (ownI_zero ownI_same ownI_ints)
set_option linter.unusedVariables false

/-- How many numbers a list of records holds. -/
def cntR : RList → Nat
  | [] => 0
  | r :: rs => 1 + r.2.length + cntR rs
theorem cntR_app (a b : RList) : cntR (a ++ b) = cntR a + cntR b := by
  induction a with
  | nil => simp [cntR]
  | cons r rs ih => simp only [List.cons_append, cntR, ih]; omega
theorem endR_cnt (rs : RList) : ∀ k, endR k rs = k + (cntR rs : Int) := by
  induction rs with
  | nil => intro k; simp [endR, cntR]
  | cons r rs ih => intro k; simp only [endR, cntR, ih]; omega
theorem cnt_len (rs : RList) : rs.length ≤ cntR rs := by
  induction rs with
  | nil => simp [cntR]
  | cons r rs ih => simp only [List.length_cons, cntR]; omega
theorem cnt_at (rs : RList) : ∀ j, (rs.getD j (0, [])).2.length ≤ cntR rs := by
  induction rs with
  | nil => intro j; simp [cntR]
  | cons r rs ih =>
    intro j
    cases j with
    | zero => simp [cntR]; omega
    | succ j => have := ih j; simp only [cntR]; simp only [List.getD_cons_succ]; omega

theorem row_same {w w' : World} {base : Nat} {e : TypeId} {size n : Nat} {v : Value} {xs : List Value} (h : w.ownsRow base e size v n xs) (hs : ∀ k, v.ownBlock = some k → w'.heap[k]? = w.heap[k]?) : w'.ownsRow base e size v n xs := by
  refine ⟨h.1, ?_⟩
  rcases h.2 with h2 | ⟨g, cap, cur, h3, h4, h5, h6⟩
  · exact .inl h2
  · refine .inr ⟨g, cap, cur, h3, h4, ?_, h6⟩
    rw [hs g (by rw [h3]; rfl)]; exact h5
/-- The row and each one's numbers lie in S. -/
def InS (S : Nat → Prop) (A : Option Addr) (n c : Nat) (hs : List Hd) : Prop := (∀ k, (Value.slice A n c).ownBlock = some k → S k) ∧ ∀ j, j < n → ∀ k, (hdV (hs.getD j hd0)).ownBlock = some k → S k
theorem ownH_same {w w' : World} {base : Nat} {A : Option Addr} {n c : Nat} {hs : List Hd} {rs : RList} {S : Nat → Prop} (h : OwnRsH w base A n c hs rs) (hi : InS S A n c hs) (hk : ∀ k, S k → w'.heap[k]? = w.heap[k]?) : OwnRsH w' base A n c hs rs := by
  obtain ⟨hl, hr, hrow, hj, hd⟩ := h
  exact ⟨hl, hr, row_same hrow (fun k hq => hk k (hi.1 k hq)), fun j hjn => ⟨(hj j hjn).1, ownI_same (hj j hjn).2 (fun k hq => hk k (hi.2 j hjn k hq))⟩, hd⟩
theorem ownH_reads {w : World} {base B : Nat} {A : Option Addr} {n c : Nat} {hs : List Hd} {rs : RList} {S : Nat → Prop} (h : OwnRsH w base A n c hs rs) (hi : InS S A n c hs) (hB : ∀ k, S k → k < B) : IsRecs w B A n rs := by
  obtain ⟨hl, hr, hrow, hj, _⟩ := h
  refine ⟨hr, fun hn => ?_⟩
  obtain ⟨g, cap, hv, _, hlt⟩ := hrow.form hn
  have hA : A = some ⟨g, 0, none⟩ := by injection hv
  subst hA
  refine ⟨g, 0, rfl, hB g (hi.1 g rfl), fun j hjn => ?_⟩
  obtain ⟨e1, hO⟩ := hj j hjn
  have hf := flatH_at hs j (by omega)
  refine ⟨(hs.getD j hd0).2.1, (hs.getD j hd0).2.2.2, ?_, ?_, ?_⟩
  · rw [Nat.zero_add, hrow.cellAt (j * 2) (by omega), hf.1, e1]
  · rw [Nat.zero_add, hrow.cellAt (j * 2 + 1) (by omega), hf.2, hdV, ← hO.1]
  · rw [hO.1]; exact ownI_ints hO (fun k hk => hB k (hi.2 j hjn k hk))
theorem own_in {w : World} {base : Nat} {A : Option Addr} {n c : Nat} {hs : List Hd} {rs : RList} (h : OwnRsH w base A n c hs rs) : InS (fun k => base ≤ k ∧ k < w.heap.size) A n c hs := by
  obtain ⟨hl, hr, hrow, hj, _⟩ := h
  exact ⟨fun k hk => hrow.lt k hk, fun j hjn k hk => (hj j hjn).2.lt k hk⟩
theorem ownH_zero {w : World} {base : Nat} {A : Option Addr} {n c : Nat} {hs : List Hd} {rs : RList} (h : OwnRsH w base A n c hs rs) : OwnRsH w 0 A n c hs rs := by
  obtain ⟨hl, hr, hrow, hj, hd⟩ := h
  exact ⟨hl, hr, own_base hrow (Nat.zero_le _), fun j hjn => ⟨(hj j hjn).1, ownI_base (hj j hjn).2 (Nat.zero_le _)⟩, hd⟩

abbrev SD := RList
def SRd (w : World) (B : Nat) (v : Value) (d : SD) : Prop := ∃ A c, v = .slice A d.length c ∧ IsRecs w B A d.length d
def SOwn (w : World) (S : Nat → Prop) (v : Value) (d : SD) : Prop := ∃ A c hs, v = .slice A d.length c ∧ OwnRsH w 0 A d.length c hs d ∧ InS S A d.length c hs
def sty : Ty where
  D := SD
  Rd := SRd
  Own := SOwn
  Few := fun d => cntR d ≤ 1048576
  cnt := cntR
  mark := marksR
  rd_below := by
    rintro w w' B C v d ⟨A, c, rfl, h1⟩ hb hC
    exact ⟨A, c, rfl, h1.below hb hC⟩
  own_rd := by
    rintro w S v d B ⟨A, c, hs, rfl, h1, s1⟩ hB
    exact ⟨A, c, rfl, ownH_reads h1 s1 hB⟩
  own_same := by
    rintro w w' S v d ⟨A, c, hs, rfl, h1, s1⟩ hk
    exact ⟨A, c, hs, rfl, ownH_same h1 s1 hk, s1⟩
  few_cnt := by intro d h; omega
/-- A list of one's own in new memory. -/
theorem has_of {w w' : World} {lo : Nat} {A : Option Addr} {n c : Nat} {rs : RList} (hb : Below w.heap.size w w') (hO : OwnRs w' lo A n c rs) (hlo : w.heap.size ≤ lo) : Has sty w' w.heap.size w'.heap.size (fun k => lo ≤ k ∧ k < w'.heap.size) (.slice A n c) rs := by
  obtain ⟨hs, h⟩ := hO
  have hl : rs.length = n := h.2.1
  subst hl
  exact ⟨⟨A, c, hs, rfl, ownH_zero h, own_in h⟩, fun k hk => ⟨by omega, hk.2⟩, Nat.le_refl _⟩
theorem eqRecordS_any : EqC 19 sty := by
  intro w B B' v v' (rs : RList)
  rintro ⟨A, c, rfl, h1⟩ ⟨C, e, rfl, h2⟩ hB hB' hf
  have hf : cntR rs ≤ 1048576 := hf
  exact Rec.eqRecordS_same A C rs.length c e rs B B' w h1 h2 hB hB' (by have := cnt_len rs; omega) (fun j => by have := cnt_at rs j; omega)
theorem heldRecordS_any : HeldC 23 sty := by
  intro w B v (rs : RList) k
  rintro ⟨A, c, rfl, h1⟩ hB hf hk0 hk1
  have hf : cntR rs ≤ 1048576 := hf
  have h1 : IsRecs w B A (marksR k rs).length (marksR k rs) := h1
  show Calls Tryd.prog 23 #[.slice A (marksR k rs).length c, .int .i64 k] w (Says (.int .i64 (k + (cntR rs : Int))) w)
  rw [marksR_len] at h1 ⊢
  rw [← endR_cnt]
  refine (Rec.heldRecordS_any A rs.length c rs k B w h1 (by have := cnt_len rs; omega) hk0 (by rw [endR_cnt]; omega) (fun j => by have := cnt_at rs j; omega)).mono ?_
  rintro e w' ⟨rfl, rfl⟩
  exact ⟨rfl, Below.refl _ _⟩

/-- Heads whose rows are the same lie where they lay. -/
theorem InS.of_hd {S : Nat → Prop} {A : Option Addr} {n c : Nat} {hs hs' : List Hd} (h : InS S A n c hs) (he : ∀ j, j < n → hdV (hs'.getD j hd0) = hdV (hs.getD j hd0)) : InS S A n c hs' :=
  ⟨h.1, fun j hj k hk => h.2 j hj k (by rw [← he j hj]; exact hk)⟩
set_option maxHeartbeats 3200000 in
theorem mark_t (A : Option Addr) (n c : Nat) (rs : RList) (k : Int) (S : Nat → Prop) (w : World) (hO : ∃ hs, OwnRsH w 0 A n c hs rs ∧ InS S A n c hs) (hn : n ≤ 1048576) (hk0 : 0 ≤ k) (hk1 : endR k rs ≤ 300000000) (hm : ∀ j, (rs.getD j (0, [])).2.length ≤ 1048576) :
    Calls Tryd.prog 22 #[.slice A n c, .int .i64 k] w fun e w' => e = .returned (.int .i64 (endR k rs)) ∧ (∃ hs, OwnRsH w' 0 A n c hs (marksR k rs) ∧ InS S A n c hs) ∧ Turned S w w' := by
  have HL : Hid (rs.length = n) := by obtain ⟨hs, h, _⟩ := hO; exact h.2.1
  have HO := Lib.hid hO
  have HM := Lib.hid hm
  have HK1 := Lib.hid hk1
  clear hO hm hk1
  go_enter Tryd.func22, Tryd.ntmps22
  go_wp2_with fail
  go_loopw [1, 5] (fun a i wr => ∃ (j : Nat) (x : Int), j ≤ n ∧ a = .int .i64 x ∧ i = .int .i64 j ∧ Hid (x = endR k (rs.take j)) ∧ 0 ≤ x ∧ x ≤ 300000000 ∧ Hid (∃ hs, OwnRsH wr 0 A n c hs ((marksR k rs).take j ++ rs.drop j) ∧ InS S A n c hs) ∧ Hid (Turned S w wr)) (fun _ i _ => n - (intOf i).toNat)
  case atStart => exact ⟨0, k, Nat.zero_le _, rfl, rfl, rfl, hk0, by have := HK1.out; have := endR_le rs k; omega, by simpa using HO, Turned.refl _ _⟩
  case round =>
    obtain ⟨j, x, hj, rfl, rfl, HX, hx0, hx1, HI, HT⟩ := hrel
    by_cases hlt : j < n
    · have hjl : j < rs.length := by rw [HL.out]; exact hlt
      obtain ⟨hs, hH, hIn⟩ := HI.out
      obtain ⟨g, cap, hv, _, hgl⟩ := hH.2.2.1.form (by omega)
      obtain rfl : A = some ⟨g, 0, none⟩ := by injection hv
      have hrow := hH.2.2.1
      obtain ⟨m, hm⟩ : ∃ m, (rs.getD j (0, [])).2.length = m := ⟨_, rfl⟩
      have hmb : m ≤ 1048576 := by rw [← hm]; exact HM.out j
      have hK := hH.setK j hlt x
      rw [cur_at k rs j hjl] at hK
      have hjj := (hK.2.2.2.1 j hlt).2
      rw [getD_set_eq _ _ _ _ (by rw [hH.1]; exact hlt), getD_set_eq _ _ _ _ (by rw [hH.2.1]; exact hlt)] at hjj
      obtain ⟨hd, hhd⟩ : ∃ hd, hd = hs.getD j hd0 := ⟨_, rfl⟩
      obtain ⟨kd, A', m', c'⟩ := hd
      rw [← hhd] at hjj
      have hm' : m' = m := by rw [← hm]; exact hjj.1.symm
      subst hm'
      have hu : ∃ u, wr.cell? ⟨g, j * 2, none⟩ = some u := ⟨_, (hrow.cellAt (j * 2) (by omega)).trans (flatH_at hs j (by rw [hH.1]; exact hlt)).1⟩
      obtain ⟨u, hu⟩ := hu
      have hu1 : (wr.setCell ⟨g, j * 2, none⟩ (.int .i64 x)).cell? ⟨g, j * 2 + 1, none⟩ = some (.slice A' m' c') := by
        rw [World.cell?_setCell_other _ _ _ _ (by simp), hrow.cellAt (j * 2 + 1) (by omega), (flatH_at hs j (by rw [hH.1]; exact hlt)).2, ← hhd]
        rfl
      have hfz := hrow.frozenAt (j * 2)
      have HKK := Lib.hid hK
      have HJJ := Lib.hid hjj
      have HX2 : Hid (x + 1 + (m' : Int) = endR k (rs.take (j + 1))) := by show _ = _; rw [endR_step rs j k hjl, hm, ← HX.out]
      have hle : x + 1 + (m' : Int) ≤ 300000000 := by rw [HX2.out]; exact Int.le_trans (endR_take_le _ _ _) HK1.out
      have HT1 : Hid (Turned S w (wr.setCell ⟨g, j * 2, none⟩ (.int .i64 x))) := HT.out.trans (Turned.set wr ⟨g, j * 2, none⟩ (.int .i64 x) (hIn.1 g rfl))
      have HEQ : Hid ((marksR k rs).getD j (0, []) = (x, marksI (x + 1) m')) := by show _ = _; rw [marksR_at rs j k hjl, hm, ← HX.out]
      have HHD := Lib.hid hhd
      have HSL : Hid (hs.length = n) := hH.1
      have HCL : Hid (((marksR k rs).take j ++ rs.drop j).length = n) := hH.2.1
      have HIN := Lib.hid hIn
      have HSJ : Hid (∀ q, (Value.slice A' m' c').ownBlock = some q → S q) := fun q hq => hIn.2 j hlt q (by rw [← hhd]; exact hq)
      clear hv hK hjj hrow hH hhd hm hIn
      go_wp2_with fail
      refine (markIntS_any A' m' c' _ (x + 1) 0 _ HJJ.out hmb (by omega) (by omega)).mono ?_
      rintro e w2 ⟨rfl, hO2, hg2⟩
      have hfin := HKK.out.markI j hlt (marksI (x + 1) m') (by rw [getD_set_eq _ _ _ _ (by rw [HSL.out]; exact hlt), ← HHD.out]; exact hO2) (by rw [getD_set_eq _ _ _ _ (by rw [HSL.out]; exact hlt), ← HHD.out]; exact hg2)
      rw [getD_set_eq _ _ _ _ (by rw [HCL.out]; exact hlt), List.set_set, ← HEQ.out, mark_step k rs j hjl] at hfin
      have HFIN : Hid (∃ hs, OwnRsH w2 0 (some ⟨g, 0, none⟩) n c hs ((marksR k rs).take (j + 1) ++ rs.drop (j + 1)) ∧ InS S (some ⟨g, 0, none⟩) n c hs) := ⟨_, hfin, HIN.out.of_hd (fun i _ => hdV_set _ _ _ _ (by rw [HSL.out]; exact hlt))⟩
      have HT2 : Hid (Turned S w w2) := HT1.out.trans (Turned.of_grown hg2 HSJ.out)
      clear hO2 hg2 hfin hu1
      go_wp2
      go_roundw
      case rel => exact ⟨j + 1, x + 1 + (m' : Int), by omega, by go_num, by go_num, HX2, by omega, hle, HFIN, HT2⟩
      case measure => simp [intOf]; omega
    · have HJ : Hid (x = endR k rs) := by have h1 := HX.out; rw [List.take_of_length_le (by rw [HL.out]; omega)] at h1; exact h1
      have HF : Hid ((marksR k rs).take j ++ rs.drop j = marksR k rs) := by
        show _ = _
        rw [List.take_of_length_le (by rw [marksR_len, HL.out]; omega), List.drop_eq_nil_of_le (by rw [HL.out]; omega), List.append_nil]
      go_wp2
      go_ret
      refine ⟨by rw [HJ.out]; rfl, ?_, HT.out⟩
      have h1 := HI.out
      rw [HF.out] at h1
      exact h1
theorem markRecordS_any : MarkC 22 sty := by
  intro w lo hi S v (rs : RList) k
  rintro ⟨⟨A, c, hs, rfl, h1, s1⟩, hin, hhi⟩ hf hk0 hk1
  have hf : cntR rs ≤ 1048576 := hf
  refine (mark_t A rs.length c rs k S w ⟨hs, h1, s1⟩ (by have := cnt_len rs; omega) hk0 (by rw [endR_cnt]; omega) (fun j => by have := cnt_at rs j; omega)).mono ?_
  rintro e w' ⟨rfl, ⟨hs', h2, s2⟩, hT⟩
  have hl := marksR_len rs k
  refine ⟨congrArg (fun z => Ending.returned (Value.int .i64 z)) (endR_cnt rs k), ⟨⟨A, c, hs', ?_, ?_, ?_⟩, hin, Nat.le_trans hhi hT.size⟩, hT⟩
  · show _ = Value.slice A (marksR k rs).length c
    rw [hl]
  · show OwnRsH w' 0 A (marksR k rs).length c hs' (marksR k rs)
    rw [hl]; exact h2
  · show InS S A (marksR k rs).length c hs'
    rw [hl]; exact s2
end Go.Proofs.YtpghccbknlokcaaDoor.RecsTy
