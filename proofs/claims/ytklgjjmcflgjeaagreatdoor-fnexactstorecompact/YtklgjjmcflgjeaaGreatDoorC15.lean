import Derived.Deep.Slices
import Derived.Lib.SmallJoins
import Derived.Test.YtklgjjmcflgjeaaGreatDoorC10
import Derived.Test.YtklgjjmcflgjeaaGreatDoorC14
set_option linter.unusedVariables false
set_option linter.unusedSimpArgs false
namespace Go.Proofs.YtklgjjmcflgjeaaGreatDoor.Jour
open Go.ChangeShapes Go.WideShapes Go.ChangeAt Go.RowKit
open Bytes LK
open Rec (RList IsRecs recB frameV frameT frame_t frame_f frame_len frame_in)
open Rec (specFrameRecord_any)
open RecsTy (sty cntR)
def packV (acc : List Int) : RList → Option (List Int)
  | [] => some acc
  | r :: rs => if recB r.1 r.2 && decide (acc.length + (frameV r.1 r.2).length ≤ 3000) then packV (acc ++ frameV r.1 r.2) rs else none
def compB (d : JD) (rs : RList) : Bool := jok d && (packV [] rs).isSome
def compD (d : JD) (rs : RList) : JD := if jok d then (match packV [] rs with | some bs => (bs, [], 0) | none => d) else d
theorem comp_1 {d : JD} {rs : RList} (h : jok d = false) : compB d rs = false ∧ compD d rs = d := by simp [compB, compD, h]
theorem comp_2 {d : JD} {rs : RList} (h : packV [] rs = none) : compB d rs = false ∧ compD d rs = d := by
  refine ⟨by simp [compB, h], ?_⟩
  unfold compD
  rw [h]
  split <;> rfl
theorem comp_3 {d : JD} {rs : RList} {bs : List Int} (h : jok d = true) (h2 : packV [] rs = some bs) : compB d rs = true ∧ compD d rs = (bs, [], 0) := by
  refine ⟨by simp [compB, h, h2], ?_⟩
  unfold compD
  rw [h, h2]
  rfl
theorem pack_at {rs : RList} {j : Nat} (acc : List Int) (h : j < rs.length) {kd : Int} {zs : List Int} (e : (kd, zs) = rs.getD j (0, [])) :
    packV acc (rs.drop j) = if recB kd zs && decide (acc.length + (frameV kd zs).length ≤ 3000) then packV (acc ++ frameV kd zs) (rs.drop (j + 1)) else none := by
  have e2 : rs[j] = (kd, zs) := by rw [e]; simp [List.getD, h]
  rw [List.drop_eq_getElem_cons h, e2]
  rfl
theorem pack_len {rs : RList} : ∀ {acc bs : List Int}, packV acc rs = some bs → acc.length ≤ 3000 → bs.length ≤ 3000 := by
  induction rs with
  | nil => intro acc bs h h0; simp only [packV] at h; injection h with h; subst h; exact h0
  | cons r rs ih =>
    intro acc bs h h0
    simp only [packV] at h
    split at h
    · rename_i hc
      simp only [Bool.and_eq_true, decide_eq_true_eq] at hc
      exact ih h (by rw [List.length_append]; exact hc.2)
    · cases h
theorem few_comp {d : JD} {rs : RList} (h : jty.Few d) : jty.Few (compD d rs) := by
  cases hj : jok d
  · rw [(comp_1 hj).2]; exact h
  · cases hp : packV [] rs with
    | none => rw [(comp_2 hp).2]; exact h
    | some bs =>
      rw [(comp_3 hj hp).2]
      have := pack_len hp (by simp)
      show bs.length + ([] : List Int).length ≤ 1048576
      simp; omega
structure Pk (w wr : World) (bx : Obj) (ob tb : Nat) (A : Option Addr) (n c : Nat) (acc : List Int) : Prop where
  k0 : wr.heap[w.heap.size]? = some bx
  k1 : wr.heap[w.heap.size + 1]? = some (.cells #[.slice none 0 0, .slice none 0 0, .int .i64 0] 32)
  kb : wr.heap[ob]? = some (.cells #[.slice A n c, .slice (some ⟨tb, 0, none⟩) 0 0, .int .i64 0] 32)
  own : OwnB wr (w.heap.size + 1 + 1) A n c acc
  tl : OwnB wr (w.heap.size + 1 + 1) (some ⟨tb, 0, none⟩) 0 0 []
  ap : ∀ k, (Value.slice A n c).ownBlock = some k → k ≠ tb
  hob : w.heap.size + 1 + 1 ≤ ob
  be : Below w.heap.size w wr
theorem Pk.below {w wr w' : World} {bx : Obj} {ob tb : Nat} {A : Option Addr} {n c : Nat} {acc : List Int} (h : Pk w wr bx ob tb A n c acc) (hb : Below wr.heap.size wr w') : Pk w w' bx ob tb A n c acc :=
  ⟨box_below h.k0 hb, box_below h.k1 hb, box_below h.kb hb, h.own.below hb, h.tl.below hb, h.ap, h.hob, bel_then h.be hb h.be.size⟩
theorem Pk.push {w wr w' : World} {bx : Obj} {ob tb g cap : Nat} {A : Option Addr} {n c : Nat} {acc : List Int} {z : Int} (h : Pk w wr bx ob tb A n c acc) (hz : 0 ≤ z ∧ z < 256)
    (hown : w'.ownsRow (w.heap.size + 1 + 1) 5 1 (.slice (some ⟨g, 0, none⟩) (n + 1) cap) (n + 1) (acc.map (Value.int .u8) ++ [.int .u8 z])) (hgr : wr.grownBy w' (Value.slice A n c).ownBlock) (hat : (Value.slice A n c).ownBlock = some g ∨ g = wr.heap.size) :
    w'.heap[ob]? = some (.cells #[.slice A n c, .slice (some ⟨tb, 0, none⟩) 0 0, .int .i64 0] 32) ∧ Pk w (w'.setCell ⟨ob, 0, none⟩ (.slice (some ⟨g, 0, none⟩) (n + 1) cap)) bx ob tb (some ⟨g, 0, none⟩) (n + 1) cap (acc ++ [z]) := by
  have hq : ∀ q, (Value.slice A n c).ownBlock = some q → w.heap.size + 1 + 1 ≤ q ∧ q ≠ ob ∧ q < wr.heap.size := fun q hq => ⟨(h.own.lt q hq).1, fun e => by subst e; exact row_not h.own hq (by decide) h.kb, (h.own.lt q hq).2⟩
  have htb : tb < wr.heap.size ∧ tb ≠ ob := ⟨(h.tl.lt tb rfl).2, fun e => by subst e; exact row_not h.tl rfl (by decide) h.kb⟩
  have hol := box_lt h.kb
  have hgo : g ≠ ob := by
    rcases hat with e | e
    · exact (hq g e).2.1
    · omega
  have hbx : w'.heap[ob]? = some (.cells #[.slice A n c, .slice (some ⟨tb, 0, none⟩) 0 0, .int .i64 0] 32) := (hgr.block ob hol (fun e => (hq ob e.symm).2.1 rfl)).trans h.kb
  have hob := h.hob
  have ho5 : OwnB w' (w.heap.size + 1 + 1) (some ⟨g, 0, none⟩) (n + 1) cap (acc ++ [z]) := by
    refine ⟨by rw [List.length_append, h.own.1]; rfl, fun y hy => ?_, by rw [List.map_append]; exact hown⟩
    rcases List.mem_append.1 hy with h5 | h5
    · exact h.own.2.1 y h5
    · obtain rfl : y = z := by simpa using h5
      exact hz
  refine ⟨hbx, box_other ((hgr.block _ (box_lt h.k0) (fun e => by have := (hq _ e.symm).1; omega)).trans h.k0) _ _ (by show w.heap.size ≠ ob; omega), box_other ((hgr.block _ (box_lt h.k1) (fun e => by have := (hq _ e.symm).1; omega)).trans h.k1) _ _ (by show w.heap.size + 1 ≠ ob; omega), box_set (i := 0) hbx _, ?_, ?_, ?_, h.hob, (h.be.grown hgr h.be.size (fun q e => by have := (hq q e).1; omega)).setCell (p := ⟨ob, 0, none⟩) (by show w.heap.size ≤ ob; omega) _⟩
  · refine own_same ho5 (fun k hk => Below.heap_setCell _ _ _ _ ?_)
    have e5 : g = k := by simpa [Value.ownBlock] using hk
    subst e5
    exact hgo
  · refine own_same h.tl (fun k hk => ?_)
    have e5 : tb = k := by simpa [Value.ownBlock] using hk
    subst e5
    exact (Below.heap_setCell _ _ _ _ (by show tb ≠ ob; exact htb.2)).trans (hgr.block tb htb.1 (fun e => h.ap tb e.symm rfl))
  · intro k hk
    have e5 : g = k := by simpa [Value.ownBlock] using hk
    subst e5
    rcases hat with e | e
    · exact h.ap g e
    · omega
theorem Pk.done {w wr : World} {bx : Obj} {ob tb : Nat} {A : Option Addr} {n c : Nat} {acc : List Int} (h : Pk w wr bx ob tb A n c acc) : Has jty wr (w.heap.size + 1 + 1) wr.heap.size (fun k => w.heap.size + 1 + 1 ≤ k ∧ k < wr.heap.size) (.agg #[.slice A n c, .slice (some ⟨tb, 0, none⟩) 0 0, .int .i64 0]) (acc, [], 0) := by
  obtain rfl : acc.length = n := h.own.1
  refine ⟨⟨A, c, some ⟨tb, 0, none⟩, 0, rfl, own_zero h.own, own_zero h.tl, fun k hk => h.own.lt k hk, fun k hk => h.tl.lt k hk, fun k hk e => ?_⟩, fun k hk => hk, Nat.le_refl _⟩
  have e5 : tb = k := by simpa [Value.ownBlock] using e
  exact h.ap k hk e5.symm
theorem news_one (w : World) (x : Value) (t : TypeId) : ∀ j u, [x][j]? = some u → (w.alloc (.cells #[x] t)).cell? ((⟨w.heap.size, 0, none⟩ : Addr).add j) = some u := lit_news (by simp [go_sem])
set_option maxRecDepth 100000 in
set_option maxHeartbeats 6400000 in
theorem specCompactTo_any (w : World) (B B' : Nat) (v v' : Value) (d : JD) (rs : RList) (hr : JRd w B v d) (hB : B ≤ w.heap.size) (hq : RecsTy.SRd w B' v' rs) (hB' : B' ≤ w.heap.size) (hf : jty.Few d) (hg : sty.Few rs) :
    Calls Tryz.prog 63 #[v, v'] w (Made1 jty (compD d rs) (.bool (compB d rs)) w) := by
  obtain ⟨i0, hi0, hz0, hz1, hz2⟩ := info_parts infoByte
  have hr0 := hr
  obtain ⟨x, y, s⟩ := d
  obtain ⟨A1, c1, A2, c2, rfl, h1, h2⟩ := hr
  obtain ⟨A3, c3, rfl, h3⟩ := hq
  have hg : cntR rs ≤ 1048576 := hg
  have HR := Lib.hid hr0
  have HF := Lib.hid hf
  have H3 := Lib.hid h3
  have HCN : Hid (∀ j, (rs.getD j (0, [])).2.length ≤ 1048576) := fun j => Nat.le_trans (RecsTy.cnt_at rs j) hg
  have hp2 : rs.length ≤ 1048576 := Nat.le_trans (RecsTy.cnt_len rs) hg
  obtain ⟨m, hm⟩ : ∃ m, m = (x, y, s).1.length := ⟨_, rfl⟩
  obtain ⟨n, hn⟩ : ∃ n, n = (x, y, s).2.1.length := ⟨_, rfl⟩
  obtain ⟨p, hp⟩ : ∃ p, p = rs.length := ⟨_, rfl⟩
  rw [← hm, ← hn] at HR ⊢
  rw [← hp] at H3 hp2 ⊢
  have HP := Lib.hid hp
  clear hr0 h1 h2 h3 hf hg hm hn hp
  go_enter Tryz.func63, Tryz.ntmps63
  go_wp2_with fail
  refine (specJournalOk_any _ B _ (x, y, s) (jty.rd_below HR.out (bel2 _ _ _) hB) HF.out).mono ?_
  rintro e w1 ⟨rfl, hb1⟩
  have k0 : w1.heap[w.heap.size]? = some (.cells #[.slice A1 m c1, .slice A2 n c2, .int .i64 s] 32) := box_below (box_alloc (box_new _ _) _) hb1
  have k1 : w1.heap[w.heap.size + 1]? = some (.cells #[.slice none 0 0, .slice none 0 0, .int .i64 0] 32) := box_below (by have h := box_new (w.alloc (.cells #[.slice A1 m c1, .slice A2 n c2, .int .i64 s] 32)) (.cells #[.slice none 0 0, .slice none 0 0, .int .i64 0] 32); simpa using h) hb1
  have hb01 : Below w.heap.size w w1 := bel_then (bel2 _ _ _) hb1 (by simp; omega)
  have hs1 : w.heap.size + 1 < w1.heap.size := box_lt k1
  have K0 := Lib.hid k0
  have K1 := Lib.hid k1
  have HB01 := Lib.hid hb01
  clear hb1 hb01 k1
  cases hj : jok (x, y, s)
  · have HJ := Lib.hid hj
    obtain ⟨a0, a1, a2, _⟩ := box3 k0
    clear hj k0
    go_wp2_with fail
    refine (l04Copy_any _ B _ (x, y, s) (jty.rd_below HR.out HB01.out hB) (Nat.le_trans hB HB01.out.size) HF.out).mono ?_
    rintro e w2 ⟨v2, S2, rfl, hO2, hb2⟩
    obtain ⟨D1, n1, d1, D2, n2, d2, s2, rfl⟩ := shape hO2
    obtain ⟨r0, r1, r2, f0, f1, f2⟩ := box3 (box_below K1.out hb2)
    have HO2 := Lib.hid hO2
    have HI2 : Hid (∀ k, S2 k → w1.heap.size ≤ k) := fun k hk => (hO2.inn k hk).1
    have HB2 := Lib.hid (bel_then HB01.out hb2 HB01.out.size)
    have hs2 : w1.heap.size ≤ w2.heap.size := hb2.size
    clear hb2 hO2
    go_wp2
    refine bodyPost_ret (v := .tuple #[.agg #[.slice D1 n1 d1, .slice D2 n2 d2, .int .i64 s2], .bool false]) (by simp [results, Tryz.results63, go_sem, r0, r1, r2]) rfl ?_
    rw [(comp_1 HJ.out).1, (comp_1 HJ.out).2]
    exact made1_of HO2.out HB2.out (sets3 (S := fun k => k = w.heap.size + 1) rfl rfl rfl) (by omega) (fun k hk => by omega) (fun k hk e => by have := HI2.out k hk; omega)
  · have HJ := Lib.hid hj
    clear hj k0
    go_wp2_with fail
    have hP0 : Pk w (((w1.alloc (.cells #[] 5)).alloc (.cells #[] 5)).alloc (.cells #[.slice (some ⟨w1.heap.size, 0, none⟩) 0 0, .slice (some ⟨w1.heap.size + 1, 0, none⟩) 0 0, .int .i64 0] 32)) (.cells #[.slice A1 m c1, .slice A2 n c2, .int .i64 s] 32) (w1.heap.size + 1 + 1) (w1.heap.size + 1) (some ⟨w1.heap.size, 0, none⟩) 0 0 [] := by
      have hbq := bel3 w1 (.cells #[] 5) (.cells #[] 5) (.cells #[.slice (some ⟨w1.heap.size, 0, none⟩) 0 0, .slice (some ⟨w1.heap.size + 1, 0, none⟩) 0 0, .int .i64 0] 32)
      refine ⟨box_below K0.out hbq, box_below K1.out hbq, ?_, ?_, ?_, fun k hk => ?_, by omega, bel_then HB01.out hbq HB01.out.size⟩
      · have h := box_new ((w1.alloc (.cells #[] 5)).alloc (.cells #[] 5)) (.cells #[.slice (some ⟨w1.heap.size, 0, none⟩) 0 0, .slice (some ⟨w1.heap.size + 1, 0, none⟩) 0 0, .int .i64 0] 32)
        simpa using h
      · exact own_base (((own_empty w1).alloc _).alloc _) (fun k hk => (by have e5 : w1.heap.size = k := (by simpa [Value.ownBlock] using hk); omega))
      · have h := (own_empty (w1.alloc (.cells #[] 5))).alloc (.cells #[.slice (some ⟨w1.heap.size, 0, none⟩) 0 0, .slice (some ⟨w1.heap.size + 1, 0, none⟩) 0 0, .int .i64 0] 32)
        simp only [World.size_alloc] at h
        exact own_base h (fun k hk => (by have e5 : w1.heap.size + 1 = k := (by simpa [Value.ownBlock] using hk); omega))
      · have e5 : w1.heap.size = k := by simpa [Value.ownBlock] using hk
        omega
    have HP0 := Lib.hid hP0
    clear hP0
    go_loopw [7] (fun i wr => ∃ (j : Nat) (A : Option Addr) (q c : Nat) (acc : List Int), j ≤ p ∧ i = .int .i64 j ∧ q ≤ 3000 ∧ Hid (packV [] rs = packV acc (rs.drop j)) ∧ Hid (Pk w wr (.cells #[.slice A1 m c1, .slice A2 n c2, .int .i64 s] 32) (w1.heap.size + 1 + 1) (w1.heap.size + 1) A q c acc)) (fun i _ => p - (RowKit.intOf i).toNat)
    case atStart => exact ⟨0, _, 0, 0, [], Nat.zero_le _, rfl, by omega, rfl, HP0⟩
    case round =>
      obtain ⟨j, A, q, c, acc, hjp, rfl, hq3, HPK, HK⟩ := hrel
      clear HP0
      by_cases hlt : j < p
      · have hjl : j < rs.length := by rw [← HP.out]; exact hlt
        have hbr := HK.out.be
        obtain ⟨b, off, A', c', kd, zs, rfl, hbB, hz, hc1, hc2, hI⟩ := (H3.out.below hbr hB').at_ hlt
        have hzl : zs.length ≤ 1048576 := by have h5 := HCN.out j; rw [← hz] at h5; exact h5
        have HST := Lib.hid (pack_at acc hjl hz)
        have HI := Lib.hid hI
        obtain ⟨u, hu⟩ : ∃ u, u = zs.length := ⟨_, rfl⟩
        rw [← hu] at hc2 hzl HI
        have HBR := Lib.hid hbr
        clear hz hI hu hbr
        go_wp2_with fail
        refine (specFrameRecord_any kd A' u c' zs B' wr HI.out (Nat.le_trans hB' HBR.out.size) hzl).mono ?_
        rintro e w2 ⟨D, dn, dc, rfl, hD, hb2⟩
        obtain ⟨F, hFd⟩ : ∃ F, F = frameV kd zs := ⟨_, rfl⟩
        rw [← hFd] at hD
        have hdn : dn ≤ 76 := by have h5 := frame_len kd zs; rw [← hFd, hD.1] at h5; exact h5
        have HFL : Hid (F.length = dn) := hD.1
        have HFD := Lib.hid hFd
        have HAL : Hid (acc.length = q) := HK.out.own.1
        have HAD : Hid (∀ k, (Value.slice A q c).ownBlock = some k → (Value.slice D dn dc).ownBlock ≠ some k) := fun k hk e => by
          have h5 := (HK.out.own.lt k hk).2
          have h6 := (hD.lt k e).1
          omega
        have HK2 := Lib.hid (HK.out.below hb2)
        have HD := Lib.hid hD
        have HW2 : Hid (wr.heap.size ≤ w2.heap.size) := hb2.size
        have o0 := box_cell HK2.out.kb 0 _ rfl
        have HFZ : Hid (recB kd zs = false → F = []) := fun h => by rw [HFD.out]; exact frame_f h
        have HFP : Hid (recB kd zs = true → 0 < F.length) := fun h => by rw [HFD.out]; exact frame_pos h
        clear hD hFd hb2 hc1 hc2
        by_cases hgood : 0 < dn ∧ q + dn ≤ 3000
        · obtain ⟨hg1, hg2⟩ := hgood
          have HRB : Hid (recB kd zs = true) := by
            show _ = _
            cases h : recB kd zs
            · have h5 := HFZ.out h
              have h6 := HFL.out
              rw [h5] at h6
              simp at h6
              omega
            · rfl
          have HNX : Hid (packV [] rs = packV (acc ++ F) (rs.drop (j + 1))) := by
            show _ = _
            have h5 := HFL.out
            have h6 := HAL.out
            rw [HPK.out, HST.out, HRB.out, ← HFD.out]
            simp only [Bool.true_and]
            rw [if_pos (by simp; omega)]
          have hd0 : ((dn : Int) == 0) = false := by simp; omega
          have hd1 : decide ((3000 : Int) - (q : Int) < (dn : Int)) = false := by simp; omega
          go_wp2_with fail
          go_loopw [9] (fun k wq => ∃ (i : Nat) (A4 : Option Addr) (q4 c4 : Nat), i ≤ dn ∧ k = .int .i64 i ∧ Hid (q4 = q + i) ∧ q4 ≤ 3000 ∧ Hid (Pk w wq (.cells #[.slice A1 m c1, .slice A2 n c2, .int .i64 s] 32) (w1.heap.size + 1 + 1) (w1.heap.size + 1) A4 q4 c4 (acc ++ F.take i)) ∧ Hid (OwnB wq (w.heap.size + 1 + 1) D dn dc F) ∧ Hid (∀ k, (Value.slice A4 q4 c4).ownBlock = some k → (Value.slice D dn dc).ownBlock ≠ some k)) (fun k _ => dn - (RowKit.intOf k).toNat)
          case atStart => exact ⟨0, A, q, c, Nat.zero_le _, rfl, by show _ = _; omega, hq3, by simpa using HK2, own_base HD.out (fun k hk => by have h5 := (HD.out.lt k hk).1; have h6 := HK.out.k1; have h7 := box_lt h6; omega), HAD⟩
          case round =>
            obtain ⟨i, A4, q4, c4, hin, rfl, HQ4, hq4, HPi, HDi, HAi⟩ := hrel
            by_cases hlt2 : i < dn
            · obtain ⟨b5, off5, z, rfl, hb5, hz, hc5, hz0', hz1'⟩ := HDi.out.bytes.at_ hlt2
              have o0 := box_cell HPi.out.kb 0 _ rfl
              have hlb : w1.heap.size + 1 + 1 < wr.heap.size := box_lt HPi.out.kb
              have HTK : Hid (F.take (i + 1) = F.take i ++ [z]) := by
                show _ = _
                rw [List.take_succ_eq_append_getElem (by rw [HFL.out]; exact hlt2), hz]
                simp [List.getD, show i < F.length by rw [HFL.out]; exact hlt2]
              have HZB : Hid (0 ≤ z ∧ z < 256) := ⟨hz0', hz1'⟩
              have HPa := Lib.hid (HPi.out.below (bel1 wr (.cells #[.int .u8 z] 5)))
              have HDa := Lib.hid (HDi.out.alloc (.cells #[.int .u8 z] 5))
              have HDL : Hid (∀ k, (Value.slice (some ⟨b5, off5, none⟩) dn dc).ownBlock = some k → k < wr.heap.size) := fun k hk => (HDi.out.lt k hk).2
              have hq5 : q4 + 1 ≤ 3000 := by have h5 := HQ4.out; omega
              have HQ5 : Hid (q4 + 1 = q + (i + 1)) := by have h5 := HQ4.out; show _ = _; omega
              have hsw : w.heap.size + 1 + 1 ≤ wr.heap.size := by omega
              clear hz hz0' hz1'
              go_wp2_with fail
              go_region_law (refine step_append_lies _ (by rfl) (.tmp 50) (.tmp 55) 22 (by rfl) (w.heap.size + 1 + 1) 5 i0 _ 1 1 Tryz.underlying22 hi0 hz0 hz1 hz2 rfl (by omega) (.slice A4 q4 c4) q4 ((acc ++ F.take i).map (Value.int .u8)) rfl (by exact HPa.out.own.2.2) ⟨wr.heap.size, 0, none⟩ 1 1 [.int .u8 z] rfl rfl (by exact news_one wr (.int .u8 z) 5) (by intro u hu; simp at hu; subst hu; rfl) (by omega) (by unfold maxLen; omega) (by omega) (by simp; omega) (wr.heap.size + 1) (by simp) ?_; intro g2 cc2 w5 hown hgr hat hlt5; have hgr' : (wr.alloc (.cells #[.int .u8 z] 5)).grownBy w5 (Value.slice A4 q4 c4).ownBlock := ⟨hgr.os, hgr.tape, hgr.output, hgr.size, hgr.block⟩; have hpn := HPa.out.push HZB.out hown hgr' (by simpa using hat); have t0 := box_cell hpn.1 0 _ rfl; have t1 := box_frozen hpn.1 0)
              all_goals
                have HPN : Hid (Pk w (w5.setCell ⟨w1.heap.size + 1 + 1, 0, none⟩ (.slice (some ⟨g2, 0, none⟩) (q4 + 1) cc2)) (.cells #[.slice A1 m c1, .slice A2 n c2, .int .i64 s] 32) (w1.heap.size + 1 + 1) (w1.heap.size + 1) (some ⟨g2, 0, none⟩) (q4 + 1) cc2 (acc ++ F.take (i + 1))) := by rw [HTK.out, ← List.append_assoc]; exact hpn.2
                have HD6 : Hid (OwnB (w5.setCell ⟨w1.heap.size + 1 + 1, 0, none⟩ (.slice (some ⟨g2, 0, none⟩) (q4 + 1) cc2)) (w.heap.size + 1 + 1) (some ⟨b5, off5, none⟩) dn dc F) := own_same HDa.out (fun k hk => (Below.heap_setCell _ _ _ _ (fun e => row_not HDa.out (k := w1.heap.size + 1 + 1) (by rw [hk]; exact congrArg some e) (by decide) HPa.out.kb)).trans (hgr'.block k (HDa.out.lt k hk).2 (fun e => HAi.out k e.symm hk)))
                have HA6 : Hid (∀ k, (Value.slice (some ⟨g2, 0, none⟩) (q4 + 1) cc2).ownBlock = some k → (Value.slice (some ⟨b5, off5, none⟩) dn dc).ownBlock ≠ some k) := by
                  intro k hk e
                  have e5 : g2 = k := by simpa [Value.ownBlock] using hk
                  subst e5
                  rcases hat with h5 | h5
                  · exact HAi.out g2 h5 e
                  · have h6 := HDL.out g2 e
                    omega
                clear hown hgr hgr' hat hlt5 hpn
                go_wp2
                go_roundw
                case rel => exact ⟨i + 1, some ⟨g2, 0, none⟩, q4 + 1, cc2, by omega, by go_num, HQ5, hq5, HPN, HD6, HA6⟩
                case measure => simp [RowKit.intOf]; omega
            · have HE : Hid (F.take i = F) := by show _ = _; rw [List.take_of_length_le (by rw [HFL.out]; omega)]
              have HPE : Hid (Pk w wr (.cells #[.slice A1 m c1, .slice A2 n c2, .int .i64 s] 32) (w1.heap.size + 1 + 1) (w1.heap.size + 1) A4 q4 c4 (acc ++ F)) := by have h5 := HPi.out; rw [HE.out] at h5; exact h5
              go_wp2
              go_roundw
              case rel => exact ⟨j + 1, A4, q4, c4, acc ++ F, by omega, by go_num, hq4, HNX, HPE⟩
              case measure => simp [RowKit.intOf]; omega
        · have HNO : Hid (packV [] rs = none) := by
            show _ = _
            have h5 := HFL.out
            have h6 := HAL.out
            rw [HPK.out, HST.out, ← HFD.out]
            cases hrb : recB kd zs
            · rfl
            · have h7 := HFP.out hrb
              simp only [Bool.true_and]
              rw [if_neg (by simp; omega)]
          obtain ⟨a0, a1, a2, _⟩ := box3 HK2.out.k0
          have hs2 : w.heap.size + 1 < w2.heap.size := box_lt HK2.out.k1
          by_cases hd : dn = 0
          · have hd0 : ((dn : Int) == 0) = true := by simp; omega
            have HE := Lib.hid hd
            clear hd
            go_wp2_with fail
            refine (l04Copy_any _ B _ (x, y, s) (jty.rd_below HR.out HK2.out.be hB) (Nat.le_trans hB HK2.out.be.size) HF.out).mono ?_
            rintro e w3 ⟨v2, S2, rfl, hO2, hb2⟩
            obtain ⟨D1, n1, d1, D2, n2, d2, s2, rfl⟩ := shape hO2
            obtain ⟨r0, r1, r2, f0, f1, f2⟩ := box3 (box_below HK2.out.k1 hb2)
            have HO2 := Lib.hid hO2
            have HI2 : Hid (∀ k, S2 k → w2.heap.size ≤ k) := fun k hk => (hO2.inn k hk).1
            have HB2 := Lib.hid (bel_then HK2.out.be hb2 HK2.out.be.size)
            have hs3 : w2.heap.size ≤ w3.heap.size := hb2.size
            clear hb2 hO2
            go_wp2
            refine bodyPost_ret (v := .tuple #[.agg #[.slice D1 n1 d1, .slice D2 n2 d2, .int .i64 s2], .bool false]) (by simp [results, Tryz.results63, go_sem, r0, r1, r2]) rfl ?_
            rw [(comp_2 HNO.out).1, (comp_2 HNO.out).2]
            exact made1_of HO2.out HB2.out (sets3 (S := fun k => k = w.heap.size + 1) rfl rfl rfl) (by omega) (fun k hk => by omega) (fun k hk e => by have := HI2.out k hk; omega)
          · have hd0 : ((dn : Int) == 0) = false := by simp; omega
            have hd1 : decide ((3000 : Int) - (q : Int) < (dn : Int)) = true := by simp; omega
            go_wp2_with fail
            refine (l04Copy_any _ B _ (x, y, s) (jty.rd_below HR.out HK2.out.be hB) (Nat.le_trans hB HK2.out.be.size) HF.out).mono ?_
            rintro e w3 ⟨v2, S2, rfl, hO2, hb2⟩
            obtain ⟨D1, n1, d1, D2, n2, d2, s2, rfl⟩ := shape hO2
            obtain ⟨r0, r1, r2, f0, f1, f2⟩ := box3 (box_below HK2.out.k1 hb2)
            have HO2 := Lib.hid hO2
            have HI2 : Hid (∀ k, S2 k → w2.heap.size ≤ k) := fun k hk => (hO2.inn k hk).1
            have HB2 := Lib.hid (bel_then HK2.out.be hb2 HK2.out.be.size)
            have hs3 : w2.heap.size ≤ w3.heap.size := hb2.size
            clear hb2 hO2
            go_wp2
            refine bodyPost_ret (v := .tuple #[.agg #[.slice D1 n1 d1, .slice D2 n2 d2, .int .i64 s2], .bool false]) (by simp [results, Tryz.results63, go_sem, r0, r1, r2]) rfl ?_
            rw [(comp_2 HNO.out).1, (comp_2 HNO.out).2]
            exact made1_of HO2.out HB2.out (sets3 (S := fun k => k = w.heap.size + 1) rfl rfl rfl) (by omega) (fun k hk => by omega) (fun k hk e => by have := HI2.out k hk; omega)
      · have HYES : Hid (packV [] rs = some acc) := by
          show _ = _
          rw [HPK.out, List.drop_eq_nil_of_le (by rw [← HP.out]; omega)]
          rfl
        obtain ⟨o0, o1, o2, _⟩ := box3 HK.out.kb
        obtain ⟨r0, r1, r2, f0, f1, f2⟩ := box3 HK.out.k1
        have hsr : w.heap.size + 1 < wr.heap.size := box_lt HK.out.k1
        go_wp2
        refine bodyPost_ret (v := .tuple #[.agg #[.slice A q c, .slice (some ⟨w1.heap.size + 1, 0, none⟩) 0 0, .int .i64 0], .bool true]) (by simp [results, Tryz.results63, go_sem, r0, r1, r2]) rfl ?_
        rw [(comp_3 HJ.out HYES.out).1, (comp_3 HJ.out HYES.out).2]
        exact made1_of HK.out.done HK.out.be (sets3 (S := fun k => k = w.heap.size + 1) rfl rfl rfl) (by omega) (fun k hk => by omega) (fun k hk e => by omega)
end Go.Proofs.YtklgjjmcflgjeaaGreatDoor.Jour
