import Derived.BigQuiet
import Derived.Deep.DeepCutAuto
import Derived.Deep.QuietTactic
import Derived.Deep.RegionLaw
import Derived.Deep.RegionWith
import Derived.Test.YtklgjjmcflgjeaaGreatDoorC10
import Derived.Test.YtklgjjmcflgjeaaGreatDoorC12
import Derived.Test.YtklgjjmcflgjeaaGreatDoorC13
set_option linter.unusedVariables false
set_option linter.unusedSimpArgs false
namespace Go.Proofs.YtklgjjmcflgjeaaGreatDoor.Jour
open Go.ChangeShapes Go.WideShapes Go.ChangeAt Go.RowKit
open Bytes LK
open JourC (CRd CRd.rd)
open Rec (RList Hd hd0 hdV flatH flatH_at flatH_len OwnRs OwnRsH row_ne lit2_news)
open RecsTy (sty cntR Inner inner_of Dis dis_of ownH_join ownH_base getD_l getD_r wpList_append_none has_of)
open Rd (scanV infoRec specScan_any scanFrames_any)
def readB (d : JD) : Bool := jok d && decide ((scanV d.1).2.2 = 0)
def readD (d : JD) : RList := if readB d then (scanV d.1).1 ++ (scanV d.2.1).1 else []
theorem read_1 {d : JD} (h : jok d = false) : readB d = false := by simp [readB, h]
theorem read_2 {d : JD} (h : (scanV d.1).2.2 ≠ 0) : readB d = false := by simp [readB, h]
theorem read_3 {d : JD} (h : jok d = true) (h0 : (scanV d.1).2.2 = 0) : readB d = true := by simp [readB, h, h0]
theorem readD_f {d : JD} (h : readB d = false) : readD d = [] := by simp [readD, h]
theorem readD_t {d : JD} (h : readB d = true) : readD d = (scanV d.1).1 ++ (scanV d.2.1).1 := by simp [readD, h]
theorem scan_cnt {bs : List Int} (hb : ∀ x ∈ bs, 0 ≤ x ∧ x < 256) : cntR (scanV bs).1 ≤ bs.length := by
  have h := (JourC.scan_in hb).2.1
  rw [RecsTy.endR_cnt] at h
  omega
theorem few_read {w : World} {B : Nat} {v : Value} {d : JD} (hr : CRd w B v d) (hf : jty.Few d) : sty.Few (readD d) := by
  have hf : d.1.length + d.2.1.length ≤ 1048576 := hf
  obtain ⟨A1, c1, A2, c2, _, h1, h2, _⟩ := hr
  show cntR (readD d) ≤ 1048576
  have e1 := scan_cnt h1.2.1
  have e2 := scan_cnt h2.2.1
  unfold readD
  split
  · rw [RecsTy.cntR_app]; omega
  · simp [cntR]
theorem in_nil {S : Nat → Prop} : RecsTy.InS S none 0 0 [] := by
  refine ⟨fun k hk => ?_, fun j hj => absurd hj (Nat.not_lt_zero _)⟩
  cases hk
theorem made_nil {w w' : World} (hb : Below w.heap.size w w') (x : Value) : Made1 sty [] x w (.returned (.tuple #[.slice none 0 0, x])) w' :=
  ⟨_, fun _ => False, rfl, ⟨⟨none, 0, [], rfl, ⟨rfl, rfl, World.ownsRow_nil _ _ _ _, fun j hj => absurd hj (Nat.not_lt_zero _), fun i j hi => absurd hi (Nat.not_lt_zero _)⟩, in_nil⟩, fun k hk => hk.elim, Nat.le_refl _⟩, hb⟩
theorem made_recs {w w' : World} {lo : Nat} {A : Option Addr} {n c : Nat} {rs : RList} (hb : Below w.heap.size w w') (hO : OwnRs w' lo A n c rs) (hlo : w.heap.size ≤ lo) (x : Value) : Made1 sty rs x w (.returned (.tuple #[.slice A n c, x])) w' :=
  ⟨_, _, rfl, RecsTy.has_of hb hO hlo, hb⟩
theorem ownH_kept {w w' : World} {lo base : Nat} {A A2 : Option Addr} {n c m c2 : Nat} {hs hs2 : List Hd} {rs rs2 : RList} (h2 : OwnRsH w lo A2 m c2 hs2 rs2) (h : OwnRsH w base A n c hs rs) (hg : w.grownBy w' (Value.slice A n c).ownBlock)
    (hne : ∀ q, (Value.slice A n c).ownBlock = some q → (Value.slice A2 m c2).ownBlock ≠ some q) : OwnRsH w' lo A2 m c2 hs2 rs2 := by
  obtain ⟨hl, hr, hrow, hj, hd⟩ := h2
  refine ⟨hl, hr, hrow.kept hg ?_, fun j hjn => ⟨(hj j hjn).1, (hj j hjn).2.grown hg (row_ne (hj j hjn).2.2 h.2.2.1 (by decide))⟩, hd⟩
  cases hq : (Value.slice A2 m c2).ownBlock with
  | none => exact .inl rfl
  | some q => exact .inr fun e => hne q e.symm hq
theorem row_news {w : World} {base g n c : Nat} {hs : List Hd} {rs : RList} (h : OwnRsH w base (some ⟨g, 0, none⟩) n c hs rs) : ∀ j u, (flatH hs)[j]? = some u → w.cell? ((⟨g, 0, none⟩ : Addr).add j) = some u := by
  intro j u hu
  have hj : j < (flatH hs).length := by
    by_cases hj : j < (flatH hs).length
    · exact hj
    · rw [List.getElem?_eq_none (by omega)] at hu; cases hu
  rw [flatH_len, h.1] at hj
  have h5 := h.2.2.1.cellAt j hj
  have e : (⟨g, 0, none⟩ : Addr).add j = ⟨g, j, none⟩ := by
    unfold Addr.add
    split
    · subst_vars; rfl
    · simp
  rw [e, h5, hu]
theorem flat_one (hs : List Hd) : ∀ u ∈ flatH hs, u.oneCell' = true := by
  intro u hu
  simp only [flatH, List.mem_flatMap] at hu
  obtain ⟨h, _, hu⟩ := hu
  simp at hu
  rcases hu with rfl | rfl <;> rfl
theorem take_snoc {α : Type} (l : List α) (j : Nat) (d : α) (h : j < l.length) : l.take (j + 1) = l.take j ++ [l.getD j d] := by
  rw [List.take_succ_eq_append_getElem h]
  simp [List.getD, h]
theorem dis_one {hs hs2 : List Hd} {n m j : Nat} (hl : hs.length = n) (hl2 : hs2.length = m) (hj : j < m) (hD : Dis hs n hs2 m) (hd2 : ∀ i j, i < m → j < m → i ≠ j → ∀ q, (hdV (hs2.getD i hd0)).ownBlock = some q → (hdV (hs2.getD j hd0)).ownBlock ≠ some q) : Dis (hs ++ hs2.take j) (n + j) [hs2.getD j hd0] 1 := by
  intro i i' hi hi' q hq
  obtain rfl : i' = 0 := by omega
  show (hdV (hs2.getD j hd0)).ownBlock ≠ some q
  by_cases h : i < n
  · rw [getD_l hs _ _ i (by omega)] at hq
    exact hD i j h hj q hq
  · rw [getD_r hs _ _ i (by omega), hl] at hq
    have e : (hs2.take j).getD (i - n) hd0 = hs2.getD (i - n) hd0 := by simp [List.getD, List.getElem?_take, show i - n < j by omega]
    rw [e] at hq
    exact hd2 (i - n) j (by omega) hj (by omega) q hq
set_option maxRecDepth 100000 in
set_option maxHeartbeats 6400000 in
theorem specReadJournal_any (w : World) (B : Nat) (v : Value) (d : JD) (hr : CRd w B v d) (hB : B ≤ w.heap.size) (hf : jty.Few d) :
    Calls Tryz.prog 62 #[v] w (Made1 sty (readD d) (.bool (readB d)) w) := by
  obtain ⟨i0, hi0, hz0, hz1, hz2⟩ := info_parts infoRec
  have hr0 := hr.rd
  obtain ⟨x, y, s⟩ := d
  obtain ⟨A1, c1, A2, c2, rfl, h1, h2, r1, r2⟩ := hr
  have HR := Lib.hid hr0
  have HF := Lib.hid hf
  have hf : x.length + y.length ≤ 1048576 := hf
  have hX := scan_cnt h1.2.1
  have hY := scan_cnt h2.2.1
  obtain ⟨m, hm⟩ : ∃ m, m = (x, y, s).1.length := ⟨_, rfl⟩
  obtain ⟨n, hn⟩ : ∃ n, n = (x, y, s).2.1.length := ⟨_, rfl⟩
  rw [← hm, ← hn] at HR ⊢
  rw [← hm] at h1 r1
  rw [← hn] at h2 r2
  have hx : m ≤ 1048576 := by have : m = x.length := hm; omega
  have hy : n ≤ 1048576 := by have : n = y.length := hn; omega
  have H1 : Hid (IsBytes w B A1 m x) := h1
  have H2 : Hid (IsBytes w B A2 n y) := h2
  have R1 := Lib.hid r1
  have R2 := Lib.hid r2
  have HX : Hid (cntR (scanV x).1 ≤ 1048576) := by have h5 : cntR (scanV x).1 ≤ x.length := hX; show _ ≤ _; omega
  have HY : Hid (cntR (scanV y).1 ≤ 1048576) := by have h5 : cntR (scanV y).1 ≤ y.length := hY; show _ ≤ _; omega
  have HDT : Hid ((scanV x).2.2 = 0 → jok (x, y, s) = true → readB (x, y, s) = true ∧ readD (x, y, s) = (scanV x).1 ++ (scanV y).1) := fun h0 hj => ⟨read_3 hj h0, readD_t (read_3 hj h0)⟩
  have HDF : Hid ((jok (x, y, s) = false ∨ (scanV x).2.2 ≠ 0) → readB (x, y, s) = false ∧ readD (x, y, s) = []) := by
    rintro (h | h)
    · exact ⟨read_1 h, readD_f (read_1 h)⟩
    · exact ⟨read_2 h, readD_f (read_2 h)⟩
  clear hr0 h1 h2 hm hn hf r1 r2 hX hY
  go_enter Tryz.func62, Tryz.ntmps62
  go_wp2_with fail
  refine (specJournalOk_any _ B _ (x, y, s) (jty.rd_below HR.out (bel1 _ _) hB) HF.out).mono ?_
  rintro e w1 ⟨rfl, hb1⟩
  have k0 : w1.heap[w.heap.size]? = some (.cells #[.slice A1 m c1, .slice A2 n c2, .int .i64 s] 32) := box_below (box_new _ _) hb1
  have hb01 : Below w.heap.size w w1 := bel_then (bel1 _ _) hb1 (by simp)
  have K0 := Lib.hid k0
  have HB01 := Lib.hid hb01
  clear hb1 hb01
  cases hj : jok (x, y, s)
  · have HJ := Lib.hid hj
    clear hj k0
    go_wp2
    refine bodyPost_ret (results_tmp2 rfl _ _ _) rfl ?_
    obtain ⟨e1, e2⟩ := HDF.out (.inl HJ.out)
    rw [e1, e2]
    exact made_nil HB01.out _
  · have HJ := Lib.hid hj
    obtain ⟨a0, a1, a2, _⟩ := box3 k0
    clear hj k0
    go_wp2_with fail
    refine (specScan_any A1 m c1 x B w1 (H1.out.below HB01.out hB) (Nat.le_trans hB HB01.out.size) hx R1.out).mono ?_
    rintro e w2 ⟨A3, c3, rfl, hO3, hb2⟩
    generalize hS : scanV x = S1 at hO3 HX HDT HDF
    obtain ⟨rs1, p1, t1⟩ := S1
    have hO3 : OwnRs w2 w1.heap.size A3 rs1.length c3 rs1 := hO3
    have HX : Hid (cntR rs1 ≤ 1048576) := HX
    have HDT : Hid (t1 = 0 → jok (x, y, s) = true → readB (x, y, s) = true ∧ readD (x, y, s) = rs1 ++ (scanV y).1) := HDT
    have HDF : Hid ((jok (x, y, s) = false ∨ t1 ≠ 0) → readB (x, y, s) = false ∧ readD (x, y, s) = []) := HDF
    show (fun e w' => _) (Ending.returned (.tuple #[.slice A3 rs1.length c3, .int .i64 (p1 : Nat), .int .i64 t1])) w2
    have hk1b : rs1.length ≤ 1048576 := Nat.le_trans (RecsTy.cnt_len rs1) HX.out
    obtain ⟨k1, hk1⟩ : ∃ k1, k1 = rs1.length := ⟨_, rfl⟩
    rw [← hk1] at hO3 hk1b ⊢
    have hb02 : Below w.heap.size w w2 := bel_then HB01.out hb2 HB01.out.size
    have KK := Lib.hid (box_below K0.out hb2)
    have HS1 : Hid (w.heap.size ≤ w1.heap.size) := HB01.out.size
    have HB02 := Lib.hid hb02
    have HO3 := Lib.hid hO3
    have HSX := Lib.hid hS
    have HK1 := Lib.hid hk1
    clear hb2 hb02 hO3 hS a0 a1 a2 hk1 K0
    by_cases ht : t1 = 0
    · have HDT2 := Lib.hid (HDT.out ht HJ.out)
      clear HDT HDF
      subst ht
      obtain ⟨a0, a1, a2, _⟩ := box3 KK.out
      go_wp2_with fail
      refine (specScan_any A2 n c2 y B w2 (H2.out.below HB02.out hB) (Nat.le_trans hB HB02.out.size) hy R2.out).mono ?_
      rintro e w3 ⟨A5, c5, rfl, hO5, hb3⟩
      generalize hS : scanV y = S2 at hO5 HY HDT2
      obtain ⟨rs2, p2, t2⟩ := S2
      have HRD : Hid (readB (x, y, s) = true ∧ readD (x, y, s) = rs1 ++ rs2) := HDT2
      clear HDT2
      have hO5 : OwnRs w3 w2.heap.size A5 rs2.length c5 rs2 := hO5
      have HY : Hid (cntR rs2 ≤ 1048576) := HY
      show (fun e w' => _) (Ending.returned (.tuple #[.slice A5 rs2.length c5, .int .i64 (p2 : Nat), .int .i64 t2])) w3
      have hk2b : rs2.length ≤ 1048576 := Nat.le_trans (RecsTy.cnt_len rs2) HY.out
      obtain ⟨k2, hk2⟩ : ∃ k2, k2 = rs2.length := ⟨_, rfl⟩
      rw [← hk2] at hO5 hk2b ⊢
      obtain ⟨hs1, hH1⟩ := HO3.out
      obtain ⟨hs2, hH2⟩ := hO5
      have hs2w := HB02.out.size
      have HD : Hid (Dis hs1 k1 hs2 k2) := dis_of hH1 (Nat.le_refl _) hH2
      have HR1 : Hid (OwnRsH w3 w.heap.size A3 k1 c3 hs1 rs1) := (ownH_base hH1 HS1.out).below hb3
      have HR2 : Hid (OwnRsH w3 w.heap.size A5 k2 c5 hs2 rs2) := ownH_base hH2 hs2w
      have HAP : Hid (∀ q, (Value.slice A3 k1 c3).ownBlock = some q → (Value.slice A5 k2 c5).ownBlock ≠ some q) := fun q hq e => by
        have h5 := (hH1.2.2.1.lt q hq).2
        have h6 := (hH2.2.2.1.lt q e).1
        omega
      have HB03 := Lib.hid (bel_then HB02.out hb3 HB02.out.size)
      have HL1 : Hid (hs1.length = k1) := hH1.1
      have HL2 : Hid (hs2.length = k2) := hH2.1
      have HL3 : Hid (rs2.length = k2) := hH2.2.1
      clear hH1 hH2 hb3 hS hk2 a0 a1 a2 HO3 KK
      go_wp2_with fail
      go_loopw [4, 10] (fun o i wr => ∃ (j : Nat) (A4 : Option Addr) (c4 : Nat), j ≤ k2 ∧ i = .int .i64 j ∧ o = .slice A4 ((k1 + j : Nat)) c4 ∧ Hid (OwnRsH wr w.heap.size A4 (k1 + j) c4 (hs1 ++ hs2.take j) (rs1 ++ rs2.take j)) ∧ Hid (OwnRsH wr w.heap.size A5 k2 c5 hs2 rs2) ∧ Hid (∀ q, (Value.slice A4 (k1 + j) c4).ownBlock = some q → (Value.slice A5 k2 c5).ownBlock ≠ some q) ∧ Hid (Below w.heap.size w wr)) (fun _ i _ => k2 - (RowKit.intOf i).toNat)
      case atStart => exact ⟨0, A3, c3, Nat.zero_le _, rfl, rfl, by simpa using HR1, HR2, HAP, HB03⟩
      case round =>
        obtain ⟨j, A4, c4, hj, rfl, rfl, HO, HM, HA, HB⟩ := hrel
        by_cases hlt : j < k2
        · obtain ⟨g5, cap5, hv5, _, hg5⟩ := HM.out.2.2.1.form (by omega)
          obtain rfl : A5 = some ⟨g5, 0, none⟩ := by injection hv5
          obtain ⟨hd, hhd⟩ : ∃ hd, hd = hs2.getD j hd0 := ⟨_, rfl⟩
          obtain ⟨kd, A', m', c'⟩ := hd
          have hf2 := flatH_at hs2 j (by rw [HL2.out]; exact hlt)
          rw [← hhd] at hf2
          have hc0 : wr.cell? ⟨g5, j * 2, none⟩ = some (.int .i64 kd) := (HM.out.2.2.1.cellAt (j * 2) (by omega)).trans hf2.1
          have hc1 : wr.cell? ⟨g5, j * 2 + 1, none⟩ = some (.slice A' m' c') := (HM.out.2.2.1.cellAt (j * 2 + 1) (by omega)).trans hf2.2
          have HHD := Lib.hid hhd
          have hsb := HB.out.size
          obtain ⟨N4, hN4⟩ : ∃ N4, N4 = k1 + j := ⟨_, rfl⟩
          rw [← hN4] at HO HA ⊢
          have hN4b : N4 ≤ 2097152 := by omega
          have HN4 := Lib.hid hN4
          have HRW : Hid ((wr.alloc (.cells #[.int .i64 kd, .slice A' m' c'] 116)).ownsRow w.heap.size 116 2 (.slice A4 N4 c4) N4 (flatH (hs1 ++ hs2.take j))) := (HO.out.below (bel1 _ _)).2.2.1
          clear hhd hv5 hf2 hN4
          go_wp2_with (at_builtin; refine wpList_append_own_at _ rfl (.tmp 36) (.tmp 41) _ rfl w.heap.size 116 i0 _ 2 32 Tryz.underlying99 hi0 hz0 hz1 hz2 rfl (by omega) (.slice A4 N4 c4) N4 (flatH (hs1 ++ hs2.take j)) rfl ?o1 ⟨wr.heap.size, 0, none⟩ 1 1 [.int .i64 kd, .slice A' m' c'] rfl rfl ?o2 ?o3 ?o4 ?o5 ?o6 ?_)
          case o1 => exact HRW.out
          case o2 => exact lit2_news wr (.int .i64 kd) (.slice A' m' c') 116
          case o3 => intro u hu; simp at hu; rcases hu with rfl | rfl <;> rfl
          case o4 => unfold maxLen; omega
          case o5 => omega
          case o6 => simp; omega
          intro v6 w6 hown6 hgr6 _ hat6
          have hO' := HO.out.below (bel1 wr (.cells #[.int .i64 kd, .slice A' m' c'] 116))
          have hM' := HM.out.below (bel1 wr (.cells #[.int .i64 kd, .slice A' m' c'] 116))
          have hin : Inner (wr.alloc (.cells #[.int .i64 kd, .slice A' m' c'] 116)) w.heap.size 1 [hs2.getD j hd0] [rs2.getD j (0, [])] := by
            refine ⟨rfl, rfl, fun i hi => ?_, fun i i' hi hi' hne => by omega⟩
            obtain rfl : i = 0 := by omega
            exact hM'.2.2.2.1 j hlt
          have hDD : Dis (hs1 ++ hs2.take j) N4 [hs2.getD j hd0] 1 := by rw [HN4.out]; exact dis_one HL1.out HL2.out hlt HD.out hM'.2.2.2.2
          obtain ⟨A6, c6, rfl, hO6⟩ := ownH_join hO' hin hDD (by rw [← HHD.out]; exact hown6) hgr6
          have hM6 := ownH_kept hM' hO' hgr6 HA.out
          have HO6 : Hid (OwnRsH w6 w.heap.size A6 (N4 + 1) c6 (hs1 ++ hs2.take (j + 1)) (rs1 ++ rs2.take (j + 1))) := by
            rw [take_snoc hs2 j hd0 (by rw [HL2.out]; exact hlt), take_snoc rs2 j (0, []) (by rw [HL3.out]; exact hlt), ← List.append_assoc, ← List.append_assoc]
            exact hO6
          have HM6 := Lib.hid hM6
          have HA6 : Hid (∀ q, (Value.slice A6 (N4 + 1) c6).ownBlock = some q → (Value.slice (some ⟨g5, 0, none⟩) k2 c5).ownBlock ≠ some q) := by
            intro q hq e
            rcases hat6 with h | h
            · exact HA.out q (h.symm.trans hq) e
            · rw [hq] at h
              injection h with h
              have e5 : g5 = q := by simpa [Value.ownBlock] using e
              have h5 : q = wr.heap.size + 1 := by simpa using h
              omega
          have HB6 : Hid (Below w.heap.size w w6) := (HB.out.alloc HB.out.size _).grown hgr6 (by simp; omega) (fun q hq => (hO'.2.2.1.lt q hq).1)
          clear hown6 hgr6 hat6 hO' hM' hin hDD hO6 hM6 hc0 hc1
          go_wp2
          go_roundw
          case rel => exact ⟨j + 1, A6, c6, by omega, by go_num, by rw [HN4.out]; rfl, by have h5 := HN4.out; rw [show k1 + (j + 1) = N4 + 1 by omega]; exact HO6, HM6, by have h5 := HN4.out; rw [show k1 + (j + 1) = N4 + 1 by omega]; exact HA6, HB6⟩
          case measure => simp [RowKit.intOf]; omega
        · have hjk : j = k2 := by omega
          have HE1 : Hid (hs2.take j = hs2) := by show _ = _; rw [List.take_of_length_le (by rw [HL2.out]; omega)]
          have HE2 : Hid (rs2.take j = rs2) := by show _ = _; rw [List.take_of_length_le (by rw [HL3.out]; omega)]
          clear hjk
          go_wp2
          refine bodyPost_ret (results_tmp2 rfl _ _ _) rfl ?_
          have h5 := HO.out
          rw [HE1.out, HE2.out] at h5
          rw [HRD.out.1, HRD.out.2]
          exact made_recs HB.out ⟨_, h5⟩ (Nat.le_refl _) _
    · have hdt : (t1 != 0) = true := by simpa using ht
      have HT := Lib.hid ht
      clear ht
      go_wp2
      refine bodyPost_ret (results_tmp2 rfl _ _ _) rfl ?_
      obtain ⟨e1, e2⟩ := HDF.out (.inr HT.out)
      rw [e1, e2]
      exact made_nil HB02.out _
set_option maxRecDepth 100000 in
set_option maxHeartbeats 6400000 in
theorem readJournal_any (aT aB aO : Addr) (w : World) (B : Nat) (v : Value) (d : JD) (hr : CRd w B v d) (hB : B ≤ w.heap.size) (hf : jty.Few d) (hE : Rd.Errs w.heap.size w aT aB aO) (hK : Rd.ErrBlk w.heap.size w aT aB) :
    Calls Tryz.prog 54 #[v] w (Made1 sty (readD d) (.bool (readB d)) w) := by
  obtain ⟨i0, hi0, hz0, hz1, hz2⟩ := info_parts infoRec
  have hr0 := hr.rd
  obtain ⟨x, y, s⟩ := d
  obtain ⟨A1, c1, A2, c2, rfl, h1, h2, r1, r2⟩ := hr
  have HR := Lib.hid hr0
  have HF := Lib.hid hf
  have hf : x.length + y.length ≤ 1048576 := hf
  have hX := scan_cnt h1.2.1
  have hY := scan_cnt h2.2.1
  obtain ⟨m, hm⟩ : ∃ m, m = (x, y, s).1.length := ⟨_, rfl⟩
  obtain ⟨n, hn⟩ : ∃ n, n = (x, y, s).2.1.length := ⟨_, rfl⟩
  rw [← hm, ← hn] at HR ⊢
  rw [← hm] at h1 r1
  rw [← hn] at h2 r2
  have hx : m ≤ 1048576 := by have : m = x.length := hm; omega
  have hy : n ≤ 1048576 := by have : n = y.length := hn; omega
  have H1 : Hid (IsBytes w B A1 m x) := h1
  have H2 : Hid (IsBytes w B A2 n y) := h2
  have R1 := Lib.hid r1
  have R2 := Lib.hid r2
  have HE := Lib.hid hE
  have HK := Lib.hid hK
  have HX : Hid (cntR (scanV x).1 ≤ 1048576) := by have h5 : cntR (scanV x).1 ≤ x.length := hX; show _ ≤ _; omega
  have HY : Hid (cntR (scanV y).1 ≤ 1048576) := by have h5 : cntR (scanV y).1 ≤ y.length := hY; show _ ≤ _; omega
  have HDT : Hid ((scanV x).2.2 = 0 → jok (x, y, s) = true → readB (x, y, s) = true ∧ readD (x, y, s) = (scanV x).1 ++ (scanV y).1) := fun h0 hj => ⟨read_3 hj h0, readD_t (read_3 hj h0)⟩
  have HDF : Hid ((jok (x, y, s) = false ∨ (scanV x).2.2 ≠ 0) → readB (x, y, s) = false ∧ readD (x, y, s) = []) := by
    rintro (h | h)
    · exact ⟨read_1 h, readD_f (read_1 h)⟩
    · exact ⟨read_2 h, readD_f (read_2 h)⟩
  clear hr0 h1 h2 hm hn hf r1 r2 hX hY hE hK
  go_enter Tryz.func54, Tryz.ntmps54
  go_wp2_with fail
  refine (journalOk_any _ B _ (x, y, s) (jty.rd_below HR.out (bel1 _ _) hB) HF.out).mono ?_
  rintro e w1 ⟨rfl, hb1⟩
  have k0 : w1.heap[w.heap.size]? = some (.cells #[.slice A1 m c1, .slice A2 n c2, .int .i64 s] 32) := box_below (box_new _ _) hb1
  have hb01 : Below w.heap.size w w1 := bel_then (bel1 _ _) hb1 (by simp)
  have K0 := Lib.hid k0
  have HB01 := Lib.hid hb01
  clear hb1 hb01
  cases hj : jok (x, y, s)
  · have HJ := Lib.hid hj
    clear hj k0
    go_wp2
    refine bodyPost_ret (results_tmp2 rfl _ _ _) rfl ?_
    obtain ⟨e1, e2⟩ := HDF.out (.inl HJ.out)
    rw [e1, e2]
    exact made_nil HB01.out _
  · have HJ := Lib.hid hj
    obtain ⟨a0, a1, a2, _⟩ := box3 k0
    clear hj k0
    go_wp2_with fail
    refine (scanFrames_any A1 m c1 x w1.heap.size aT aB aO w1 (Rd.errs_up (HE.out.below HB01.out (Nat.le_refl _)) HB01.out.size) (blk_up (HK.out.below HB01.out (Nat.le_refl _)) HB01.out.size) ((H1.out.below HB01.out hB).more (Nat.le_trans hB HB01.out.size)) (Nat.le_refl _) hx R1.out).mono ?_
    rintro e w2 ⟨A3, c3, rfl, hO3, hb2⟩
    generalize hS : scanV x = S1 at hO3 HX HDT HDF
    obtain ⟨rs1, p1, t1⟩ := S1
    have hO3 : OwnRs w2 w1.heap.size A3 rs1.length c3 rs1 := hO3
    have HX : Hid (cntR rs1 ≤ 1048576) := HX
    have HDT : Hid (t1 = 0 → jok (x, y, s) = true → readB (x, y, s) = true ∧ readD (x, y, s) = rs1 ++ (scanV y).1) := HDT
    have HDF : Hid ((jok (x, y, s) = false ∨ t1 ≠ 0) → readB (x, y, s) = false ∧ readD (x, y, s) = []) := HDF
    show (fun e w' => _) (Ending.returned (.tuple #[.slice A3 rs1.length c3, .int .i64 (p1 : Nat), .int .i64 t1])) w2
    have hk1b : rs1.length ≤ 1048576 := Nat.le_trans (RecsTy.cnt_len rs1) HX.out
    obtain ⟨k1, hk1⟩ : ∃ k1, k1 = rs1.length := ⟨_, rfl⟩
    rw [← hk1] at hO3 hk1b ⊢
    have hb02 : Below w.heap.size w w2 := bel_then HB01.out hb2 HB01.out.size
    have KK := Lib.hid (box_below K0.out hb2)
    have HS1 : Hid (w.heap.size ≤ w1.heap.size) := HB01.out.size
    have HB02 := Lib.hid hb02
    have HO3 := Lib.hid hO3
    have HSX := Lib.hid hS
    have HK1 := Lib.hid hk1
    clear hb2 hb02 hO3 hS a0 a1 a2 hk1 K0
    by_cases ht : t1 = 0
    · have HDT2 := Lib.hid (HDT.out ht HJ.out)
      clear HDT HDF
      subst ht
      obtain ⟨a0, a1, a2, _⟩ := box3 KK.out
      go_wp2_with fail
      refine (scanFrames_any A2 n c2 y w2.heap.size aT aB aO w2 (Rd.errs_up (HE.out.below HB02.out (Nat.le_refl _)) HB02.out.size) (blk_up (HK.out.below HB02.out (Nat.le_refl _)) HB02.out.size) ((H2.out.below HB02.out hB).more (Nat.le_trans hB HB02.out.size)) (Nat.le_refl _) hy R2.out).mono ?_
      rintro e w3 ⟨A5, c5, rfl, hO5, hb3⟩
      generalize hS : scanV y = S2 at hO5 HY HDT2
      obtain ⟨rs2, p2, t2⟩ := S2
      have HRD : Hid (readB (x, y, s) = true ∧ readD (x, y, s) = rs1 ++ rs2) := HDT2
      clear HDT2
      have hO5 : OwnRs w3 w2.heap.size A5 rs2.length c5 rs2 := hO5
      have HY : Hid (cntR rs2 ≤ 1048576) := HY
      show (fun e w' => _) (Ending.returned (.tuple #[.slice A5 rs2.length c5, .int .i64 (p2 : Nat), .int .i64 t2])) w3
      have hk2b : rs2.length ≤ 1048576 := Nat.le_trans (RecsTy.cnt_len rs2) HY.out
      obtain ⟨k2, hk2⟩ : ∃ k2, k2 = rs2.length := ⟨_, rfl⟩
      rw [← hk2] at hO5 hk2b ⊢
      obtain ⟨hs1, hH1⟩ := HO3.out
      obtain ⟨hs2, hH2⟩ := hO5
      have hs2w := HB02.out.size
      have HD : Hid (Dis hs1 k1 hs2 k2) := dis_of hH1 (Nat.le_refl _) hH2
      have HR1 : Hid (OwnRsH w3 w.heap.size A3 k1 c3 hs1 rs1) := (ownH_base hH1 HS1.out).below hb3
      have HR2 : Hid (OwnRsH w3 w.heap.size A5 k2 c5 hs2 rs2) := ownH_base hH2 hs2w
      have HB03 := Lib.hid (bel_then HB02.out hb3 HB02.out.size)
      have HRW : Hid (w3.ownsRow w.heap.size 116 2 (.slice A3 k1 c3) k1 (flatH hs1)) := HR1.out.2.2.1
      have hc3 : k1 ≤ c3 := by
        rcases HRW.out.2 with ⟨e, e0⟩ | ⟨g, cap, cur, e, _, _, h7, _⟩
        · omega
        · injection e with _ _ e; omega
      have HC3 := Lib.hid hc3
      have hA5 : (A5 = none ∧ k2 = 0 ∧ c5 = 0) ∨ ∃ g, A5 = some ⟨g, 0, none⟩ := by
        rcases HR2.out.2.2.1.2 with ⟨e, e0⟩ | ⟨g, cap, cur, e, _⟩
        · injection e with h5 h6 h7
          exact .inl ⟨h5, h6, h7⟩
        · injection e with h5
          exact .inr ⟨g, h5⟩
      have HFL : Hid ((flatH hs2).length = k2 * 2) := by show _ = _; rw [flatH_len, hH2.1]
      have hs3 : w.heap.size ≤ w3.heap.size := HB03.out.size
      clear hH1 hH2 hb3 hS hk2 a0 a1 a2 HO3 KK hc3
      rcases hA5 with ⟨rfl, rfl, rfl⟩ | ⟨g5, rfl⟩
      · go_wp2_with (at_builtin; refine wpList_append_none _ rfl (.tmp 29) (.tmp 30) _ rfl 116 i0 Tryz.underlying99 hi0 A3 k1 c3 rfl rfl HC3.out ?_)
        go_wp2
        refine bodyPost_ret (results_tmp2 rfl _ _ _) rfl ?_
        have h5 : rs2 = [] := List.eq_nil_of_length_eq_zero HR2.out.2.1
        rw [HRD.out.1, HRD.out.2, h5, List.append_nil]
        exact made_recs HB03.out ⟨_, HR1.out⟩ (Nat.le_refl _) _
      · go_wp2_with (at_builtin; refine wpList_append_own_at _ rfl (.tmp 29) (.tmp 30) _ rfl w.heap.size 116 i0 _ 2 32 Tryz.underlying99 hi0 hz0 hz1 hz2 rfl (by omega) (.slice A3 k1 c3) k1 (flatH hs1) rfl ?o1 ⟨g5, 0, none⟩ k2 c5 (flatH hs2) rfl ?o7 ?o2 ?o3 ?o4 ?o5 ?o6 ?_)
        case o1 => exact HRW.out
        case o7 => exact HFL.out
        case o2 => exact row_news HR2.out
        case o3 => exact flat_one hs2
        case o4 => unfold maxLen; omega
        case o5 => omega
        case o6 => exact hs3
        intro v6 w6 hown6 hgr6 _ hat6
        obtain ⟨A6, c6, rfl, hO6⟩ := ownH_join HR1.out (inner_of HR2.out) HD.out hown6 hgr6
        have HB6 : Hid (Below w.heap.size w w6) := HB03.out.grown hgr6 hs3 (fun q hq => (HR1.out.2.2.1.lt q hq).1)
        have HO6 := Lib.hid hO6
        clear hown6 hgr6 hat6 hO6
        go_wp2
        refine bodyPost_ret (results_tmp2 rfl _ _ _) rfl ?_
        rw [HRD.out.1, HRD.out.2]
        exact made_recs HB6.out ⟨_, HO6.out⟩ (Nat.le_refl _) _
    · have hdt : (t1 != 0) = true := by simpa using ht
      have HT := Lib.hid ht
      clear ht
      go_wp2
      refine bodyPost_ret (results_tmp2 rfl _ _ _) rfl ?_
      obtain ⟨e1, e2⟩ := HDF.out (.inr HT.out)
      rw [e1, e2]
      exact made_nil HB02.out _
end Go.Proofs.YtklgjjmcflgjeaaGreatDoor.Jour
namespace Go.Proofs.YtklgjjmcflgjeaaGreatDoor.Jour
open Go.ChangeShapes Go.WideShapes Go.ChangeAt Go.RowKit
open Bytes LK
open RecTy (RD RRd rty)
open Rec (recB frameV frameT frame_t frame_f frame_len frame_in recordOk_any frameRecord_any)
open Rec (specRecordOk_any)
open Rec (specFrameRecord_any)
open Rec (l01Join_any)
set_option maxHeartbeats 800000 in
theorem write_no (pf : Nat) (A : Option Addr) (n c : Nat) (s : Int) (C : Option Addr) (m d : Nat) (w : World) (h : w.heap[pf]? = some (fileO A n c s)) (hn : n ≤ 1048576) (hm : m ≤ 1048576) (hno : 3000 < n + m) :
    Calls Tryz.prog 387 #[fp pf, .slice C m d] w fun e w' => e = .returned (.bool false) ∧ w' = w := by
  have H := Lib.hid h
  clear h
  have hd : decide ((3000 : Int) - (n : Int) < (m : Int)) = true := by simp; omega
  go_enter Tryz.func387, Tryz.ntmps387
  go_wp2_with fail
  refine (room_any pf A n c s _ H.out hn).mono ?_
  rintro e w1 ⟨rfl, rfl⟩
  go_wp2
  go_ret
  exact ⟨rfl, rfl⟩
def Wrote (w : World) (lo pf : Nat) (A : Option Addr) (n c m : Nat) (s : Int) (bs : List Int) (e : Ending) (w' : World) : Prop :=
  ∃ g c', e = .returned (.bool true) ∧ w'.heap[pf]? = some (fileO (some ⟨g, 0, none⟩) (n + m) c' s) ∧ OwnB w' lo (some ⟨g, 0, none⟩) (n + m) c' bs ∧ ((Value.slice A n c).ownBlock = some g ∨ g = w.heap.size) ∧ Turned (fun k => k = pf ∨ (Value.slice A n c).ownBlock = some k) w w'
set_option maxRecDepth 100000 in
set_option maxHeartbeats 1600000 in
theorem write_yes (pf lo : Nat) (A : Option Addr) (n c : Nat) (s : Int) (C : Option Addr) (m d : Nat) (bs ys : List Int) (B : Nat) (w : World) (h : w.heap[pf]? = some (fileO A n c s)) (ho : OwnB w lo A n c bs) (hr : IsBytes w B C m ys) (hm : 0 < m) (hyes : n + m ≤ 3000) (hlo : lo ≤ w.heap.size) :
    Calls Tryz.prog 387 #[fp pf, .slice C m d] w (Wrote w lo pf A n c m s (bs ++ ys)) := by
  obtain ⟨i0, hi0, hz0, hz1, hz2⟩ := info_parts infoByte
  obtain ⟨b, off, rfl, _, _⟩ := hr.2.2 hm
  have H := Lib.hid h
  have HO := Lib.hid ho
  have HC := Lib.hid (bytes_news hr)
  have HLY : Hid (ys.length = m) := hr.1
  have HYB := Lib.hid hr.2.1
  obtain ⟨c0, c1, f0, f1⟩ := box2 h
  have hlt := box_lt h
  have hnr : ∀ k, (Value.slice A n c).ownBlock = some k → k ≠ pf := by
    intro k hk e; subst e; exact row_not ho hk (by decide) h
  have HNR := Lib.hid hnr
  clear h ho hr hnr
  have hd : decide ((3000 : Int) - (n : Int) < (m : Int)) = false := by simp; omega
  go_enter Tryz.func387, Tryz.ntmps387
  go_wp2_with fail
  refine (room_any pf A n c s _ H.out (by omega)).mono ?_
  rintro e w1 ⟨rfl, rfl⟩
  go_wp2_with (at_builtin; refine wpList_append_lies _ rfl (.tmp 14) (.tmp 15) _ rfl lo 5 i0 _ 1 1 Tryz.underlying22 hi0 hz0 hz1 hz2 rfl (by omega) (.slice A n c) n (bs.map (Value.int .u8)) rfl (by exact HO.out.2.2) ⟨b, off, none⟩ m d (ys.map (Value.int .u8)) rfl ?o1 ?o2 ?o3 hm ?o4 ?o5 ?o6 w1.heap.size rfl ?_)
  case o1 => rw [List.length_map, HLY.out, Nat.mul_one]
  case o2 => exact HC.out
  case o3 => exact bytes_one ys
  case o4 => unfold maxLen; omega
  case o5 => omega
  case o6 => exact hlo
  intro g cap w2 hown2 hgr2 hat2 hlt2
  have HOW := Lib.hid hown2
  have HAT := Lib.hid hat2
  have HT2 : Hid (Turned (fun k => k = pf ∨ (Value.slice A n c).ownBlock = some k) w1 w2) := Turned.of_grown hgr2 (fun k hk => .inr hk)
  have b2 : w2.heap[pf]? = some (fileO A n c s) := by
    have h5 := H.out
    rw [← h5]
    exact hgr2.block pf hlt (fun e => HNR.out pf e.symm rfl)
  obtain ⟨k0, k1, l0, l1⟩ := box2 b2
  have B2 := Lib.hid b2
  clear hown2 hat2 hgr2 b2 c0 c1 f0 f1
  go_wp2
  go_ret
  refine ⟨g, cap, rfl, box_set (i := 0) B2.out _, ?_, HAT.out, HT2.out.trans (Turned.set (S := fun k => k = pf ∨ (Value.slice A n c).ownBlock = some k) _ ⟨pf, 0, none⟩ _ (.inl rfl))⟩
  have hgp : g ≠ pf := by
    rcases HAT.out with h | h
    · exact HNR.out g h
    · omega
  have h5 : OwnB w2 lo (some ⟨g, 0, none⟩) (n + m) cap (bs ++ ys) := by
    refine ⟨by rw [List.length_append, HO.out.1, HLY.out], fun z hz => ?_, by rw [List.map_append]; exact HOW.out⟩
    rcases List.mem_append.1 hz with h | h
    · exact HO.out.2.1 z h
    · exact HYB.out z h
  refine own_same h5 (fun k hk => Below.heap_setCell _ _ _ _ ?_)
  have e5 : g = k := by simpa [Value.ownBlock] using hk
  subst e5
  exact hgp
end Go.Proofs.YtklgjjmcflgjeaaGreatDoor.Jour
namespace Go.Proofs.YtklgjjmcflgjeaaGreatDoor.Jour
open Go.ChangeShapes Go.WideShapes Go.ChangeAt Go.RowKit
open Bytes LK
open Ints (below_drewN)
open RecTy (RD RRd rty)
open Rec (recB frameV frameT frame_t frame_f frame_len frame_in recordOk_any frameRecord_any)
theorem frame_pos {kd : Int} {zs : List Int} (h : recB kd zs = true) : 0 < (frameV kd zs).length := by
  rw [frame_t h]
  simp [frameT]
end Go.Proofs.YtklgjjmcflgjeaaGreatDoor.Jour
