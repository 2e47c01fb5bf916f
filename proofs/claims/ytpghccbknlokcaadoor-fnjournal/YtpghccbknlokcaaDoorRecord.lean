/-
  THE CONTRACT of the reader's record over this seat's translation.
-/
import Derived.Test.YtpghccbknlokcaaDoorRecV
namespace Go.Proofs.YtpghccbknlokcaaDoor.Rd
open Go.ChangeShapes Go.WideShapes Go.ChangeAt Go.RowKit
open Go.Proofs.YtpghccbknlokcaaDoor.Ints (below_drewN info3 own_lt)
open Go.Proofs.YtpghccbknlokcaaDoor.Has (OwnI)
open Go.Proofs.YtpghccbknlokcaaDoor.Bytes (IsBytes sumV sumV_in sumOf_any)
open Go.Proofs.YtpghccbknlokcaaDoor.Rec (grown_set below_a1 blk2 ownI_base)
set_option linter.unusedVariables false
set_option linter.unusedSimpArgs false

/-- Where b[p:q:q] begins. -/
def cutA (A : Option Addr) (p q : Nat) : Option Addr := if q = p then A else A.map (·.add (p * 1))
theorem cut3 (A : Option Addr) (n c p q : Nat) (h1 : p ≤ q) (h2 : q ≤ c) (W : World) :
    (Instr.slice 22 (.slice A n c) (some (.int .i64 p)) (some (.int .i64 q)) (some (.int .i64 q))).run Tryd.prog W = .ok (.slice (cutA A p q) (q - p) (q - p)) W := by
  obtain ⟨i0, hi, hz0, hz1, hz2⟩ := info_parts Bytes.infoByte
  rw [run_slice_lhm W 22 A n c (by kernel_rfl) .i64 .i64 .i64 p q q (by omega) (by omega) (by omega) (by omega)]
  have hs : (sizeOf (Tryd.prog.elem 22)).run Tryd.prog W = .ok 1 W := by
    have he : Tryd.prog.elem 22 = 5 := by kernel_rfl
    rw [he]
    simp [sizeOf, typeInfo, hi, hz1]
  rw [hs]
  simp [Result.andThen, sliced, cutA]
theorem bytes_cut {w : World} {B : Nat} {A : Option Addr} {n p q : Nat} {bs : List Int} (h : IsBytes w B A n bs) (h1 : p ≤ q) (h2 : q ≤ n) : IsBytes w B (cutA A p q) (q - p) ((bs.take q).drop p) := by
  have hl := h.1
  refine ⟨by simp; omega, fun x hx => h.2.1 x (List.mem_of_mem_take (List.mem_of_mem_drop hx)), fun hp => ?_⟩
  obtain ⟨b, off, rfl, hb, hc⟩ := h.2.2 (by omega)
  refine ⟨b, off + p, ?_, hb, fun j hj => ?_⟩
  · rw [cutA, if_neg (by omega)]
    simp only [Option.map_some, Nat.mul_one, Option.some.injEq]
    unfold Addr.add
    split
    · subst_vars; rfl
    · rfl
  · rw [Nat.add_assoc, hc (p + j) (by omega)]
    congr 2
    simp [List.getD, List.getElem?_drop, List.getElem?_take, show p + j < q by omega]

theorem rep_set (acc : List Int) (m k : Nat) (r : Int) (hk : k < m) (hl : acc.length = k) : (acc ++ List.replicate (m - k) (0 : Int)).set k r = (acc ++ [r]) ++ List.replicate (m - (k + 1)) 0 := by
  rw [List.set_append_right _ _ (by omega), hl, Nat.sub_self, show m - k = (m - (k + 1)) + 1 by omega, List.replicate_succ, List.set_cons_zero, List.append_assoc]
  rfl

/-- What a record's reading leaves. -/
def RecLeft (bs : List Int) (w : World) (R : Nat) (A : Option Addr) (n c p : Nat) (f : Flt) (aT aB aO : Addr) (e : Ending) (w' : World) : Prop :=
  ∃ (kd : Int) (zs : List Int) (p' : Nat) (f' : Flt) (v : Value), e = .returned v ∧ Rd w' R A n c p' (fv aT aB aO f') ∧ w.grownBy w' (some R) ∧ p ≤ p' ∧ p' ≤ n ∧ RecSt bs p f kd zs p' f' ∧
    (f' = .no → ∃ A' c', v = .agg #[.int .i64 kd, .slice A' zs.length c'] ∧ OwnI w' w.heap.size A' zs.length c' zs) ∧ (f' ≠ .no → v = .agg #[.int .i64 0, .slice none 0 0])

theorem grown_new {w w0 w' : World} {R : Nat} (h0 : Below w.heap.size w w0) (h : w0.grownBy w' (some R)) : w.grownBy w' (some R) :=
  (show w.grownBy w0 (some R) from ⟨h0.os, h0.tape, h0.output, h0.size, fun i hi _ => h0.block i hi⟩).andThen h (fun j hj => .inr hj)

set_option maxRecDepth 100000 in
set_option maxHeartbeats 6400000 in
theorem record_any (w : World) (R : Nat) (A : Option Addr) (n c p : Nat) (f : Flt) (bs : List Int) (B : Nat) (aT aB aO : Addr) (hE : Errs B w aT aB aO) (hB : IsBytes w B A n bs) (hBR : B ≤ R) (hn : n ≤ 1048576) (hc : n ≤ c) (h : Rd w R A n c p (fv aT aB aO f)) (hp : p ≤ n) :
    Calls Tryd.prog 49 #[.pointer (some ⟨R, 0, none⟩)] w (RecLeft bs w R A n c p f aT aB aO) := by
  obtain ⟨i0, hi, hz0, hz1, hz2⟩ := info_parts info3
  have hRw := h.lt
  have hb0 : Below w.heap.size w (w.alloc (.cells #[.int .i64 0, .slice none 0 0] 30)) := below_a1 _ _
  have HNEW : Hid ((w.alloc (.cells #[.int .i64 0, .slice none 0 0] 30)).heap[w.heap.size]? = some (.cells #[.int .i64 0, .slice none 0 0] 30 (0, 0))) := heap_alloc_new _ _
  have hR0 := h.below hb0
  have HR0 := Lib.hid hR0
  have HB0 := Lib.hid (hB.below hb0 (by omega))
  have HE0 := Lib.hid (hE.below hb0 (by omega))
  obtain ⟨k0, k1, k2, _, _⟩ := hR0
  clear hB hE h
  go_enter Tryd.func49, Tryd.ntmps49
  go_wp2_with fail
  refine (upTo_c (bs := bs) 99 (by omega) HE0.out HB0.out hBR hn HR0.out hp).mono ?_
  rintro e w1 ⟨r1, p1, f1, ⟨rfl, hR1, hg1⟩, hp1, hp1n, hr1, hU1⟩
  obtain ⟨w0, hw0⟩ : ∃ w0, w0 = w.alloc (.cells #[.int .i64 0, .slice none 0 0] 30) := ⟨_, rfl⟩
  rw [← hw0] at hg1 hb0 HNEW HB0 HE0
  have hs0 : w.heap.size + 1 = w0.heap.size := by rw [hw0]; simp
  have HS0 := Lib.hid hs0
  have hR0lt : R < w0.heap.size := by omega
  have HR1 := Lib.hid hR1
  have HB1 := Lib.hid (bytes_on HB0.out hg1 hBR hR0lt)
  have HE1 := Lib.hid (errs_on HE0.out hg1 hBR hR0lt)
  have G1 := Lib.hid hg1
  have HU1 := Lib.hid hU1
  have hs1 : w0.heap.size ≤ w1.heap.size := hg1.size
  clear hw0 hs0 hR1 hg1 hU1 HR0 k0 k1 k2
  go_wp2_with fail
  refine (upTo_c (bs := bs) 12 (by omega) HE1.out HB1.out hBR hn HR1.out hp1n).mono ?_
  rintro e w2 ⟨m, p2, f2, ⟨rfl, hR2, hg2⟩, hp2, hp2n, hr2, hU2⟩
  have hm12 : m ≤ 12 := by omega
  have HR2 := Lib.hid hR2
  have HB2 := Lib.hid (bytes_on HB1.out hg2 hBR (by omega))
  have HE2 := Lib.hid (errs_on HE1.out hg2 hBR (by omega))
  have G2 := Lib.hid (grown_trans G1.out hg2)
  have HU2 := Lib.hid hU2
  have hs2 : w0.heap.size ≤ w2.heap.size := Nat.le_trans hs1 hg2.size
  clear hR2 hg2 hU2 HR1 HB1 HE1 G1 hr2
  go_wp2_with (at_make; refine wpList_make_full _ rfl _ _ 28 rfl w2.heap.size 3 i0 (.int .i64 0) 1 Tryd.underlying28 hi hz0 hz1 _ _ _ _ m rfl rfl rfl rfl ?b1 ?b2 ?b3 ?_)
  case b1 => rw [hz2]; omega
  case b2 => unfold maxLen; omega
  case b3 => exact Nat.le_refl _
  intro w3 hown hgrow
  have hb23 : Below w2.heap.size w2 w3 := (Below.refl _ _).grown hgrow (Nat.le_refl _) (by intro k h; cases h)
  rw [toList_madeCells_one] at hown
  have hsz : w2.heap.size < w3.heap.size := own_lt hown
  have HO3 : Hid (OwnI w3 w2.heap.size (some ⟨w2.heap.size, 0, none⟩) m m ([] ++ List.replicate (m - 0) (0 : Int))) := ⟨by simp, by simpa using hown⟩
  have HR3 := Lib.hid (HR2.out.below hb23)
  have G3 := Lib.hid (G2.out.andThen (show w2.grownBy w3 (some R) from ⟨hb23.os, hb23.tape, hb23.output, hb23.size, fun i hi _ => hb23.block i hi⟩) (fun j hj => .inr hj))
  clear hgrow hi hz0 hz1 hz2 hown hb23 HR2 G2
  generalize hgb : w2.heap.size = g at HO3 hsz hs2 ⊢
  clear hgb
  have hRg : R < g := by omega
  go_wp2_with fail
  go_loopw [19] (fun i wr => ∃ (k q : Nat) (f3 : Flt) (acc : List Int), k ≤ m ∧ p2 ≤ q ∧ q ≤ n ∧ i = .int .i64 k ∧ Hid (acc.length = k) ∧ Hid (NSt bs m p2 f2 k acc q f3) ∧ Hid (Rd wr R A n c q (fv aT aB aO f3)) ∧ Hid (OwnI wr g (some ⟨g, 0, none⟩) m m (acc ++ List.replicate (m - k) (0 : Int))) ∧ Hid (w0.grownBy wr (some R)) ∧ g < wr.heap.size) (fun i _ => m - (intOf i).toNat)
  case atStart => exact ⟨0, p2, f2, [], Nat.zero_le _, Nat.le_refl _, hp2n, rfl, rfl, NSt.start _ _ _ _, HR3, HO3, G3, hsz⟩
  case round =>
    obtain ⟨k, q, f3, acc, hk, hq, hqn, rfl, HAL, HN, HR, HO, HG, hgr⟩ := hrel
    have HBr := Lib.hid (bytes_on HB0.out HG.out hBR hR0lt)
    have HEr := Lib.hid (errs_on HE0.out HG.out hBR hR0lt)
    have hRr : R < wr.heap.size := by omega
    by_cases hlt : k < m
    · go_wp2_with fail
      refine (number_c (bs := bs) HEr.out HBr.out hBR hn HR.out hqn).mono ?_
      rintro e w4 ⟨r, q4, f4, ⟨rfl, hR4, hg4⟩, hq4, hq4n, hN4⟩
      have hO4 : OwnI w4 g (some ⟨g, 0, none⟩) m m (acc ++ List.replicate (m - k) (0 : Int)) := HO.out.grown hg4 (.inr (by simp [Value.ownBlock]; omega))
      have hcell : ∃ u, w4.cell? ⟨g, k, none⟩ = some u := by
        have h5 := hO4.2.1
        exact ⟨_, (hO4.2.cellAt k (by omega)).trans (List.getElem?_eq_getElem (by omega))⟩
      obtain ⟨u, hu⟩ := hcell
      have hfz := hO4.2.frozenAt k
      obtain ⟨hs1', hs2'⟩ := hO4.2.stored k (.int .i64 r)
      have HO5 : Hid (OwnI (w4.setCell ⟨g, k, none⟩ (.int .i64 r)) g (some ⟨g, 0, none⟩) m m ((acc ++ [r]) ++ List.replicate (m - (k + 1)) (0 : Int))) := by
        rw [← rep_set acc m k r hlt HAL.out]
        refine ⟨by rw [List.length_set]; exact hO4.1, ?_⟩
        rw [List.map_set]
        exact hs1'
      have HR5 : Hid (Rd (w4.setCell ⟨g, k, none⟩ (.int .i64 r)) R A n c q4 (fv aT aB aO f4)) := hR4.grown (grown_set _ _ _) (by simp; omega)
      have HG5 : Hid (w0.grownBy (w4.setCell ⟨g, k, none⟩ (.int .i64 r)) (some R)) := (grown_trans HG.out hg4).andThen (grown_set w4 ⟨g, k, none⟩ (.int .i64 r)) (fun j hj => .inl (by cases hj; show w0.heap.size ≤ g; omega))
      have HN5 := Lib.hid (NSt.step HN.out hlt hN4)
      have hs5 : g < (w4.setCell ⟨g, k, none⟩ (.int .i64 r)).heap.size := by have := hg4.size; simp [World.setCell]; omega
      clear hs1' hs2' hR4 hg4 hO4 hN4
      go_wp2
      go_roundw
      case rel => exact ⟨k + 1, q4, f4, acc ++ [r], by omega, by omega, hq4n, by go_num, by show _ = _; rw [List.length_append, HAL.out]; rfl, HN5, HR5, HO5, HG5, hs5⟩
      case measure => simp [intOf]; omega
    · have HK : Hid (k = m) := (by omega : k = m)
      have HNm : Hid (NSt bs m p2 f2 m acc q f3) := by have h1 := HN.out; rw [HK.out] at h1; exact h1
      have HOm : Hid (OwnI wr g (some ⟨g, 0, none⟩) m m acc) := by have h1 := HO.out; rw [HK.out, Nat.sub_self] at h1; show OwnI _ _ _ _ _ _; simpa using h1
      have hcut := cut3 A n c p q (by omega) (by omega)
      have HBC := Lib.hid (bytes_cut (p := p) (q := q) HBr.out (by omega) hqn)
      obtain ⟨s, hs⟩ : ∃ s, s = sumV ((bs.take q).drop p) := ⟨_, rfl⟩
      have hsb := sumV_in ((bs.take q).drop p)
      rw [← hs] at hsb
      have HSV := Lib.hid hs
      obtain ⟨c0, c1, c2, _, _⟩ := HR.out
      have HSUM : Hid (∀ nn, Calls Tryd.prog 47 #[.slice (cutA A p q) (q - p) (q - p)] (wr.drewN nn) fun e w' => e = .returned (.int .i64 s) ∧ w' = wr.drewN nn) := fun nn => by
        rw [hs]
        refine (sumOf_any (cutA A p q) (q - p) (q - p) _ B (wr.drewN nn) HBC.out (by omega)).mono ?_
        rintro e w' ⟨rfl, rfl⟩
        exact ⟨rfl, rfl⟩
      clear hs HN HO
      go_wp2_with fail
      go_quiet (first | (go_at_call 47; exact Calls.quiet_of_same (HSUM.out _)))
      have HRq := Lib.hid (HR.out.drewN nq)
      have HGq := Lib.hid (grown_todrew HG.out nq)
      have HBq : Hid (IsBytes (wr.drewN nq) B A n bs) := HBr.out
      have HEq := Lib.hid (errs_on HE0.out HGq.out hBR hR0lt)
      have HOq : Hid (OwnI (wr.drewN nq) g (some ⟨g, 0, none⟩) m m acc) := HOm.out
      have hgq : g < (wr.drewN nq).heap.size := hgr
      generalize wr.drewN nq = wq at HRq HGq HBq HEq HOq hgq ⊢
      clear c0 c1 c2 HSUM hcut HR HG HBr HEr HOm
      go_wp2_with fail
      refine (exactly_c (bs := bs) (s / 256) HEq.out HBq.out hBR hn HRq.out hqn).mono ?_
      rintro e w5 ⟨q5, f5, ⟨rfl, hR5, hg5⟩, hq5, hq5n, hX5⟩
      have HR5 := Lib.hid hR5
      have HX5 := Lib.hid hX5
      have HG5 := Lib.hid (grown_trans HGq.out hg5)
      have HB5 := Lib.hid (bytes_on HB0.out HG5.out hBR hR0lt)
      have HE5 := Lib.hid (errs_on HE0.out HG5.out hBR hR0lt)
      have HO5 : Hid (OwnI w5 g (some ⟨g, 0, none⟩) m m acc) := HOq.out.grown hg5 (.inr (by simp [Value.ownBlock]; omega))
      clear hR5 hX5 hg5 HRq HGq HBq HEq HOq
      go_wp2_with fail
      refine (exactly_c (bs := bs) (s % 256) HE5.out HB5.out hBR hn HR5.out hq5n).mono ?_
      rintro e w6 ⟨q6, f6, ⟨rfl, hR6, hg6⟩, hq6, hq6n, hX6⟩
      have HR6 := Lib.hid hR6
      have HG6 := Lib.hid (grown_trans HG5.out hg6)
      have HO6 : Hid (OwnI w6 g (some ⟨g, 0, none⟩) m m acc) := HO5.out.grown hg6 (.inr (by simp [Value.ownBlock]; omega))
      have HST := Lib.hid (recSt_of HU1.out HU2.out HNm.out (fun _ => HSV.out) HX5.out hX6)
      have hblk : w6.heap[w.heap.size]? = some (.cells #[.int .i64 0, .slice none 0 0] 30 (0, 0)) := by
        rw [HG6.out.block w.heap.size (by have := HS0.out; omega) (by simp; omega)]
        exact HNEW.out
      obtain ⟨b0, b1, z0, z1⟩ := blk2 hblk
      have HMA : Hid (acc.length = m) := HO6.out.1
      obtain ⟨c0, c1, c2, _, _⟩ := hR6
      have e1 := neNil
      have e2 := neIf
      clear hg6 hX6 hblk HG5 HB5 HE5 HO5 HX5
      have hwr : ∀ (u v : Value), Rd ((w6.setCell ⟨w.heap.size, 0, none⟩ u).setCell ⟨w.heap.size, 1, none⟩ v) R A n c q6 (fv aT aB aO f6) ∧ w.grownBy ((w6.setCell ⟨w.heap.size, 0, none⟩ u).setCell ⟨w.heap.size, 1, none⟩ v) (some R) := fun u v => by
        have hne : some w.heap.size ≠ some R := by simp; omega
        have g1 := grown_set w6 ⟨w.heap.size, 0, none⟩ u
        have g2 := grown_set (w6.setCell ⟨w.heap.size, 0, none⟩ u) ⟨w.heap.size, 1, none⟩ v
        refine ⟨(HR6.out.grown g1 hne).grown g2 hne, ?_⟩
        refine ((grown_new hb0 HG6.out).andThen g1 (fun j hj => .inl ?_)).andThen g2 (fun j hj => .inl ?_)
        · cases hj; exact Nat.le_refl _
        · cases hj; exact Nat.le_refl _
      have HWR := Lib.hid hwr
      clear hwr
      by_cases hf : f6 = .no
      · subst hf
        have c2' : w6.cell? ⟨R, 2, none⟩ = some .nilIface := c2
        clear c2
        go_wp2
        refine bodyPost_ret (v := .agg #[.int .i64 r1, .slice (some ⟨g, 0, none⟩) m m]) (by simp [results, Tryd.results49, go_sem, b0, b1]) rfl ⟨r1, acc, q6, .no, _, rfl, (HWR.out _ _).1, (HWR.out _ _).2, by omega, hq6n, HST.out, fun _ => ⟨some ⟨g, 0, none⟩, m, by rw [HMA.out], ?_⟩, fun h => absurd rfl h⟩
        rw [HMA.out]
        have g1 := Rec.ownI_setLow (Rec.ownI_setLow HO6.out (p := ⟨w.heap.size, 0, none⟩) (by show w.heap.size < g; have := HS0.out; omega) (.int .i64 (r1 : Int))) (p := ⟨w.heap.size, 1, none⟩) (by show w.heap.size < g; have := HS0.out; omega) (.slice (some ⟨g, 0, none⟩) m m)
        exact ownI_base g1 (by have := HS0.out; omega)
      · obtain ⟨u, x, e0⟩ := fv_dead aT aB aO hf
        have c2' : w6.cell? ⟨R, 2, none⟩ = some (.iface u x) := by rw [← e0]; exact c2
        clear c2 e0
        go_wp2
        refine bodyPost_ret (v := .agg #[.int .i64 0, .slice none 0 0]) (by simp [results, Tryd.results49, go_sem, b0, b1]) rfl ⟨r1, acc, q6, f6, _, rfl, (HWR.out _ _).1, (HWR.out _ _).2, by omega, hq6n, HST.out, fun h => absurd h hf, fun _ => rfl⟩
end Go.Proofs.YtpghccbknlokcaaDoor.Rd
