import Derived.Test.YtklgjjmcflgjeaaGreatDoorC00
import Derived.Test.YtklgjjmcflgjeaaGreatDoorC05
import Derived.Test.YtklgjjmcflgjeaaGreatDoorC06
set_option linter.unusedVariables false
set_option linter.unusedSimpArgs false
namespace Go.Proofs.YtklgjjmcflgjeaaGreatDoor.Rd
open Go.ChangeShapes Go.WideShapes Go.ChangeAt Go.RowKit
open Ints (below_drewN info3)
open Has (OwnI)
open Bytes (IsBytes numB num_of sumV sumV_in specSumOf_any lit_news)
open Rec (grown_set below_a1 blk2 ownI_base Box recB rec_t rec_1 rec_2 rec_4 specRecordOk_any)
open Tick (inB)
theorem numG_in {bs : List Int} (hb : ∀ x ∈ bs, 0 ≤ x ∧ x < 256) {y : Int} {q : Nat} : ∀ (k p i : Nat) (x u : Int), 0 ≤ x → 0 ≤ u → numG bs k p i x u = .ok y q → 0 ≤ y ∧ y ≤ 1099511627775 ∧ p < q ∧ q ≤ bs.length
  | 0, p, i, x, u, _, _, h => by cases h
  | k + 1, p, i, x, u, hx, hu, h => by
    by_cases h1 : bs.length ≤ p
    · rw [numG_torn h1] at h; cases h
    · have hz := hb (bs.getD p 0) (by simp [List.getD, show p < bs.length by omega])
      have hd : 0 ≤ bs.getD p 0 % 128 * u := Int.mul_nonneg (by omega) hu
      by_cases h2 : 128 ≤ bs.getD p 0
      · rw [numG_on (by omega) h2] at h
        have := numG_in hb k (p + 1) (i + 1) _ _ (by omega) (by omega) h
        omega
      · by_cases h3 : (bs.getD p 0 = 0 ∧ 0 < i) ∨ 1099511627775 < x + bs.getD p 0 % 128 * u
        · rw [numG_bent (by omega) (by omega) h3] at h; cases h
        · rw [numG_ok (by omega) (by omega) h3] at h
          injection h with e1 e2
          omega
theorem numR_in {bs : List Int} (hb : ∀ x ∈ bs, 0 ≤ x ∧ x < 256) {p q : Nat} {y : Int} (h : numR bs p = .ok y q) : numB y = true ∧ p < q ∧ q ≤ bs.length := by
  have := numG_in hb 6 p 0 0 1 (by omega) (by omega) h
  exact ⟨num_of this.1 this.2.1, this.2.2⟩
theorem rec_short {bs : List Int} {p : Nat} (h : bs.length < p + 2) : recR bs p = .torn ∨ recR bs p = .bent := by
  unfold recR
  split
  · exact .inl rfl
  · split
    · exact .inr rfl
    · rw [if_pos (by omega)]; exact .inl rfl
theorem rec_nums {bs : List Int} {p : Nat} (h : p + 1 < bs.length) (hm : numsA bs (bs.getD (p + 1) 0).toNat (p + 2) [] = .torn ∨ numsA bs (bs.getD (p + 1) 0).toNat (p + 2) [] = .bent) : recR bs p = .torn ∨ recR bs p = .bent := by
  unfold recR
  rw [if_neg (by omega)]
  split
  · exact .inr rfl
  · rw [if_neg (by omega)]
    split
    · exact .inr rfl
    · rcases hm with hm | hm <;> rw [hm]
      · exact .inl rfl
      · exact .inr rfl
theorem rec_big {bs : List Int} {p : Nat} (h : p + 1 < bs.length) (h2 : 99 < bs.getD p 0 ∨ 12 < bs.getD (p + 1) 0) : recR bs p = .torn ∨ recR bs p = .bent := by
  unfold recR
  rw [if_neg (by omega)]
  split
  · exact .inr rfl
  · rw [if_neg (by omega), if_pos (by omega)]
    exact .inr rfl
theorem rec_tail {bs : List Int} {p q : Nat} {acc : List Int} (h : p + 1 < bs.length) (h1 : bs.getD p 0 ≤ 99) (h2 : bs.getD (p + 1) 0 ≤ 12) (hm : numsA bs (bs.getD (p + 1) 0).toNat (p + 2) [] = .ok acc q) : recR bs p = tailR bs p q (bs.getD p 0) acc := by
  unfold recR
  rw [if_neg (by omega), if_neg (by omega), if_neg (by omega), if_neg (by omega), hm]
  rfl
theorem tail_short {bs : List Int} {p q : Nat} {kd : Int} {acc : List Int} (h : bs.length < q + 2) : tailR bs p q kd acc = .torn ∨ tailR bs p q kd acc = .bent := by
  unfold tailR
  split
  · exact .inl rfl
  · split
    · exact .inr rfl
    · rw [if_pos (by omega)]; exact .inl rfl
structure RB (w : World) (b : Nat) (kd : Int) (A : Option Addr) (n c : Nat) : Prop where
  c0 : w.cell? ⟨b, 0, none⟩ = some (.int .i64 kd)
  c1 : w.cell? ⟨b, 1, none⟩ = some (.slice A n c)
  f0 : w.frozen? ⟨b, 0, none⟩ = false
  f1 : w.frozen? ⟨b, 1, none⟩ = false
section
variable {w w' : World} {b : Nat} {kd : Int} {A : Option Addr} {n c : Nat}
theorem RB.lt (h : RB w b kd A n c) : b < w.heap.size := World.block_lt_of_cell? w _ h.c0
theorem RB.grown {row : Option Nat} (h : RB w b kd A n c) (hg : w.grownBy w' row) (hne : row ≠ some b) : RB w' b kd A n c := by
  have e : w'.heap[b]? = w.heap[b]? := hg.block b h.lt (fun e => hne e.symm)
  exact ⟨(World.cell?_of_block e).trans h.c0, (World.cell?_of_block e).trans h.c1, (World.frozen?_of_block (a := ⟨b, 0, none⟩) e).trans h.f0, (World.frozen?_of_block (a := ⟨b, 1, none⟩) e).trans h.f1⟩
theorem RB.low {C : Nat} (h : RB w b kd A n c) (hb : Below C w w') (hC : b < C) : RB w' b kd A n c := by
  have e : w'.heap[b]? = w.heap[b]? := hb.block b hC
  exact ⟨(World.cell?_of_block e).trans h.c0, (World.cell?_of_block e).trans h.c1, (World.frozen?_of_block (a := ⟨b, 0, none⟩) e).trans h.f0, (World.frozen?_of_block (a := ⟨b, 1, none⟩) e).trans h.f1⟩
theorem RB.alloc (h : RB w b kd A n c) (o : Obj) : RB (w.alloc o) b kd A n c := h.low (below_a1 w o) h.lt
theorem RB.new (w : World) (kd : Int) (A : Option Addr) (n c : Nat) (t : TypeId) : RB (w.alloc (.cells #[.int .i64 kd, .slice A n c] t)) w.heap.size kd A n c := by
  obtain ⟨h0, h1, h2, h3⟩ := blk2 (heap_alloc_new w (.cells #[.int .i64 kd, .slice A n c] t))
  exact ⟨h0, h1, h2, h3⟩
theorem RB.set1 (h : RB w b kd A n c) (A' : Option Addr) (n' c' : Nat) : RB (w.setCell ⟨b, 1, none⟩ (.slice A' n' c')) b kd A' n' c' :=
  ⟨(World.cell?_setCell_other _ _ _ _ (by simp)).trans h.c0, World.cell?_setCell_same _ _ _ h.c1, by rw [World.frozen?_setCell]; exact h.f0, by rw [World.frozen?_setCell]; exact h.f1⟩
theorem RB.cells (h : RB w b kd A n c) (u v : Value) : ((w.setCell ⟨b, 0, none⟩ u).setCell ⟨b, 1, none⟩ v).cell? ⟨b, 0, none⟩ = some u ∧ ((w.setCell ⟨b, 0, none⟩ u).setCell ⟨b, 1, none⟩ v).cell? ⟨b, 1, none⟩ = some v :=
  ⟨(World.cell?_setCell_other _ _ _ _ (by simp)).trans (World.cell?_setCell_same _ _ _ h.c0), World.cell?_setCell_same _ _ _ ((World.cell?_setCell_other _ _ _ _ (by simp)).trans h.c1)⟩
end
def cutB (A : Option Addr) (p c : Nat) : Option Addr := if c = p then A else A.map (·.add (p * 1))
theorem cut2 (A : Option Addr) (n c p q : Nat) (h1 : p ≤ q) (h2 : q ≤ c) (W : World) :
    (Instr.slice 22 (.slice A n c) (some (.int .i64 p)) (some (.int .i64 q)) none).run Tryz.prog W = .ok (.slice (cutB A p c) (q - p) (c - p)) W := by
  obtain ⟨i0, hi, hz0, hz1, hz2⟩ := info_parts Bytes.infoByte
  rw [run_slice_lh W 22 A n c (by kernel_rfl) .i64 .i64 p q (by omega) (by omega) (by omega)]
  have hs : (sizeOf (Tryz.prog.elem 22)).run Tryz.prog W = .ok 1 W := by
    have he : Tryz.prog.elem 22 = 5 := by kernel_rfl
    rw [he]
    simp [sizeOf, typeInfo, hi, hz1]
  rw [hs]
  simp [Result.andThen, sliced, cutB]
theorem bytes_cut2 {w : World} {B : Nat} {A : Option Addr} {n c p q : Nat} {bs : List Int} (h : IsBytes w B A n bs) (h1 : p ≤ q) (h2 : q ≤ n) (hc : n ≤ c) : IsBytes w B (cutB A p c) (q - p) ((bs.take q).drop p) := by
  have hl := h.1
  refine ⟨by simp; omega, fun x hx => h.2.1 x (List.mem_of_mem_take (List.mem_of_mem_drop hx)), fun hp => ?_⟩
  obtain ⟨b, off, rfl, hb, hc'⟩ := h.2.2 (by omega)
  refine ⟨b, off + p, ?_, hb, fun j hj => ?_⟩
  · rw [cutB, if_neg (by omega)]
    simp only [Option.map_some, Nat.mul_one, Option.some.injEq]
    unfold Addr.add
    split
    · subst_vars; rfl
    · rfl
  · rw [Nat.add_assoc, hc' (p + j) (by omega)]
    congr 2
    simp [List.getD, List.getElem?_drop, List.getElem?_take, show p + j < q by omega]
set_option maxRecDepth 100000 in
set_option maxHeartbeats 6400000 in
theorem specTakeFrame_any (A : Option Addr) (n c : Nat) (a : Int) (bs : List Int) (B : Nat) (w : World) (hr : IsBytes w B A n bs) (hB : B ≤ w.heap.size) (hn : n ≤ 1048576) (hc : n ≤ c) :
    Calls Tryz.prog 167 #[.slice A n c, .int .i64 a] w (AnsR w (frK bs a) (frZ bs a) (frP bs a)) := by
  obtain ⟨i0, hi0, hz0, hz1, hz2⟩ := info_parts info3
  have HL : Hid (bs.length = n) := hr.1
  have HB := Lib.hid hr
  have HBY := Lib.hid hr.2.1
  clear hr
  by_cases hin : 0 ≤ a ∧ a < (n : Int) - 1
  · obtain ⟨p, rfl⟩ : ∃ p : Nat, a = (p : Int) := ⟨a.toNat, by omega⟩
    have hp : p + 1 < n := by omega
    have hpl : p + 1 < bs.length := by rw [HL.out]; exact hp
    have hd0 : decide ((p : Int) < 0) = false := by simp
    have hd1 : decide ((n : Int) - 1 ≤ (p : Int)) = false := by simp; omega
    have HFR : Hid (frR bs p = recR bs p) := fr_in (by omega)
    obtain ⟨b, off, kd, hAe, hbB, hkd, hc0, hkd0, hkd1⟩ := HB.out.at_ (show p < n by omega)
    obtain ⟨b', off', mz, hAe', _, hmz, hc1', hmz0, hmz1⟩ := HB.out.at_ hp
    obtain ⟨rfl, rfl⟩ : b = b' ∧ off = off' := by rw [hAe] at hAe'; injection hAe' with h; injection h with h1 h2; exact ⟨h1, h2⟩
    subst hAe
    obtain ⟨m, hm⟩ : ∃ m : Nat, mz = (m : Int) := ⟨mz.toNat, by omega⟩
    subst hm
    have HKD := Lib.hid hkd
    have HMZ : Hid ((bs.getD (p + 1) 0).toNat = m) := by show _ = _; rw [← hmz]; simp
    have HMZ2 := Lib.hid hmz
    clear hkd hmz hAe' hc1'
    have hx4 : RB (((w.alloc (.cells #[.int .i64 0, .slice none 0 0] 116)).alloc (.cells #[.int .i64 0, .slice none 0 0] 116)).alloc (.cells #[.int .i64 kd, .slice none 0 0] 116)) w.heap.size 0 none 0 0 := ((RB.new w 0 none 0 0 _).alloc _).alloc _
    have hx6 : RB (((w.alloc (.cells #[.int .i64 0, .slice none 0 0] 116)).alloc (.cells #[.int .i64 0, .slice none 0 0] 116)).alloc (.cells #[.int .i64 kd, .slice none 0 0] 116)) (w.heap.size + 1) 0 none 0 0 := by
      have h1 := (RB.new (w.alloc (.cells #[.int .i64 0, .slice none 0 0] 116)) 0 none 0 0 116).alloc (.cells #[.int .i64 kd, .slice none 0 0] 116)
      simpa using h1
    have hx7 : RB (((w.alloc (.cells #[.int .i64 0, .slice none 0 0] 116)).alloc (.cells #[.int .i64 0, .slice none 0 0] 116)).alloc (.cells #[.int .i64 kd, .slice none 0 0] 116)) (w.heap.size + 1 + 1) kd none 0 0 := by
      have h1 := RB.new ((w.alloc (.cells #[.int .i64 0, .slice none 0 0] 116)).alloc (.cells #[.int .i64 0, .slice none 0 0] 116)) kd none 0 0 116
      simpa using h1
    have X4 := Lib.hid hx4
    have X6 := Lib.hid hx6
    have X7 := Lib.hid hx7
    clear hx4 hx6 hx7
    have hc0a : (w.alloc (.cells #[.int .i64 0, .slice none 0 0] 116)).cell? ⟨b, off + p, none⟩ = some (.int .u8 kd) := Rec.below_keep (below_a1 _ _) hc0
    have hc0b : ((w.alloc (.cells #[.int .i64 0, .slice none 0 0] 116)).alloc (.cells #[.int .i64 0, .slice none 0 0] 116)).cell? ⟨b, off + p, none⟩ = some (.int .u8 kd) := Rec.below_keep (below_a1 _ _) hc0a
    have hbw : b < w.heap.size := by omega
    go_enter Tryz.func167, Tryz.ntmps167
    go_wp2_with fail
    go_loopw [8, 9] (fun nx i wr => ∃ (k q : Nat) (acc : List Int) (A7 : Option Addr) (c7 : Nat), k ≤ m ∧ p + 2 ≤ q ∧ q ≤ n ∧ nx = .int .i64 q ∧ i = .int .i64 k ∧ Hid (acc.length = k) ∧ Hid (∀ x ∈ acc, numB x = true) ∧ Hid (numsA bs m (p + 2) [] = numsA bs (m - k) q acc) ∧ Hid (RB wr w.heap.size 0 none 0 0) ∧ Hid (RB wr (w.heap.size + 1) 0 none 0 0) ∧ Hid (RB wr (w.heap.size + 1 + 1) kd A7 k c7) ∧ Hid (OwnI wr (w.heap.size + 1 + 1 + 1) A7 k c7 acc) ∧ Below w.heap.size w wr ∧ w.heap.size + 1 + 1 + 1 ≤ wr.heap.size) (fun _ i _ => m - (RowKit.intOf i).toNat)
    case atStart => exact ⟨0, p + 2, [], none, 0, Nat.zero_le _, Nat.le_refl _, by omega, by go_num, rfl, rfl, fun x hx => by simp at hx, rfl, X4, X6, X7, ownI_nil _ _, Rec.below_a3 _ _ _ _, by simp⟩
    case round =>
      obtain ⟨k, q, acc, A7, c7, hk, hpq, hqn, rfl, rfl, HAL, HAN, HN, R4, R6, R7, HO, hbr, hsr⟩ := hrel
      clear hc0a hc0b hc0 X4 X6 X7
      obtain ⟨b2, off2, mz2, hA2, _, hmz2, hc1, _, _⟩ := (HB.out.below hbr hB).at_ hp
      obtain ⟨rfl, rfl⟩ : b = b2 ∧ off = off2 := by injection hA2 with h; injection h with h1 h2; exact ⟨h1, h2⟩
      obtain rfl : mz2 = (m : Int) := by rw [hmz2]; exact HMZ2.out.symm
      clear hA2 hmz2
      have hql : q ≤ bs.length := by rw [HL.out]; exact hqn
      have HBr := Lib.hid (HB.out.below hbr hB)
      have hdm : decide ((m : Int) < 256) = true := by simp; omega
      obtain ⟨p40, p41, p42, p43⟩ := R4.out
      obtain ⟨p60, p61, _, _⟩ := R6.out
      obtain ⟨p70, p71, p72, p73⟩ := R7.out
      have HC4 := Lib.hid (fun u v => R4.out.cells u v)
      have hfin : ∀ (u v : Value), Below w.heap.size w ((wr.setCell ⟨w.heap.size, 0, none⟩ u).setCell ⟨w.heap.size, 1, none⟩ v) := fun u v =>
        (hbr.setCell (p := ⟨w.heap.size, 0, none⟩) (Nat.le_refl _) u).setCell (p := ⟨w.heap.size, 1, none⟩) (Nat.le_refl _) v
      have HFIN := Lib.hid hfin
      clear hfin
      by_cases hlt : k < m
      · obtain ⟨j, hj⟩ : ∃ j, m - k = j + 1 := ⟨m - k - 1, by omega⟩
        have hj2 : m - (k + 1) = j := by omega
        have HJ := Lib.hid hj
        have HJ2 := Lib.hid hj2
        clear hj hj2
        go_wp2_with fail
        refine (specTakeNum_any (some ⟨b, off, none⟩) n c q bs B wr HBr.out hn).mono ?_
        rintro e w' ⟨rfl, rfl⟩
        generalize hnr : numR bs q = nr
        cases nr with
        | ok x q' =>
          obtain ⟨e1, e2⟩ := take_ok hql hnr
          rw [e1, e2]
          have hnin := numR_in HBY.out hnr
          have hq'n : q' ≤ n := by rw [← HL.out]; exact hnin.2.2
          have hqq' := hnin.2.1
          have HAN2 : Hid (∀ y ∈ acc ++ [x], numB y = true) := fun y hy => by
            rcases List.mem_append.mp hy with h | h
            · exact HAN.out y h
            · have : y = x := by simpa using h
              rw [this]; exact hnin.1
          have HN2 : Hid (numsA bs m (p + 2) [] = numsA bs (m - (k + 1)) q' (acc ++ [x])) := by show _ = _; rw [HN.out, HJ.out, numsA_ok hnr, HJ2.out]
          have hdq : decide ((q' : Int) < 0) = false := by simp
          clear e1 e2 hnr hnin
          have hlb : w.heap.size + 1 + 1 < wr.heap.size := by omega
          go_wp2_with (at_builtin; refine wpList_append_own _ rfl (.tmp 51) (.tmp 53) _ rfl (w.heap.size + 1 + 1 + 1) 3 i0 _ 1 8 Tryz.underlying40 hi0 hz0 hz1 hz2 rfl (by omega) (.slice A7 k c7) k (acc.map (Value.int .i64)) rfl ?o1 ⟨wr.heap.size, 0, none⟩ 1 1 [.int .i64 x] rfl rfl ?o2 ?o3 ?o4 ?o5 ?o6 ?_)
          case o1 => exact (HO.out.alloc _).2
          case o2 => exact lit_news (by simp [go_sem])
          case o3 => intro u hu; simp at hu; subst hu; rfl
          case o4 => unfold maxLen; omega
          case o5 => omega
          case o6 => simp; omega
          intro v2 w5 hown hgr _
          obtain ⟨A8, c8, rfl, hO8⟩ := Has.OwnI.of_append (zs := acc) HAL.out hown
          have hne : ∀ bb, bb < w.heap.size + 1 + 1 + 1 → (Value.slice A7 k c7).ownBlock ≠ some bb := fun bb hbb e => by have := (HO.out.lt bb e).1; omega
          have R45 := (R4.out.alloc (.cells #[.int .i64 x] 3)).grown hgr (hne _ (by omega))
          have R65 := (R6.out.alloc (.cells #[.int .i64 x] 3)).grown hgr (hne _ (by omega))
          have R75 := (R7.out.alloc (.cells #[.int .i64 x] 3)).grown hgr (hne _ (by omega))
          have hb5 : Below w.heap.size w w5 := (hbr.alloc (by omega) _).grown hgr (by simp; omega) (fun qq hq => by have := (HO.out.lt qq hq).1; omega)
          have hs5 : w.heap.size + 1 + 1 + 1 ≤ w5.heap.size := by have := hgr.size; simp at this; omega
          obtain ⟨s70, s71, s72, s73⟩ := R75
          have R76 := Lib.hid (RB.set1 (w := w5) ⟨s70, s71, s72, s73⟩ A8 (k + 1) c8)
          have R46 : Hid (RB (w5.setCell ⟨w.heap.size + 1 + 1, 1, none⟩ (.slice A8 (k + 1) c8)) w.heap.size 0 none 0 0) := R45.grown (grown_set _ _ _) (by simp; omega)
          have R66 : Hid (RB (w5.setCell ⟨w.heap.size + 1 + 1, 1, none⟩ (.slice A8 (k + 1) c8)) (w.heap.size + 1) 0 none 0 0) := R65.grown (grown_set _ _ _) (by simp)
          have HO9 : Hid (OwnI (w5.setCell ⟨w.heap.size + 1 + 1, 1, none⟩ (.slice A8 (k + 1) c8)) (w.heap.size + 1 + 1 + 1) A8 (k + 1) c8 (acc ++ [x])) := Rec.ownI_setLow hO8 (p := ⟨w.heap.size + 1 + 1, 1, none⟩) (by show w.heap.size + 1 + 1 < _; omega) _
          have hb9 : Below w.heap.size w (w5.setCell ⟨w.heap.size + 1 + 1, 1, none⟩ (.slice A8 (k + 1) c8)) := hb5.setCell (p := ⟨w.heap.size + 1 + 1, 1, none⟩) (by show w.heap.size ≤ w.heap.size + 1 + 1; omega) _
          have hs9 : w.heap.size + 1 + 1 + 1 ≤ (w5.setCell ⟨w.heap.size + 1 + 1, 1, none⟩ (.slice A8 (k + 1) c8)).heap.size := by simp [World.setCell]; omega
          clear hown hgr hO8 R45 R65 hb5
          go_wp2
          go_roundw
          case rel => exact ⟨k + 1, q', acc ++ [x], A8, c8, by omega, by omega, hq'n, by go_num, by go_num, by show _ = _; rw [List.length_append, HAL.out]; rfl, HAN2, HN2, R46, R66, R76, HO9, hb9, hs9⟩
          case measure => simp [RowKit.intOf]; omega
        | torn =>
          obtain ⟨e1, e2⟩ := take_torn hql hnr
          rw [e1, e2]
          obtain ⟨x1, x2, x3⟩ := fr_no (by rw [HFR.out]; exact rec_nums hpl (.inl (by rw [HMZ.out, HN.out, HJ.out, numsA_torn hnr])))
          have Y1 := Lib.hid x1
          have Y2 := Lib.hid x2
          have Y3 := Lib.hid x3
          clear e1 e2 x1 x2 x3 hnr
          go_wp2
          refine bodyPost_ret (v := .tuple #[.agg #[.int .i64 0, .slice none 0 0], .int .i64 (-1)]) (by simp [results, Tryz.results167, go_sem, (HC4.out _ _).1, (HC4.out _ _).2]) rfl ⟨none, 0, by rw [Y1.out, Y2.out, Y3.out]; rfl, ?_, HFIN.out _ _⟩
          rw [Y2.out]
          exact ownI_nil _ _
        | bent =>
          obtain ⟨e1, e2⟩ := take_bent hql hnr
          rw [e1, e2]
          obtain ⟨x1, x2, x3⟩ := fr_no (by rw [HFR.out]; exact rec_nums hpl (.inr (by rw [HMZ.out, HN.out, HJ.out, numsA_bent hnr])))
          have Y1 := Lib.hid x1
          have Y2 := Lib.hid x2
          have Y3 := Lib.hid x3
          clear e1 e2 x1 x2 x3 hnr
          go_wp2
          refine bodyPost_ret (v := .tuple #[.agg #[.int .i64 0, .slice none 0 0], .int .i64 (-1)]) (by simp [results, Tryz.results167, go_sem, (HC4.out _ _).1, (HC4.out _ _).2]) rfl ⟨none, 0, by rw [Y1.out, Y2.out, Y3.out]; rfl, ?_, HFIN.out _ _⟩
          rw [Y2.out]
          exact ownI_nil _ _
      · have hkm : k = m := by omega
        have HKM := Lib.hid hkm
        have HOK : Hid (numsA bs (bs.getD (p + 1) 0).toNat (p + 2) [] = .ok acc q) := by show _ = _; rw [HMZ.out, HN.out, HKM.out, Nat.sub_self]; rfl
        clear hkm HC4 HFIN
        have HOI := Lib.hid HO.out.ints
        go_wp2_with fail
        refine (specRecordOk_any kd A7 k c7 acc wr.heap.size _ HOI.out (Nat.le_refl _) (by omega)).mono ?_
        rintro e w6 ⟨rfl, hb6⟩
        have R46 := Lib.hid (R4.out.low hb6 R4.out.lt)
        have R66 := Lib.hid (R6.out.low hb6 R6.out.lt)
        have R76 := Lib.hid (R7.out.low hb6 R7.out.lt)
        have HO6 := Lib.hid (HO.out.below hb6)
        have hbw6 : Below w.heap.size w w6 := hbr.trans (hb6.mono hbr.size)
        have HB6 := Lib.hid (HB.out.below hbw6 hB)
        obtain ⟨t40, t41, t42, t43⟩ := R46.out
        obtain ⟨t60, t61, _, _⟩ := R66.out
        obtain ⟨t70, t71, t72, t73⟩ := R76.out
        have HC4 := Lib.hid (fun u v => R46.out.cells u v)
        have hfin : ∀ (u v : Value), Below w.heap.size w ((w6.setCell ⟨w.heap.size, 0, none⟩ u).setCell ⟨w.heap.size, 1, none⟩ v) := fun u v =>
          (hbw6.setCell (p := ⟨w.heap.size, 0, none⟩) (Nat.le_refl _) u).setCell (p := ⟨w.heap.size, 1, none⟩) (Nat.le_refl _) v
        have HFIN := Lib.hid hfin
        clear hfin hb6 p40 p41 p42 p43 p60 p61 p70 p71 p72 p73 hc1
        cases hrec : recB kd acc
        · have hbig : 99 < bs.getD p 0 ∨ 12 < bs.getD (p + 1) 0 := by
            rw [← HKD.out, ← HMZ2.out]
            rcases Classical.em (99 < kd ∨ (12 : Int) < m) with h | h
            · exact h
            · exfalso
              have := rec_4 (kd := kd) (zs := acc) (by simp [inB]; omega) (by rw [HAL.out]; omega) (fun j hj => HAN.out _ (by simp [List.getD, hj]))
              rw [hrec] at this
              cases this
          obtain ⟨x1, x2, x3⟩ := fr_no (by rw [HFR.out]; exact rec_big hpl hbig)
          have Y1 := Lib.hid x1
          have Y2 := Lib.hid x2
          have Y3 := Lib.hid x3
          clear x1 x2 x3 hbig
          go_wp2
          refine bodyPost_ret (v := .tuple #[.agg #[.int .i64 0, .slice none 0 0], .int .i64 (-1)]) (by simp [results, Tryz.results167, go_sem, (HC4.out _ _).1, (HC4.out _ _).2]) rfl ⟨none, 0, by rw [Y1.out, Y2.out, Y3.out]; rfl, ?_, HFIN.out _ _⟩
          rw [Y2.out]
          exact ownI_nil _ _
        · have hrt := rec_t hrec
          have HTL : Hid (frR bs p = tailR bs p q kd acc) := by
            show _ = _
            rw [HFR.out, rec_tail hpl (by rw [← HKD.out]; omega) (by rw [← HMZ2.out, ← HKM.out, ← HAL.out]; omega) HOK.out, ← HKD.out]
          clear hrt
          by_cases hq2 : (n : Int) < (q : Int) + 2
          · have hdq : decide ((n : Int) < (q : Int) + 2) = true := by simp; omega
            obtain ⟨x1, x2, x3⟩ := fr_no (by rw [HTL.out]; exact tail_short (by rw [HL.out]; omega))
            have Y1 := Lib.hid x1
            have Y2 := Lib.hid x2
            have Y3 := Lib.hid x3
            clear x1 x2 x3
            go_wp2
            refine bodyPost_ret (v := .tuple #[.agg #[.int .i64 0, .slice none 0 0], .int .i64 (-1)]) (by simp [results, Tryz.results167, go_sem, (HC4.out _ _).1, (HC4.out _ _).2]) rfl ⟨none, 0, by rw [Y1.out, Y2.out, Y3.out]; rfl, ?_, HFIN.out _ _⟩
            rw [Y2.out]
            exact ownI_nil _ _
          · have hdq : decide ((n : Int) < (q : Int) + 2) = false := by simp; omega
            have hcut := cut2 (some ⟨b, off, none⟩) n c p q (by omega) (by omega)
            have HBC := Lib.hid (bytes_cut2 (p := p) (q := q) HB6.out (by omega) hqn hc)
            obtain ⟨s, hs⟩ : ∃ s, s = sumV ((bs.take q).drop p) := ⟨_, rfl⟩
            have hsb := sumV_in ((bs.take q).drop p)
            rw [← hs] at hsb
            have HSV := Lib.hid hs
            clear hs
            obtain ⟨b3, off3, z3, hA3, _, hz3, hc3, hz30, hz31⟩ := HB6.out.at_ (show q < n by omega)
            obtain ⟨rfl, rfl⟩ : b = b3 ∧ off = off3 := by injection hA3 with h; injection h with h1 h2; exact ⟨h1, h2⟩
            obtain ⟨b4, off4, z4, hA4, _, hz4, hc4, hz40, hz41⟩ := HB6.out.at_ (show q + 1 < n by omega)
            obtain ⟨rfl, rfl⟩ : b = b4 ∧ off = off4 := by injection hA4 with h; injection h with h1 h2; exact ⟨h1, h2⟩
            have HZ3 := Lib.hid hz3
            have HZ4 := Lib.hid hz4
            clear hA3 hA4 hz3 hz4
            go_wp2_with fail
            refine (specSumOf_any (cutB (some ⟨b, off, none⟩) p c) (q - p) (c - p) _ B _ HBC.out (by omega)).mono ?_
            rintro e w' ⟨rfl, rfl⟩
            rw [← HSV.out]
            by_cases h3 : z3 = s / 256
            · have hd3 : (z3 != s / 256) = false := by simp [h3]
              by_cases h4 : z4 = s % 256
              · have hd4 : (z4 != s % 256) = false := by simp [h4]
                have hfr : frR bs p = .ok kd acc (q + 2) := by
                  rw [HTL.out, tailR, if_neg (by rw [HL.out]; omega), if_neg (by rw [← HZ3.out, h3, HSV.out]; simp), if_neg (by rw [HL.out]; omega), if_neg (by rw [← HZ4.out, h4, HSV.out]; simp)]
                obtain ⟨x1, x2, x3⟩ := fr_ok hfr
                have Y1 := Lib.hid x1
                have Y2 := Lib.hid x2
                have Y3 := Lib.hid x3
                clear x1 x2 x3 hfr h3 h4
                go_wp2
                refine bodyPost_ret (v := .tuple #[.agg #[.int .i64 kd, .slice A7 k c7], .int .i64 ((q : Int) + 2)]) (by simp [results, Tryz.results167, go_sem, (HC4.out _ _).1, (HC4.out _ _).2]) rfl ⟨A7, c7, by rw [Y1.out, Y2.out, Y3.out, HAL.out]; rfl, ?_, HFIN.out _ _⟩
                rw [Y2.out, HAL.out]
                exact ownI_base (Rec.ownI_setLow (Rec.ownI_setLow HO6.out (p := ⟨w.heap.size, 0, none⟩) (by show w.heap.size < w.heap.size + 1 + 1 + 1; omega) (.int .i64 kd)) (p := ⟨w.heap.size, 1, none⟩) (by show w.heap.size < w.heap.size + 1 + 1 + 1; omega) (.slice A7 k c7)) (by omega)
              · have hd4 : (z4 != s % 256) = true := by simp [h4]
                have hfr : frR bs p = .bent := by
                  rw [HTL.out, tailR, if_neg (by rw [HL.out]; omega), if_neg (by rw [← HZ3.out, h3, HSV.out]; simp), if_neg (by rw [HL.out]; omega), if_pos (by rw [← HZ4.out, ← HSV.out]; exact h4)]
                obtain ⟨x1, x2, x3⟩ := fr_no (.inr hfr)
                have Y1 := Lib.hid x1
                have Y2 := Lib.hid x2
                have Y3 := Lib.hid x3
                clear x1 x2 x3 hfr h3 h4
                go_wp2
                refine bodyPost_ret (v := .tuple #[.agg #[.int .i64 0, .slice none 0 0], .int .i64 (-1)]) (by simp [results, Tryz.results167, go_sem, (HC4.out _ _).1, (HC4.out _ _).2]) rfl ⟨none, 0, by rw [Y1.out, Y2.out, Y3.out]; rfl, ?_, HFIN.out _ _⟩
                rw [Y2.out]
                exact ownI_nil _ _
            · have hd3 : (z3 != s / 256) = true := by simp [h3]
              have hfr : frR bs p = .bent := by
                rw [HTL.out, tailR, if_neg (by rw [HL.out]; omega), if_pos (by rw [← HZ3.out, ← HSV.out]; exact h3)]
              obtain ⟨x1, x2, x3⟩ := fr_no (.inr hfr)
              have Y1 := Lib.hid x1
              have Y2 := Lib.hid x2
              have Y3 := Lib.hid x3
              clear x1 x2 x3 hfr h3
              go_wp2
              refine bodyPost_ret (v := .tuple #[.agg #[.int .i64 0, .slice none 0 0], .int .i64 (-1)]) (by simp [results, Tryz.results167, go_sem, (HC4.out _ _).1, (HC4.out _ _).2]) rfl ⟨none, 0, by rw [Y1.out, Y2.out, Y3.out]; rfl, ?_, HFIN.out _ _⟩
              rw [Y2.out]
              exact ownI_nil _ _
  · have hfr : frR bs a = .torn ∨ frR bs a = .bent := by
      by_cases h : 0 ≤ a ∧ a ≤ bs.length
      · obtain ⟨p, rfl⟩ : ∃ p : Nat, a = (p : Int) := ⟨a.toNat, by omega⟩
        rw [fr_in (by omega)]
        exact rec_short (by have := HL.out; omega)
      · exact .inr (by rw [frR, if_neg h])
    obtain ⟨x1, x2, x3⟩ := fr_no hfr
    have Y1 := Lib.hid x1
    have Y2 := Lib.hid x2
    have Y3 := Lib.hid x3
    clear x1 x2 x3 hfr
    have hx4 : RB ((w.alloc (.cells #[.int .i64 0, .slice none 0 0] 116)).alloc (.cells #[.int .i64 0, .slice none 0 0] 116)) w.heap.size 0 none 0 0 := (RB.new w 0 none 0 0 _).alloc _
    obtain ⟨p40, p41, _, _⟩ := hx4
    have hbr := Rec.below_a2 w (.cells #[.int .i64 0, .slice none 0 0] 116) (.cells #[.int .i64 0, .slice none 0 0] 116)
    by_cases h0 : a < 0
    · have hd0 : decide (a < 0) = true := by simp [h0]
      go_enter Tryz.func167, Tryz.ntmps167
      go_wp2
      refine bodyPost_ret (v := .tuple #[.agg #[.int .i64 0, .slice none 0 0], .int .i64 (-1)]) (by simp [results, Tryz.results167, go_sem, p40, p41]) rfl ⟨none, 0, by rw [Y1.out, Y2.out, Y3.out]; rfl, ?_, hbr⟩
      rw [Y2.out]
      exact ownI_nil _ _
    · have hd0 : decide (a < 0) = false := by simp; omega
      have hd1 : decide ((n : Int) - 1 ≤ a) = true := by simp; omega
      go_enter Tryz.func167, Tryz.ntmps167
      go_wp2
      refine bodyPost_ret (v := .tuple #[.agg #[.int .i64 0, .slice none 0 0], .int .i64 (-1)]) (by simp [results, Tryz.results167, go_sem, p40, p41]) rfl ⟨none, 0, by rw [Y1.out, Y2.out, Y3.out]; rfl, ?_, hbr⟩
      rw [Y2.out]
      exact ownI_nil _ _
end Go.Proofs.YtklgjjmcflgjeaaGreatDoor.Rd
namespace Go.Proofs.YtklgjjmcflgjeaaGreatDoor.Rd
open Go.ChangeShapes Go.WideShapes Go.ChangeAt Go.RowKit
open Ints (below_drewN IsInts)
open Has (OwnI)
open Bytes (IsBytes OwnB toByteS_any eqByteS_same markByteS_any)
theorem numsA_len {bs : List Int} {zs : List Int} {q : Nat} : ∀ (m p : Nat) (acc : List Int), numsA bs m p acc = .ok zs q → zs.length = acc.length + m
  | 0, p, acc, h => by
    rw [numsA] at h
    injection h with h1 h2
    rw [← h1]; rfl
  | m + 1, p, acc, h => by
    generalize hnr : numR bs p = nr
    cases nr with
    | ok x r =>
      rw [numsA_ok hnr] at h
      have := numsA_len m r _ h
      rw [this, List.length_append]
      simp
      omega
    | torn => rw [numsA_torn hnr] at h; cases h
    | bent => rw [numsA_bent hnr] at h; cases h
theorem recR_len {bs : List Int} {p q : Nat} {kd : Int} {zs : List Int} (h : recR bs p = .ok kd zs q) : zs.length ≤ 12 := by
  unfold recR at h
  split at h
  · cases h
  · split at h
    · cases h
    · split at h
      · cases h
      · split at h
        · cases h
        · next h12 =>
          generalize hna : numsA bs (bs.getD (p + 1) 0).toNat (p + 2) [] = na at h
          cases na with
          | ok acc r =>
            have hl := numsA_len _ _ _ hna
            have : zs = acc := by
              have h' : tailR bs p r (bs.getD p 0) acc = .ok kd zs q := h
              clear h
              have h := h'
              clear h'
              unfold tailR at h
              split at h
              · cases h
              · split at h
                · cases h
                · split at h
                  · cases h
                  · split at h
                    · cases h
                    · injection h with _ h _; exact h.symm
            rw [this, hl, List.length_nil]
            omega
          | torn => cases h
          | bent => cases h
theorem errs_up {w : World} {B C : Nat} {aT aB aO : Addr} (h : Errs B w aT aB aO) (hC : B ≤ C) : Errs C w aT aB aO := ⟨⟨Nat.lt_of_lt_of_le h.lt.1 hC, Nat.lt_of_lt_of_le h.lt.2.1 hC, Nat.lt_of_lt_of_le h.lt.2.2 hC⟩, h.cT, h.cB, h.cO⟩
end Go.Proofs.YtklgjjmcflgjeaaGreatDoor.Rd
namespace Go.Proofs.YtklgjjmcflgjeaaGreatDoor.Rec
open Go.ChangeShapes Go.WideShapes Go.ChangeAt Go.RowKit
open Ints Has
abbrev RList := List (Int × List Int)
abbrev Hd := Int × Option Addr × Nat × Nat
def hdV (h : Hd) : Value := .slice h.2.1 h.2.2.1 h.2.2.2
def flatH (hs : List Hd) : List Value := hs.flatMap fun h => [.int .i64 h.1, hdV h]
def hd0 : Hd := (0, none, 0, 0)
theorem flatH_len (hs : List Hd) : (flatH hs).length = hs.length * 2 := by
  induction hs with
  | nil => rfl
  | cons x l ih => simp [flatH] at ih ⊢; omega
theorem flatH_app (a b : List Hd) : flatH (a ++ b) = flatH a ++ flatH b := by simp [flatH]
theorem flatH_at (hs : List Hd) (j : Nat) (h : j < hs.length) : (flatH hs)[j * 2]? = some (.int .i64 (hs.getD j hd0).1) ∧ (flatH hs)[j * 2 + 1]? = some (hdV (hs.getD j hd0)) := by
  induction hs generalizing j with
  | nil => simp at h
  | cons x l ih =>
    cases j with
    | zero => exact ⟨rfl, rfl⟩
    | succ j =>
      have h' : j < l.length := by simpa using h
      have := ih j h'
      constructor
      · have e : (j + 1) * 2 = j * 2 + 1 + 1 := by omega
        rw [e]; simpa [flatH] using this.1
      · have e : (j + 1) * 2 + 1 = j * 2 + 1 + 1 + 1 := by omega
        rw [e]; simpa [flatH] using this.2
def IsRecs (w : World) (B : Nat) (A : Option Addr) (n : Nat) (rs : RList) : Prop :=
  rs.length = n ∧ (0 < n → ∃ b off, A = some ⟨b, off, none⟩ ∧ b < B ∧ ∀ j, j < n → ∃ A' c', w.cell? ⟨b, off + j * 2, none⟩ = some (.int .i64 (rs.getD j (0, [])).1) ∧ w.cell? ⟨b, off + j * 2 + 1, none⟩ = some (.slice A' (rs.getD j (0, [])).2.length c') ∧ IsInts w B A' (rs.getD j (0, [])).2.length (rs.getD j (0, [])).2)
theorem IsRecs.below {w w' : World} {B C : Nat} {A : Option Addr} {n : Nat} {rs : RList} (h : IsRecs w B A n rs) (hb : Below C w w') (hC : B ≤ C) : IsRecs w' B A n rs :=
  ⟨h.1, fun hn => by
    obtain ⟨b, off, e, hlt, hc⟩ := h.2 hn
    refine ⟨b, off, e, hlt, fun j hj => ?_⟩
    obtain ⟨A', c', h1, h2, h3⟩ := hc j hj
    exact ⟨A', c', (hb.cell (p := ⟨b, off + j * 2, none⟩) (by show b < C; omega)).trans h1, (hb.cell (p := ⟨b, off + j * 2 + 1, none⟩) (by show b < C; omega)).trans h2, h3.below hb hC⟩⟩
theorem IsRecs.at_ {w : World} {B : Nat} {A : Option Addr} {n k : Nat} {rs : RList} (h : IsRecs w B A n rs) (hk : k < n) :
    ∃ b off A' c' kd zs, A = some ⟨b, off, none⟩ ∧ b < B ∧ (kd, zs) = rs.getD k (0, []) ∧ w.cell? ⟨b, off + k * 2, none⟩ = some (.int .i64 kd) ∧ w.cell? ⟨b, off + k * 2 + 1, none⟩ = some (.slice A' zs.length c') ∧ IsInts w B A' zs.length zs := by
  obtain ⟨b, off, e, hlt, hc⟩ := h.2 (by omega)
  obtain ⟨A', c', h1, h2, h3⟩ := hc k hk
  exact ⟨b, off, A', c', _, _, e, hlt, rfl, h1, h2, h3⟩
def OwnRsH (w : World) (base : Nat) (A : Option Addr) (n c : Nat) (hs : List Hd) (rs : RList) : Prop :=
  hs.length = n ∧ rs.length = n ∧ w.ownsRow base 116 2 (.slice A n c) n (flatH hs) ∧
    (∀ j, j < n → (hs.getD j hd0).1 = (rs.getD j (0, [])).1 ∧ OwnI w base (hs.getD j hd0).2.1 (hs.getD j hd0).2.2.1 (hs.getD j hd0).2.2.2 (rs.getD j (0, [])).2) ∧
    (∀ i j, i < n → j < n → i ≠ j → ∀ q, (hdV (hs.getD i hd0)).ownBlock = some q → (hdV (hs.getD j hd0)).ownBlock ≠ some q)
def OwnRs (w : World) (base : Nat) (A : Option Addr) (n c : Nat) (rs : RList) : Prop := ∃ hs, OwnRsH w base A n c hs rs
theorem row_ne {w : World} {base base' : Nat} {e e' : TypeId} {size size' n n' : Nat} {u v : Value} {xs ys : List Value} (h : w.ownsRow base e size u n xs) (h' : w.ownsRow base' e' size' v n' ys) (hne : e ≠ e') : u.ownBlock = none ∨ u.ownBlock ≠ v.ownBlock := by
  cases hu : u.ownBlock with
  | none => exact .inl rfl
  | some g =>
    refine .inr fun e2 => ?_
    rcases h.2 with ⟨rfl, _⟩ | ⟨g1, cap1, cur1, rfl, _, k1, _⟩
    · cases hu
    · rcases h'.2 with ⟨rfl, _⟩ | ⟨g2, cap2, cur2, rfl, _, k2, _⟩
      · cases e2
      · have e1 : g1 = g := by simpa [Value.ownBlock] using hu
        have e3 : g2 = g := by simpa [Value.ownBlock] using e2.symm
        subst e1
        rw [e3, k1] at k2
        injection k2 with k2
        injection k2 with _ k3 _
        exact hne k3
section
variable {w w' : World} {base : Nat} {A : Option Addr} {n c : Nat} {rs : RList}
theorem OwnRs.len (h : OwnRs w base A n c rs) : rs.length = n := by obtain ⟨hs, _, h2, _⟩ := h; exact h2
theorem OwnRs.reads (h : OwnRs w base A n c rs) : IsRecs w w.heap.size A n rs := by
  obtain ⟨hs, hl, hr, hrow, hj, _⟩ := h
  refine ⟨hr, fun hn => ?_⟩
  obtain ⟨g, cap, hv, _, hlt⟩ := hrow.form hn
  have hA : A = some ⟨g, 0, none⟩ := by injection hv
  subst hA
  refine ⟨g, 0, rfl, hlt, fun j hjn => ?_⟩
  obtain ⟨e1, hO⟩ := hj j hjn
  have hf := flatH_at hs j (by omega)
  refine ⟨(hs.getD j hd0).2.1, (hs.getD j hd0).2.2.2, ?_, ?_, ?_⟩
  · rw [Nat.zero_add, hrow.cellAt (j * 2) (by omega), hf.1, e1]
  · rw [Nat.zero_add, hrow.cellAt (j * 2 + 1) (by omega), hf.2, hdV, ← hO.1]
  · rw [hO.1]; exact hO.ints
theorem OwnRsH.below {hs : List Hd} (h : OwnRsH w base A n c hs rs) (hb : Below w.heap.size w w') : OwnRsH w' base A n c hs rs := by
  obtain ⟨hl, hr, hrow, hj, hd⟩ := h
  refine ⟨hl, hr, hrow.kept ⟨hb.os, hb.tape, hb.output, hb.size, fun i hi _ => hb.block i hi⟩ (row := none) (by cases hv : (Value.slice A n c).ownBlock <;> simp), fun j hjn => ?_, hd⟩
  exact ⟨(hj j hjn).1, (hj j hjn).2.below hb⟩
theorem OwnRs.below (h : OwnRs w base A n c rs) (hb : Below w.heap.size w w') : OwnRs w' base A n c rs := by
  obtain ⟨hs, h⟩ := h
  exact ⟨hs, h.below hb⟩
theorem OwnRs.grown (h : OwnRs w base A n c rs) {row : Option Nat} (hg : w.grownBy w' row) (hne : ∀ q, row = some q → q < base) : OwnRs w' base A n c rs := by
  obtain ⟨hs, hl, hr, hrow, hj, hd⟩ := h
  have hx : ∀ v : Value, (∀ q, v.ownBlock = some q → base ≤ q) → v.ownBlock = none ∨ v.ownBlock ≠ row := fun v hv => by
    cases hq : v.ownBlock with
    | none => exact .inl rfl
    | some q =>
      refine .inr fun e => ?_
      have h1 := hv q hq
      have h2 := hne q e.symm
      omega
  refine ⟨hs, hl, hr, hrow.kept hg (hx _ fun q hq => (hrow.lt q hq).1), fun j hjn => ⟨(hj j hjn).1, (hj j hjn).2.grown hg (hx _ fun q hq => ((hj j hjn).2.lt q hq).1)⟩, hd⟩
theorem OwnRs.empty (w : World) : OwnRs (w.alloc (.cells #[] 116)) w.heap.size (some ⟨w.heap.size, 0, none⟩) 0 0 [] :=
  ⟨[], rfl, rfl, World.ownsRow_lit w #[] 0 (Nat.le_refl _) (by unfold maxLen; omega) rfl, fun j hj => absurd hj (by omega), fun i j hi => absurd hi (by omega)⟩
theorem OwnRs.rowlt (h : OwnRs w base A n c rs) : ∀ q, (Value.slice A n c).ownBlock = some q → base ≤ q ∧ q < w.heap.size := by
  obtain ⟨hs, hl, hr, hrow, hj, hd⟩ := h
  exact hrow.lt
end
theorem getD_app_lt {α : Type} (l : List α) (x d : α) (j : Nat) (h : j < l.length) : (l ++ [x]).getD j d = l.getD j d := by simp [List.getD, List.getElem?_append, h]
theorem getD_app_eq {α : Type} (l : List α) (x d : α) : (l ++ [x]).getD l.length d = x := by simp [List.getD]
theorem OwnRsH.push {w0 w w' : World} {base : Nat} {A : Option Addr} {n c : Nat} {hs : List Hd} {rs : RList} {kd : Int} {A1 : Option Addr} {m1 c1 : Nat} {zs : List Int} {v' : Value}
    (h : OwnRsH w0 base A n c hs rs) (hb : Below w0.heap.size w0 w) (hO : OwnI w w0.heap.size A1 m1 c1 zs) (hbase : base ≤ w0.heap.size)
    (hrow' : w'.ownsRow base 116 2 v' (n + 1) (flatH hs ++ [.int .i64 kd, .slice A1 m1 c1])) (hg : w.grownBy w' (Value.slice A n c).ownBlock) :
    ∃ A' c', v' = .slice A' (n + 1) c' ∧ OwnRs w' base A' (n + 1) c' (rs ++ [(kd, zs)]) := by
  obtain ⟨hl, hr, hrow, hj, hd⟩ := h.below hb
  obtain ⟨_, _, _, hj0, _⟩ := h
  obtain ⟨g, cap, rfl, _⟩ := hrow'.form (by omega)
  refine ⟨_, _, rfl, hs ++ [(kd, A1, m1, c1)], by simp [hl], by simp [hr], by rw [flatH_app]; exact hrow', fun j hjn => ?_, fun i j hi hjn hne q hq => ?_⟩
  · by_cases h1 : j < n
    · rw [getD_app_lt hs _ _ j (by omega), getD_app_lt rs _ _ j (by omega)]
      exact ⟨(hj j h1).1, (hj j h1).2.grown hg (row_ne (hj j h1).2.2 hrow (by decide))⟩
    · obtain rfl : j = n := by omega
      have e1 : (hs ++ [(kd, A1, m1, c1)]).getD j hd0 = (kd, A1, m1, c1) := by rw [← hl]; exact getD_app_eq _ _ _
      have e2 : (rs ++ [(kd, zs)]).getD j (0, []) = (kd, zs) := by rw [← hr]; exact getD_app_eq _ _ _
      rw [e1, e2]
      exact ⟨rfl, (ownI_base hO hbase).grown hg (row_ne hO.2 hrow (by decide))⟩
  · have hnew : ∀ q, (hdV ((hs ++ [(kd, A1, m1, c1)]).getD n hd0)).ownBlock = some q → w0.heap.size ≤ q := fun q hq => by
      rw [← hl, getD_app_eq] at hq
      exact (hO.lt q hq).1
    have hold : ∀ i, i < n → ∀ q, (hdV ((hs ++ [(kd, A1, m1, c1)]).getD i hd0)).ownBlock = some q → q < w0.heap.size := fun i hi q hq => by
      rw [getD_app_lt hs _ _ i (by omega)] at hq
      exact ((hj0 i hi).2.lt q hq).2
    intro hq2
    by_cases h1 : i < n
    · by_cases h2 : j < n
      · rw [getD_app_lt hs _ _ i (by omega)] at hq
        rw [getD_app_lt hs _ _ j (by omega)] at hq2
        exact hd i j h1 h2 hne q hq hq2
      · obtain rfl : j = n := by omega
        have := hold i h1 q hq
        have := hnew q hq2
        omega
    · obtain rfl : i = n := by omega
      have := hold j (by omega) q hq2
      have := hnew q hq
      omega
def marksR (k : Int) : RList → RList
  | [] => []
  | r :: rs => (k, marksI (k + 1) r.2.length) :: marksR (k + 1 + (r.2.length : Int)) rs
def endR (k : Int) : RList → Int
  | [] => k
  | r :: rs => endR (k + 1 + (r.2.length : Int)) rs
theorem endR_app (a b : RList) : ∀ k, endR k (a ++ b) = endR (endR k a) b := by
  induction a with
  | nil => intro k; rfl
  | cons r rs ih => intro k; simp only [List.cons_append, endR]; exact ih _
end Go.Proofs.YtklgjjmcflgjeaaGreatDoor.Rec
