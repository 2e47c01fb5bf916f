/-
  THE CONTRACTS of slices.IndexFunc and slices.DeleteFunc at the ring's lists, with the ring's own 'is it this Id', over this seat's translation.
-/
import Derived.Test.YtpghccbknlokcaaRingIter
import Derived.Lib.SliceRun
namespace Go.Proofs.Ytpghccbknlokcaa.Ring
open Go.ChangeShapes Go.WideShapes Go.ChangeAt Go.RowKit Go.Shelf
open Go.Proofs.Ytpghccbknlokcaa.Timers Go.Proofs.Ytpghccbknlokcaa.WheelOk
set_option linter.unusedVariables false

set_option maxHeartbeats 400000 in
theorem isId_any (y z x : Int) (Bn : Nat) (w : World) (hc : w.cell? ⟨Bn, 0, none⟩ = some (.int .i64 x)) :
    Calls Try.prog 101 #[.agg #[.int .i64 y, .int .i64 z], .pointer (some ⟨Bn, 0, none⟩)] w fun e w' => e = .returned (.bool (z == x)) ∧ w' = w.alloc (.cells #[.int .i64 y, .int .i64 z] 150) := by
  have hlt : Bn < w.heap.size := by
    rcases Nat.lt_or_ge Bn w.heap.size with h | h
    · exact h
    · simp [World.cell?, Array.getElem?_eq_none h] at hc
  have hc1 := below_keep (below_a1 w (.cells #[.int .i64 y, .int .i64 z] 150)) hc
  go_enter Try.func101, Try.ntmps101
  go_wp2
  go_ret
  exact ⟨rfl, rfl⟩

/-- What IndexFunc says. -/
def Found (ts : TList) (x r : Int) : Prop := (r = -1 ∧ ∀ p ∈ ts, p.1 ≠ x) ∨ ∃ i : Nat, i < ts.length ∧ r = (i : Int) ∧ (∀ p ∈ ts.take i, p.1 ≠ x) ∧ (ts.getD i (0, 0)).1 = x

theorem armed_at {w : World} {B : Nat} {A : Option Addr} {n : Nat} {ts : TList} (h : IsArmed w B A n ts) {i : Nat} (hi : i < n) (hl : ts.length = n) :
    ∃ b off y z, A = some ⟨b, off, none⟩ ∧ b < B ∧ ts.getD i (0, 0) = (z, y) ∧ w.cell? ⟨b, off + i * 2, none⟩ = some (.int .i64 y) ∧ w.cell? ⟨b, off + i * 2 + 1, none⟩ = some (.int .i64 z) := by
  obtain ⟨b2, off2, y, z, rfl, hbB2, hz, hd1, hd2⟩ := IsTimers.at_ h hi
  refine ⟨b2, off2, y, z, rfl, hbB2, ?_, hd1, hd2⟩
  have h5 : (ts.map fun p : Int × Int => (p.2, p.1)).getD i (0, 0) = ((ts.getD i (0, 0)).2, (ts.getD i (0, 0)).1) := by
    rw [getD_lt _ i _ (by simpa [hl] using hi), getD_lt ts i _ (by omega)]
    simp
  rw [h5] at hz
  exact Prod.ext (congrArg Prod.snd hz) (congrArg Prod.fst hz)

theorem take_snoc_all {ts : TList} {i : Nat} {x : Int} (hi : i < ts.length) (h : ∀ p ∈ ts.take i, p.1 ≠ x) (h2 : (ts.getD i (0, 0)).1 ≠ x) : ∀ p ∈ ts.take (i + 1), p.1 ≠ x := by
  intro p hp
  rw [List.take_succ_eq_append_getElem hi] at hp
  rcases List.mem_append.1 hp with hp | hp
  · exact h p hp
  · rw [getD_lt ts i _ hi] at h2
    simp at hp
    rw [hp]
    exact h2

set_option maxHeartbeats 1000000 in
theorem indexFunc_any (A : Option Addr) (n c : Nat) (ts : TList) (x : Int) (Bn B : Nat) (w : World) (hr : IsArmed w B A n ts) (hl : ts.length = n) (hB : B ≤ w.heap.size) (hn : n ≤ 1048576) (hc : w.cell? ⟨Bn, 0, none⟩ = some (.int .i64 x)) :
    Calls Try.prog 127 #[.slice A n c, .func (.func 101) #[] #[.pointer (some ⟨Bn, 0, none⟩)]] w fun e w' => ∃ r, e = .returned (.int .i64 r) ∧ Found ts x r ∧ Below w.heap.size w w' := by
  have HL := Lib.hid hl
  have HR := Lib.hid hr
  have HC := Lib.hid hc
  clear hl hr hc
  go_enter Try.func127, Try.ntmps127
  go_wp2_with fail
  go_loopw [8] (fun i wr => ∃ k : Nat, k ≤ n ∧ i = .int .i64 k ∧ Hid (∀ p ∈ ts.take k, p.1 ≠ x) ∧ Below w.heap.size w wr) (fun i _ => n - (intOf i).toNat)
  case atStart => exact ⟨0, Nat.zero_le _, rfl, fun p hp => by simp at hp, Below.refl _ _⟩
  case round =>
    obtain ⟨k, hk, rfl, HF, hb⟩ := hrel
    by_cases hlt : k < n
    · obtain ⟨b, off, y, z, rfl, hbB, hz, hd1, hd2⟩ := armed_at (IsTimers.below HR.out hb hB) hlt HL.out
      have HZ := Lib.hid hz
      have hcr := below_keep hb HC.out
      have hkl : k < ts.length := by rw [HL.out]; exact hlt
      clear hz
      cases he : (z == x)
      · have HN : Hid (∀ p ∈ ts.take (k + 1), p.1 ≠ x) := take_snoc_all hkl HF.out (by rw [HZ.out]; simpa using he)
        go_wp2_with fail
        refine (isId_any y z x Bn _ hcr).mono ?_
        rintro e w' ⟨rfl, rfl⟩
        rw [he]
        go_wp2_with fail
        go_roundw
        case rel => exact ⟨k + 1, by omega, by go_num, HN, hb.alloc hb.size _⟩
        case measure => simp [intOf]; omega
      · have HN : Hid (Found ts x (k : Int)) := .inr ⟨k, hkl, rfl, HF.out, by rw [HZ.out]; simpa using he⟩
        go_wp2_with fail
        refine (isId_any y z x Bn _ hcr).mono ?_
        rintro e w' ⟨rfl, rfl⟩
        rw [he]
        go_wp2_with fail
        go_ret
        exact ⟨_, rfl, HN.out, hb.alloc hb.size _⟩
    · have HN : Hid (Found ts x (-1)) := .inl ⟨rfl, by have h5 := HF.out; rw [show k = ts.length by rw [HL.out]; omega, List.take_length] at h5; exact h5⟩
      go_wp2_with fail
      go_ret
      exact ⟨_, rfl, HN.out, hb⟩

/-- Cells of a row's block are laid anew from o on: it is still a row; what lies ahead of o is as it was. -/
theorem own_setCells {base : Nat} {e : TypeId} {size g n cap : Nat} (vs : List Value) : ∀ (o : Nat) (w : World) (xs : List Value), w.ownsRow base e size (.slice (some ⟨g, 0, none⟩) n cap) n xs →
    ∃ xs', (w.setCells g o vs).ownsRow base e size (.slice (some ⟨g, 0, none⟩) n cap) n xs' ∧ xs'.take o = xs.take o ∧ w.grownBy (w.setCells g o vs) (some g) := by
  induction vs with
  | nil => intro o w xs h; exact ⟨xs, h, rfl, World.grownBy.refl _ _⟩
  | cons v vs ih =>
    intro o w xs h
    obtain ⟨h1, h2⟩ := h.stored o v
    obtain ⟨xs', h3, h4, h5⟩ := ih (o + 1) _ _ h1
    refine ⟨xs', h3, ?_, h2.andThen h5 (fun j hj => by cases hj; exact Or.inr rfl)⟩
    have h6 : (xs'.take (o + 1)).take o = ((xs.set o v).take (o + 1)).take o := by rw [h4]
    rw [List.take_take, List.take_take, Nat.min_eq_left (Nat.le_succ _)] at h6
    rw [h6, List.take_set, List.set_eq_of_length_le (by simp; omega)]
/-- The first i of a row's elements are a row. -/
theorem own_less {w : World} {base : Nat} {e : TypeId} {size g n cap i : Nat} {xs : List Value} (h : w.ownsRow base e size (.slice (some ⟨g, 0, none⟩) n cap) n xs) (hi : i ≤ n) : w.ownsRow base e size (.slice (some ⟨g, 0, none⟩) i cap) i (xs.take (i * size)) := by
  have hm : i * size ≤ n * size := Nat.mul_le_mul_right _ hi
  refine ⟨by rw [List.length_take, h.1]; omega, ?_⟩
  rcases h.2 with ⟨h', _⟩ | ⟨g', cap', cur, h', hb, hg, hnc, hcm, hcs, htake⟩
  · simp at h'
  · simp only [Value.slice.injEq, Option.some.injEq, Addr.mk.injEq, and_true, true_and] at h'
    obtain ⟨rfl, rfl⟩ := h'
    exact .inr ⟨g, cap, cur, rfl, hb, hg, by omega, hcm, hcs, by rw [← htake, List.take_take, Nat.min_eq_left hm]⟩

theorem own_cap {w : World} {base : Nat} {e : TypeId} {size g n cap : Nat} {xs : List Value} (h : w.ownsRow base e size (.slice (some ⟨g, 0, none⟩) n cap) n xs) : n ≤ cap := by
  rcases h.2 with ⟨h', _⟩ | ⟨g', cap', cur, h', hb, hg, hnc, _⟩
  · simp at h'
  · simp only [Value.slice.injEq, Option.some.injEq, Addr.mk.injEq, and_true, true_and] at h'
    obtain ⟨rfl, rfl⟩ := h'
    exact hnc
theorem zero85 (w : World) : (zeroValue 150).run Try.prog w = .ok (.agg #[.int .i64 0, .int .i64 0]) w := by
  obtain ⟨i0, hi, hz0, hz1, hz2⟩ := info_parts info85
  simp [zeroValue, typeInfo, hi, hz0]
theorem zeros2 (n : Nat) : (Builtin.zeroCells #[.int .i64 0, .int .i64 0] n).toList = List.replicate (n * 2) (.int .i64 0) := by
  simp only [Builtin.zeroCells]
  apply List.ext_getElem
  · simp
  · intro i h1 h2
    simp
    have : i % 2 = 0 ∨ i % 2 = 1 := by omega
    rcases this with h | h <;> simp [h]
theorem clear2 (w : World) (ty : TypeId) (b o n c : Nat) (hn : 0 < n) (hc : ∀ j, j < n * 2 → (w.cell? ⟨b, o + j, none⟩).isSome = true) (hf : ∀ j, j < n * 2 → w.frozen? ⟨b, o + j, none⟩ = false) :
    (Builtin.clear_ #[91] ty #[.slice (some ⟨b, o, none⟩) n c]).run Try.prog w = .ok (.tuple #[]) (w.setCells b o (List.replicate (n * 2) (.int .i64 0))) := by
  have hst := run_storeCells_cells (P := Try.prog) b o (List.replicate (n * 2) (.int .i64 0)) 0 w (by simpa using hc) (by simpa using hf) (by intro v hv'; rw [List.eq_of_mem_replicate hv']; rfl)
  simp only [Nat.add_zero] at hst
  obtain ⟨m, rfl⟩ : ∃ m, n = m + 1 := ⟨n - 1, by omega⟩
  have hz := zeros2 (m + 1)
  simp only [Builtin.clear_]
  simp [run_underlying Try.underlying91, Value.cells, hz, hst]

/-- All but the timers of that Id. -/
def offL (x : Int) (ts : TList) : TList := ts.filter fun p => p.1 != x
/-- Amid the deletion: k are kept of the first j, what is behind j stands. -/
def Part (ts : TList) (x : Int) (j k : Nat) (L : TList) : Prop := ∃ mid : TList, L = offL x (ts.take j) ++ mid ++ ts.drop j ∧ (offL x (ts.take j)).length = k ∧ mid.length + k = j
theorem off_self {x : Int} {ts : TList} (h : ∀ p ∈ ts, p.1 ≠ x) : offL x ts = ts := List.filter_eq_self.2 fun p hp => by simpa using h p hp
theorem off_snoc (x : Int) (ts : TList) (j : Nat) (h : j < ts.length) : offL x (ts.take (j + 1)) = if (ts.getD j (0, 0)).1 == x then offL x (ts.take j) else offL x (ts.take j) ++ [ts.getD j (0, 0)] := by
  unfold offL
  rw [List.take_succ_eq_append_getElem h, List.filter_append, getD_lt ts j _ h]
  by_cases e : ts[j].1 = x
  · simp [e]
  · simp [e]
theorem part_len {ts L : TList} {x : Int} {j k : Nat} (h : Part ts x j k L) (hj : j ≤ ts.length) : L.length = ts.length := by
  obtain ⟨mid, rfl, h1, h2⟩ := h
  simp
  omega
theorem part_at {ts L : TList} {x : Int} {j k : Nat} (h : Part ts x j k L) (hj : j < ts.length) : L.getD j (0, 0) = ts.getD j (0, 0) := by
  obtain ⟨mid, rfl, h1, h2⟩ := h
  have hl : (offL x (ts.take j) ++ mid).length = j := by simp; omega
  simp only [List.getD]
  rw [List.getElem?_append_right (by omega), hl, Nat.sub_self]
  simp [hj]
theorem part_drop {ts L : TList} {x : Int} {j k : Nat} (h : Part ts x j k L) (hj : j < ts.length) (he : ((ts.getD j (0, 0)).1 == x) = true) : Part ts x (j + 1) k L := by
  obtain ⟨mid, rfl, h1, h2⟩ := h
  refine ⟨mid ++ [ts.getD j (0, 0)], ?_, ?_, by simp; omega⟩
  · rw [off_snoc x ts j hj, if_pos he, getD_lt ts j _ hj, List.drop_eq_getElem_cons hj]
    simp
  · rw [off_snoc x ts j hj, if_pos he, h1]
theorem part_keep {ts L : TList} {x : Int} {j k : Nat} (h : Part ts x j k L) (hj : j < ts.length) (hk : k < j) (he : ((ts.getD j (0, 0)).1 == x) = false) : Part ts x (j + 1) (k + 1) (L.set k (ts.getD j (0, 0))) := by
  obtain ⟨mid, rfl, h1, h2⟩ := h
  match mid, h2 with
  | [], h2 => simp at h2; omega
  | m0 :: mid, h2 =>
    refine ⟨mid ++ [ts.getD j (0, 0)], ?_, ?_, by simp at h2 ⊢; omega⟩
    · rw [off_snoc x ts j hj, he, getD_lt ts j _ hj, List.drop_eq_getElem_cons hj, List.append_assoc, List.set_append_right _ _ (by omega), h1, Nat.sub_self]
      simp
    · rw [off_snoc x ts j hj, he]
      simp [h1]
theorem part_end {ts L : TList} {x : Int} {k : Nat} (h : Part ts x ts.length k L) : L.take k = offL x ts ∧ k = (offL x ts).length := by
  obtain ⟨mid, rfl, h1, h2⟩ := h
  rw [List.take_length] at h1 ⊢
  refine ⟨?_, h1.symm⟩
  rw [List.append_assoc, List.take_append_of_le_length (by omega), ← h1, List.take_length]
theorem part_start {ts : TList} {x : Int} {i : Nat} (hi : i < ts.length) (h : ∀ p ∈ ts.take i, p.1 ≠ x) (he : (ts.getD i (0, 0)).1 = x) : Part ts x (i + 1) i ts := by
  refine ⟨[ts.getD i (0, 0)], ?_, ?_, by simp; omega⟩
  · rw [off_snoc x ts i hi, he, if_pos (by simp), off_self h, getD_lt ts i _ hi]
    conv => lhs; rw [← List.take_append_drop (i + 1) ts]
    rw [List.take_succ_eq_append_getElem hi]
  · rw [off_snoc x ts i hi, he, if_pos (by simp), off_self h]
    simp
    omega
theorem flatA_set (l : TList) : ∀ (k : Nat) (p : Int × Int), flatA (l.set k p) = ((flatA l).set (k * 2) (.int .i64 p.2)).set (k * 2 + 1) (.int .i64 p.1) := by
  induction l with
  | nil => intro k p; rfl
  | cons a l ih =>
    intro k p
    have hc : ∀ (b : Int × Int) (m : TList), flatA (b :: m) = .int .i64 b.2 :: .int .i64 b.1 :: flatA m := fun _ _ => rfl
    cases k with
    | zero => simp [hc]
    | succ k => rw [List.set_cons_succ, hc, hc, ih k p, show (k + 1) * 2 = k * 2 + 1 + 1 by omega]; rfl
theorem flatA_take (l : TList) (k : Nat) : (flatA l).take (k * 2) = flatA (l.take k) := by
  induction l generalizing k with
  | nil => simp [flatA, flat]
  | cons a l ih =>
    have hc : ∀ (b : Int × Int) (m : TList), flatA (b :: m) = .int .i64 b.2 :: .int .i64 b.1 :: flatA m := fun _ _ => rfl
    cases k with
    | zero => simp [flatA, flat]
    | succ k => rw [List.take_succ_cons, hc, hc, show (k + 1) * 2 = k * 2 + 1 + 1 by omega, List.take_succ_cons, List.take_succ_cons, ih k]

set_option maxRecDepth 100000 in
set_option maxHeartbeats 2000000 in
theorem deleteFunc_any (lo : Nat) (A : Option Addr) (n c : Nat) (ts : TList) (x : Int) (Bn : Nat) (w : World) (hr : w.ownsRow lo 150 2 (.slice A n c) n (flatA ts)) (hn : n ≤ 1048576) (hc : w.cell? ⟨Bn, 0, none⟩ = some (.int .i64 x)) (hb : (Value.slice A n c).ownBlock ≠ some Bn) :
    Calls Try.prog 100 #[.slice A n c, .func (.func 101) #[] #[.pointer (some ⟨Bn, 0, none⟩)]] w fun e w' =>
      ∃ v, e = .returned v ∧ w'.ownsRow lo 150 2 v (offL x ts).length (flatA (offL x ts)) ∧ w.grownBy w' (Value.slice A n c).ownBlock ∧ v.ownBlock = (Value.slice A n c).ownBlock := by
  have hl : ts.length = n := by have := hr.1; rw [flatA_len] at this; omega
  have HL := Lib.hid hl
  have HR := Lib.hid hr
  have HC := Lib.hid hc
  have HB := Lib.hid hb
  clear hl hr hc hb
  go_enter Try.func100, Try.ntmps100
  go_wp2_with fail
  refine (indexFunc_any A n c ts x Bn w.heap.size _ (own_timers HR.out) HL.out (Nat.le_refl _) hn HC.out).mono ?_
  rintro e w1 ⟨r, rfl, (⟨rfl, hnone⟩ | ⟨i, hi, rfl, hpre, hat⟩), hb1⟩
  · have HN := Lib.hid hnone
    clear hnone
    go_wp2_with fail
    go_ret
    refine ⟨_, rfl, ?_, ⟨hb1.os, hb1.tape, hb1.output, hb1.size, fun k hk _ => hb1.block k hk⟩, rfl⟩
    rw [off_self HN.out, HL.out]
    exact own_below HR.out hb1
  · have hn0 : 0 < n := by have := HL.out; omega
    obtain ⟨g, cap, hv, hbg, hgl⟩ := HR.out.form hn0
    obtain rfl : A = some ⟨g, 0, none⟩ := by injection hv
    have hin : i < n := by have := HL.out; omega
    have HP0 := Lib.hid (part_start hi hpre hat)
    have hgn : g ≠ Bn := fun e => HB.out (by rw [e]; rfl)
    have hbn : Bn < w.heap.size := by
      rcases Nat.lt_or_ge Bn w.heap.size with h | h
      · exact h
      · have h5 := HC.out; simp [World.cell?, Array.getElem?_eq_none h] at h5
    have HG1 : Hid (w.grownBy w1 (some g)) := ⟨hb1.os, hb1.tape, hb1.output, hb1.size, fun k hk _ => hb1.block k hk⟩
    have HR1 := Lib.hid (own_below HR.out hb1)
    have hi1 : ((i : Int) == -1) = false := by simp
    have hnc : n ≤ c := own_cap HR.out
    clear hpre hat hv
    go_wp2_with fail
    go_loopw [5, 6] (fun v5 v6 wr => ∃ (k j : Nat) (L : TList), v5 = .int .i64 k ∧ v6 = .int .i64 j ∧ j ≤ n ∧ k < j ∧ Hid (Part ts x j k L) ∧ Hid (wr.ownsRow lo 150 2 (.slice (some ⟨g, 0, none⟩) n c) n (flatA L)) ∧ Hid (w.grownBy wr (some g))) (fun _ v6 _ => n - (intOf v6).toNat)
    case atStart => exact ⟨i, i + 1, ts, rfl, by go_num, by omega, by omega, HP0, HR1, HG1⟩
    case round =>
      obtain ⟨k, j, L, rfl, rfl, hj, hk, HP, HRr, HG⟩ := hrel
      have hszr := HG.out.size
      have hglr : g < wr.heap.size := by omega
      have hcr : wr.cell? ⟨Bn, 0, none⟩ = some (.int .i64 x) := (World.cell?_of_block (HG.out.block Bn hbn (fun e => hgn (by injection e with e; exact e.symm)))).trans HC.out
      have hLn : L.length = n := by rw [part_len HP.out (by rw [HL.out]; exact hj), HL.out]
      have HLN := Lib.hid hLn
      clear hLn
      by_cases hlt : j < n
      · have hjl : j < ts.length := by rw [HL.out]; exact hlt
        obtain ⟨z, y, hzy⟩ : ∃ z y, ts.getD j (0, 0) = (z, y) := ⟨_, _, rfl⟩
        have hat := flatA_at L j (by rw [HLN.out]; exact hlt)
        rw [part_at HP.out hjl, hzy] at hat
        have hd1 : wr.cell? ⟨g, j * 2, none⟩ = some (.int .i64 y) := (HRr.out.cellAt (j * 2) (by omega)).trans hat.1
        have hd2 : wr.cell? ⟨g, j * 2 + 1, none⟩ = some (.int .i64 z) := (HRr.out.cellAt (j * 2 + 1) (by omega)).trans hat.2
        have hak := flatA_at L k (by rw [HLN.out]; omega)
        have HZ := Lib.hid hzy
        clear hat hzy
        cases he : (z == x)
        · have he1 := (HRr.out.cellAt (k * 2) (by omega)).trans hak.1
          have he2 := (HRr.out.cellAt (k * 2 + 1) (by omega)).trans hak.2
          have hf1 := HRr.out.frozenAt (k * 2)
          have hf2 := HRr.out.frozenAt (k * 2 + 1)
          have HPN := Lib.hid (part_keep HP.out hjl hk (by rw [HZ.out]; exact he))
          clear hak
          go_wp2_with fail
          refine (isId_any y z x Bn _ (below_keep (below_a1 _ _) hcr)).mono ?_
          rintro e w' ⟨rfl, rfl⟩
          rw [he]
          go_wp2_with fail
          go_roundw
          case rel =>
            obtain ⟨hr1, hg1⟩ := HRr.out.stored (k * 2) (.int .i64 y)
            obtain ⟨hr2, hg2⟩ := hr1.stored (k * 2 + 1) (.int .i64 z)
            refine ⟨k + 1, j + 1, L.set k (ts.getD j (0, 0)), by go_num, by go_num, by omega, by omega, HPN, ?_, ?_⟩
            · rw [flatA_set, HZ.out]
              exact own_below (own_below hr2 (below_a1 _ _)) (below_a1 _ _)
            · exact (((HG.out.andThen hg1 (fun j hj => by cases hj; exact Or.inr rfl)).andThen hg2 (fun j hj => by cases hj; exact Or.inr rfl)).andThen (World.grownBy_alloc _ _ none) (fun j hj => by cases hj)).andThen (World.grownBy_alloc _ _ none) (fun j hj => by cases hj)
          case measure => simp [intOf]; omega
        · have HPN := Lib.hid (part_drop HP.out hjl (by rw [HZ.out]; exact he))
          clear hak
          go_wp2_with fail
          refine (isId_any y z x Bn _ (below_keep (below_a1 _ _) hcr)).mono ?_
          rintro e w' ⟨rfl, rfl⟩
          rw [he]
          go_wp2_with fail
          go_roundw
          case rel =>
            refine ⟨k, j + 1, L, rfl, by go_num, by omega, by omega, HPN, own_below (own_below HRr.out (below_a1 _ _)) (below_a1 _ _), ?_⟩
            exact (HG.out.andThen (World.grownBy_alloc _ _ none) (fun j hj => by cases hj)).andThen (World.grownBy_alloc _ _ none) (fun j hj => by cases hj)
          case measure => simp [intOf]; omega
      · have HJ : Hid (j = n) := (by omega : j = n)
        have hkn : k < n := by omega
        have hkc : k ≤ c := by omega
        have hck : ¬ c = k := by omega
        have hclr : ∀ ty, (Builtin.clear_ #[91] ty #[.slice (some ⟨g, k * 2, none⟩) (n - k) (c - k)]).run Try.prog wr = .ok (.tuple #[]) (wr.setCells g (k * 2) (List.replicate ((n - k) * 2) (.int .i64 0))) := by
          intro ty
          refine clear2 wr ty g (k * 2) (n - k) (c - k) (by omega) (fun q hq => ?_) (fun q hq => HRr.out.frozenAt _)
          rw [HRr.out.cellAt (k * 2 + q) (by omega)]
          have h5 := HRr.out.1
          rw [List.getElem?_eq_getElem (by omega)]
          rfl
        go_wp2_with fail
        go_ret
        obtain ⟨xs', hx1, hx2, hx3⟩ := own_setCells (List.replicate ((n - k) * 2) (.int .i64 0)) (k * 2) wr _ HRr.out
        have hPn := HP.out
        rw [HJ.out, ← HL.out] at hPn
        obtain ⟨hp1, hp2⟩ := part_end hPn
        have hx4 := own_less hx1 (Nat.le_of_lt hkn)
        rw [hx2, flatA_take, hp1] at hx4
        rw [← hp2]
        exact ⟨_, rfl, hx4, HG.out.andThen hx3 (fun j hj => by cases hj; exact Or.inr rfl), rfl⟩
end Go.Proofs.Ytpghccbknlokcaa.Ring
