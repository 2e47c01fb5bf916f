/-
  THE CONTRACTS of slices.IndexFunc and slices.DeleteFunc at ints, with NextEngine's own 'is it past', over this seat's translation.
-/
import Derived.Test.YtcedgjglpjgehaaEngTurn
import Derived.Lib.SliceRun
namespace Go.Proofs.Ytcedgjglpjgehaa.DelI
open Go.ChangeShapes Go.WideShapes Go.ChangeAt Go.RowKit Go.Shelf
open Go.Proofs.Ytcedgjglpjgehaa.LK Go.Proofs.Ytcedgjglpjgehaa.Has Go.Proofs.Ytcedgjglpjgehaa.Ints Go.Proofs.Ytcedgjglpjgehaa.EngV Go.Proofs.Ytcedgjglpjgehaa.Seg
set_option linter.unusedVariables false
set_option linter.unusedSimpArgs false

theorem isPast_any (t now : Int) (Bn : Nat) (w : World) (hc : w.cell? ⟨Bn, 11, none⟩ = some (.int .i64 now)) :
    Calls Try.prog 50 #[.int .i64 t, .pointer (some ⟨Bn, 0, none⟩)] w fun e w' => e = .returned (.bool (decide (t ≤ now))) ∧ w = w' := by
  go_enter Try.func50, Try.ntmps50
  go_wp2
  go_ret
  exact ⟨rfl, rfl⟩
theorem getD_lt {zs : List Int} {i : Nat} (h : i < zs.length) : zs.getD i 0 = zs[i] := by simp [List.getD, h]

/-- What IndexFunc says. -/
def Found (zs : List Int) (now r : Int) : Prop := (r = -1 ∧ ∀ p ∈ zs, ¬ p ≤ now) ∨ ∃ i : Nat, i < zs.length ∧ r = (i : Int) ∧ (∀ p ∈ zs.take i, ¬ p ≤ now) ∧ zs.getD i 0 ≤ now
theorem take_snoc_all {zs : List Int} {i : Nat} {now : Int} (hi : i < zs.length) (h : ∀ p ∈ zs.take i, ¬ p ≤ now) (h2 : ¬ zs.getD i 0 ≤ now) : ∀ p ∈ zs.take (i + 1), ¬ p ≤ now := by
  intro p hp
  rw [List.take_succ_eq_append_getElem hi] at hp
  rcases List.mem_append.1 hp with hp | hp
  · exact h p hp
  · rw [getD_lt hi] at h2
    simp at hp
    rw [hp]
    exact h2

set_option maxHeartbeats 1000000 in
theorem indexFunc_any (lo g n c : Nat) (zs : List Int) (now : Int) (Bn : Nat) (w : World) (hr : OwnI w lo (some ⟨g, 0, none⟩) n c zs) (hn : n ≤ 1048576) (hc : w.cell? ⟨Bn, 11, none⟩ = some (.int .i64 now)) :
    Calls Try.prog 62 #[.slice (some ⟨g, 0, none⟩) n c, .func (.func 50) #[] #[.pointer (some ⟨Bn, 0, none⟩)]] w fun e w' => ∃ r, e = .returned (.int .i64 r) ∧ Found zs now r ∧ w = w' := by
  have HL : Hid (zs.length = n) := hr.1
  have HR := Lib.hid hr
  clear hr
  go_enter Try.func62, Try.ntmps62
  go_wp2_with fail
  go_loopw [8] (fun i wr => ∃ k : Nat, k ≤ n ∧ i = .int .i64 k ∧ Hid (∀ p ∈ zs.take k, ¬ p ≤ now) ∧ w = wr) (fun i _ => n - (RowKit.intOf i).toNat)
  case atStart => exact ⟨0, Nat.zero_le _, rfl, fun p hp => by simp at hp, rfl⟩
  case round =>
    obtain ⟨k, hk, rfl, HF, rfl⟩ := hrel
    by_cases hlt : k < n
    · obtain ⟨z, hz⟩ : ∃ z, z = zs.getD k 0 := ⟨_, rfl⟩
      have hkl : k < zs.length := by rw [HL.out]; exact hlt
      have hd : w.cell? ⟨g, k, none⟩ = some (.int .i64 z) := by
        rw [HR.out.2.cellAt k (by omega), List.getElem?_map, List.getElem?_eq_getElem hkl, hz, getD_lt hkl]
        rfl
      have HZ := Lib.hid hz
      clear hz
      by_cases he : z ≤ now
      · have hde : decide (z ≤ now) = true := by simp [he]
        have HN : Hid (Found zs now (k : Int)) := .inr ⟨k, hkl, rfl, HF.out, by rw [← HZ.out]; exact he⟩
        clear he
        go_wp2_with fail
        refine (isPast_any z now Bn _ hc).mono ?_
        rintro e w' ⟨rfl, rfl⟩
        rw [hde]
        go_wp2_with fail
        go_ret
        exact ⟨_, rfl, HN.out, rfl⟩
      · have hde : decide (z ≤ now) = false := by simp [he]
        have HN : Hid (∀ p ∈ zs.take (k + 1), ¬ p ≤ now) := take_snoc_all hkl HF.out (by rw [← HZ.out]; exact he)
        clear he
        go_wp2_with fail
        refine (isPast_any z now Bn _ hc).mono ?_
        rintro e w' ⟨rfl, rfl⟩
        rw [hde]
        go_wp2_with fail
        go_roundw
        case rel => exact ⟨k + 1, by omega, by go_num, fun p hp => by have h := HN.out p hp; omega, by trivial⟩
        case measure => simp [RowKit.intOf]; omega
    · have HN : Hid (Found zs now (-1)) := .inl ⟨rfl, by have h5 := HF.out; rw [show k = zs.length by rw [HL.out]; omega, List.take_length] at h5; exact h5⟩
      go_wp2_with fail
      go_ret
      exact ⟨_, rfl, HN.out, rfl⟩

theorem own_setCells {base : Nat} {e : TypeId} {size g n cap : Nat} (vs : List Value) : ∀ (o : Nat) (w : World) (xs : List Value), w.ownsRow base e size (.slice (some ⟨g, 0, none⟩) n cap) n xs →
    ∃ xs', (w.setCells g o vs).ownsRow base e size (.slice (some ⟨g, 0, none⟩) n cap) n xs' ∧ xs'.take o = xs.take o ∧ w.grownBy (w.setCells g o vs) (some g) := by
  induction vs with
  | nil => intro o w xs h; exact ⟨xs, h, rfl, World.grownBy.refl _ _⟩
  | cons v vs ih =>
    intro o w xs h
    obtain ⟨h1, h2⟩ := h.stored o v
    obtain ⟨xs', h3, h4, h5⟩ := ih (o + 1) _ _ h1
    refine ⟨xs', h3, ?_, h2.andThen h5 (fun j hj => by cases hj; exact Or.inr rfl)⟩
    have h6 : (xs'.take (o + 1)).take o = ((xs.set o v).take (o + 1)).take o := by rw [h4]
    rw [List.take_take, List.take_take, Nat.min_eq_left (Nat.le_succ _)] at h6
    rw [h6, List.take_set, List.set_eq_of_length_le (by simp; omega)]
theorem own_less {w : World} {base : Nat} {e : TypeId} {g n cap i : Nat} {xs : List Value} (h : w.ownsRow base e 1 (.slice (some ⟨g, 0, none⟩) n cap) n xs) (hi : i ≤ n) : w.ownsRow base e 1 (.slice (some ⟨g, 0, none⟩) i cap) i (xs.take i) := by
  refine ⟨by rw [List.length_take, h.1]; omega, ?_⟩
  rcases h.2 with ⟨h', _⟩ | ⟨g', cap', cur, h', hb, hg, hnc, hcm, hcs, htake⟩
  · simp at h'
  · simp only [Value.slice.injEq, Option.some.injEq, Addr.mk.injEq, and_true, true_and] at h'
    obtain ⟨rfl, rfl⟩ := h'
    exact .inr ⟨g, cap, cur, rfl, hb, hg, by omega, hcm, hcs, by rw [← htake, List.take_take, Nat.min_eq_left (by omega), Nat.mul_one]⟩
theorem own_cap {w : World} {base : Nat} {e : TypeId} {size g n cap : Nat} {xs : List Value} (h : w.ownsRow base e size (.slice (some ⟨g, 0, none⟩) n cap) n xs) : n ≤ cap := by
  rcases h.2 with ⟨h', _⟩ | ⟨g', cap', cur, h', hb, hg, hnc, _⟩
  · simp at h'
  · simp only [Value.slice.injEq, Option.some.injEq, Addr.mk.injEq, and_true, true_and] at h'
    obtain ⟨rfl, rfl⟩ := h'
    exact hnc
theorem zeros1 (n : Nat) : (Builtin.zeroCells #[.int .i64 0] n).toList = List.replicate n (.int .i64 0) := by
  simp only [Builtin.zeroCells]
  apply List.ext_getElem
  · simp
  · intro i h1 h2
    simp [Nat.mod_one]
theorem clear1 (w : World) (ty : TypeId) (b o n c : Nat) (hn : 0 < n) (hc : ∀ j, j < n → (w.cell? ⟨b, o + j, none⟩).isSome = true) (hf : ∀ j, j < n → w.frozen? ⟨b, o + j, none⟩ = false) :
    (Builtin.clear_ #[63] ty #[.slice (some ⟨b, o, none⟩) n c]).run Try.prog w = .ok (.tuple #[]) (w.setCells b o (List.replicate n (.int .i64 0))) := by
  have hst := run_storeCells_cells (P := Try.prog) b o (List.replicate n (.int .i64 0)) 0 w (by simpa using hc) (by simpa using hf) (by intro v hv'; rw [List.eq_of_mem_replicate hv']; rfl)
  simp only [Nat.add_zero] at hst
  obtain ⟨m, rfl⟩ : ∃ m, n = m + 1 := ⟨n - 1, by omega⟩
  have hz := zeros1 (m + 1)
  obtain ⟨i0, hi, hz0, hz1, hz2⟩ := info_parts Has.infoInt
  have hzv : (zeroValue 3).run Try.prog w = .ok (.int .i64 0) w := by simp [zeroValue, typeInfo, hi, hz0]
  simp only [Builtin.clear_]
  simp [run_underlying Try.underlying63, Value.cells, hz, hst]

def offL (now : Int) (zs : List Int) : List Int := zs.filter fun t => !decide (t ≤ now)
/-- Amid the deletion: k are kept of the first j, what is behind j stands. -/
def Part (zs : List Int) (now : Int) (j k : Nat) (L : List Int) : Prop := ∃ mid : List Int, L = offL now (zs.take j) ++ mid ++ zs.drop j ∧ (offL now (zs.take j)).length = k ∧ mid.length + k = j
theorem off_self {now : Int} {zs : List Int} (h : ∀ p ∈ zs, ¬ p ≤ now) : offL now zs = zs := List.filter_eq_self.2 fun p hp => by simpa using h p hp
theorem off_snoc (now : Int) (zs : List Int) (j : Nat) (h : j < zs.length) : offL now (zs.take (j + 1)) = if zs.getD j 0 ≤ now then offL now (zs.take j) else offL now (zs.take j) ++ [zs.getD j 0] := by
  unfold offL
  rw [List.take_succ_eq_append_getElem h, List.filter_append, getD_lt h]
  by_cases e : zs[j] ≤ now
  · simp [e]
  · simp [e]
theorem part_len {zs L : List Int} {now : Int} {j k : Nat} (h : Part zs now j k L) (hj : j ≤ zs.length) : L.length = zs.length := by
  obtain ⟨mid, rfl, h1, h2⟩ := h
  simp
  omega
theorem part_at {zs L : List Int} {now : Int} {j k : Nat} (h : Part zs now j k L) (hj : j < zs.length) : L.getD j 0 = zs.getD j 0 := by
  obtain ⟨mid, rfl, h1, h2⟩ := h
  have hl : (offL now (zs.take j) ++ mid).length = j := by simp; omega
  simp only [List.getD]
  rw [List.getElem?_append_right (by omega), hl, Nat.sub_self]
  simp [hj]
theorem part_drop {zs L : List Int} {now : Int} {j k : Nat} (h : Part zs now j k L) (hj : j < zs.length) (he : zs.getD j 0 ≤ now) : Part zs now (j + 1) k L := by
  obtain ⟨mid, rfl, h1, h2⟩ := h
  refine ⟨mid ++ [zs.getD j 0], ?_, ?_, by simp; omega⟩
  · rw [off_snoc now zs j hj, if_pos he, getD_lt hj, List.drop_eq_getElem_cons hj]
    simp
  · rw [off_snoc now zs j hj, if_pos he, h1]
theorem part_keep {zs L : List Int} {now : Int} {j k : Nat} (h : Part zs now j k L) (hj : j < zs.length) (hk : k < j) (he : ¬ zs.getD j 0 ≤ now) : Part zs now (j + 1) (k + 1) (L.set k (zs.getD j 0)) := by
  obtain ⟨mid, rfl, h1, h2⟩ := h
  match mid, h2 with
  | [], h2 => simp at h2; omega
  | m0 :: mid, h2 =>
    refine ⟨mid ++ [zs.getD j 0], ?_, ?_, by simp at h2 ⊢; omega⟩
    · rw [off_snoc now zs j hj, if_neg he, getD_lt hj, List.drop_eq_getElem_cons hj, List.append_assoc, List.set_append_right _ _ (by omega), h1, Nat.sub_self]
      simp
    · rw [off_snoc now zs j hj, if_neg he]
      simp [h1]
theorem part_end {zs L : List Int} {now : Int} {k : Nat} (h : Part zs now zs.length k L) : L.take k = offL now zs ∧ k = (offL now zs).length := by
  obtain ⟨mid, rfl, h1, h2⟩ := h
  rw [List.take_length] at h1 ⊢
  refine ⟨?_, h1.symm⟩
  rw [List.append_assoc, List.take_append_of_le_length (by omega), ← h1, List.take_length]
theorem part_start {zs : List Int} {now : Int} {i : Nat} (hi : i < zs.length) (h : ∀ p ∈ zs.take i, ¬ p ≤ now) (he : zs.getD i 0 ≤ now) : Part zs now (i + 1) i zs := by
  refine ⟨[zs.getD i 0], ?_, ?_, by simp; omega⟩
  · rw [off_snoc now zs i hi, if_pos he, off_self h, getD_lt hi]
    conv => lhs; rw [← List.take_append_drop (i + 1) zs]
    rw [List.take_succ_eq_append_getElem hi]
  · rw [off_snoc now zs i hi, if_pos he, off_self h]
    simp
    omega
theorem own_getD {w : World} {lo g n c : Nat} {L : List Int} (h : OwnI w lo (some ⟨g, 0, none⟩) n c L) {j : Nat} (hj : j < n) : w.cell? ⟨g, j, none⟩ = some (.int .i64 (L.getD j 0)) := by
  have hl : j < L.length := by have := h.1; omega
  rw [h.2.cellAt j (by omega), List.getElem?_map, List.getElem?_eq_getElem hl, getD_lt hl]
  rfl

set_option maxRecDepth 100000 in
set_option maxHeartbeats 2000000 in
theorem deleteFunc_any (lo g n c : Nat) (zs : List Int) (now : Int) (Bn : Nat) (w : World) (hr : OwnI w lo (some ⟨g, 0, none⟩) n c zs) (hn : n ≤ 1048576) (hc : w.cell? ⟨Bn, 11, none⟩ = some (.int .i64 now)) (hb : g ≠ Bn) :
    Calls Try.prog 48 #[.slice (some ⟨g, 0, none⟩) n c, .func (.func 50) #[] #[.pointer (some ⟨Bn, 0, none⟩)]] w fun e w' =>
      ∃ m, e = .returned (.slice (some ⟨g, 0, none⟩) m c) ∧ OwnI w' lo (some ⟨g, 0, none⟩) m c (offL now zs) ∧ w.grownBy w' (some g) := by
  have HL : Hid (zs.length = n) := hr.1
  have HR := Lib.hid hr
  have HC := Lib.hid hc
  have hbn : Bn < w.heap.size := by
    rcases Nat.lt_or_ge Bn w.heap.size with h | h
    · exact h
    · simp [World.cell?, Array.getElem?_eq_none h] at hc
  have hgl : g < w.heap.size := (hr.2.lt g rfl).2
  clear hr hc
  go_enter Try.func48, Try.ntmps48
  go_wp2_with fail
  refine (indexFunc_any lo g n c zs now Bn _ HR.out hn HC.out).mono ?_
  rintro e w1 ⟨r, rfl, hfo, rfl⟩
  rcases hfo with ⟨rfl, hnone⟩ | ⟨i, hi, rfl, hpre, hat⟩
  · have HN := Lib.hid hnone
    clear hnone
    go_wp2_with fail
    go_ret
    refine ⟨_, rfl, ?_, World.grownBy.refl _ _⟩
    rw [off_self (fun p hp => by have h := HN.out p hp; omega)]
    exact HR.out
  · have hn0 : 0 < n := by have := HL.out; omega
    have hin : i < n := by have := HL.out; omega
    have HP0 := Lib.hid (part_start hi hpre hat)
    have hi1 : ((i : Int) == -1) = false := by simp
    have hnc : n ≤ c := own_cap HR.out.2
    clear hpre hat
    go_wp2_with fail
    go_loopw [5, 6] (fun v5 v6 wr => ∃ (k j : Nat) (L : List Int), v5 = .int .i64 k ∧ v6 = .int .i64 j ∧ j ≤ n ∧ k < j ∧ Hid (Part zs now j k L) ∧ Hid (OwnI wr lo (some ⟨g, 0, none⟩) n c L) ∧ Hid (w.grownBy wr (some g))) (fun _ v6 _ => n - (RowKit.intOf v6).toNat)
    case atStart => exact ⟨i, i + 1, zs, rfl, by go_num, by omega, by omega, HP0, HR, World.grownBy.refl _ _⟩
    case round =>
      obtain ⟨k, j, L, rfl, rfl, hj, hk, HP, HRr, HG⟩ := hrel
      have hszr := HG.out.size
      have hcr : wr.cell? ⟨Bn, 11, none⟩ = some (.int .i64 now) := (World.cell?_of_block (HG.out.block Bn hbn (fun e => hb (by injection e with e; exact e.symm)))).trans HC.out
      by_cases hlt : j < n
      · have hjl : j < zs.length := by rw [HL.out]; exact hlt
        obtain ⟨z, hz⟩ : ∃ z, z = zs.getD j 0 := ⟨_, rfl⟩
        have hd1 : wr.cell? ⟨g, j, none⟩ = some (.int .i64 z) := by rw [hz, ← part_at HP.out hjl]; exact own_getD HRr.out hlt
        have he1 := own_getD HRr.out (show k < n by omega)
        have hf1 := HRr.out.2.frozenAt k
        have HZ := Lib.hid hz
        clear hz
        by_cases he : z ≤ now
        · have hde : decide (z ≤ now) = true := by simp [he]
          have HPN := Lib.hid (part_drop HP.out hjl (by rw [← HZ.out]; exact he))
          clear he he1
          go_wp2_with fail
          refine (isPast_any z now Bn _ hcr).mono ?_
          rintro e w' ⟨rfl, rfl⟩
          rw [hde]
          go_wp2_with fail
          go_roundw
          case rel => exact ⟨k, j + 1, L, rfl, by go_num, by omega, by omega, HPN, HRr, HG⟩
          case measure => simp [RowKit.intOf]; omega
        · have hde : decide (z ≤ now) = false := by simp [he]
          have HPN := Lib.hid (part_keep HP.out hjl hk (by rw [← HZ.out]; exact he))
          rw [← HZ.out] at HPN
          clear he
          obtain ⟨y, hy⟩ : ∃ y, y = L.getD k 0 := ⟨_, rfl⟩
          rw [← hy] at he1
          clear hy
          go_wp2_with fail
          refine (isPast_any z now Bn _ hcr).mono ?_
          rintro e w' ⟨rfl, rfl⟩
          rw [hde]
          go_wp2_with fail
          go_roundw
          case rel =>
            obtain ⟨hr1, hg1⟩ := HRr.out.2.stored k (.int .i64 z)
            refine ⟨k + 1, j + 1, L.set k z, by go_num, by go_num, by omega, by omega, HPN, ⟨by simp; exact HRr.out.1, ?_⟩, HG.out.andThen hg1 (fun j hj => by cases hj; exact Or.inr rfl)⟩
            rw [List.map_set]
            exact hr1
          case measure => simp [RowKit.intOf]; omega
      · have HJ : Hid (j = n) := (by omega : j = n)
        have hkn : k < n := by omega
        have hkc : k ≤ c := by omega
        have hck : ¬ c = k := by omega
        have hclr : ∀ ty, (Builtin.clear_ #[63] ty #[.slice (some ⟨g, k, none⟩) (n - k) (c - k)]).run Try.prog wr = .ok (.tuple #[]) (wr.setCells g k (List.replicate (n - k) (.int .i64 0))) := by
          intro ty
          refine clear1 wr ty g k (n - k) (c - k) (by omega) (fun q hq => ?_) (fun q hq => HRr.out.2.frozenAt _)
          rw [own_getD HRr.out (show k + q < n by omega)]
          rfl
        go_wp2_with fail
        go_ret
        obtain ⟨xs', hx1, hx2, hx3⟩ := own_setCells (List.replicate (n - k) (.int .i64 0)) k wr _ HRr.out.2
        have hPn := HP.out
        rw [HJ.out, ← HL.out] at hPn
        obtain ⟨hp1, hp2⟩ := part_end hPn
        have hx4 := own_less hx1 (Nat.le_of_lt hkn)
        rw [hx2, ← List.map_take, hp1] at hx4
        exact ⟨_, rfl, ⟨hp2.symm, hx4⟩, HG.out.andThen hx3 (fun j hj => by cases hj; exact Or.inr rfl)⟩
end Go.Proofs.Ytcedgjglpjgehaa.DelI
