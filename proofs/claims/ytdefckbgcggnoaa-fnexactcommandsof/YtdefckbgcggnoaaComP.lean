/-
  CommandsOf, the model's and the program's, over this seat's translation: the events of some Kinds; slices.Contains.
-/
import Derived.Test.YtdefckbgcggnoaaEvs
import Derived.Test.YtdefckbgcggnoaaMks
import Derived.Maps.AppendAt
namespace Go.Proofs.Ytdefckbgcggnoaa.ComP
open Go.ChangeShapes Go.WideShapes Go.ChangeAt Go.RowKit
open Go.Proofs.Ytdefckbgcggnoaa.LK Go.Proofs.Ytdefckbgcggnoaa.Evs Go.Proofs.Ytdefckbgcggnoaa.Ints
set_option linter.unusedVariables false

set_option maxRecDepth 100000 in
set_option maxHeartbeats 3200000 in
theorem index_any (A : Option Addr) (n c : Nat) (x : Int) (zs : List Int) (B : Nat) (w : World) (hr : IsInts w B A n zs) (hn : n ≤ 1048576) :
    Calls Try.prog 91 #[.slice A n c, .int .i64 x] w fun e w' => ∃ r : Int, e = .returned (.int .i64 r) ∧ decide (0 ≤ r) = decide (x ∈ zs) ∧ w' = w := by
  have HL : Hid (zs.length = n) := hr.1
  have HR := Lib.hid hr
  clear hr
  go_enter Try.func91, Try.ntmps91
  go_wp2_with fail
  go_loop [8] (fun i => ∃ k : Nat, k ≤ n ∧ i = .int .i64 k ∧ Hid (∀ j, j < k → zs.getD j 0 ≠ x)) (fun i => n - (intOf i).toNat)
  case atStart => exact ⟨0, Nat.zero_le _, rfl, fun j hj => absurd hj (by omega)⟩
  case round =>
    obtain ⟨k, hk, rfl, HK⟩ := hrel
    by_cases hlt : k < n
    · obtain ⟨b, off, hA, hbB, hc⟩ := HR.out.2 (by omega)
      have hck := hc k hlt
      obtain ⟨y, hy⟩ : ∃ y, y = zs.getD k 0 := ⟨_, rfl⟩
      rw [← hy] at hck
      have HY := Lib.hid hy
      clear hc hy
      subst hA
      by_cases hxy : x = y
      · have hq : (x == y) = true := by simp [hxy]
        have HM : Hid (x ∈ zs) := by
          show _ ∈ _
          rw [hxy, HY.out, List.getD_eq_getElem?_getD, List.getElem?_eq_getElem (by rw [HL.out]; exact hlt)]
          exact List.getElem_mem _
        clear hxy
        go_wp2
        go_ret
        exact ⟨k, rfl, by simp [HM.out], rfl⟩
      · have hq : (x == y) = false := by simp [hxy]
        have HK2 : Hid (∀ j, j < k + 1 → zs.getD j 0 ≠ x) := fun j hj => by
          by_cases h : j = k
          · rw [h, ← HY.out]; exact fun e => hxy e.symm
          · exact HK.out j (by omega)
        clear hxy
        go_wp2
        go_round
        case rel => exact ⟨k + 1, by omega, by go_num, HK2⟩
        case measure => simp [intOf]; omega
    · have HN : Hid (k = n) := (by omega : k = n)
      go_wp2
      go_ret
      refine ⟨-1, rfl, ?_, rfl⟩
      have hno : ¬ x ∈ zs := by
        intro h
        obtain ⟨j, hj, e⟩ := List.mem_iff_getElem.1 h
        refine HK.out j (by rw [HN.out, ← HL.out]; exact hj) ?_
        rw [List.getD_eq_getElem?_getD, List.getElem?_eq_getElem hj]
        exact e
      simp [hno]
theorem contains_any (A : Option Addr) (n c : Nat) (x : Int) (zs : List Int) (B : Nat) (w : World) (hr : IsInts w B A n zs) (hn : n ≤ 1048576) :
    Calls Try.prog 71 #[.slice A n c, .int .i64 x] w fun e w' => e = .returned (.bool (decide (x ∈ zs))) ∧ w' = w := by
  have HR := Lib.hid hr
  clear hr
  go_enter Try.func71, Try.ntmps71
  go_wp2_with fail
  refine (index_any A n c x zs B w HR.out hn).mono ?_
  rintro e w2 ⟨r, rfl, hd, rfl⟩
  obtain ⟨q, hq⟩ : ∃ q, decide (0 ≤ r) = q := ⟨_, rfl⟩
  have HD : Hid (q = decide (x ∈ zs)) := by show _ = _; rw [← hd, hq]
  clear hd
  go_wp2
  go_ret
  exact ⟨by rw [← HD.out]; rfl, rfl⟩
theorem infoE : (Try.prog.info? 61).map (fun i => (i.zero, i.size, i.bytes)) = some (some (.agg #[.int .i64 0, .int .i64 0, .int .i64 0]), 3, 24) := by kernel_rfl
theorem news3 (w : World) (l : List Value) (t : TypeId) : ∀ j u, l[j]? = some u → (w.alloc (.cells l.toArray t)).cell? ((⟨w.heap.size, 0, none⟩ : Addr).add j) = some u := by
  intro j u h
  rw [FlatOpen.add_off, Nat.zero_add]
  exact box_cell (box_new w (.cells l.toArray t)) j u (by simpa using h)
def selV (ks : List Int) (ps : L) : L := ps.filter fun p => decide (p.1 ∈ ks)
theorem sel_take (ks : List Int) (ps : L) (k : Nat) (h : k < ps.length) : selV ks (ps.take (k + 1)) = selV ks (ps.take k) ++ if (ps.getD k z).1 ∈ ks then [ps.getD k z] else [] := by
  have e : ps.getD k z = ps[k] := by simp [List.getD, h]
  unfold selV
  rw [List.take_succ_eq_append_getElem h, List.filter_append, e]
  by_cases hm : ps[k].1 ∈ ks <;> simp [hm]
theorem sel_len (ks : List Int) (ps : L) : (selV ks ps).length ≤ ps.length := List.length_filter_le _ _
set_option maxRecDepth 100000 in
set_option maxHeartbeats 6400000 in
theorem eventsOf_any (A : Option Addr) (n c : Nat) (K : Option Addr) (m c2 : Nat) (ks : List Int) (ps : L) (B B2 : Nat) (w : World) (hr : IsL w B A n ps) (hB : B ≤ w.heap.size) (hn : n ≤ 1048576) (hk : IsInts w B2 K m ks) (hB2 : B2 ≤ w.heap.size) (hm : m ≤ 1048576) :
    Calls Try.prog 60 #[.slice A n c, .slice K m c2] w (Made lty (selV ks ps) w) := by
  have HL : Hid (ps.length = n) := hr.1
  have HR := Lib.hid hr
  have HKS := Lib.hid hk
  obtain ⟨i0, hi0, hz0, hz1, hz2⟩ := info_parts infoE
  clear hr hk
  go_enter Try.func60, Try.ntmps60
  go_wp2_with fail
  go_loopw [5, 11] (fun s i wr => ∃ (k : Nat) (E : Option Addr) (j q : Nat), k ≤ n ∧ i = .int .i64 k ∧ s = .slice E j q ∧ j ≤ k ∧ Hid (OwnL wr w.heap.size E j q (selV ks (ps.take k))) ∧ Hid (Below w.heap.size w wr)) (fun _ i _ => n - (intOf i).toNat)
  case atStart => exact ⟨0, some ⟨w.heap.size, 0, none⟩, 0, 0, Nat.zero_le _, rfl, rfl, Nat.le_refl _, ⟨rfl, World.ownsRow_lit (base := w.heap.size) (e := 61) (size := 3) w #[] 0 (Nat.le_refl _) (Nat.zero_le _) rfl⟩, bel1 w _⟩
  case round =>
    obtain ⟨k, E, j, q, hk, rfl, rfl, hjk, HO, HB⟩ := hrel
    by_cases hlt : k < n
    · obtain ⟨b, off, y0, y1, y2, hA, hbB, hz, hc0, hc1, hc2⟩ := (HR.out.below HB.out hB).at_ hlt
      have HT : Hid (selV ks (ps.take (k + 1)) = selV ks (ps.take k) ++ if y0 ∈ ks then [(y0, y1, y2)] else []) := by show _ = _; rw [sel_take ks ps k (by rw [HL.out]; exact hlt), hz]
      have HA := Lib.hid hA
      clear hz
      subst hA
      have HBN : Hid (Below w.heap.size w (wr.alloc (.cells #[.int .i64 y0, .int .i64 y1, .int .i64 y2] 61))) := HB.out.alloc HB.out.size _
      have HKE : Hid ((wr.alloc (.cells #[.int .i64 y0, .int .i64 y1, .int .i64 y2] 61)).heap[wr.heap.size]? = some (.cells [.int .i64 y0, .int .i64 y1, .int .i64 y2].toArray 61 (0, 0))) := box_new wr _
      have HO2 : Hid (OwnL (wr.alloc (.cells #[.int .i64 y0, .int .i64 y1, .int .i64 y2] 61)) w.heap.size E j q (selV ks (ps.take k))) := HO.out.below (bel1 wr _)
      go_upto_region 5 with fail
      obtain ⟨V, hV⟩ : ∃ V, V = wr.alloc (.cells #[.int .i64 y0, .int .i64 y1, .int .i64 y2] 61) := ⟨_, rfl⟩
      rw [← hV] at HBN HKE HO2 ⊢
      clear hV hc0 hc1 hc2 HB HO
      have e0 : V.cell? ⟨wr.heap.size, 0, none⟩ = some (.int .i64 y0) := box_cell HKE.out 0 _ rfl
      have e1 : V.cell? ⟨wr.heap.size, 1, none⟩ = some (.int .i64 y1) := box_cell HKE.out 1 _ rfl
      have e2 : V.cell? ⟨wr.heap.size, 2, none⟩ = some (.int .i64 y2) := box_cell HKE.out 2 _ rfl
      go_wp2_with fail
      refine (contains_any K m c2 y0 ks B2 V (HKS.out.below HBN.out hB2) hm).mono ?_
      rintro e w2 ⟨rfl, rfl⟩
      by_cases hin : y0 ∈ ks
      · have HT2 : Hid (selV ks (ps.take (k + 1)) = selV ks (ps.take k) ++ [(y0, y1, y2)]) := by show _ = _; rw [HT.out, if_pos hin]
        have hd : decide (y0 ∈ ks) = true := by simp [hin]
        rw [hd]
        clear HT hin hd
        go_wp2_with (at_builtin; refine wpList_append_own_at _ rfl (.tmp 19) (.tmp 21) _ rfl w.heap.size 61 i0 _ 3 24 Try.underlying38 hi0 hz0 hz1 hz2 rfl (by omega) (.slice E j q) j (flat (selV ks (ps.take k))) rfl ?o1 ⟨w2.heap.size, 0, none⟩ 1 1 [.int .i64 y0, .int .i64 y1, .int .i64 y2] rfl rfl (news3 w2 [.int .i64 y0, .int .i64 y1, .int .i64 y2] 61) ?o3 ?o4 ?o5 ?o6 ?_)
        case o1 => exact (HO2.out.below (bel1 w2 _)).2
        case o3 => first | exact ⟨rfl, rfl, rfl⟩ | (intro u hu; simp at hu; rcases hu with rfl | rfl | rfl <;> rfl)
        case o4 => unfold maxLen; omega
        case o5 => omega
        case o6 => first | exact HBN.out.size | (have := HBN.out.size; simp; omega)
        intro v2 w5 hown hgr hif hat
        obtain ⟨E2, q2, rfl, hO⟩ := own_app (ps := selV ks (ps.take k)) (p := (y0, y1, y2)) HO2.out.1 hown
        rw [← HT2.out] at hO
        have HO5 := Lib.hid hO
        have HB5 : Hid (Below w.heap.size w w5) := (HBN.out.alloc HBN.out.size _).grown hgr (Nat.le_trans HBN.out.size (by simp)) (fun k hk => (HO2.out.lt k hk).1)
        clear hown hgr hif hat hO HT2 HO2 HBN HKE e0 e1 e2
        go_wp2
        go_roundw
        case rel => exact ⟨k + 1, E2, j + 1, q2, by omega, by go_num, rfl, by omega, HO5, HB5⟩
        case measure => simp [intOf]; omega
      · have HT2 : Hid (selV ks (ps.take (k + 1)) = selV ks (ps.take k)) := by show _ = _; rw [HT.out, if_neg hin, List.append_nil]
        have hd : decide (y0 ∈ ks) = false := by simp [hin]
        rw [hd]
        clear HT hin hd e0 e1 e2
        go_wp2
        go_roundw
        case rel => exact ⟨k + 1, E, j, q, by omega, by go_num, rfl, by omega, by rw [HT2.out]; exact HO2, HBN⟩
        case measure => simp [intOf]; omega
    · have HN : Hid (k = n) := (by omega : k = n)
      go_wp2
      go_ret
      have h1 := HO.out
      rw [HN.out, ← HL.out, List.take_length] at h1
      exact made_of HB.out h1 (Nat.le_refl _)
theorem ints_lit2 (W : World) (x y : Int) : IsInts (W.alloc (.cells #[.int .i64 x, .int .i64 y] 3)) (W.heap.size + 1) (some ⟨W.heap.size, 0, none⟩) 2 [x, y] :=
  ⟨rfl, fun _ => ⟨W.heap.size, 0, rfl, by omega, fun j hj => by
    have h := box_new W (.cells #[.int .i64 x, .int .i64 y] 3)
    match j, hj with
    | 0, _ => exact box_cell h 0 _ rfl
    | 1, _ => exact box_cell h 1 _ rfl⟩⟩
set_option maxRecDepth 100000 in
set_option maxHeartbeats 3200000 in
theorem commandsOf_any (A : Option Addr) (n c : Nat) (ps : L) (B : Nat) (w : World) (hr : IsL w B A n ps) (hB : B ≤ w.heap.size) (hn : n ≤ 1048576) :
    Calls Try.prog 34 #[.slice A n c] w (Made lty (selV [0, 1] ps) w) := by
  have HR := Lib.hid hr
  clear hr
  go_enter Try.func34, Try.ntmps34
  go_wp2_with fail
  refine (eventsOf_any A n c (some ⟨w.heap.size, 0, none⟩) 2 2 [0, 1] ps B (w.heap.size + 1) _ (HR.out.below (bel1 w _) hB) (by simp; omega) hn (ints_lit2 w 0 1) (by simp) (by omega)).mono ?_
  rintro e w2 ⟨v, S, rfl, ⟨⟨E, q, rfl, hO, hS⟩, hin, _⟩, hb⟩
  have HB := Lib.hid (bel_then (bel1 w _) hb (by simp))
  have HO := Lib.hid hO
  have HS : Hid (∀ k, (Value.slice E (selV [0, 1] ps).length q).ownBlock = some k → w.heap.size ≤ k) := fun k hk => by have := (hin k (hS k hk)).1; simp only [World.size_alloc] at this; omega
  obtain ⟨j, hj⟩ : ∃ j, j = (selV [0, 1] ps).length := ⟨_, rfl⟩
  have HJ := Lib.hid hj
  rw [← hj] at HO HS ⊢
  clear hO hS hin hb hj
  go_wp2
  go_ret
  exact made_of HB.out (OwnL.base HO.out HS.out) (Nat.le_refl _)
set_option maxRecDepth 100000 in
set_option maxHeartbeats 6400000 in
theorem specCommandsOf_any (A : Option Addr) (n c : Nat) (ps : L) (B : Nat) (w : World) (hr : IsL w B A n ps) (hB : B ≤ w.heap.size) (hn : n ≤ 1048576) :
    Calls Try.prog 33 #[.slice A n c] w (Made lty (selV [0, 1] ps) w) := by
  have HL : Hid (ps.length = n) := hr.1
  have HR := Lib.hid hr
  obtain ⟨i0, hi0, hz0, hz1, hz2⟩ := info_parts infoE
  clear hr
  go_enter Try.func33, Try.ntmps33
  go_wp2_with fail
  go_loopw [3, 4] (fun s i wr => ∃ (k : Nat) (E : Option Addr) (j q : Nat), k ≤ n ∧ i = .int .i64 k ∧ s = .slice E j q ∧ j ≤ k ∧ Hid (OwnL wr w.heap.size E j q (selV [0, 1] (ps.take k))) ∧ Hid (Below w.heap.size w wr)) (fun _ i _ => n - (intOf i).toNat)
  case atStart => exact ⟨0, some ⟨w.heap.size, 0, none⟩, 0, 0, Nat.zero_le _, rfl, rfl, Nat.le_refl _, ⟨rfl, World.ownsRow_lit (base := w.heap.size) (e := 61) (size := 3) w #[] 0 (Nat.le_refl _) (Nat.zero_le _) rfl⟩, bel1 w _⟩
  case round =>
    obtain ⟨k, E, j, q, hk, rfl, rfl, hjk, HO, HB⟩ := hrel
    by_cases hlt : k < n
    · obtain ⟨b, off, y0, y1, y2, hA, hbB, hz, hc0, hc1, hc2⟩ := (HR.out.below HB.out hB).at_ hlt
      have HT : Hid (selV [0, 1] (ps.take (k + 1)) = selV [0, 1] (ps.take k) ++ if y0 ∈ ([0, 1] : List Int) then [(y0, y1, y2)] else []) := by show _ = _; rw [sel_take _ ps k (by rw [HL.out]; exact hlt), hz]
      have HA := Lib.hid hA
      clear hz
      subst hA
      by_cases hin : y0 ∈ ([0, 1] : List Int)
      · have HT2 : Hid (selV [0, 1] (ps.take (k + 1)) = selV [0, 1] (ps.take k) ++ [(y0, y1, y2)]) := by show _ = _; rw [HT.out, if_pos hin]
        have hor : y0 = 0 ∨ y0 = 1 := by simpa using hin
        clear HT hin
        rcases hor with h0 | h0
        · have hqa : (y0 == 0) = true := by simp [h0]
          clear h0
          go_wp2_with (at_builtin; refine wpList_append_own_at _ rfl (.tmp 26) (.tmp 31) _ rfl w.heap.size 61 i0 _ 3 24 Try.underlying38 hi0 hz0 hz1 hz2 rfl (by omega) (.slice E j q) j (flat (selV [0, 1] (ps.take k))) rfl ?o1 ⟨wr.heap.size, 0, none⟩ 1 1 [.int .i64 y0, .int .i64 y1, .int .i64 y2] rfl rfl (news3 wr [.int .i64 y0, .int .i64 y1, .int .i64 y2] 61) ?o3 ?o4 ?o5 ?o6 ?_)
          case o1 => exact (HO.out.below (bel1 wr _)).2
          case o3 => first | exact ⟨rfl, rfl, rfl⟩ | (intro u hu; simp at hu; rcases hu with rfl | rfl | rfl <;> rfl)
          case o4 => unfold maxLen; omega
          case o5 => omega
          case o6 => first | exact HB.out.size | (have := HB.out.size; simp; omega)
          intro v2 w5 hown hgr hif hat
          obtain ⟨E2, q2, rfl, hO⟩ := own_app (ps := selV [0, 1] (ps.take k)) (p := (y0, y1, y2)) HO.out.1 hown
          rw [← HT2.out] at hO
          have HO5 := Lib.hid hO
          have HB5 : Hid (Below w.heap.size w w5) := (HB.out.alloc HB.out.size _).grown hgr (Nat.le_trans HB.out.size (by simp)) (fun k hk => (HO.out.lt k hk).1)
          clear hown hgr hif hat hO HT2 HO HB hc0 hc1 hc2
          go_wp2
          go_roundw
          case rel => exact ⟨k + 1, E2, j + 1, q2, by omega, by go_num, rfl, by omega, HO5, HB5⟩
          case measure => simp [intOf]; omega
        · have hqa : (y0 == 0) = false := by simp [h0]
          have hqb : (y0 == 1) = true := by simp [h0]
          clear h0
          go_wp2_with (at_builtin; refine wpList_append_own_at _ rfl (.tmp 26) (.tmp 31) _ rfl w.heap.size 61 i0 _ 3 24 Try.underlying38 hi0 hz0 hz1 hz2 rfl (by omega) (.slice E j q) j (flat (selV [0, 1] (ps.take k))) rfl ?o1 ⟨wr.heap.size, 0, none⟩ 1 1 [.int .i64 y0, .int .i64 y1, .int .i64 y2] rfl rfl (news3 wr [.int .i64 y0, .int .i64 y1, .int .i64 y2] 61) ?o3 ?o4 ?o5 ?o6 ?_)
          case o1 => exact (HO.out.below (bel1 wr _)).2
          case o3 => first | exact ⟨rfl, rfl, rfl⟩ | (intro u hu; simp at hu; rcases hu with rfl | rfl | rfl <;> rfl)
          case o4 => unfold maxLen; omega
          case o5 => omega
          case o6 => first | exact HB.out.size | (have := HB.out.size; simp; omega)
          intro v2 w5 hown hgr hif hat
          obtain ⟨E2, q2, rfl, hO⟩ := own_app (ps := selV [0, 1] (ps.take k)) (p := (y0, y1, y2)) HO.out.1 hown
          rw [← HT2.out] at hO
          have HO5 := Lib.hid hO
          have HB5 : Hid (Below w.heap.size w w5) := (HB.out.alloc HB.out.size _).grown hgr (Nat.le_trans HB.out.size (by simp)) (fun k hk => (HO.out.lt k hk).1)
          clear hown hgr hif hat hO HT2 HO HB hc0 hc1 hc2
          go_wp2
          go_roundw
          case rel => exact ⟨k + 1, E2, j + 1, q2, by omega, by go_num, rfl, by omega, HO5, HB5⟩
          case measure => simp [intOf]; omega
      · have HT2 : Hid (selV [0, 1] (ps.take (k + 1)) = selV [0, 1] (ps.take k)) := by show _ = _; rw [HT.out, if_neg hin, List.append_nil]
        have h0 : ¬ y0 = 0 ∧ ¬ y0 = 1 := by simpa using hin
        have hqa : (y0 == 0) = false := by simp [h0.1]
        have hqb : (y0 == 1) = false := by simp [h0.2]
        clear HT hin h0
        go_wp2
        go_roundw
        case rel => exact ⟨k + 1, E, j, q, by omega, by go_num, rfl, by omega, by rw [HT2.out]; exact HO, HB⟩
        case measure => simp [intOf]; omega
    · have HN : Hid (k = n) := (by omega : k = n)
      go_wp2
      go_ret
      have h1 := HO.out
      rw [HN.out, ← HL.out, List.take_length] at h1
      exact made_of HB.out h1 (Nat.le_refl _)
end Go.Proofs.Ytdefckbgcggnoaa.ComP
