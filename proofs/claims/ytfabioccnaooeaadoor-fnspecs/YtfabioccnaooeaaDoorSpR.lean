/-
  ParseSpec, the program's and the model's, over this seat's translation: the spec whose text it is, and true; else zeros and false.
-/
import Derived.Test.YtfabioccnaooeaaDoorSpW
import Derived.Test.YtfabioccnaooeaaDoorHas
import Derived.Test.YtfabioccnaooeaaDoorPut
import Derived.Deep.AppendLies
namespace Go.Proofs.YtfabioccnaooeaaDoor.SpR
open Go.ChangeShapes Go.WideShapes Go.ChangeAt Go.RowKit
open Go.Proofs.YtfabioccnaooeaaDoor.Env Go.Proofs.YtfabioccnaooeaaDoor.LK Go.Proofs.YtfabioccnaooeaaDoor.Num Go.Proofs.YtfabioccnaooeaaDoor.Str Go.Proofs.YtfabioccnaooeaaDoor.Read Go.Proofs.YtfabioccnaooeaaDoor.Parts Go.Proofs.YtfabioccnaooeaaDoor.SpT Go.Proofs.YtfabioccnaooeaaDoor.Sp Go.Proofs.YtfabioccnaooeaaDoor.SpW Go.Proofs.YtfabioccnaooeaaDoor.Has Go.Proofs.YtfabioccnaooeaaDoor.Put
set_option linter.unusedVariables false
set_option linter.unusedSimpArgs false
theorem take_snoc {ws : List (List UInt8)} {k : Nat} {p : List UInt8} (hp : ws[k]? = some p) : ws.take (k + 1) = ws.take k ++ [p] := by
  obtain ⟨hk, he⟩ := List.getElem?_eq_some_iff.1 hp
  rw [List.take_succ_eq_append_getElem hk, he]
theorem news_new (w : World) (l : List Value) (t : TypeId) : ∀ j u, l[j]? = some u → (w.alloc (.cells l.toArray t)).cell? ((⟨w.heap.size, 0, none⟩ : Addr).add j) = some u := by
  intro j u hj
  have hadd : (⟨w.heap.size, 0, none⟩ : Addr).add j = ⟨w.heap.size, j, none⟩ := by unfold Addr.add; split <;> simp_all
  rw [hadd]
  exact box_cell (box_new w (.cells l.toArray t)) j u (by simpa using hj)
theorem read_true {p : List UInt8} (h : (readV p).2 = true) : Lib.itoa (readV p).1 = p := by
  unfold readV at h ⊢
  split at h
  · rename_i hb; rw [if_pos hb]; simpa using h
  · cases h
theorem words_L (ws : List (List UInt8)) (h : ∀ p ∈ ws, (readV p).2 = true) : (ws.map fun p => (readV p).1).map Lib.itoa = ws := by
  rw [List.map_map]
  conv => rhs; rw [← List.map_id ws]
  apply List.map_congr_left
  intro p hp
  exact read_true (h p hp)
theorem isT_vals {l : List UInt8} {L : List Int} (h : IsT l L) : (partsF 32 l).map (fun p => (readV p).1) = L := by
  rw [isT_parts h, List.map_map]
  conv => rhs; rw [← List.map_id L]
  apply List.map_congr_left
  intro x hx
  show (readV (Lib.itoa x)).1 = x
  rw [num_read (small_of h.1 h.2.1 x hx)]
def specVal (L : List Int) : Value := .agg (L.map (Value.int .i64)).toArray
def PSaid (l : List UInt8) (w : World) (e : Ending) (w' : World) : Prop :=
  ∃ (x0 x1 x2 x3 x4 x5 x6 x7 x8 x9 x10 : Int) (b : Bool), e = .returned (.tuple #[.agg #[.int .i64 x0, .int .i64 x1, .int .i64 x2, .int .i64 x3, .int .i64 x4, .int .i64 x5, .int .i64 x6, .int .i64 x7, .int .i64 x8, .int .i64 x9, .int .i64 x10], .bool b]) ∧ Below w.heap.size w w' ∧ ((b = true ∧ IsT l [x0, x1, x2, x3, x4, x5, x6, x7, x8, x9, x10]) ∨ (b = false ∧ ([x0, x1, x2, x3, x4, x5, x6, x7, x8, x9, x10] : List Int) = [0, 0, 0, 0, 0, 0, 0, 0, 0, 0, 0] ∧ ∀ L, ¬ IsT l L))
theorem PSaid.no {l : List UInt8} {w w' : World} (hb : Below w.heap.size w w') (h : ∀ L, ¬ IsT l L) : PSaid l w (.returned (.tuple #[.agg #[.int .i64 0, .int .i64 0, .int .i64 0, .int .i64 0, .int .i64 0, .int .i64 0, .int .i64 0, .int .i64 0, .int .i64 0, .int .i64 0, .int .i64 0], .bool false])) w' := ⟨0, 0, 0, 0, 0, 0, 0, 0, 0, 0, 0, false, rfl, hb, .inr ⟨rfl, rfl, h⟩⟩
set_option maxRecDepth 100000 in
set_option maxHeartbeats 6400000 in
theorem of_any (x0 x1 x2 x3 x4 x5 x6 x7 x8 x9 x10 : Int) (g c : Nat) (w : World) (hb : g < w.heap.size) (h : ∀ j, j < 11 → w.cell? ⟨g, j, none⟩ = some (.int .i64 (([x0, x1, x2, x3, x4, x5, x6, x7, x8, x9, x10] : List Int).getD j 0))) : Calls Tryd.prog 31 #[.slice (some ⟨g, 0, none⟩) 11 c] w (Says (.agg #[.int .i64 x0, .int .i64 x1, .int .i64 x2, .int .i64 x3, .int .i64 x4, .int .i64 x5, .int .i64 x6, .int .i64 x7, .int .i64 x8, .int .i64 x9, .int .i64 x10]) w) := by
  obtain ⟨V, hV⟩ : ∃ V, V = w.alloc (.cells #[.int .i64 0, .int .i64 0, .int .i64 0, .int .i64 0, .int .i64 0, .int .i64 0, .int .i64 0, .int .i64 0, .int .i64 0, .int .i64 0, .int .i64 0] 25) := ⟨_, rfl⟩
  have hbV : Below w.heap.size w V := by rw [hV]; exact bel1 _ _
  have B : Hid (V.heap[w.heap.size]? = some (.cells #[.int .i64 0, .int .i64 0, .int .i64 0, .int .i64 0, .int .i64 0, .int .i64 0, .int .i64 0, .int .i64 0, .int .i64 0, .int .i64 0, .int .i64 0] 25)) := by rw [hV]; exact box_new w _
  have c0 : V.cell? ⟨g, 0, none⟩ = some (.int .i64 x0) := (hbV.cell hb).trans (h 0 (by omega))
  have c1 : V.cell? ⟨g, 1, none⟩ = some (.int .i64 x1) := (hbV.cell hb).trans (h 1 (by omega))
  have c2 : V.cell? ⟨g, 2, none⟩ = some (.int .i64 x2) := (hbV.cell hb).trans (h 2 (by omega))
  have c3 : V.cell? ⟨g, 3, none⟩ = some (.int .i64 x3) := (hbV.cell hb).trans (h 3 (by omega))
  have c4 : V.cell? ⟨g, 4, none⟩ = some (.int .i64 x4) := (hbV.cell hb).trans (h 4 (by omega))
  have c5 : V.cell? ⟨g, 5, none⟩ = some (.int .i64 x5) := (hbV.cell hb).trans (h 5 (by omega))
  have c6 : V.cell? ⟨g, 6, none⟩ = some (.int .i64 x6) := (hbV.cell hb).trans (h 6 (by omega))
  have c7 : V.cell? ⟨g, 7, none⟩ = some (.int .i64 x7) := (hbV.cell hb).trans (h 7 (by omega))
  have c8 : V.cell? ⟨g, 8, none⟩ = some (.int .i64 x8) := (hbV.cell hb).trans (h 8 (by omega))
  have c9 : V.cell? ⟨g, 9, none⟩ = some (.int .i64 x9) := (hbV.cell hb).trans (h 9 (by omega))
  have c10 : V.cell? ⟨g, 10, none⟩ = some (.int .i64 x10) := (hbV.cell hb).trans (h 10 (by omega))
  clear h
  go_enter Tryd.func31, Tryd.ntmps31
  go_wp2_with fail
  rw [← hV]
  clear hV
  go_still_tail 34, (by kernel_rfl)
  have BD : V.drew.heap[w.heap.size]? = some (.cells #[.int .i64 0, .int .i64 0, .int .i64 0, .int .i64 0, .int .i64 0, .int .i64 0, .int .i64 0, .int .i64 0, .int .i64 0, .int .i64 0, .int .i64 0] 25) := B.out
  have hbD := hbV.drew
  clear c0 c1 c2 c3 c4 c5 c6 c7 c8 c9 c10
  go_wp2_with (refine wpList_put rfl rfl 25 _ _ rfl w.heap.size _ rfl rfl _ _ BD (Tryd.sizeOf25 _) rfl (by simp [Value.oneCell']) ?_)
  have R := setRow_box (vs := #[.int .i64 x0, .int .i64 x1, .int .i64 x2, .int .i64 x3, .int .i64 x4, .int .i64 x5, .int .i64 x6, .int .i64 x7, .int .i64 x8, .int .i64 x9, .int .i64 x10]) BD
  have r0 := box_cell R 0 _ rfl
  have r1 := box_cell R 1 _ rfl
  have r2 := box_cell R 2 _ rfl
  have r3 := box_cell R 3 _ rfl
  have r4 := box_cell R 4 _ rfl
  have r5 := box_cell R 5 _ rfl
  have r6 := box_cell R 6 _ rfl
  have r7 := box_cell R 7 _ rfl
  have r8 := box_cell R 8 _ rfl
  have r9 := box_cell R 9 _ rfl
  have r10 := box_cell R 10 _ rfl
  exact bodyPost_ret (v := .agg #[.int .i64 x0, .int .i64 x1, .int .i64 x2, .int .i64 x3, .int .i64 x4, .int .i64 x5, .int .i64 x6, .int .i64 x7, .int .i64 x8, .int .i64 x9, .int .i64 x10]) (by simp [results, Tryd.results31, go_sem, r0, r1, r2, r3, r4, r5, r6, r7, r8, r9, r10]) rfl ⟨rfl, setRow_below hbD _ _ (Nat.le_refl _) hbD.size⟩
set_option maxRecDepth 100000 in
set_option maxHeartbeats 6400000 in
theorem specParseSpec_any (l : List UInt8) (w : World) (hl : l.length ≤ 2000000) : Calls Tryd.prog 15 #[.string (bstr l)] w (PSaid l w) := by
  have hsz := bstr_size l
  obtain ⟨i0, hi0, hz0, hz1, hz2⟩ := info_parts infoInt
  by_cases h80 : 80 < l.length
  case pos =>
    have HN : Hid (∀ L, ¬ IsT l L) := fun L h => by have := isT_len h; omega
    go_enter Tryd.func15, Tryd.ntmps15
    go_wp2
    exact bodyPost_ret (v := .tuple #[.agg #[.int .i64 0, .int .i64 0, .int .i64 0, .int .i64 0, .int .i64 0, .int .i64 0, .int .i64 0, .int .i64 0, .int .i64 0, .int .i64 0, .int .i64 0], .bool false]) (by simp [results, Tryd.results15, go_sem]) rfl (PSaid.no (bel1 _ _) HN.out)
  go_enter Tryd.func15, Tryd.ntmps15
  go_wp2_with fail
  have K0 := Lib.hid (box_new w (.cells #[.int .i64 0, .int .i64 0, .int .i64 0, .int .i64 0, .int .i64 0, .int .i64 0, .int .i64 0, .int .i64 0, .int .i64 0, .int .i64 0, .int .i64 0] 25))
  refine (parts_any 32 l _ hl).mono ?_
  rintro e w1 ⟨g, cap, rfl, hg, hc, hb1⟩
  have K1 := Lib.hid (box_below K0.out hb1)
  have hb01 : Below w.heap.size w w1 := bel_then (bel1 w _) hb1 (by simp)
  clear hb1 K0
  have HC := Lib.hid hc
  clear hc hg
  obtain ⟨n, hn⟩ : ∃ n, n = (partsF 32 l).length := ⟨_, rfl⟩
  rw [← hn]
  have HNP := Lib.hid hn
  by_cases hn11 : n = 11
  case neg =>
    have HN : Hid (∀ L, ¬ IsT l L) := fun L h => by have h1 := congrArg List.length (isT_parts h); rw [← HNP.out, List.length_map, h.1] at h1; exact hn11 h1
    have hd : ((n : Int) == 11) = false := by rw [beq_eq_false_iff_ne]; omega
    clear hn11 hn HNP HC
    have RB := setRow_box (vs := #[.int .i64 0, .int .i64 0, .int .i64 0, .int .i64 0, .int .i64 0, .int .i64 0, .int .i64 0, .int .i64 0, .int .i64 0, .int .i64 0, .int .i64 0]) K1.out
    have r0 := box_cell RB 0 _ rfl
    have r1 := box_cell RB 1 _ rfl
    have r2 := box_cell RB 2 _ rfl
    have r3 := box_cell RB 3 _ rfl
    have r4 := box_cell RB 4 _ rfl
    have r5 := box_cell RB 5 _ rfl
    have r6 := box_cell RB 6 _ rfl
    have r7 := box_cell RB 7 _ rfl
    have r8 := box_cell RB 8 _ rfl
    have r9 := box_cell RB 9 _ rfl
    have r10 := box_cell RB 10 _ rfl
    go_wp2_with (refine wpList_put rfl rfl 25 _ _ rfl w.heap.size _ rfl rfl _ _ K1.out (Tryd.sizeOf25 _) rfl (by simp [Value.oneCell']) ?_)
    exact bodyPost_ret (v := .tuple #[.agg #[.int .i64 0, .int .i64 0, .int .i64 0, .int .i64 0, .int .i64 0, .int .i64 0, .int .i64 0, .int .i64 0, .int .i64 0, .int .i64 0, .int .i64 0], .bool false]) (by simp [results, Tryd.results15, go_sem, r0, r1, r2, r3, r4, r5, r6, r7, r8, r9, r10]) rfl (PSaid.no (setRow_below hb01 _ _ (Nat.le_refl _) hb01.size) HN.out)
  subst hn11
  obtain ⟨ws, hws⟩ : ∃ ws, ws = partsF 32 l := ⟨_, rfl⟩
  rw [← hws] at HC
  have hwl : ws.length = 11 := by rw [hws]; exact hn.symm
  have HWS := Lib.hid hws
  have HWM : Hid (∀ p ∈ ws, p.length ≤ 2000000) := fun p hp => by rw [hws] at hp; have := split_part 32 l [] p hp; simp at this; omega
  clear hws hn HNP
  have hg1 : g < w1.heap.size := by have h0 := HC.out 0 (ws[0]'(by omega)) (by simp); exact World.block_lt_of_cell? _ _ h0
  have hO0 : OwnI (w1.alloc (.cells #[] 3)) w1.heap.size (some ⟨w1.heap.size, 0, none⟩) 0 0 [] := ⟨by simp, by simp, .inr ⟨w1.heap.size, 0, #[], rfl, Nat.le_refl _, box_new w1 _, Nat.le_refl _, Nat.zero_le _, rfl, by simp⟩⟩
  go_wp2_with fail
  go_loopw [5, 6] (fun q i wr => ∃ (k : Nat) (A3 : Option Addr) (c3 : Nat), k ≤ 11 ∧ i = .int .i64 k ∧ q = .slice A3 k c3 ∧ Hid (OwnI wr w1.heap.size A3 k c3 ((ws.take k).map fun p => (readV p).1)) ∧ Hid (∀ p ∈ ws.take k, (readV p).2 = true) ∧ Below w1.heap.size w1 wr) (fun _ i _ => 11 - (intOf i).toNat)
  case atStart => exact ⟨0, _, 0, by omega, rfl, rfl, hO0, by simp [Hid], bel1 _ _⟩
  case round =>
    obtain ⟨k, A3, c3, hk, rfl, rfl, HO, HOK, hbr⟩ := hrel
    clear hO0
    by_cases hlt : k < 11
    case neg =>
      have hk11 : k = 11 := by omega
      subst hk11
      have htk : ws.take 11 = ws := List.take_of_length_le (by omega)
      rw [htk] at HO HOK
      clear htk
      obtain ⟨L, hL⟩ : ∃ L, L = ws.map fun p => (readV p).1 := ⟨_, rfl⟩
      rw [← hL] at HO
      have hl11 : L.length = 11 := by rw [hL, List.length_map, hwl]
      have HW : Hid (L.map Lib.itoa = ws) := by show _ = ws; rw [hL]; exact words_L ws HOK.out
      have HLL : Hid (∀ M, IsT l M → M = L) := fun M h => by rw [hL, HWS.out]; exact (isT_vals h).symm
      clear hL
      obtain ⟨g3, cap3, hA3, hge3, hg3, _⟩ := row_form HO.out.2 (by omega)
      injection hA3 with e1 e2 e3
      subst e1 e3
      have hcl : ∀ j, j < 11 → wr.cell? ⟨g3, j, none⟩ = some (.int .i64 (L.getD j 0)) := fun j hj => by have h := HO.out.2.cellAt j (by omega); rw [h]; simp [List.getD, hl11, hj]
      obtain ⟨x0, x1, x2, x3, x4, x5, x6, x7, x8, x9, x10, rfl⟩ := eleven hl11
      have hbw := bel_then hb01 hbr hb01.size
      have K2 := Lib.hid (box_below K1.out hbr)
      clear K1 hl11
      go_wp2_with fail
      refine (of_any x0 x1 x2 x3 x4 x5 x6 x7 x8 x9 x10 g3 _ _ hg3 hcl).mono ?_
      rintro e w3 ⟨rfl, hb3⟩
      have hbw3 := bel_then hbw hb3 hbw.size
      have K3 := Lib.hid (box_below K2.out hb3)
      have hbA : Below w.heap.size w (w3.alloc (.cells #[.int .i64 x0, .int .i64 x1, .int .i64 x2, .int .i64 x3, .int .i64 x4, .int .i64 x5, .int .i64 x6, .int .i64 x7, .int .i64 x8, .int .i64 x9, .int .i64 x10] 25)) := hbw3.alloc hbw3.size _
      have KA := Lib.hid (box_alloc K3.out (.cells #[.int .i64 x0, .int .i64 x1, .int .i64 x2, .int .i64 x3, .int .i64 x4, .int .i64 x5, .int .i64 x6, .int .i64 x7, .int .i64 x8, .int .i64 x9, .int .i64 x10] 25))
      have BX := Lib.hid (box_new w3 (.cells #[.int .i64 x0, .int .i64 x1, .int .i64 x2, .int .i64 x3, .int .i64 x4, .int .i64 x5, .int .i64 x6, .int .i64 x7, .int .i64 x8, .int .i64 x9, .int .i64 x10] 25))
      clear hcl hb3 hbw K2 K3 hbw3 HO HOK hg3 hge3 hbr
      go_wp2_with fail
      refine (specSpecOk_any x0 x1 x2 x3 x4 x5 x6 x7 x8 x9 x10 _).mono ?_
      rintro e w4 ⟨rfl, hb4⟩
      have hb04 := bel_then hbA hb4 hbA.size
      have K4 := Lib.hid (box_below KA.out hb4)
      have BX4 := Lib.hid (box_below BX.out hb4)
      clear hb4 hbA KA BX
      cases hs : specB x0 x1 x2 x3 x4 x5 x6 x7 x8 x9 x10
      · have HN : Hid (∀ L, ¬ IsT l L) := fun M h => by have e := HLL.out M h; subst e; have h2 : specB x0 x1 x2 x3 x4 x5 x6 x7 x8 x9 x10 = true := h.2.1; rw [hs] at h2; cases h2
        clear HLL HW hs
        have RB := setRow_box (vs := #[.int .i64 0, .int .i64 0, .int .i64 0, .int .i64 0, .int .i64 0, .int .i64 0, .int .i64 0, .int .i64 0, .int .i64 0, .int .i64 0, .int .i64 0]) K4.out
        have r0 := box_cell RB 0 _ rfl
        have r1 := box_cell RB 1 _ rfl
        have r2 := box_cell RB 2 _ rfl
        have r3 := box_cell RB 3 _ rfl
        have r4 := box_cell RB 4 _ rfl
        have r5 := box_cell RB 5 _ rfl
        have r6 := box_cell RB 6 _ rfl
        have r7 := box_cell RB 7 _ rfl
        have r8 := box_cell RB 8 _ rfl
        have r9 := box_cell RB 9 _ rfl
        have r10 := box_cell RB 10 _ rfl
        go_wp2_with (refine wpList_put rfl rfl 25 _ _ rfl w.heap.size _ rfl rfl _ _ K4.out (Tryd.sizeOf25 _) rfl (by simp [Value.oneCell']) ?_)
        exact bodyPost_ret (v := .tuple #[.agg #[.int .i64 0, .int .i64 0, .int .i64 0, .int .i64 0, .int .i64 0, .int .i64 0, .int .i64 0, .int .i64 0, .int .i64 0, .int .i64 0, .int .i64 0], .bool false]) (by simp [results, Tryd.results15, go_sem, r0, r1, r2, r3, r4, r5, r6, r7, r8, r9, r10]) rfl (PSaid.no (setRow_below hb04 _ _ (Nat.le_refl _) hb04.size) HN.out)
      · have HT : Hid (IsT l [x0, x1, x2, x3, x4, x5, x6, x7, x8, x9, x10]) := ⟨rfl, hs, by show Lib.join (List.map Lib.itoa [x0, x1, x2, x3, x4, x5, x6, x7, x8, x9, x10]) [32] = l; rw [HW.out, HWS.out]; exact join_parts l⟩
        clear HLL HW hs
        have y0 := box_cell BX4.out 0 _ rfl
        have y1 := box_cell BX4.out 1 _ rfl
        have y2 := box_cell BX4.out 2 _ rfl
        have y3 := box_cell BX4.out 3 _ rfl
        have y4 := box_cell BX4.out 4 _ rfl
        have y5 := box_cell BX4.out 5 _ rfl
        have y6 := box_cell BX4.out 6 _ rfl
        have y7 := box_cell BX4.out 7 _ rfl
        have y8 := box_cell BX4.out 8 _ rfl
        have y9 := box_cell BX4.out 9 _ rfl
        have y10 := box_cell BX4.out 10 _ rfl
        have RB := setRow_box (vs := #[.int .i64 x0, .int .i64 x1, .int .i64 x2, .int .i64 x3, .int .i64 x4, .int .i64 x5, .int .i64 x6, .int .i64 x7, .int .i64 x8, .int .i64 x9, .int .i64 x10]) K4.out
        have r0 := box_cell RB 0 _ rfl
        have r1 := box_cell RB 1 _ rfl
        have r2 := box_cell RB 2 _ rfl
        have r3 := box_cell RB 3 _ rfl
        have r4 := box_cell RB 4 _ rfl
        have r5 := box_cell RB 5 _ rfl
        have r6 := box_cell RB 6 _ rfl
        have r7 := box_cell RB 7 _ rfl
        have r8 := box_cell RB 8 _ rfl
        have r9 := box_cell RB 9 _ rfl
        have r10 := box_cell RB 10 _ rfl
        go_wp2_with (refine wpList_put rfl rfl 25 _ _ rfl w.heap.size _ rfl rfl _ _ K4.out (Tryd.sizeOf25 _) rfl (by simp [Value.oneCell']) ?_)
        exact bodyPost_ret (v := .tuple #[.agg #[.int .i64 x0, .int .i64 x1, .int .i64 x2, .int .i64 x3, .int .i64 x4, .int .i64 x5, .int .i64 x6, .int .i64 x7, .int .i64 x8, .int .i64 x9, .int .i64 x10], .bool true]) (by simp [results, Tryd.results15, go_sem, r0, r1, r2, r3, r4, r5, r6, r7, r8, r9, r10]) rfl ⟨x0, x1, x2, x3, x4, x5, x6, x7, x8, x9, x10, true, rfl, setRow_below hb04 _ _ (Nat.le_refl _) hb04.size, .inl ⟨rfl, HT.out⟩⟩
    obtain ⟨p, hp⟩ : ∃ p, ws[k]? = some p := ⟨_, List.getElem?_eq_getElem (by omega)⟩
    have hcl : wr.cell? ⟨g, k, none⟩ = some (.string (bstr p)) := (hbr.cell hg1).trans (HC.out k p hp)
    have hpm := HWM.out p (List.mem_of_getElem? hp)
    have HTK : Hid (ws.take (k + 1) = ws.take k ++ [p]) := take_snoc hp
    obtain ⟨x, hx⟩ : ∃ x, x = (readV p).1 := ⟨_, rfl⟩
    obtain ⟨b, hb⟩ : ∃ b, b = (readV p).2 := ⟨_, rfl⟩
    have HRd : Hid (∀ W : World, Calls Tryd.prog 30 #[.string (bstr p)] W (Says (.tuple #[.int .i64 x, .bool b]) W)) := fun W => by rw [hx, hb]; exact read_any p W hpm
    have HP := Lib.hid hp
    have HX := Lib.hid hx
    have HBB := Lib.hid hb
    clear hp hx hb hpm
    go_wp2_with fail
    refine (HRd.out _).mono ?_
    rintro e w2 ⟨rfl, hb2⟩
    have hbr2 : Below w1.heap.size w1 w2 := hbr.trans (hb2.mono hbr.size)
    have HO2 := Lib.hid (HO.out.below hb2)
    clear hb2 hbr HO hcl
    cases b
    · have HN : Hid (∀ L, ¬ IsT l L) := fun L h => by have h1 := isT_word h hlt (p := p) (by rw [← HWS.out]; exact HP.out); have h2 := num_read h1.2; rw [← h1.1] at h2; have h3 := HBB.out; rw [h2] at h3; cases h3
      have hb02 := bel_then hb01 hbr2 hb01.size
      have K2 := Lib.hid (box_below K1.out hbr2)
      clear hbr2 K1
      have RB := setRow_box (vs := #[.int .i64 0, .int .i64 0, .int .i64 0, .int .i64 0, .int .i64 0, .int .i64 0, .int .i64 0, .int .i64 0, .int .i64 0, .int .i64 0, .int .i64 0]) K2.out
      have r0 := box_cell RB 0 _ rfl
      have r1 := box_cell RB 1 _ rfl
      have r2 := box_cell RB 2 _ rfl
      have r3 := box_cell RB 3 _ rfl
      have r4 := box_cell RB 4 _ rfl
      have r5 := box_cell RB 5 _ rfl
      have r6 := box_cell RB 6 _ rfl
      have r7 := box_cell RB 7 _ rfl
      have r8 := box_cell RB 8 _ rfl
      have r9 := box_cell RB 9 _ rfl
      have r10 := box_cell RB 10 _ rfl
      go_wp2_with (refine wpList_put rfl rfl 25 _ _ rfl w.heap.size _ rfl rfl _ _ K2.out (Tryd.sizeOf25 _) rfl (by simp [Value.oneCell']) ?_)
      exact bodyPost_ret (v := .tuple #[.agg #[.int .i64 0, .int .i64 0, .int .i64 0, .int .i64 0, .int .i64 0, .int .i64 0, .int .i64 0, .int .i64 0, .int .i64 0, .int .i64 0, .int .i64 0], .bool false]) (by simp [results, Tryd.results15, go_sem, r0, r1, r2, r3, r4, r5, r6, r7, r8, r9, r10]) rfl (PSaid.no (setRow_below hb02 _ _ (Nat.le_refl _) hb02.size) HN.out)
    · obtain ⟨T, hT⟩ : ∃ T, T = (ws.take k).map fun p => (readV p).1 := ⟨_, rfl⟩
      rw [← hT] at HO2
      have hTm : T.length = k := HO2.out.1
      have HT2 : Hid (T ++ [x] = (ws.take (k + 1)).map fun p => (readV p).1) := by show _ = _; rw [HTK.out, List.map_append, hT, HX.out]; rfl
      have HOK2 : Hid (∀ p ∈ ws.take (k + 1), (readV p).2 = true) := fun q hq => by
        rw [HTK.out] at hq
        rcases List.mem_append.1 hq with h | h
        · exact HOK.out q h
        · obtain rfl : q = p := by simpa using h
          exact HBB.out.symm
      clear hT
      go_wp2_with (at_builtin; refine wpList_append_own _ rfl (.tmp 38) (.tmp 40) _ rfl w1.heap.size 3 i0 _ 1 8 Tryd.underlying44 hi0 hz0 hz1 hz2 rfl (by omega) (.slice A3 k c3) k (T.map (Value.int .i64)) rfl ?o1 ⟨w2.heap.size, 0, none⟩ 1 1 [.int .i64 x] rfl rfl (news_new w2 [.int .i64 x] 3) ?o3 ?o4 ?o5 ?o6 ?_)
      case o1 => exact (HO2.out.alloc _).2
      case o3 => first | rfl | (intro u hu; simp at hu; subst hu; rfl)
      case o4 => unfold maxLen; omega
      case o5 => omega
      case o6 => have := hbr2.size; first | omega | (simp; omega)
      intro v2 w5 hown hgr _
      obtain ⟨A5, c5, rfl, hO5⟩ := OwnI.of_append (zs := T) (x := x) hTm hown
      rw [HT2.out] at hO5
      have HO5 := Lib.hid hO5
      have hb5 : Below w1.heap.size w1 w5 := (hbr2.alloc hbr2.size _).grown hgr (by have := hbr2.size; simp; omega) (fun qq hq => (HO2.out.lt qq hq).1)
      clear hown hgr hO5 hbr2
      go_wp2
      go_roundw
      case rel => exact ⟨k + 1, A5, c5, by omega, by go_num, rfl, HO5, HOK2, hb5⟩
      case measure => simp [intOf]; omega
end Go.Proofs.YtfabioccnaooeaaDoor.SpR
