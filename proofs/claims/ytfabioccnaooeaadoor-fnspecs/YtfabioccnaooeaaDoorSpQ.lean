/-
  THE PROGRAM'S ParseSpec over this seat's translation: the spec whose text it is, and true; else zeros and false.
-/
import Derived.Test.YtfabioccnaooeaaDoorSpR
namespace Go.Proofs.YtfabioccnaooeaaDoor.SpR
open Go.ChangeShapes Go.WideShapes Go.ChangeAt Go.RowKit
open Go.Proofs.YtfabioccnaooeaaDoor.Env Go.Proofs.YtfabioccnaooeaaDoor.LK Go.Proofs.YtfabioccnaooeaaDoor.Num Go.Proofs.YtfabioccnaooeaaDoor.Str Go.Proofs.YtfabioccnaooeaaDoor.Read Go.Proofs.YtfabioccnaooeaaDoor.Parts Go.Proofs.YtfabioccnaooeaaDoor.SpT Go.Proofs.YtfabioccnaooeaaDoor.Sp Go.Proofs.YtfabioccnaooeaaDoor.SpW Go.Proofs.YtfabioccnaooeaaDoor.Has Go.Proofs.YtfabioccnaooeaaDoor.Put
set_option linter.unusedVariables false
set_option linter.unusedSimpArgs false
/-- strconv.Atoi at whatever word: some number; a small number's own numeral gives that number. -/
def AtoiSaid (p : List UInt8) (w : World) (e : Ending) (w' : World) : Prop := ∃ (x : Int) (v : Value), e = .returned (.tuple #[.int .i64 x, v]) ∧ Below w.heap.size w w' ∧ ∀ y : Int, 0 ≤ y ∧ y ≤ 100000 → p = Lib.itoa y → x = y
theorem atoi_any (p : List UInt8) (B : Nat) (w : World) (hE : Lib3 B w) (hl : p.length ≤ 4000000) : Calls Tryd.prog 26 #[.string (bstr p)] w (AtoiSaid p w) := by
  cases h : atoiV p with
  | some v =>
    refine (atoi_some p v h w hl).mono ?_
    rintro e w' ⟨rfl, hb⟩
    refine ⟨v, _, rfl, hb, fun y hy hp => ?_⟩
    rw [hp, num_atoi hy] at h
    injection h with h
    exact h.symm
  | none =>
    refine (atoi_none p h B w hE hl).mono ?_
    rintro e w' ⟨x, T, N, rfl, hb⟩
    refine ⟨x, _, rfl, hb, fun y hy hp => ?_⟩
    rw [hp, num_atoi hy] at h
    cases h
theorem data_bstr (b : ByteArray) : bstr b.data.toList = b := by cases b; rfl
theorem of_data : ∀ (l : List ByteArray) (ws : List (List UInt8)), l.map (·.data.toList) = ws → l = ws.map bstr := by
  intro l ws h
  rw [← h, List.map_map]
  conv => lhs; rw [← List.map_id l]
  apply List.map_congr_left
  intro b _
  exact (data_bstr b).symm
theorem cells_word {ws : List (List UInt8)} {N j : Nat} {p : List UInt8} (h : ws[j]? = some p) : (Lib.cellsOf (ws.map bstr) N)[j]? = some (.string (bstr p)) := by
  unfold Lib.cellsOf
  have hj : j < ws.length := (List.getElem?_eq_some_iff.1 h).1
  simp only [List.getElem?_toArray, List.map_map]
  rw [List.getElem?_append_left (by simp; exact hj), List.getElem?_map, h]
  rfl
def cellsM (M : List Int) : Array Value := (M.map (Value.int .i64)).toArray
theorem cellM {w : World} {b : Nat} {M : List Int} {t : TypeId} (h : w.heap[b]? = some (.cells (cellsM M) t (0, 0))) (k : Nat) (hk : k < M.length) : w.cell? ⟨b, k, none⟩ = some (.int .i64 (M.getD k 0)) :=
  box_cell h k _ (by simp [cellsM, List.getD, hk])
theorem setM {w : World} {b k : Nat} {M : List Int} {t : TypeId} (h : w.heap[b]? = some (.cells (cellsM M) t (0, 0))) (x : Int) : (w.setCell ⟨b, k, none⟩ (.int .i64 x)).heap[b]? = some (.cells (cellsM (M.set k x)) t (0, 0)) := by
  rw [box_set h]
  congr 2
  apply Array.ext'
  simp [cellsM, List.map_set]

set_option maxRecDepth 100000 in
set_option maxHeartbeats 6400000 in
theorem parseSpec_any (l : List UInt8) (B : Nat) (w : World) (hE : Lib3 B w) (hBw : B ≤ w.heap.size) (hl : l.length ≤ 2000000) : Calls Tryd.prog 11 #[.string (bstr l)] w (PSaid l w) := by
  have hsz := bstr_size l
  have HE := Lib.hid hE
  clear hE
  obtain ⟨V, hV⟩ : ∃ V, V = w.alloc (.cells #[.int .i64 0, .int .i64 0, .int .i64 0, .int .i64 0, .int .i64 0, .int .i64 0, .int .i64 0, .int .i64 0, .int .i64 0, .int .i64 0, .int .i64 0] 25) := ⟨_, rfl⟩
  have hbV : Below w.heap.size w V := by rw [hV]; exact bel1 _ _
  have K0 : Hid (V.heap[w.heap.size]? = some (.cells #[.int .i64 0, .int .i64 0, .int .i64 0, .int .i64 0, .int .i64 0, .int .i64 0, .int .i64 0, .int .i64 0, .int .i64 0, .int .i64 0, .int .i64 0] 25)) := by rw [hV]; exact box_new w _
  have hEV := HE.out.on (hbV.mono hBw)
  obtain ⟨m, hm⟩ := hEV.max V (Below.refl _ _)
  have hSp := Tryd.strings_SplitN (bstr l) ⟨#[32]⟩ 12 m V (by rw [hsz]; omega) hm (by decide) (by omega) (by omega)
  obtain ⟨WB, hWB⟩ : ∃ WB, WB = Lib.splitB ⟨#[32]⟩ 0 (min 12 ((bstr l).size + 1) - 1) (bstr l) := ⟨_, rfl⟩
  have hWd : WB.map (·.data.toList) = Lib.splitK [32] 0 (min 12 (l.length + 1) - 1) l := by rw [hWB, Lib.splitB_data, hsz]; rfl
  rw [← hWB] at hSp
  have HSp := Lib.hid hSp
  clear hSp hWB hm m hEV
  have hWl : WB.length = (Lib.splitK [32] 0 (min 12 (l.length + 1) - 1) l).length := by rw [← hWd, List.length_map]
  have hsw := splitN_words l
  obtain ⟨cp, hcp⟩ : ∃ c, c = min 12 ((bstr l).size + 1) := ⟨_, rfl⟩
  rw [← hcp] at HSp
  clear hcp
  go_enter Tryd.func11, Tryd.ntmps11
  go_wp2_with fail
  rw [← hV]
  clear hV
  refine HSp.out.mono ?_
  rintro e w1 ⟨rfl, rfl⟩
  obtain ⟨n, hn⟩ : ∃ n, n = WB.length := ⟨_, rfl⟩
  rw [← hn]
  clear HSp
  have K1 := Lib.hid (box_alloc K0.out (.cells (Lib.cellsOf WB cp) 9))
  have BW := Lib.hid (box_new V (.cells (Lib.cellsOf WB cp) 9))
  have hb1 : Below w.heap.size w (V.alloc (.cells (Lib.cellsOf WB cp) 9)) := hbV.alloc hbV.size _
  obtain ⟨w1, hw1⟩ : ∃ x, x = V.alloc (.cells (Lib.cellsOf WB cp) 9) := ⟨_, rfl⟩
  have hs1 : V.heap.size < w1.heap.size := by rw [hw1]; simp
  rw [← hw1] at K1 BW hb1 ⊢
  clear hw1 K0
  have hvs := hbV.size
  have hlk : w.heap.size < w1.heap.size := box_lt K1.out
  by_cases hn11 : n = 11
  case neg =>
    have HN : Hid (∀ L, ¬ IsT l L) := fun L h => by have h1 := congrArg List.length (isT_parts h); rw [List.length_map, h.1] at h1; exact hn11 (by rw [hn, hWl]; exact hsw.1.2 h1)
    have hd : ((n : Int) == 11) = false := by rw [beq_eq_false_iff_ne]; omega
    clear hn11 hn hWl hsw hWd BW
    have RB := setRow_box (vs := #[.int .i64 0, .int .i64 0, .int .i64 0, .int .i64 0, .int .i64 0, .int .i64 0, .int .i64 0, .int .i64 0, .int .i64 0, .int .i64 0, .int .i64 0]) K1.out
    have r0 := box_cell RB 0 _ rfl
    have r1 := box_cell RB 1 _ rfl
    have r2 := box_cell RB 2 _ rfl
    have r3 := box_cell RB 3 _ rfl
    have r4 := box_cell RB 4 _ rfl
    have r5 := box_cell RB 5 _ rfl
    have r6 := box_cell RB 6 _ rfl
    have r7 := box_cell RB 7 _ rfl
    have r8 := box_cell RB 8 _ rfl
    have r9 := box_cell RB 9 _ rfl
    have r10 := box_cell RB 10 _ rfl
    go_wp2_with (refine wpList_put rfl rfl 25 _ _ rfl w.heap.size _ rfl rfl _ _ K1.out (Tryd.sizeOf25 _) rfl (by simp [Value.oneCell']) ?_)
    exact bodyPost_ret (v := .tuple #[.agg #[.int .i64 0, .int .i64 0, .int .i64 0, .int .i64 0, .int .i64 0, .int .i64 0, .int .i64 0, .int .i64 0, .int .i64 0, .int .i64 0, .int .i64 0], .bool false]) (by simp [results, Tryd.results11, go_sem, r0, r1, r2, r3, r4, r5, r6, r7, r8, r9, r10]) rfl (PSaid.no (setRow_below hb1 _ _ (Nat.le_refl _) hb1.size) HN.out)
  subst hn11
  have hp11 := hsw.1.1 (by rw [← hWl, ← hn])
  obtain ⟨ws, hws⟩ : ∃ ws, ws = partsF 32 l := ⟨_, rfl⟩
  have hwl : ws.length = 11 := by rw [hws]; exact hp11
  have hWB : WB = ws.map bstr := of_data WB ws (by rw [hWd, hsw.2 hp11, hws])
  subst hWB
  have HWS := Lib.hid hws
  have HWM : Hid (∀ p ∈ ws, p.length ≤ 4000000) := fun p hp => by rw [hws] at hp; have := split_part 32 l [] p hp; simp at this; omega
  clear hws hp11 hsw hWl hWd hn
  have HC : Hid (∀ j p, ws[j]? = some p → w1.cell? ⟨V.heap.size, j, none⟩ = some (.string (bstr p))) := fun j p h => box_cell BW.out j _ (cells_word h)
  clear BW
  have KA := Lib.hid (box_alloc K1.out (.cells #[.int .i64 0, .int .i64 0, .int .i64 0, .int .i64 0, .int .i64 0, .int .i64 0, .int .i64 0, .int .i64 0, .int .i64 0, .int .i64 0, .int .i64 0] 25))
  have BS := Lib.hid (box_new w1 (.cells #[.int .i64 0, .int .i64 0, .int .i64 0, .int .i64 0, .int .i64 0, .int .i64 0, .int .i64 0, .int .i64 0, .int .i64 0, .int .i64 0, .int .i64 0] 25))
  have hbA : Below w1.heap.size w1 (w1.alloc (.cells #[.int .i64 0, .int .i64 0, .int .i64 0, .int .i64 0, .int .i64 0, .int .i64 0, .int .i64 0, .int .i64 0, .int .i64 0, .int .i64 0, .int .i64 0] 25)) := bel1 _ _
  have hsA : w1.heap.size < (w1.alloc (.cells #[.int .i64 0, .int .i64 0, .int .i64 0, .int .i64 0, .int .i64 0, .int .i64 0, .int .i64 0, .int .i64 0, .int .i64 0, .int .i64 0, .int .i64 0] 25)).heap.size := by simp
  obtain ⟨w2, hw2⟩ : ∃ x, x = w1.alloc (.cells #[.int .i64 0, .int .i64 0, .int .i64 0, .int .i64 0, .int .i64 0, .int .i64 0, .int .i64 0, .int .i64 0, .int .i64 0, .int .i64 0, .int .i64 0] 25) := ⟨_, rfl⟩
  rw [← hw2] at KA BS hbA hsA
  go_wp2_with fail
  rw [← hw2]
  clear hw2
  have K1W := K1
  clear K1
  refine (numbersOf_any w1.heap.size _).mono ?_
  rintro e w3 ⟨rfl, hb3⟩
  rw [show (.agg #[.pointer (some ⟨w1.heap.size, 0, none⟩), .pointer (some ⟨w1.heap.size, 1, none⟩), .pointer (some ⟨w1.heap.size, 2, none⟩), .pointer (some ⟨w1.heap.size, 3, none⟩), .pointer (some ⟨w1.heap.size, 4, none⟩), .pointer (some ⟨w1.heap.size, 5, none⟩), .pointer (some ⟨w1.heap.size, 6, none⟩), .pointer (some ⟨w1.heap.size, 7, none⟩), .pointer (some ⟨w1.heap.size, 8, none⟩), .pointer (some ⟨w1.heap.size, 9, none⟩), .pointer (some ⟨w1.heap.size, 10, none⟩)] : Value) = numsV w1.heap.size from rfl]
  obtain ⟨NV, hNV⟩ : ∃ v, v = numsV w1.heap.size := ⟨_, rfl⟩
  rw [← hNV]
  have HNA : Hid (∀ k : Nat, k < 11 → ∀ W : World, (Instr.index 47 NV (.int .i64 (k : Int))).run Tryd.prog W = .ok (.pointer (some ⟨w1.heap.size, k, none⟩)) W) := fun k hk W => by rw [hNV]; exact nums_at _ k hk W
  clear hNV
  have B3 : Hid (w3.heap[w1.heap.size]? = some (.cells (cellsM [0, 0, 0, 0, 0, 0, 0, 0, 0, 0, 0]) 25 (0, 0))) := box_below BS.out hb3
  have hb13 : Below w1.heap.size w1 w3 := bel_then hbA hb3 (by omega)
  clear BS hb3 KA hbA hsA
  go_wp2_with fail
  go_loopw [18] (fun i wr => ∃ (k : Nat) (M : List Int), k ≤ 11 ∧ i = .int .i64 k ∧ M.length = 11 ∧ Hid (wr.heap[w1.heap.size]? = some (.cells (cellsM M) 25 (0, 0))) ∧ Hid (∀ j, j < k → ∀ y : Int, 0 ≤ y ∧ y ≤ 100000 → ws.getD j [] = Lib.itoa y → M.getD j 0 = y) ∧ Below w1.heap.size w1 wr) (fun i _ => 11 - (intOf i).toNat)
  case atStart => exact ⟨0, [0, 0, 0, 0, 0, 0, 0, 0, 0, 0, 0], by omega, rfl, rfl, B3, fun j hj => absurd hj (by omega), hb13⟩
  case round =>
    obtain ⟨k, M, hk, rfl, hM, HB, HY, hbr⟩ := hrel
    clear B3 hb13
    by_cases hlt : k < 11
    case neg =>
      have hk11 : k = 11 := by omega
      subst hk11
      have hb0 : Below w.heap.size w wr := bel_then hb1 hbr hb1.size
      have K2 : Hid (wr.heap[w.heap.size]? = some (.cells #[.int .i64 0, .int .i64 0, .int .i64 0, .int .i64 0, .int .i64 0, .int .i64 0, .int .i64 0, .int .i64 0, .int .i64 0, .int .i64 0, .int .i64 0] 25)) := (hbr.block _ hlk).trans K1W.out
      have HML : Hid (∀ L, IsT l L → L = M) := fun L h => by
        apply List.ext_getElem (by rw [h.1, hM])
        intro j h1 h2
        have hj : j < 11 := by rw [h.1] at h1; exact h1
        obtain ⟨p, hp⟩ : ∃ p, ws[j]? = some p := ⟨_, List.getElem?_eq_getElem (by omega)⟩
        have h3 := isT_word h hj (p := p) (by rw [← HWS.out]; exact hp)
        have h4 := HY.out j hj (L.getD j 0) h3.2 (by rw [← h3.1]; simp [List.getD, hp])
        have e1 : L.getD j 0 = L[j] := by simp [List.getD, h1]
        have e2 : M.getD j 0 = M[j] := by simp [List.getD, h2]
        rw [← e1, ← e2, h4]
      obtain ⟨x0, x1, x2, x3, x4, x5, x6, x7, x8, x9, x10, rfl⟩ := eleven hM
      have HB2 : Hid (wr.heap[w1.heap.size]? = some (.cells #[.int .i64 x0, .int .i64 x1, .int .i64 x2, .int .i64 x3, .int .i64 x4, .int .i64 x5, .int .i64 x6, .int .i64 x7, .int .i64 x8, .int .i64 x9, .int .i64 x10] 25 (0, 0))) := HB.out
      clear HB HY hM
      have hEr := HE.out.on (hb0.mono hBw)
      have y0 := box_cell HB2.out 0 _ rfl
      have y1 := box_cell HB2.out 1 _ rfl
      have y2 := box_cell HB2.out 2 _ rfl
      have y3 := box_cell HB2.out 3 _ rfl
      have y4 := box_cell HB2.out 4 _ rfl
      have y5 := box_cell HB2.out 5 _ rfl
      have y6 := box_cell HB2.out 6 _ rfl
      have y7 := box_cell HB2.out 7 _ rfl
      have y8 := box_cell HB2.out 8 _ rfl
      have y9 := box_cell HB2.out 9 _ rfl
      have y10 := box_cell HB2.out 10 _ rfl
      obtain ⟨T, hT⟩ : ∃ T, T = textV x0 x1 x2 x3 x4 x5 x6 x7 x8 x9 x10 := ⟨_, rfl⟩
      have HST : Hid (Calls Tryd.prog 8 #[.agg #[.int .i64 x0, .int .i64 x1, .int .i64 x2, .int .i64 x3, .int .i64 x4, .int .i64 x5, .int .i64 x6, .int .i64 x7, .int .i64 x8, .int .i64 x9, .int .i64 x10]] wr (Says (.tuple #[.string T.1, .bool T.2]) wr)) := by rw [hT]; exact specText_any x0 x1 x2 x3 x4 x5 x6 x7 x8 x9 x10 wr (fun w' h' => hEr.tab w' (h'.mono hEr.size))
      have HT := Lib.hid hT
      clear hT hEr
      go_wp2_with fail
      refine HST.out.mono ?_
      rintro e w4 ⟨rfl, hb4⟩
      have hb04 := bel_then hb0 hb4 hb0.size
      have K4 := Lib.hid (box_below K2.out hb4)
      have HB4 := Lib.hid (box_below HB2.out hb4)
      clear hb4 hb0 K2 HB2 HST y0 y1 y2 y3 y4 y5 y6 y7 y8 y9 y10
      obtain ⟨T1, T2⟩ := T
      cases hs : specB x0 x1 x2 x3 x4 x5 x6 x7 x8 x9 x10
      · have HTT : Hid ((T1, T2) = (⟨#[]⟩, false)) := by show _ = _; rw [HT.out]; simp [textV, hs]
        have HN : Hid (∀ L, ¬ IsT l L) := fun L h => by have e := HML.out L h; subst e; have h2 : specB x0 x1 x2 x3 x4 x5 x6 x7 x8 x9 x10 = true := h.2.1; rw [hs] at h2; cases h2
        have h1 := HTT.out
        injection h1 with h1 h2
        subst h1 h2
        clear HTT HT HML hs HB4
        have RB := setRow_box (vs := #[.int .i64 0, .int .i64 0, .int .i64 0, .int .i64 0, .int .i64 0, .int .i64 0, .int .i64 0, .int .i64 0, .int .i64 0, .int .i64 0, .int .i64 0]) K4.out
        have r0 := box_cell RB 0 _ rfl
        have r1 := box_cell RB 1 _ rfl
        have r2 := box_cell RB 2 _ rfl
        have r3 := box_cell RB 3 _ rfl
        have r4 := box_cell RB 4 _ rfl
        have r5 := box_cell RB 5 _ rfl
        have r6 := box_cell RB 6 _ rfl
        have r7 := box_cell RB 7 _ rfl
        have r8 := box_cell RB 8 _ rfl
        have r9 := box_cell RB 9 _ rfl
        have r10 := box_cell RB 10 _ rfl
        go_wp2_with (refine wpList_put rfl rfl 25 _ _ rfl w.heap.size _ rfl rfl _ _ K4.out (Tryd.sizeOf25 _) rfl (by simp [Value.oneCell']) ?_)
        exact bodyPost_ret (v := .tuple #[.agg #[.int .i64 0, .int .i64 0, .int .i64 0, .int .i64 0, .int .i64 0, .int .i64 0, .int .i64 0, .int .i64 0, .int .i64 0, .int .i64 0, .int .i64 0], .bool false]) (by simp [results, Tryd.results11, go_sem, r0, r1, r2, r3, r4, r5, r6, r7, r8, r9, r10]) rfl (PSaid.no (setRow_below hb04 _ _ (Nat.le_refl _) hb04.size) HN.out)
      · have HTT : Hid ((T1, T2) = (bstr (textL [x0, x1, x2, x3, x4, x5, x6, x7, x8, x9, x10]), true)) := by show _ = _; rw [HT.out]; simp [textV, hs]
        have h1 := HTT.out
        injection h1 with h1 h2
        subst h1 h2
        by_cases heq : textL [x0, x1, x2, x3, x4, x5, x6, x7, x8, x9, x10] = l
        · have HT : Hid (IsT l [x0, x1, x2, x3, x4, x5, x6, x7, x8, x9, x10]) := ⟨rfl, hs, heq⟩
          obtain ⟨tt, htt⟩ : ∃ tt, tt = bstr (textL [x0, x1, x2, x3, x4, x5, x6, x7, x8, x9, x10]) := ⟨_, rfl⟩
          have httl : tt = bstr l := by rw [htt, heq]
          rw [← htt]
          subst httl
          clear htt heq hs HTT HML
          have y0 := box_cell HB4.out 0 _ rfl
          have y1 := box_cell HB4.out 1 _ rfl
          have y2 := box_cell HB4.out 2 _ rfl
          have y3 := box_cell HB4.out 3 _ rfl
          have y4 := box_cell HB4.out 4 _ rfl
          have y5 := box_cell HB4.out 5 _ rfl
          have y6 := box_cell HB4.out 6 _ rfl
          have y7 := box_cell HB4.out 7 _ rfl
          have y8 := box_cell HB4.out 8 _ rfl
          have y9 := box_cell HB4.out 9 _ rfl
          have y10 := box_cell HB4.out 10 _ rfl
          have RB := setRow_box (vs := #[.int .i64 x0, .int .i64 x1, .int .i64 x2, .int .i64 x3, .int .i64 x4, .int .i64 x5, .int .i64 x6, .int .i64 x7, .int .i64 x8, .int .i64 x9, .int .i64 x10]) K4.out
          have r0 := box_cell RB 0 _ rfl
          have r1 := box_cell RB 1 _ rfl
          have r2 := box_cell RB 2 _ rfl
          have r3 := box_cell RB 3 _ rfl
          have r4 := box_cell RB 4 _ rfl
          have r5 := box_cell RB 5 _ rfl
          have r6 := box_cell RB 6 _ rfl
          have r7 := box_cell RB 7 _ rfl
          have r8 := box_cell RB 8 _ rfl
          have r9 := box_cell RB 9 _ rfl
          have r10 := box_cell RB 10 _ rfl
          go_wp2_with (refine wpList_put rfl rfl 25 _ _ rfl w.heap.size _ rfl rfl _ _ K4.out (Tryd.sizeOf25 _) rfl (by simp [Value.oneCell']) ?_)
          exact bodyPost_ret (v := .tuple #[.agg #[.int .i64 x0, .int .i64 x1, .int .i64 x2, .int .i64 x3, .int .i64 x4, .int .i64 x5, .int .i64 x6, .int .i64 x7, .int .i64 x8, .int .i64 x9, .int .i64 x10], .bool true]) (by simp [results, Tryd.results11, go_sem, r0, r1, r2, r3, r4, r5, r6, r7, r8, r9, r10]) rfl ⟨x0, x1, x2, x3, x4, x5, x6, x7, x8, x9, x10, true, rfl, setRow_below hb04 _ _ (Nat.le_refl _) hb04.size, .inl ⟨rfl, HT.out⟩⟩
        · have HN : Hid (∀ L, ¬ IsT l L) := fun L h => by have e := HML.out L h; subst e; exact heq h.2.2
          obtain ⟨TL, hTL⟩ : ∃ TL, TL = textL [x0, x1, x2, x3, x4, x5, x6, x7, x8, x9, x10] := ⟨_, rfl⟩
          rw [← hTL] at heq ⊢
          have hne : (TL == l) = false := by rw [beq_eq_false_iff_ne]; exact heq
          have htl1 := bstr_toList TL
          have htl2 := bstr_toList l
          clear hTL heq hs HTT HML HT HB4
          have RB := setRow_box (vs := #[.int .i64 0, .int .i64 0, .int .i64 0, .int .i64 0, .int .i64 0, .int .i64 0, .int .i64 0, .int .i64 0, .int .i64 0, .int .i64 0, .int .i64 0]) K4.out
          have r0 := box_cell RB 0 _ rfl
          have r1 := box_cell RB 1 _ rfl
          have r2 := box_cell RB 2 _ rfl
          have r3 := box_cell RB 3 _ rfl
          have r4 := box_cell RB 4 _ rfl
          have r5 := box_cell RB 5 _ rfl
          have r6 := box_cell RB 6 _ rfl
          have r7 := box_cell RB 7 _ rfl
          have r8 := box_cell RB 8 _ rfl
          have r9 := box_cell RB 9 _ rfl
          have r10 := box_cell RB 10 _ rfl
          go_wp2_with (refine wpList_put rfl rfl 25 _ _ rfl w.heap.size _ rfl rfl _ _ K4.out (Tryd.sizeOf25 _) rfl (by simp [Value.oneCell']) ?_)
          exact bodyPost_ret (v := .tuple #[.agg #[.int .i64 0, .int .i64 0, .int .i64 0, .int .i64 0, .int .i64 0, .int .i64 0, .int .i64 0, .int .i64 0, .int .i64 0, .int .i64 0, .int .i64 0], .bool false]) (by simp [results, Tryd.results11, go_sem, r0, r1, r2, r3, r4, r5, r6, r7, r8, r9, r10]) rfl (PSaid.no (setRow_below hb04 _ _ (Nat.le_refl _) hb04.size) HN.out)
    obtain ⟨p, hp⟩ : ∃ p, ws[k]? = some p := ⟨_, List.getElem?_eq_getElem (by omega)⟩
    have hcl : wr.cell? ⟨V.heap.size, k, none⟩ = some (.string (bstr p)) := (hbr.cell (by show V.heap.size < w1.heap.size; omega)).trans (HC.out k p hp)
    have hpm := HWM.out p (List.mem_of_getElem? hp)
    have hix := HNA.out k hlt
    have hgp : ws.getD k [] = p := by simp [List.getD, hp]
    have hbw : Below w.heap.size w wr := bel_then hb1 hbr hb1.size
    have HEr := Lib.hid (HE.out.on (hbw.mono hBw))
    go_wp2_with fail
    refine (atoi_any p B _ HEr.out hpm).mono ?_
    rintro e w4 ⟨x, v, rfl, hb4, hxy⟩
    have HB4 := Lib.hid (box_below HB.out hb4)
    have hbr4 : Below w1.heap.size w1 w4 := hbr.trans (hb4.mono hbr.size)
    have HXY := Lib.hid hxy
    have hwl4 : w1.heap.size < w4.heap.size := box_lt HB4.out
    have d0 := cellM HB4.out k (by omega)
    have d1 := box_frozen HB4.out k
    have HB5 : Hid ((w4.setCell ⟨w1.heap.size, k, none⟩ (.int .i64 x)).heap[w1.heap.size]? = some (.cells (cellsM (M.set k x)) 25 (0, 0))) := setM HB4.out x
    have hb5 : Below w1.heap.size w1 (w4.setCell ⟨w1.heap.size, k, none⟩ (.int .i64 x)) := hbr4.setCell (p := ⟨w1.heap.size, k, none⟩) (Nat.le_refl _) _
    have HY5 : Hid (∀ j, j < k + 1 → ∀ y : Int, 0 ≤ y ∧ y ≤ 100000 → ws.getD j [] = Lib.itoa y → (M.set k x).getD j 0 = y) := fun j hj y hy he => by
      rcases Nat.lt_or_ge j k with h | h
      · have h1 := HY.out j h y hy he
        rw [← h1]; simp [List.getD, List.getElem?_set, show ¬ k = j by omega]
      · obtain rfl : j = k := by omega
        have h1 := HXY.out y hy (by rw [← he, hgp])
        simp [List.getD, List.getElem?_set, hM, hlt, h1]
    clear hb4 hbr hxy hcl hpm hgp HB HB4 hbr4 HEr hbw
    go_wp2
    go_roundw
    case rel => exact ⟨k + 1, M.set k x, by omega, by go_num, by simpa using hM, HB5, HY5, hb5⟩
    case measure => simp [intOf]; omega
end Go.Proofs.YtfabioccnaooeaaDoor.SpR
