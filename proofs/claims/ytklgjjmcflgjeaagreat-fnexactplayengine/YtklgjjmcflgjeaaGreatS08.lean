import Derived.Deep.RegionLaw
import Derived.StillTailTactics
import Derived.Test.YtklgjjmcflgjeaaGreatS02
import Derived.Test.YtklgjjmcflgjeaaGreatS03
import Derived.Test.YtklgjjmcflgjeaaGreatS07
set_option linter.unusedVariables false
set_option linter.unusedSimpArgs false
namespace Go.Proofs.YtklgjjmcflgjeaaGreat.FleetSpec
open Go.ChangeShapes Go.WideShapes Go.ChangeAt Go.RowKit
open LK Pods FleetV
open Ints (below_drewN)
def atP (ps : PList) (k : Int) : Int := match ps.findIdx? (fun p => decide (p.1 = k)) with | some j => j | none => -1
theorem at_none {ps : PList} {k : Int} (h : ∀ j, j < ps.length → (ps.getD j z5).1 ≠ k) : atP ps k = -1 := by
  have e : ps.findIdx? (fun p => decide (p.1 = k)) = none := by
    rw [List.findIdx?_eq_none_iff]
    intro p hp
    obtain ⟨j, hj, rfl⟩ := List.mem_iff_getElem.1 hp
    have := h j hj
    simpa [List.getD, hj] using this
  simp [atP, e]
theorem at_some {ps : PList} {k : Int} {j : Nat} (hj : j < ps.length) (he : (ps.getD j z5).1 = k) (h : ∀ i, i < j → (ps.getD i z5).1 ≠ k) : atP ps k = j := by
  have e : ps.findIdx? (fun p => decide (p.1 = k)) = some j := by
    rw [List.findIdx?_eq_some_iff_getElem]
    refine ⟨hj, by simpa [List.getD, hj] using he, fun i hi => ?_⟩
    have := h i hi
    simpa [List.getD, show i < ps.length by omega] using this
  simp [atP, e]
theorem at_cases (ps : PList) (k : Int) : (atP ps k = -1 ∧ fndP ps k = none) ∨ ∃ j, j < ps.length ∧ atP ps k = j ∧ fndP ps k = some (ps.getD j z5) ∧ (ps.getD j z5).1 = k := by
  cases e : ps.findIdx? (fun p => decide (p.1 = k)) with
  | none =>
    refine .inl ⟨by simp [atP, e], ?_⟩
    unfold fndP
    rw [List.find?_eq_none]
    rw [List.findIdx?_eq_none_iff] at e
    intro p hp
    have := e p hp
    simpa using this
  | some j =>
    have e2 := e
    rw [List.findIdx?_eq_some_iff_getElem] at e
    obtain ⟨hj, h1, h2⟩ := e
    have hg : ps.getD j z5 = ps[j] := by simp [List.getD, hj]
    refine .inr ⟨j, hj, by simp [atP, e2], ?_, by rw [hg]; simpa using h1⟩
    unfold fndP
    rw [List.find?_eq_some_iff_getElem, hg]
    exact ⟨h1, j, hj, rfl, fun i hi => by have := h2 i hi; simpa using this⟩
set_option maxHeartbeats 1600000 in
theorem at_any (A : Option Addr) (n c : Nat) (nx k0 : Int) (ps : PList) (B : Nat) (w : World) (hr : IsPods w B A n ps) (hB : B ≤ w.heap.size) (hn : n ≤ 1048576) :
    Calls Tryz.prog 141 #[.agg #[.slice A n c, .int .i64 nx], .int .i64 k0] w (Says (.int .i64 (atP ps k0)) w) := by
  have HL : Hid (ps.length = n) := hr.1
  have hbx : Below w.heap.size w (w.alloc (.cells #[.slice A n c, .int .i64 nx] 34)) := bel1 _ _
  have hr1 := hr.below hbx hB
  clear hr
  go_enter Tryz.func141, Tryz.ntmps141
  go_wp2_with fail
  go_loop [5] (fun i => ∃ k : Nat, k ≤ n ∧ i = .int .i64 k ∧ Hid (∀ j, j < k → (ps.getD j z5).1 ≠ k0)) (fun i => n - (RowKit.intOf i).toNat)
  case atStart => exact ⟨0, Nat.zero_le _, rfl, fun j hj => absurd hj (by omega)⟩
  case round =>
    obtain ⟨k, hk, rfl, HF⟩ := hrel
    by_cases hlt : k < n
    · obtain ⟨b, off, x0, x1, x2, x3, x4, rfl, hbB, hz, hc0, hc1, hc2, hc3, hc4⟩ := hr1.at_ hlt
      have HZ := Lib.hid hz
      clear hz
      cases he : (x0 == k0)
      · go_wp2
        go_round
        case rel =>
          refine ⟨k + 1, by omega, by go_num, fun j hj => ?_⟩
          by_cases h : j = k
          · subst h
            rw [HZ.out]
            simpa using he
          · exact HF.out j (by omega)
        case measure => simp [RowKit.intOf]; omega
      · have HA : Hid (atP ps k0 = k) := at_some (by rw [HL.out]; exact hlt) (by rw [HZ.out]; simpa using he) HF.out
        go_wp2
        go_ret
        rw [HA.out]
        exact ⟨rfl, hbx⟩
    · have HA : Hid (atP ps k0 = -1) := at_none fun j hj => HF.out j (by rw [HL.out] at hj; omega)
      go_wp2
      go_ret
      rw [HA.out]
      exact ⟨rfl, hbx⟩
open FleetTy (made_of own_app)
theorem news_new (w : World) (l : List Value) (t : TypeId) : ∀ j u, l[j]? = some u → (w.alloc (.cells l.toArray t)).cell? ((⟨w.heap.size, 0, none⟩ : Addr).add j) = some u := by
  intro j u h
  rw [FlatOpen.add_off, Nat.zero_add]
  exact box_cell (box_new w (.cells l.toArray t)) j u (by simpa using h)
set_option maxRecDepth 100000 in
set_option maxHeartbeats 3200000 in
theorem copy_any (A : Option Addr) (n c : Nat) (nx : Int) (ps : PList) (B : Nat) (w : World) (hr : IsPods w B A n ps) (hB : B ≤ w.heap.size) (hn : n ≤ 1048576) :
    Calls Tryz.prog 140 #[.agg #[.slice A n c, .int .i64 nx]] w (Made FleetTy.fty (ps, nx) w) := by
  obtain ⟨i0, hi0, hz0, hz1, hz2⟩ := info_parts infoP
  have HL : Hid (ps.length = n) := hr.1
  have HR := Lib.hid hr
  clear hr
  go_enter Tryz.func140, Tryz.ntmps140
  go_wp2_with fail
  go_loopw [4] (fun i wr => ∃ (k : Nat) (A1 : Option Addr) (c1 : Nat), k ≤ n ∧ i = .int .i64 k ∧ Hid (wr.heap[w.heap.size]? = some (.cells #[.slice A n c, .int .i64 nx] 34)) ∧ Hid (wr.heap[w.heap.size + 1]? = some (.cells #[.slice none 0 0, .int .i64 0] 34)) ∧ Hid (wr.heap[w.heap.size + 1 + 1]? = some (.cells #[.slice A1 k c1, .int .i64 nx] 34)) ∧
      Hid (OwnP wr (w.heap.size + 1 + 1 + 1) A1 k c1 (ps.take k)) ∧ Below w.heap.size w wr ∧ w.heap.size + 1 + 1 + 1 ≤ wr.heap.size) (fun i _ => n - (RowKit.intOf i).toNat)
  case atStart =>
    refine ⟨0, none, 0, Nat.zero_le _, rfl, box_alloc (box_alloc (box_new _ _) _) _, ?_, ?_, OwnP.nil _ _, bel3 _ _ _ _, by simp⟩
    · have h := box_alloc (box_new (w.alloc (.cells #[.slice A n c, .int .i64 nx] 34)) (.cells #[.slice none 0 0, .int .i64 0] 34)) (.cells #[.slice none 0 0, .int .i64 nx] 34)
      simp only [World.size_alloc] at h
      exact h
    · have h := box_new ((w.alloc (.cells #[.slice A n c, .int .i64 nx] 34)).alloc (.cells #[.slice none 0 0, .int .i64 0] 34)) (.cells #[.slice none 0 0, .int .i64 nx] 34)
      simp only [World.size_alloc] at h
      exact h
  case round =>
    obtain ⟨k, A1, c1, hk, rfl, E0, E1, E2, HO, hbr, hsr⟩ := hrel
    have a0 := box_cell E0.out 0 _ rfl
    have r0 := box_cell E2.out 0 _ rfl
    have r1 := box_cell E2.out 1 _ rfl
    have s0 := box_frozen E2.out 0
    by_cases hlt : k < n
    · obtain ⟨b, off, x0, x1, x2, x3, x4, rfl, hbB, hz, hc0, hc1, hc2, hc3, hc4⟩ := (HR.out.below hbr hB).at_ hlt
      have HZ := Lib.hid hz
      have hkp : k < ps.length := by rw [HL.out]; exact hlt
      have HKP := Lib.hid hkp
      clear hz hkp
      go_wp2_with fail
      have hlv : w.heap.size + 1 + 1 < wr.heap.size := by omega
      have hq0 : ∀ (W : World), W.heap[w.heap.size + 1 + 1]? = some (.cells #[.slice A1 k c1, .int .i64 nx] 34) → W.cell? ⟨w.heap.size + 1 + 1, 0, none⟩ = some (.slice A1 k c1) := fun W h => box_cell h 0 _ rfl
      have hq1 : ∀ (W : World), W.heap[w.heap.size + 1 + 1]? = some (.cells #[.slice A1 k c1, .int .i64 nx] 34) → W.frozen? ⟨w.heap.size + 1 + 1, 0, none⟩ = false := fun W h => box_frozen h 0
      have HQ0 := Lib.hid hq0
      have HQ1 := Lib.hid hq1
      clear hq0 hq1
      go_region_law (refine step_append_lies _ (by rfl) (.tmp 16) (.tmp 22) 32 (by rfl) (w.heap.size + 1 + 1 + 1) 85 i0 _ 5 40 Tryz.underlying32 hi0 hz0 hz1 hz2 rfl (by omega) (.slice A1 k c1) k (flat (ps.take k)) rfl (by exact HO.out.2.alloc _) ⟨wr.heap.size, 0, none⟩ 1 1 [.int .i64 x0, .int .i64 x1, .int .i64 x2, .int .i64 x3, .int .i64 x4] rfl rfl (by exact news_new wr [.int .i64 x0, .int .i64 x1, .int .i64 x2, .int .i64 x3, .int .i64 x4] 85) (by intro u hu; simp at hu; rcases hu with rfl | rfl | rfl | rfl | rfl <;> rfl) (by omega) (by unfold maxLen; omega) (by omega) (by simp; omega) (wr.heap.size + 1) (by simp) ?_; intro g2 c2 w5 hown hgr _ _; have F2 : w5.heap[w.heap.size + 1 + 1]? = some (.cells #[.slice A1 k c1, .int .i64 nx] 34) := ((hgr.block (w.heap.size + 1 + 1) (by simp; omega) (fun e => by have := (HO.out.lt _ e.symm).1; omega)).trans (box_alloc E2.out _)); have q0 := HQ0.out _ F2; have q1 := HQ1.out _ F2)
      all_goals
        obtain ⟨A2, c3, ev, hO2⟩ := own_app (ps := ps.take k) (p := (x0, x1, x2, x3, x4)) HO.out.1 hown
        injection ev with ev1 ev2 ev3
        subst ev1 ev3
        have e2 : ps.take k ++ [(x0, x1, x2, x3, x4)] = ps.take (k + 1) := by rw [take_get HKP.out, HZ.out]
        rw [e2] at hO2
        have hne : ∀ q, (Value.slice A1 k c1).ownBlock = some q → w.heap.size + 1 + 1 + 1 ≤ q := fun q hq => (HO.out.lt q hq).1
        have keep : ∀ (q : Nat) (o : Obj), q < w.heap.size + 1 + 1 + 1 → wr.heap[q]? = some o → w5.heap[q]? = some o := fun q o hq ho => (hgr.block q (by simp; omega) (fun e => by have := hne q e.symm; omega)).trans (box_alloc ho _)
        have F0 := keep _ _ (by omega) E0.out
        have F1 := keep _ _ (by omega) E1.out
        have hb5 : Below w.heap.size w w5 := ((hbr.alloc (by omega) _).drew).grown hgr (by simp; omega) (fun qq hq => by have := hne qq hq; omega)
        have hs5 : w.heap.size + 1 + 1 + 1 ≤ w5.heap.size := by have := hgr.size; simp at this; omega
        have G0 : Hid ((w5.setCell ⟨w.heap.size + 1 + 1, 0, none⟩ (.slice (some ⟨g2, 0, none⟩) (k + 1) c2)).heap[w.heap.size]? = some (.cells #[.slice (some ⟨b, off, none⟩) n c, .int .i64 nx] 34)) := box_other F0 ⟨w.heap.size + 1 + 1, 0, none⟩ _ (by show w.heap.size ≠ w.heap.size + 1 + 1; omega)
        have G1 : Hid ((w5.setCell ⟨w.heap.size + 1 + 1, 0, none⟩ (.slice (some ⟨g2, 0, none⟩) (k + 1) c2)).heap[w.heap.size + 1]? = some (.cells #[.slice none 0 0, .int .i64 0] 34)) := box_other F1 ⟨w.heap.size + 1 + 1, 0, none⟩ _ (by show w.heap.size + 1 ≠ w.heap.size + 1 + 1; omega)
        have G2 : Hid ((w5.setCell ⟨w.heap.size + 1 + 1, 0, none⟩ (.slice (some ⟨g2, 0, none⟩) (k + 1) c2)).heap[w.heap.size + 1 + 1]? = some (.cells #[.slice (some ⟨g2, 0, none⟩) (k + 1) c2, .int .i64 nx] 34)) := box_set (i := 0) F2 (.slice (some ⟨g2, 0, none⟩) (k + 1) c2)
        have GO : Hid (OwnP (w5.setCell ⟨w.heap.size + 1 + 1, 0, none⟩ (.slice (some ⟨g2, 0, none⟩) (k + 1) c2)) (w.heap.size + 1 + 1 + 1) (some ⟨g2, 0, none⟩) (k + 1) c2 (ps.take (k + 1))) := hO2.same (fun q hq => Below.heap_setCell _ _ _ _ (by have := (hO2.lt q hq).1; show q ≠ w.heap.size + 1 + 1; omega))
        have hb6 : Below w.heap.size w (w5.setCell ⟨w.heap.size + 1 + 1, 0, none⟩ (.slice (some ⟨g2, 0, none⟩) (k + 1) c2)) := hb5.setCell (p := ⟨w.heap.size + 1 + 1, 0, none⟩) (by show w.heap.size ≤ w.heap.size + 1 + 1; omega) _
        have hs6 : w.heap.size + 1 + 1 + 1 ≤ (w5.setCell ⟨w.heap.size + 1 + 1, 0, none⟩ (.slice (some ⟨g2, 0, none⟩) (k + 1) c2)).heap.size := by simp [World.setCell]; omega
        clear hown hgr hO2 hne keep F0 F1 F2
        go_wp2
        go_roundw
        case rel => exact ⟨k + 1, some ⟨g2, 0, none⟩, c2, by omega, by go_num, G0, G1, G2, GO, hb6, hs6⟩
        case measure => simp [RowKit.intOf]; omega
    · have HK : Hid (k = n) := (by omega : k = n)
      have e0 := box_cell E1.out 0 _ rfl
      have e1 := box_cell E1.out 1 _ rfl
      have g0 := box_frozen E1.out 0
      have g1 := box_frozen E1.out 1
      go_wp2
      refine bodyPost_ret (v := .agg #[.slice A1 k c1, .int .i64 nx]) (by simp [results, Tryz.results140, go_sem, e0, e1]) rfl ?_
      have h1 := HO.out
      rw [List.take_of_length_le (by rw [HL.out, HK.out]; exact Nat.le_refl _)] at h1
      exact made_of hbr h1 (by omega) (S := fun q => q = w.heap.size + 1) (fun q hq => by omega) ((Turned.set (S := fun q => q = w.heap.size + 1) _ ⟨w.heap.size + 1, 0, none⟩ _ rfl).trans (Turned.set (S := fun q => q = w.heap.size + 1) _ ⟨w.heap.size + 1, 1, none⟩ _ rfl))
end Go.Proofs.YtklgjjmcflgjeaaGreat.FleetSpec
namespace Go.Proofs.YtklgjjmcflgjeaaGreat.Crew
open Go.ChangeShapes Go.WideShapes Go.ChangeAt Go.RowKit Go.Maps Go.Sort Go.Shelf
open LK Pods FleetV Has Ints
theorem wpList_next_pods (w : World) {ops : Array Oper} {rest : List Oper} {o : Oper} {a : Act} {Q : Exit → Act → World → Prop} (hg : o.guard = none) (it : Operand) (hop : o.op = Op.next it false) (b r n : Nat) (ps : PList) (left : Lit → Bool) (cnt : Nat)
    (hit : a.eval it = .pointer (some ⟨r, 0, none⟩)) (h : w.ranges Tryz.prog 3 rdP b r n (mapOf ps) left cnt)
    (hDone : cnt = 0 → (∀ kl, left kl = false) → wpList Tryz.prog ops Q rest (a.put o.dst (.tuple #[.bool false])) w)
    (hMore : ∀ (x0 x1 x2 x3 x4 : Int) (w' : World) (cnt' : Nat), (x0, x1, x2, x3, x4) ∈ ps → left (.int .i64 x0) = true → w'.ranges Tryz.prog 3 rdP b r n (mapOf ps) (fun z => left z && !z.sameKey (.int .i64 x0)) cnt' → cnt' < cnt → w.grownBy w' (some r) → w'.heap.size = w.heap.size →
      (Instr.entry (.pointer (some ⟨r, 0, none⟩))).run Tryz.prog w' = .ok (.tuple #[.int .i64 x0, .agg #[.int .i64 x0, .int .i64 x1, .int .i64 x2, .int .i64 x3, .int .i64 x4]]) w' →
      wpList Tryz.prog ops Q rest (a.put o.dst (.tuple #[.bool true, .int .i64 x0, .agg #[.int .i64 x0, .int .i64 x1, .int .i64 x2, .int .i64 x3, .int .i64 x4]])) w') :
    wpList Tryz.prog ops Q (o :: rest) a w := by
  refine wpList_plain hg fun K' hK' => ?_
  unfold Oper.wp
  rcases h.next law o.type with ⟨h0, hl, hrun⟩ | ⟨key, v, kl, y, w', cnt', hkey, hlk, hv, hat, hrun, hrg, hlt, hgr, hsz, hen⟩
  · simp [execOp, hop, hit, hrun, Result.andThen]
    exact hK' _ _ (hDone h0 hl)
  · obtain ⟨x, rfl, rfl, hw⟩ := Maps.keyOf_int_inv Tryz.underlying3 hkey
    have h1 := hat .nil
    rw [map_at] at h1
    have hy : y.1 = .held v := by
      simp only [rdP, Option.some.injEq] at hv
      rw [← hv]
    rw [hy] at h1
    cases e : fndP ps x with
    | none => rw [e] at h1; cases h1
    | some p =>
      rw [e] at h1
      injection h1 with h1
      obtain ⟨hp, hx⟩ := fnd_mem e
      obtain ⟨y0, y1, y2, y3, y4⟩ := p
      obtain rfl : y0 = x := hx
      have hv2 : v = .agg #[.int .i64 y0, .int .i64 y1, .int .i64 y2, .int .i64 y3, .int .i64 y4] := h1.symm
      subst hv2
      simp [execOp, hop, hit, hrun, Result.andThen]
      exact hK' _ _ (hMore y0 y1 y2 y3 y4 w' cnt' hp hlk hrg hlt hgr hsz hen)
def matB (rev st : Int) (p : Pd) : Bool := ((rev == 0) || (p.2.1 == rev)) && ((st == -1) || (p.2.2.1 == st))
theorem mat_of {rev st x0 x1 x2 x3 x4 : Int} {a b c d : Bool} (h1 : (rev == 0) = a) (h2 : (x1 == rev) = b) (h3 : (st == -1) = c) (h4 : (x2 == st) = d) : matB rev st (x0, x1, x2, x3, x4) = ((a || b) && (c || d)) := by
  simp only [matB]
  rw [h1, h2, h3, h4]
def cntV (rev st : Int) (ps : PList) : Nat := (ps.filter (matB rev st)).length
def countV (d : PList × Int) (rev st : Int) : Int := if FGood d.1 d.2 then cntV rev st d.1 else -1
theorem cnt_take (rev st : Int) {ps : PList} {k : Nat} (h : k < ps.length) : cntV rev st (ps.take (k + 1)) = cntV rev st (ps.take k) + if matB rev st (ps.getD k z5) then 1 else 0 := by
  unfold cntV
  rw [take_get h, List.filter_append, List.length_append]
  by_cases hm : matB rev st (ps.getD k z5) = true
  · rw [if_pos hm, List.filter_cons_of_pos hm]; rfl
  · rw [if_neg hm, List.filter_cons_of_neg hm]; rfl
def doneV (rev st : Int) (ps : PList) (left : Lit → Bool) : Nat := (ps.filter fun p => !left (.int .i64 p.1) && matB rev st p).length
theorem done_start (rev st : Int) (ps : PList) : doneV rev st ps (Maps.has (mapOf ps)) = 0 := by
  unfold doneV
  rw [List.length_eq_zero_iff, List.filter_eq_nil_iff]
  intro p hp
  have : Maps.has (mapOf ps) (.int .i64 p.1) = true := by
    rw [map_has]
    cases e : fndP ps p.1 with
    | none => exact absurd rfl (fnd_none e p hp)
    | some q => rfl
  simp [this]
theorem done_end (rev st : Int) (ps : PList) (left : Lit → Bool) (h : ∀ kl, left kl = false) : doneV rev st ps left = cntV rev st ps := by
  unfold doneV cntV
  congr 1
  apply List.filter_congr
  intro p _
  simp [h]
theorem done_le (rev st : Int) (ps : PList) (left : Lit → Bool) : doneV rev st ps left ≤ ps.length := List.length_filter_le _ _
theorem done_step (rev st : Int) {ps : PList} {left : Lit → Bool} {p : Pd} (ha : Asc ps) (hp : p ∈ ps) (hl : left (.int .i64 p.1) = true) :
    doneV rev st ps (fun z => left z && !z.sameKey (.int .i64 p.1)) = doneV rev st ps left + if matB rev st p then 1 else 0 := by
  unfold doneV
  induction ps with
  | nil => simp at hp
  | cons a l ih =>
    obtain ⟨h1, h2⟩ := asc_cons.1 ha
    rcases List.mem_cons.1 hp with e | hp'
    · subst e
      have hc : (l.filter fun q => !(left (.int .i64 q.1) && !(Lit.int .i64 q.1).sameKey (.int .i64 p.1)) && matB rev st q) = l.filter fun q => !left (.int .i64 q.1) && matB rev st q := by
        apply List.filter_congr
        intro q hq
        have hne : (Lit.int .i64 q.1).sameKey (.int .i64 p.1) = false := by rw [same_int]; have := h1 q hq; simp; omega
        simp [hne]
      have hs : (Lit.int .i64 p.1).sameKey (.int .i64 p.1) = true := by rw [same_int]; simp
      by_cases hm : matB rev st p = true
      · rw [if_pos hm, List.filter_cons_of_pos (by simp [hs, hm]), List.filter_cons_of_neg (by simp [hl]), hc]; simp
      · rw [if_neg hm, List.filter_cons_of_neg (by simp [hm]), List.filter_cons_of_neg (by simp [hm]), hc]; rfl
    · have hlt := h1 p hp'
      have hne : (Lit.int .i64 a.1).sameKey (.int .i64 p.1) = false := by rw [same_int]; simp; omega
      have := ih h2 hp'
      by_cases hk : (!left (.int .i64 a.1) && matB rev st a) = true
      · rw [List.filter_cons_of_pos (by simpa [hne] using hk), List.filter_cons_of_pos (by exact hk), List.length_cons, List.length_cons, this]; omega
      · rw [List.filter_cons_of_neg (by simpa [hne] using hk), List.filter_cons_of_neg (by exact hk), this]
set_option maxRecDepth 100000 in
set_option maxHeartbeats 3200000 in
theorem count_any (cb mb nn : Nat) (ps : PList) (nx rev st : Int) (w : World) (hC : CrewAt w cb mb nn ps nx) (hn : ps.length ≤ 1000) :
    Calls Tryz.prog 147 #[.pointer (some ⟨cb, 0, none⟩), .int .i64 rev, .int .i64 st] w (Says (.int .i64 (cntV rev st ps)) w) := by
  have c0 : w.cell? ⟨cb, 0, none⟩ = some (.map (some mb)) := box_cell hC.box 0 _ rfl
  have HA := Lib.hid hC.asc
  have hown := hC.own
  have hmb := hC.own.lt
  clear hC
  go_enter Tryz.func147, Tryz.ntmps147
  go_wp2_with (first | (at_range; refine wpList_range_own _ rfl _ 217 rfl 3 85 law Tryz.underlying217 _ mb nn (mapOf ps) rfl hown ?_; intro w0 hrg0 hg0 hs0) | go_in)
  go_frame
  have hb0 : Below w.heap.size w w0 := (Below.refl _ _).grown hg0 (Nat.le_refl _) (by intro k h; cases h)
  have hd0 : Hid (((0 : Nat) : Int) = (doneV rev st ps (Maps.has (mapOf ps)) : Nat)) := by rw [done_start]; rfl
  clear c0 hown hg0
  go_loopw [7, 16] (fun q _ wr => ∃ (left : Lit → Bool) (cnt m : Nat), wr.ranges Tryz.prog 3 rdP mb w.heap.size nn (mapOf ps) left cnt ∧ q = .int .i64 (m : Int) ∧ m ≤ 1000 ∧ Hid (m = doneV rev st ps left) ∧ Below w.heap.size w wr ∧ w.heap.size < wr.heap.size) (fun _ _ wr => wr.rangeLeft mb w.heap.size)
  case atStart => exact ⟨_, _, 0, hrg0, rfl, by omega, (done_start rev st ps).symm, hb0, by omega⟩
  case round =>
    obtain ⟨left, cnt, m, hrg, rfl, hm, HM, hbr, hsr⟩ := hrel
    go_wp2_with (first | (at_next; refine wpList_next_pods _ rfl _ rfl mb w.heap.size nn ps left cnt rfl hrg ?_ ?_) | go_in)
    · intro _ hl0
      have HE : Hid (m = cntV rev st ps) := HM.out.trans (done_end rev st ps left hl0)
      go_wp2
      go_ret
      exact ⟨by rw [← HE.out]; rfl, hbr⟩
    · intro x0 x1 x2 x3 x4 w1 cnt1 hp hlk hrg1 hlt hg1 hs1 hen
      have HS := Lib.hid (done_step rev st HA.out hp hlk)
      have hbr1 : Below w.heap.size w w1 := hbr.grown hg1 hbr.size (by intro q hq; cases hq; exact Nat.le_refl _)
      have hs2 : w.heap.size < w1.heap.size := by omega
      have hrgA : (w1.alloc (.cells #[.int .i64 x0, .int .i64 x1, .int .i64 x2, .int .i64 x3, .int .i64 x4] 85)).ranges Tryz.prog 3 rdP mb w.heap.size nn (mapOf ps) (fun z => left z && !z.sameKey (.int .i64 x0)) cnt1 := hrg1.alloc _
      have hbrA : Below w.heap.size w (w1.alloc (.cells #[.int .i64 x0, .int .i64 x1, .int .i64 x2, .int .i64 x3, .int .i64 x4] 85)) := hbr1.alloc (by omega) _
      have hlm : (w1.alloc (.cells #[.int .i64 x0, .int .i64 x1, .int .i64 x2, .int .i64 x3, .int .i64 x4] 85)).rangeLeft mb w.heap.size < wr.rangeLeft mb w.heap.size := by rw [hrgA.left_eq, hrg.left_eq]; exact hlt
      have HRG := Lib.hid hrgA
      have HLM := Lib.hid hlm
      have hd1 := done_le rev st ps (fun z => left z && !z.sameKey (.int .i64 x0))
      have hm2 : doneV rev st ps (fun z => left z && !z.sameKey (.int .i64 x0)) ≤ 1000 := Nat.le_trans hd1 hn
      have HM2 := Lib.hid hm2
      have hmlt : m ≤ 9223372036854775806 := by omega
      clear hg1 hs1 hrg1 hrg hrgA hlm hd1 hm2 hbr1 hbr
      cases h1 : (rev == 0) <;> cases h2 : (x1 == rev) <;> cases h3 : (st == -1) <;> cases h4 : (x2 == st)
      all_goals
        have HB := Lib.hid (mat_of (x0 := x0) (x3 := x3) (x4 := x4) h1 h2 h3 h4)
        have HE := HS.out
        rw [HB.out] at HE
        have HE2 := Lib.hid HE
        clear HE
        go_wp2
        go_roundw
        case rel =>
          first
          | exact ⟨_, _, m, HRG.out, rfl, hm, by have h := HE2.out; simp at h; show _ = _; rw [h]; exact HM.out, hbrA, by simp; omega⟩
          | exact ⟨_, _, m + 1, HRG.out, by go_num, by have h := HE2.out; have h2 := HM2.out; have h3 := HM.out; simp at h; omega, by have h := HE2.out; simp at h; show _ = _; rw [h, HM.out], hbrA, by simp; omega⟩
        case measure => exact HLM.out
set_option maxHeartbeats 1600000 in
theorem countPods_any (A : Option Addr) (n c : Nat) (nx rev st : Int) (ps : PList) (B : Nat) (w : World) (hr : IsPods w B A n ps) (hB : B ≤ w.heap.size) (hn : n ≤ 1048576) :
    Calls Tryz.prog 107 #[.agg #[.slice A n c, .int .i64 nx], .int .i64 rev, .int .i64 st] w (Says (.int .i64 (countV (ps, nx) rev st)) w) := by
  have HR := Lib.hid hr
  clear hr
  go_enter Tryz.func107, Tryz.ntmps107
  go_wp2_with fail
  refine (crewOf_any A n c nx ps B _ (HR.out.below (bel1 _ _) hB) (by simp; omega) hn).mono ?_
  rintro e w2 ⟨r, o, rfl, hb, hg, hC⟩
  have HB := Lib.hid (bel_then (bel1 w _) hb (by simp))
  have HG := Lib.hid hg
  clear hb hg
  cases r
  · have HV : Hid (countV (ps, nx) rev st = -1) := if_neg (fun h => by have := HG.out.2 h; cases this)
    go_wp2
    go_ret
    exact ⟨by rw [HV.out]; rfl, HB.out⟩
  · obtain ⟨cb, mb, rfl, _, _, hC⟩ := hC rfl
    have hgd := HG.out.1 rfl
    have HV : Hid (countV (ps, nx) rev st = cntV rev st ps) := if_pos hgd
    have hl : ps.length ≤ 1000 := by have := hgd.1; omega
    have HC := Lib.hid hC
    clear hC hgd
    go_wp2_with fail
    refine (count_any cb mb 30 ps nx rev st _ HC.out hl).mono ?_
    rintro e w3 ⟨rfl, hb3⟩
    have HB3 := Lib.hid (bel_then HB.out hb3 HB.out.size)
    clear hb3
    go_wp2
    go_ret
    exact ⟨by rw [HV.out]; rfl, HB3.out⟩
set_option maxRecDepth 100000 in
set_option maxHeartbeats 3200000 in
theorem specCountPods_any (A : Option Addr) (n c : Nat) (nx rev st : Int) (ps : PList) (B : Nat) (w : World) (hr : IsPods w B A n ps) (hB : B ≤ w.heap.size) (hn : n ≤ 1048576) :
    Calls Tryz.prog 105 #[.agg #[.slice A n c, .int .i64 nx], .int .i64 rev, .int .i64 st] w (Says (.int .i64 (countV (ps, nx) rev st)) w) := by
  have HL : Hid (ps.length = n) := hr.1
  have HR := Lib.hid hr
  clear hr
  go_enter Tryz.func105, Tryz.ntmps105
  go_wp2_with fail
  refine (FleetSpec.specFleetOk_any A n c nx ps B _ (HR.out.below (bel1 _ _) hB) (by simp; omega) hn).mono ?_
  rintro e w2 ⟨rfl, hb⟩
  have hb2 := bel_then (bel1 w _) hb (by simp)
  have E0 := box_below (box_new w (.cells #[.slice A n c, .int .i64 nx] 34)) hb
  have c0 := box_cell E0 0 _ rfl
  clear hb
  by_cases hg : FGood ps nx
  · have HV : Hid (countV (ps, nx) rev st = cntV rev st ps) := if_pos hg
    rw [decide_eq_true hg]
    have hr2 := HR.out.below hb2 hB
    clear hg E0 HR
    go_wp2_with fail
    go_loop [7, 8] (fun q i => ∃ k m : Nat, k ≤ n ∧ i = .int .i64 k ∧ q = .int .i64 (m : Int) ∧ m ≤ k ∧ Hid (m = cntV rev st (ps.take k))) (fun _ i => n - (RowKit.intOf i).toNat)
    case atStart => exact ⟨0, 0, Nat.zero_le _, rfl, rfl, by omega, by simp [Hid, cntV]⟩
    case round =>
      obtain ⟨k, m, hk, rfl, rfl, hmk, HM⟩ := hrel
      by_cases hlt : k < n
      · obtain ⟨b, off, x0, x1, x2, x3, x4, rfl, hbB, hz, hc0, hc1, hc2, hc3, hc4⟩ := hr2.at_ hlt
        have HS := Lib.hid (cnt_take rev st (ps := ps) (k := k) (by rw [HL.out]; exact hlt))
        rw [hz] at HS
        clear hz
        cases h1 : (rev == 0) <;> cases h2 : (x1 == rev) <;> cases h3 : (st == -1) <;> cases h4 : (x2 == st)
        all_goals
          have HB := Lib.hid (mat_of (x0 := x0) (x3 := x3) (x4 := x4) h1 h2 h3 h4)
          have HE := HS.out
          rw [HB.out] at HE
          have HE2 := Lib.hid HE
          clear HE
          go_wp2
          go_round
          case rel =>
            first
            | exact ⟨k + 1, m, by omega, by go_num, rfl, by omega, by have h := HE2.out; simp at h; show _ = _; rw [h]; exact HM.out⟩
            | exact ⟨k + 1, m + 1, by omega, by go_num, by go_num, by omega, by have h := HE2.out; simp at h; show _ = _; rw [h, HM.out]⟩
          case measure => simp [RowKit.intOf]; omega
      · have HK : Hid (k = n) := (by omega : k = n)
        go_wp2
        go_ret
        have h := HM.out
        rw [List.take_of_length_le (by rw [HL.out, HK.out]; exact Nat.le_refl _)] at h
        exact ⟨by rw [HV.out, ← h]; rfl, hb2⟩
  · have HV : Hid (countV (ps, nx) rev st = -1) := if_neg hg
    rw [decide_eq_false hg]
    have HB := Lib.hid hb2
    clear hg E0 c0 hb2
    go_wp2
    go_ret
    exact ⟨by rw [HV.out]; rfl, HB.out⟩
end Go.Proofs.YtklgjjmcflgjeaaGreat.Crew
namespace Go.Proofs.YtklgjjmcflgjeaaGreat.Av
open Go.ChangeShapes Go.WideShapes Go.ChangeAt Go.RowKit
open LK Pods FleetV Sp Hl Has Ints
def cntF (f : Pd → Bool) (ps : PList) : Nat := (ps.filter f).length
end Go.Proofs.YtklgjjmcflgjeaaGreat.Av
namespace Go.Proofs.YtklgjjmcflgjeaaGreat.EngCnt
open Tick (inB tokB sinceV in_t tok_t)
open Pods
open FleetV hiding goodB
open EngV
open CountI (cntF selB liveB goodB)
theorem cnt_cons (f : Pd → Bool) (p : Pd) (ps : PList) : cntF f (p :: ps) = (if f p then 1 else 0) + cntF f ps := by
  simp only [cntF, List.filter_cons]
  split <;> simp <;> omega
theorem cnt_le {f g : Pd → Bool} (h : ∀ p, f p = true → g p = true) (ps : PList) : cntF f ps ≤ cntF g ps := by
  induction ps with
  | nil => exact Nat.le_refl _
  | cons p ps ih =>
    rw [cnt_cons, cnt_cons]
    have := h p
    cases hf : f p <;> cases hg : g p <;> simp_all <;> omega
def goB (p : Pd) : Bool := p.2.2.1 == 4
def live (e : Eng) (oth : Bool) : Nat := cntF (liveB oth e.tg) e.ps
def good (e : Eng) (oth : Bool) : Nat := cntF (goodB e.sp.x0 e.sp.x1 e.sp.x2 e.sp.x3 e.sp.x4 e.sp.x5 e.sp.x6 e.sp.x7 e.sp.x8 e.sp.x9 e.sp.x10 oth e.tg e.now) e.ps
def going (e : Eng) : Nat := cntF goB e.ps
theorem part_any (tg : Int) : ∀ ps : PList, cntF (liveB false tg) ps + cntF (liveB true tg) ps + cntF goB ps = ps.length
  | [] => rfl
  | p :: ps => by
    have ih := part_any tg ps
    simp only [cnt_cons, List.length_cons]
    have h : (if liveB false tg p then 1 else 0) + (if liveB true tg p then 1 else 0) + (if goB p then 1 else 0) = (1 : Nat) := by
      simp only [liveB, selB, goB]
      by_cases h1 : p.2.1 = tg <;> by_cases h2 : p.2.2.1 = 4 <;> simp [h1, h2]
    omega
theorem part (e : Eng) : live e false + live e true + going e = e.ps.length := part_any e.tg e.ps
theorem good_le (e : Eng) (oth : Bool) : good e oth ≤ live e oth := cnt_le (fun p h => by simp only [goodB, Bool.and_eq_true] at h; exact h.1) e.ps
theorem going_eq {e : Eng} (h : FGood e.ps e.nx) : Crew.countV (e.ps, e.nx) 0 4 = going e := by
  simp only [Crew.countV]
  rw [if_pos h]
  have hm : Crew.matB 0 4 = goB := by funext p; simp [Crew.matB, goB]
  simp only [Crew.cntV, going, cntF, hm]
theorem okB_t {e : Eng} (h : e.okB = true) : e.sp.ok = true ∧ FGood e.ps e.nx ∧ tokB e.now = true ∧ tokB e.st = true ∧ tokB e.wt = true ∧ (0 ≤ e.ph ∧ e.ph ≤ 3) ∧ (1 ≤ e.tg ∧ e.tg ≤ 1000) ∧ (1 ≤ e.gd ∧ e.gd ≤ 1000) ∧ 0 ≤ e.tr ∧ e.tr ≤ 200 := by
  simp only [Eng.okB, Bool.and_eq_true, decide_eq_true_eq] at h
  obtain ⟨⟨⟨⟨⟨⟨⟨⟨h1, h2⟩, h3⟩, h4⟩, h5⟩, h6⟩, h7⟩, h8⟩, h9⟩ := h
  exact ⟨h1, h2, h3, h4, h5, in_t h6, in_t h7, in_t h8, in_t h9⟩
theorem cab_ok {e : Eng} (h : e.okB = true) : CountP.cabB e.sp.x0 e.sp.x1 e.sp.x2 e.sp.x3 e.sp.x4 e.sp.x5 e.sp.x6 e.sp.x7 e.sp.x8 e.sp.x9 e.sp.x10 e.tg e.now e.ps e.nx = true := by
  obtain ⟨h1, h2, h3, _, _, _, htg, _⟩ := okB_t h
  have h1' : Sp.specB e.sp.x0 e.sp.x1 e.sp.x2 e.sp.x3 e.sp.x4 e.sp.x5 e.sp.x6 e.sp.x7 e.sp.x8 e.sp.x9 e.sp.x10 = true := h1
  simp [CountP.cabB, h1', h2, h3, inB, htg]
end Go.Proofs.YtklgjjmcflgjeaaGreat.EngCnt
namespace Go.Proofs.YtklgjjmcflgjeaaGreat.Crew
open Go.ChangeShapes Go.WideShapes Go.ChangeAt Go.RowKit Go.Maps Go.Sort Go.Shelf
open LK Pods FleetV Has Ints
open Tick (inB in_t in_f tokB tok_t tickOk_any)
theorem made_own {ps : PList} {x : Int} {W w' : World} {e : Ending} (h : Made FleetTy.fty (ps, x) W e w') : ∃ A c, e = .returned (.agg #[.slice A ps.length c, .int .i64 x]) ∧ OwnP w' W.heap.size A ps.length c ps ∧ Below W.heap.size W w' := by
  obtain ⟨v', S, rfl, ⟨⟨A, c, rfl, hO, hS⟩, hin, _⟩, hb⟩ := h
  exact ⟨A, c, rfl, hO.base (fun k hk => (hin k (hS k hk)).1), hb⟩
theorem made1_of {w w2 w3 : World} {lo : Nat} {S : Nat → Prop} {A : Option Addr} {n c : Nat} {ps : PList} {x : Int} {y : Value} (hb : Below w.heap.size w w2) (hO : OwnP w2 lo A n c ps) (hlo : w.heap.size ≤ lo) (hS : ∀ k, S k → w.heap.size ≤ k ∧ k < lo) (ht : Turned S w2 w3) :
    Made1 FleetTy.fty (ps, x) y w (.returned (.tuple #[.agg #[.slice A n c, .int .i64 x], y])) w3 := by
  obtain ⟨v', S', e, H, hb'⟩ := FleetTy.made_of (x := x) hb hO hlo hS ht
  injection e with e
  subst e
  exact ⟨_, S', rfl, H, hb'⟩
def AddOk (ps : PList) (nx rev now : Int) : Prop := FGood ps nx ∧ (1 ≤ rev ∧ rev ≤ 1000) ∧ (0 ≤ now ∧ now ≤ 1000000000) ∧ ps.length < 30 ∧ nx < 1000000000
instance (ps : PList) (nx rev now : Int) : Decidable (AddOk ps nx rev now) := by unfold AddOk; infer_instance
def addD (d : PList × Int) (rev now : Int) : PList × Int := if AddOk d.1 d.2 rev now then (d.1 ++ [(d.2, rev, 0, 0, now)], d.2 + 1) else d
def addV (d : PList × Int) (rev now : Int) : Int := if AddOk d.1 d.2 rev now then d.2 else 0
theorem add_yes {ps : PList} {nx rev now : Int} (h : AddOk ps nx rev now) : addD (ps, nx) rev now = (ps ++ [(nx, rev, 0, 0, now)], nx + 1) ∧ addV (ps, nx) rev now = nx := ⟨if_pos h, if_pos h⟩
theorem add_no {ps : PList} {nx rev now : Int} (h : ¬ AddOk ps nx rev now) : addD (ps, nx) rev now = (ps, nx) ∧ addV (ps, nx) rev now = 0 := ⟨if_neg h, if_neg h⟩
theorem few_add {d : PList × Int} (rev now : Int) (h : FleetTy.fty.Few d) : FleetTy.fty.Few (addD d rev now) := by
  obtain ⟨ps, nx⟩ := d
  by_cases hA : AddOk ps nx rev now
  · rw [(add_yes hA).1]
    have := hA.2.2.2.1
    show (ps ++ [_]).length ≤ 1048576
    simp
    omega
  · rw [(add_no hA).1]; exact h
theorem good_app {ps : PList} {nx rev now : Int} (h : FGood ps nx) : FGood (ps ++ [(nx, rev, 0, 0, now)]) (nx + 1) ↔ AddOk ps nx rev now := by
  constructor
  · intro g
    have h1 := g.1
    have h2 := g.2.1
    obtain ⟨⟨_, h4, _, _, h5⟩, _⟩ := g.2.2.1 (nx, rev, 0, 0, now) (by simp)
    simp at h1 h4 h5
    exact ⟨h, h4, h5, by omega, by omega⟩
  · intro a
    obtain ⟨_, h1, h2, h3, h4⟩ := a
    refine ⟨by simp; omega, by have := h.2.1; omega, fun p hp => ?_, ?_⟩
    · rcases List.mem_append.1 hp with hp | hp
      · have := h.2.2.1 p hp
        exact ⟨this.1, by omega⟩
      · obtain rfl : p = (nx, rev, 0, 0, now) := by simpa using hp
        have := h.2.1
        exact ⟨⟨⟨by show 1 ≤ nx; omega, by show nx ≤ _; omega⟩, h1, ⟨by show (0 : Int) ≤ 0; omega, by show (0 : Int) ≤ 4; omega⟩, ⟨by show (0 : Int) ≤ 0; omega, by show (0 : Int) ≤ 1000000000; omega⟩, h2⟩, by show nx < nx + 1; omega⟩
    · refine List.pairwise_append.2 ⟨h.2.2.2, by simp, fun a ha b hb => ?_⟩
      obtain rfl : b = (nx, rev, 0, 0, now) := by simpa using hb
      exact (h.2.2.1 a ha).2
set_option maxRecDepth 100000 in
set_option maxHeartbeats 3200000 in
theorem crewAdd_any (cb mb : Nat) (ps : PList) (nx rev now : Int) (w : World) (hC : CrewAt w cb mb 30 ps nx) (hg : FGood ps nx) (hrv : 1 ≤ rev ∧ rev ≤ 1000) (hnw : 0 ≤ now ∧ now ≤ 1000000000) (lo : Nat) (hcb : lo ≤ cb) (hmb : lo ≤ mb) :
    Calls Tryz.prog 288 #[.pointer (some ⟨cb, 0, none⟩), .int .i64 rev, .int .i64 now] w fun e w' => e = .returned (.int .i64 (addV (ps, nx) rev now)) ∧ CrewAt w' cb mb 31 (addD (ps, nx) rev now).1 (addD (ps, nx) rev now).2 ∧ Below lo w w' := by
  have c0 : w.cell? ⟨cb, 0, none⟩ = some (.map (some mb)) := box_cell hC.box 0 _ rfl
  have c1 : w.cell? ⟨cb, 1, none⟩ = some (.int .i64 nx) := box_cell hC.box 1 _ rfl
  have hlen := hC.own.len (t := 217) (e := 85) Tryz.underlying217 3
  rw [map_size] at hlen
  have HC := Lib.hid hC
  have HG := Lib.hid hg
  have hl30 := hg.1
  have hn1 := hg.2.1.1
  have hn2 := hg.2.1.2
  clear hC hg
  by_cases h30 : ps.length = 30
  · have HA : Hid (¬ AddOk ps nx rev now) := fun h => by have := h.2.2.2.1; omega
    have hd : ((ps.length : Int) == 30) = true := by simp; omega
    have hno := add_no HA.out
    rw [hno.1, hno.2]
    clear hno
    go_enter Tryz.func288, Tryz.ntmps288
    go_wp2
    go_ret
    exact ⟨rfl, ⟨HC.out.box, HC.out.own.mono (by omega), HC.out.asc, HC.out.ids⟩, Below.refl _ _⟩
  by_cases hmx : nx = 1000000000
  · have HA : Hid (¬ AddOk ps nx rev now) := fun h => by have := h.2.2.2.2; omega
    have hd : ((ps.length : Int) == 30) = false := by simp; omega
    have hd2 : (nx == 1000000000) = true := by simp; omega
    have hno := add_no HA.out
    rw [hno.1, hno.2]
    clear hno
    go_enter Tryz.func288, Tryz.ntmps288
    go_wp2
    go_ret
    exact ⟨rfl, ⟨HC.out.box, HC.out.own.mono (by omega), HC.out.asc, HC.out.ids⟩, Below.refl _ _⟩
  · have HA : Hid (AddOk ps nx rev now) := ⟨HG.out, hrv, hnw, by omega, by omega⟩
    have hd : ((ps.length : Int) == 30) = false := by simp; omega
    have hd2 : (nx == 1000000000) = false := by simp; omega
    have hyes := add_yes HA.out
    rw [hyes.1, hyes.2]
    clear hyes
    obtain ⟨w3, hrun, hM3, hg3⟩ := HC.out.own.update (t := 217) (e := 85) law Tryz.underlying217 (by unfold maxLen; omega) (key := .int .i64 nx) (val := .agg #[.int .i64 nx, .int .i64 rev, .int .i64 0, .int .i64 0, .int .i64 now]) (kl := .int .i64 nx) (d := .held (podV (nx, rev, 0, 0, now))) (ps := []) (keyOf_int_mk Tryz.underlying3 (id_wf (by omega))) rfl
    have hne : cb ≠ mb := fun e => by
      have h1 := HC.out.box
      obtain ⟨es, clock, hb, _⟩ := HC.out.own
      rw [e, hb] at h1
      cases h1
    have B3 : w3.heap[cb]? = some (.cells #[.map (some mb), .int .i64 nx] 219 (0, 0)) := (hg3.block cb (box_lt HC.out.box) (by simp [hne])).trans HC.out.box
    have d1 := box_cell B3 1 _ rfl
    have f1 := box_frozen B3 1
    have hM4 := hM3.setCell (a := ⟨cb, 1, none⟩) (Ne.symm hne) (.int .i64 (nx + 1))
    have B4 := box_set (i := 1) B3 (.int .i64 (nx + 1))
    have hb4 : Below lo w (w3.setCell ⟨cb, 1, none⟩ (.int .i64 (nx + 1))) := (((Below.refl lo w).grown hg3 (by have := HC.out.own.lt; omega) (by intro q hq; cases hq; exact hmb))).setCell (p := ⟨cb, 1, none⟩) hcb _
    have HM4 := Lib.hid hM4
    have HB4 := Lib.hid B4
    clear hM3 hg3 hM4 B3 B4
    go_enter Tryz.func288, Tryz.ntmps288
    go_wp2
    go_ret
    refine ⟨rfl, ⟨HB4.out, ?_, ?_, ?_⟩, hb4⟩
    · have h := HM4.out
      rw [map_put ps (nx, rev, 0, 0, now)] at h
      rw [insP_last (fun q hq => (HG.out.2.2.1 q hq).2)] at h
      exact h
    · exact ((good_app HG.out).2 HA.out).2.2.2
    · intro p hp
      have := (((good_app HG.out).2 HA.out).2.2.1 p hp).1.1
      omega
set_option maxRecDepth 100000 in
set_option maxHeartbeats 3200000 in
theorem addPod_any (A : Option Addr) (n c : Nat) (nx rev now : Int) (ps : PList) (B : Nat) (w : World) (hr : IsPods w B A n ps) (hB : B ≤ w.heap.size) (hn : n ≤ 1048576) :
    Calls Tryz.prog 266 #[.agg #[.slice A n c, .int .i64 nx], .int .i64 rev, .int .i64 now] w (Made1 FleetTy.fty (addD (ps, nx) rev now) (.int .i64 (addV (ps, nx) rev now)) w) := by
  have HL : Hid (ps.length = n) := hr.1
  have HR := Lib.hid hr
  clear hr
  have k0 : ((w.alloc (.cells #[.slice A n c, .int .i64 nx] 34)).alloc (.cells #[.slice none 0 0, .int .i64 0] 34)).heap[w.heap.size]? = some (.cells #[.slice A n c, .int .i64 nx] 34) := box_alloc (box_new _ _) _
  have k1 : ((w.alloc (.cells #[.slice A n c, .int .i64 nx] 34)).alloc (.cells #[.slice none 0 0, .int .i64 0] 34)).heap[w.heap.size + 1]? = some (.cells #[.slice none 0 0, .int .i64 0] 34) := by
    have h := box_new (w.alloc (.cells #[.slice A n c, .int .i64 nx] 34)) (.cells #[.slice none 0 0, .int .i64 0] 34)
    simp only [World.size_alloc] at h
    exact h
  have K0 := Lib.hid k0
  have K1 := Lib.hid k1
  clear k0 k1
  go_enter Tryz.func266, Tryz.ntmps266
  go_wp2_with fail
  refine (crewOf_any A n c nx ps B _ (HR.out.below (bel2 _ _ _) hB) (by simp; omega) hn).mono ?_
  rintro e w2 ⟨r, o, rfl, hb, hg, hC⟩
  have hbw : Below w.heap.size w w2 := bel_then (bel2 w _ _) hb (by simp; omega)
  have E0 := box_below K0.out hb
  have E1 := box_below K1.out hb
  have hs2 : w.heap.size + 1 + 1 ≤ w2.heap.size := by have := hb.size; simp at this; omega
  have HG := Lib.hid hg
  have HBW := Lib.hid hbw
  have a0 := box_cell E0 0 _ rfl
  have a1 := box_cell E0 1 _ rfl
  have X1 := Lib.hid E1
  clear hb hg E0 E1 K0 K1 hbw
  by_cases hok : r = true ∧ inB rev 1 1000 = true ∧ tokB now = true
  · obtain ⟨rfl, h1, h2⟩ := hok
    have hgd := HG.out.1 rfl
    obtain ⟨cb, mb, rfl, hcb, hmb, hC⟩ := hC rfl
    simp only [World.size_alloc] at hcb hmb
    have HC := Lib.hid hC
    have HGD := Lib.hid hgd
    clear hC hgd
    go_wp2_with (first | (go_at_call 93; refine (revOk_any _ _).mono ?_; rintro e w' ⟨rfl, rfl⟩; rw [h1]) | (go_at_call 91; refine (tickOk_any _ _).mono ?_; rintro e w' ⟨rfl, rfl⟩; rw [h2]))
    refine (crewAdd_any cb mb ps nx rev now _ HC.out HGD.out (in_t h1) (tok_t h2) (w.heap.size + 1 + 1) hcb hmb).mono ?_
    rintro e w3 ⟨rfl, hC3, hb3⟩
    have hbw3 : Below w.heap.size w w3 := HBW.out.trans (hb3.mono (by omega))
    have Y1 : Hid (w3.heap[w.heap.size + 1]? = some (.cells #[.slice none 0 0, .int .i64 0] 34)) := (hb3.block _ (by omega)).trans X1.out
    have HC3 := Lib.hid hC3
    have HB3 := Lib.hid hbw3
    have hl3 : (addD (ps, nx) rev now).1.length ≤ 1000 := by
      by_cases hA : AddOk ps nx rev now
      · rw [(add_yes hA).1]; have := hA.2.2.2.1; simp; omega
      · rw [(add_no hA).1]; have := HGD.out.1; show ps.length ≤ 1000; omega
    clear hC3 hbw3 hb3 a0 a1
    obtain ⟨D, hD⟩ : ∃ D, D = addD (ps, nx) rev now := ⟨_, rfl⟩
    obtain ⟨V, hV⟩ : ∃ V, V = addV (ps, nx) rev now := ⟨_, rfl⟩
    rw [← hD] at hl3 HC3
    rw [← hV]
    have HD := Lib.hid hD
    have HV := Lib.hid hV
    clear hD hV
    obtain ⟨m, mx⟩ := D
    go_wp2_with fail
    refine (fleet_any cb mb 31 m mx _ HC3.out hl3).mono ?_
    intro e w4 hM
    obtain ⟨A4, c4, rfl, hO4, hb4⟩ := made_own hM
    have Z1 := box_below Y1.out hb4
    have z0 := box_cell Z1 0 _ rfl
    have z1 := box_cell Z1 1 _ rfl
    have y0 := box_frozen Z1 0
    have y1 := box_frozen Z1 1
    have hs3 : w.heap.size + 1 < w3.heap.size := box_lt Y1.out
    have HB4 := Lib.hid (bel_then HB3.out hb4 HB3.out.size)
    have HO4 := Lib.hid hO4
    obtain ⟨q, hq⟩ : ∃ q, q = m.length := ⟨_, rfl⟩
    rw [← hq] at HO4 ⊢
    clear hM hb4 hO4 Z1 hq
    go_wp2
    refine bodyPost_ret (v := .tuple #[.agg #[.slice A4 q c4, .int .i64 mx], .int .i64 V]) (by simp [results, Tryz.results266, go_sem, z0, z1]) rfl ?_
    rw [← HD.out, ← HV.out]
    exact made1_of HB4.out HO4.out (by omega) (S := fun k => k = w.heap.size + 1) (fun k hk => by omega) ((Turned.set (S := fun k => k = w.heap.size + 1) _ ⟨w.heap.size + 1, 0, none⟩ _ rfl).trans (Turned.set (S := fun k => k = w.heap.size + 1) _ ⟨w.heap.size + 1, 1, none⟩ _ rfl))
  · have HA : Hid (¬ AddOk ps nx rev now) := fun h => hok ⟨HG.out.2 h.1, by simp [inB, h.2.1], by simp [tokB, h.2.2.1]⟩
    have HNO := Lib.hid (add_no HA.out)
    clear hC
    have h3 : r = false ∨ (r = true ∧ inB rev 1 1000 = false) ∨ (r = true ∧ inB rev 1 1000 = true ∧ tokB now = false) := by cases r <;> cases h1 : inB rev 1 1000 <;> cases h2 : tokB now <;> simp_all
    rcases h3 with rfl | ⟨rfl, h1⟩ | ⟨rfl, h1, h2⟩
    all_goals
        (go_wp2_with (first | (go_at_call 93; refine (revOk_any _ _).mono ?_; rintro e w' ⟨rfl, rfl⟩; rw [h1]) | (go_at_call 91; refine (tickOk_any _ _).mono ?_; rintro e w' ⟨rfl, rfl⟩; rw [h2]))
         refine (sameFleet_any A n c nx ps B _ (HR.out.below HBW.out hB) (by have := HBW.out.size; omega) hn).mono ?_
         intro e w4 hM
         obtain ⟨A4, c4, rfl, hO4, hb4⟩ := made_own hM
         have Z1 := box_below X1.out hb4
         have z0 := box_cell Z1 0 _ rfl
         have z1 := box_cell Z1 1 _ rfl
         have y0 := box_frozen Z1 0
         have y1 := box_frozen Z1 1
         have HB4 := Lib.hid (bel_then HBW.out hb4 HBW.out.size)
         have HO4 := Lib.hid hO4
         obtain ⟨q, hq⟩ : ∃ q, q = ps.length := ⟨_, rfl⟩
         rw [← hq] at HO4 ⊢
         clear hM hb4 hO4 Z1 hq a0 a1 hok
         go_wp2
         refine bodyPost_ret (v := .tuple #[.agg #[.slice A4 q c4, .int .i64 nx], .int .i64 0]) (by simp [results, Tryz.results266, go_sem, z0, z1]) rfl ?_
         rw [HNO.out.1, HNO.out.2]
         exact made1_of HB4.out HO4.out (by omega) (S := fun k => k = w.heap.size + 1) (fun k hk => by omega) ((Turned.set (S := fun k => k = w.heap.size + 1) _ ⟨w.heap.size + 1, 0, none⟩ _ rfl).trans (Turned.set (S := fun k => k = w.heap.size + 1) _ ⟨w.heap.size + 1, 1, none⟩ _ rfl)))
end Go.Proofs.YtklgjjmcflgjeaaGreat.Crew
