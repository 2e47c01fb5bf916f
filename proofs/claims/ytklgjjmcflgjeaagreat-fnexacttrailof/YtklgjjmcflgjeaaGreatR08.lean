import Derived.Test.YtklgjjmcflgjeaaGreatR06
import Derived.Test.YtklgjjmcflgjeaaGreatR07
set_option linter.unusedVariables false
set_option linter.unusedSimpArgs false
namespace Go.Proofs.YtklgjjmcflgjeaaGreat.Crew
open Go.ChangeShapes Go.WideShapes Go.ChangeAt Go.RowKit Go.Maps Go.Sort Go.Shelf
open LK Pods FleetV Has Ints
theorem wpList_next_pods (w : World) {ops : Array Oper} {rest : List Oper} {o : Oper} {a : Act} {Q : Exit → Act → World → Prop} (hg : o.guard = none) (it : Operand) (hop : o.op = Op.next it false) (b r n : Nat) (ps : PList) (left : Lit → Bool) (cnt : Nat)
    (hit : a.eval it = .pointer (some ⟨r, 0, none⟩)) (h : w.ranges Tryz.prog 3 rdP b r n (mapOf ps) left cnt)
    (hDone : cnt = 0 → (∀ kl, left kl = false) → wpList Tryz.prog ops Q rest (a.put o.dst (.tuple #[.bool false])) w)
    (hMore : ∀ (x0 x1 x2 x3 x4 : Int) (w' : World) (cnt' : Nat), (x0, x1, x2, x3, x4) ∈ ps → left (.int .i64 x0) = true → w'.ranges Tryz.prog 3 rdP b r n (mapOf ps) (fun z => left z && !z.sameKey (.int .i64 x0)) cnt' → cnt' < cnt → w.grownBy w' (some r) → w'.heap.size = w.heap.size →
      (Instr.entry (.pointer (some ⟨r, 0, none⟩))).run Tryz.prog w' = .ok (.tuple #[.int .i64 x0, .agg #[.int .i64 x0, .int .i64 x1, .int .i64 x2, .int .i64 x3, .int .i64 x4]]) w' →
      wpList Tryz.prog ops Q rest (a.put o.dst (.tuple #[.bool true, .int .i64 x0, .agg #[.int .i64 x0, .int .i64 x1, .int .i64 x2, .int .i64 x3, .int .i64 x4]])) w') :
    wpList Tryz.prog ops Q (o :: rest) a w := by
  refine wpList_plain hg fun K' hK' => ?_
  unfold Oper.wp
  rcases h.next law o.type with ⟨h0, hl, hrun⟩ | ⟨key, v, kl, y, w', cnt', hkey, hlk, hv, hat, hrun, hrg, hlt, hgr, hsz, hen⟩
  · simp [execOp, hop, hit, hrun, Result.andThen]
    exact hK' _ _ (hDone h0 hl)
  · obtain ⟨x, rfl, rfl, hw⟩ := Maps.keyOf_int_inv Tryz.underlying3 hkey
    have h1 := hat .nil
    rw [map_at] at h1
    have hy : y.1 = .held v := by
      simp only [rdP, Option.some.injEq] at hv
      rw [← hv]
    rw [hy] at h1
    cases e : fndP ps x with
    | none => rw [e] at h1; cases h1
    | some p =>
      rw [e] at h1
      injection h1 with h1
      obtain ⟨hp, hx⟩ := fnd_mem e
      obtain ⟨y0, y1, y2, y3, y4⟩ := p
      obtain rfl : y0 = x := hx
      have hv2 : v = .agg #[.int .i64 y0, .int .i64 y1, .int .i64 y2, .int .i64 y3, .int .i64 y4] := h1.symm
      subst hv2
      simp [execOp, hop, hit, hrun, Result.andThen]
      exact hK' _ _ (hMore y0 y1 y2 y3 y4 w' cnt' hp hlk hrg hlt hgr hsz hen)
def matB (rev st : Int) (p : Pd) : Bool := ((rev == 0) || (p.2.1 == rev)) && ((st == -1) || (p.2.2.1 == st))
theorem mat_of {rev st x0 x1 x2 x3 x4 : Int} {a b c d : Bool} (h1 : (rev == 0) = a) (h2 : (x1 == rev) = b) (h3 : (st == -1) = c) (h4 : (x2 == st) = d) : matB rev st (x0, x1, x2, x3, x4) = ((a || b) && (c || d)) := by
  simp only [matB]
  rw [h1, h2, h3, h4]
def cntV (rev st : Int) (ps : PList) : Nat := (ps.filter (matB rev st)).length
def countV (d : PList × Int) (rev st : Int) : Int := if FGood d.1 d.2 then cntV rev st d.1 else -1
theorem cnt_take (rev st : Int) {ps : PList} {k : Nat} (h : k < ps.length) : cntV rev st (ps.take (k + 1)) = cntV rev st (ps.take k) + if matB rev st (ps.getD k z5) then 1 else 0 := by
  unfold cntV
  rw [take_get h, List.filter_append, List.length_append]
  by_cases hm : matB rev st (ps.getD k z5) = true
  · rw [if_pos hm, List.filter_cons_of_pos hm]; rfl
  · rw [if_neg hm, List.filter_cons_of_neg hm]; rfl
def doneV (rev st : Int) (ps : PList) (left : Lit → Bool) : Nat := (ps.filter fun p => !left (.int .i64 p.1) && matB rev st p).length
theorem done_start (rev st : Int) (ps : PList) : doneV rev st ps (Maps.has (mapOf ps)) = 0 := by
  unfold doneV
  rw [List.length_eq_zero_iff, List.filter_eq_nil_iff]
  intro p hp
  have : Maps.has (mapOf ps) (.int .i64 p.1) = true := by
    rw [map_has]
    cases e : fndP ps p.1 with
    | none => exact absurd rfl (fnd_none e p hp)
    | some q => rfl
  simp [this]
theorem done_end (rev st : Int) (ps : PList) (left : Lit → Bool) (h : ∀ kl, left kl = false) : doneV rev st ps left = cntV rev st ps := by
  unfold doneV cntV
  congr 1
  apply List.filter_congr
  intro p _
  simp [h]
theorem done_le (rev st : Int) (ps : PList) (left : Lit → Bool) : doneV rev st ps left ≤ ps.length := List.length_filter_le _ _
theorem done_step (rev st : Int) {ps : PList} {left : Lit → Bool} {p : Pd} (ha : Asc ps) (hp : p ∈ ps) (hl : left (.int .i64 p.1) = true) :
    doneV rev st ps (fun z => left z && !z.sameKey (.int .i64 p.1)) = doneV rev st ps left + if matB rev st p then 1 else 0 := by
  unfold doneV
  induction ps with
  | nil => simp at hp
  | cons a l ih =>
    obtain ⟨h1, h2⟩ := asc_cons.1 ha
    rcases List.mem_cons.1 hp with e | hp'
    · subst e
      have hc : (l.filter fun q => !(left (.int .i64 q.1) && !(Lit.int .i64 q.1).sameKey (.int .i64 p.1)) && matB rev st q) = l.filter fun q => !left (.int .i64 q.1) && matB rev st q := by
        apply List.filter_congr
        intro q hq
        have hne : (Lit.int .i64 q.1).sameKey (.int .i64 p.1) = false := by rw [same_int]; have := h1 q hq; simp; omega
        simp [hne]
      have hs : (Lit.int .i64 p.1).sameKey (.int .i64 p.1) = true := by rw [same_int]; simp
      by_cases hm : matB rev st p = true
      · rw [if_pos hm, List.filter_cons_of_pos (by simp [hs, hm]), List.filter_cons_of_neg (by simp [hl]), hc]; simp
      · rw [if_neg hm, List.filter_cons_of_neg (by simp [hm]), List.filter_cons_of_neg (by simp [hm]), hc]; rfl
    · have hlt := h1 p hp'
      have hne : (Lit.int .i64 a.1).sameKey (.int .i64 p.1) = false := by rw [same_int]; simp; omega
      have := ih h2 hp'
      by_cases hk : (!left (.int .i64 a.1) && matB rev st a) = true
      · rw [List.filter_cons_of_pos (by simpa [hne] using hk), List.filter_cons_of_pos (by exact hk), List.length_cons, List.length_cons, this]; omega
      · rw [List.filter_cons_of_neg (by simpa [hne] using hk), List.filter_cons_of_neg (by exact hk), this]
set_option maxRecDepth 100000 in
set_option maxHeartbeats 3200000 in
theorem count_any (cb mb nn : Nat) (ps : PList) (nx rev st : Int) (w : World) (hC : CrewAt w cb mb nn ps nx) (hn : ps.length ≤ 1000) :
    Calls Tryz.prog 147 #[.pointer (some ⟨cb, 0, none⟩), .int .i64 rev, .int .i64 st] w (Says (.int .i64 (cntV rev st ps)) w) := by
  have c0 : w.cell? ⟨cb, 0, none⟩ = some (.map (some mb)) := box_cell hC.box 0 _ rfl
  have HA := Lib.hid hC.asc
  have hown := hC.own
  have hmb := hC.own.lt
  clear hC
  go_enter Tryz.func147, Tryz.ntmps147
  go_wp2_with (first | (at_range; refine wpList_range_own _ rfl _ 217 rfl 3 85 law Tryz.underlying217 _ mb nn (mapOf ps) rfl hown ?_; intro w0 hrg0 hg0 hs0) | go_in)
  go_frame
  have hb0 : Below w.heap.size w w0 := (Below.refl _ _).grown hg0 (Nat.le_refl _) (by intro k h; cases h)
  have hd0 : Hid (((0 : Nat) : Int) = (doneV rev st ps (Maps.has (mapOf ps)) : Nat)) := by rw [done_start]; rfl
  clear c0 hown hg0
  go_loopw [7, 16] (fun q _ wr => ∃ (left : Lit → Bool) (cnt m : Nat), wr.ranges Tryz.prog 3 rdP mb w.heap.size nn (mapOf ps) left cnt ∧ q = .int .i64 (m : Int) ∧ m ≤ 1000 ∧ Hid (m = doneV rev st ps left) ∧ Below w.heap.size w wr ∧ w.heap.size < wr.heap.size) (fun _ _ wr => wr.rangeLeft mb w.heap.size)
  case atStart => exact ⟨_, _, 0, hrg0, rfl, by omega, (done_start rev st ps).symm, hb0, by omega⟩
  case round =>
    obtain ⟨left, cnt, m, hrg, rfl, hm, HM, hbr, hsr⟩ := hrel
    go_wp2_with (first | (at_next; refine wpList_next_pods _ rfl _ rfl mb w.heap.size nn ps left cnt rfl hrg ?_ ?_) | go_in)
    · intro _ hl0
      have HE : Hid (m = cntV rev st ps) := HM.out.trans (done_end rev st ps left hl0)
      go_wp2
      go_ret
      exact ⟨by rw [← HE.out]; rfl, hbr⟩
    · intro x0 x1 x2 x3 x4 w1 cnt1 hp hlk hrg1 hlt hg1 hs1 hen
      have HS := Lib.hid (done_step rev st HA.out hp hlk)
      have hbr1 : Below w.heap.size w w1 := hbr.grown hg1 hbr.size (by intro q hq; cases hq; exact Nat.le_refl _)
      have hs2 : w.heap.size < w1.heap.size := by omega
      have hrgA : (w1.alloc (.cells #[.int .i64 x0, .int .i64 x1, .int .i64 x2, .int .i64 x3, .int .i64 x4] 85)).ranges Tryz.prog 3 rdP mb w.heap.size nn (mapOf ps) (fun z => left z && !z.sameKey (.int .i64 x0)) cnt1 := hrg1.alloc _
      have hbrA : Below w.heap.size w (w1.alloc (.cells #[.int .i64 x0, .int .i64 x1, .int .i64 x2, .int .i64 x3, .int .i64 x4] 85)) := hbr1.alloc (by omega) _
      have hlm : (w1.alloc (.cells #[.int .i64 x0, .int .i64 x1, .int .i64 x2, .int .i64 x3, .int .i64 x4] 85)).rangeLeft mb w.heap.size < wr.rangeLeft mb w.heap.size := by rw [hrgA.left_eq, hrg.left_eq]; exact hlt
      have HRG := Lib.hid hrgA
      have HLM := Lib.hid hlm
      have hd1 := done_le rev st ps (fun z => left z && !z.sameKey (.int .i64 x0))
      have hm2 : doneV rev st ps (fun z => left z && !z.sameKey (.int .i64 x0)) ≤ 1000 := Nat.le_trans hd1 hn
      have HM2 := Lib.hid hm2
      have hmlt : m ≤ 9223372036854775806 := by omega
      clear hg1 hs1 hrg1 hrg hrgA hlm hd1 hm2 hbr1 hbr
      cases h1 : (rev == 0) <;> cases h2 : (x1 == rev) <;> cases h3 : (st == -1) <;> cases h4 : (x2 == st)
      all_goals
        have HB := Lib.hid (mat_of (x0 := x0) (x3 := x3) (x4 := x4) h1 h2 h3 h4)
        have HE := HS.out
        rw [HB.out] at HE
        have HE2 := Lib.hid HE
        clear HE
        go_wp2
        go_roundw
        case rel =>
          first
          | exact ⟨_, _, m, HRG.out, rfl, hm, by have h := HE2.out; simp at h; show _ = _; rw [h]; exact HM.out, hbrA, by simp; omega⟩
          | exact ⟨_, _, m + 1, HRG.out, by go_num, by have h := HE2.out; have h2 := HM2.out; have h3 := HM.out; simp at h; omega, by have h := HE2.out; simp at h; show _ = _; rw [h, HM.out], hbrA, by simp; omega⟩
        case measure => exact HLM.out
set_option maxHeartbeats 1600000 in
theorem countPods_any (A : Option Addr) (n c : Nat) (nx rev st : Int) (ps : PList) (B : Nat) (w : World) (hr : IsPods w B A n ps) (hB : B ≤ w.heap.size) (hn : n ≤ 1048576) :
    Calls Tryz.prog 107 #[.agg #[.slice A n c, .int .i64 nx], .int .i64 rev, .int .i64 st] w (Says (.int .i64 (countV (ps, nx) rev st)) w) := by
  have HR := Lib.hid hr
  clear hr
  go_enter Tryz.func107, Tryz.ntmps107
  go_wp2_with fail
  refine (crewOf_any A n c nx ps B _ (HR.out.below (bel1 _ _) hB) (by simp; omega) hn).mono ?_
  rintro e w2 ⟨r, o, rfl, hb, hg, hC⟩
  have HB := Lib.hid (bel_then (bel1 w _) hb (by simp))
  have HG := Lib.hid hg
  clear hb hg
  cases r
  · have HV : Hid (countV (ps, nx) rev st = -1) := if_neg (fun h => by have := HG.out.2 h; cases this)
    go_wp2
    go_ret
    exact ⟨by rw [HV.out]; rfl, HB.out⟩
  · obtain ⟨cb, mb, rfl, _, _, hC⟩ := hC rfl
    have hgd := HG.out.1 rfl
    have HV : Hid (countV (ps, nx) rev st = cntV rev st ps) := if_pos hgd
    have hl : ps.length ≤ 1000 := by have := hgd.1; omega
    have HC := Lib.hid hC
    clear hC hgd
    go_wp2_with fail
    refine (count_any cb mb 30 ps nx rev st _ HC.out hl).mono ?_
    rintro e w3 ⟨rfl, hb3⟩
    have HB3 := Lib.hid (bel_then HB.out hb3 HB.out.size)
    clear hb3
    go_wp2
    go_ret
    exact ⟨by rw [HV.out]; rfl, HB3.out⟩
set_option maxRecDepth 100000 in
set_option maxHeartbeats 3200000 in
theorem specCountPods_any (A : Option Addr) (n c : Nat) (nx rev st : Int) (ps : PList) (B : Nat) (w : World) (hr : IsPods w B A n ps) (hB : B ≤ w.heap.size) (hn : n ≤ 1048576) :
    Calls Tryz.prog 105 #[.agg #[.slice A n c, .int .i64 nx], .int .i64 rev, .int .i64 st] w (Says (.int .i64 (countV (ps, nx) rev st)) w) := by
  have HL : Hid (ps.length = n) := hr.1
  have HR := Lib.hid hr
  clear hr
  go_enter Tryz.func105, Tryz.ntmps105
  go_wp2_with fail
  refine (FleetSpec.specFleetOk_any A n c nx ps B _ (HR.out.below (bel1 _ _) hB) (by simp; omega) hn).mono ?_
  rintro e w2 ⟨rfl, hb⟩
  have hb2 := bel_then (bel1 w _) hb (by simp)
  have E0 := box_below (box_new w (.cells #[.slice A n c, .int .i64 nx] 34)) hb
  have c0 := box_cell E0 0 _ rfl
  clear hb
  by_cases hg : FGood ps nx
  · have HV : Hid (countV (ps, nx) rev st = cntV rev st ps) := if_pos hg
    rw [decide_eq_true hg]
    have hr2 := HR.out.below hb2 hB
    clear hg E0 HR
    go_wp2_with fail
    go_loop [7, 8] (fun q i => ∃ k m : Nat, k ≤ n ∧ i = .int .i64 k ∧ q = .int .i64 (m : Int) ∧ m ≤ k ∧ Hid (m = cntV rev st (ps.take k))) (fun _ i => n - (RowKit.intOf i).toNat)
    case atStart => exact ⟨0, 0, Nat.zero_le _, rfl, rfl, by omega, by simp [Hid, cntV]⟩
    case round =>
      obtain ⟨k, m, hk, rfl, rfl, hmk, HM⟩ := hrel
      by_cases hlt : k < n
      · obtain ⟨b, off, x0, x1, x2, x3, x4, rfl, hbB, hz, hc0, hc1, hc2, hc3, hc4⟩ := hr2.at_ hlt
        have HS := Lib.hid (cnt_take rev st (ps := ps) (k := k) (by rw [HL.out]; exact hlt))
        rw [hz] at HS
        clear hz
        cases h1 : (rev == 0) <;> cases h2 : (x1 == rev) <;> cases h3 : (st == -1) <;> cases h4 : (x2 == st)
        all_goals
          have HB := Lib.hid (mat_of (x0 := x0) (x3 := x3) (x4 := x4) h1 h2 h3 h4)
          have HE := HS.out
          rw [HB.out] at HE
          have HE2 := Lib.hid HE
          clear HE
          go_wp2
          go_round
          case rel =>
            first
            | exact ⟨k + 1, m, by omega, by go_num, rfl, by omega, by have h := HE2.out; simp at h; show _ = _; rw [h]; exact HM.out⟩
            | exact ⟨k + 1, m + 1, by omega, by go_num, by go_num, by omega, by have h := HE2.out; simp at h; show _ = _; rw [h, HM.out]⟩
          case measure => simp [RowKit.intOf]; omega
      · have HK : Hid (k = n) := (by omega : k = n)
        go_wp2
        go_ret
        have h := HM.out
        rw [List.take_of_length_le (by rw [HL.out, HK.out]; exact Nat.le_refl _)] at h
        exact ⟨by rw [HV.out, ← h]; rfl, hb2⟩
  · have HV : Hid (countV (ps, nx) rev st = -1) := if_neg hg
    rw [decide_eq_false hg]
    have HB := Lib.hid hb2
    clear hg E0 c0 hb2
    go_wp2
    go_ret
    exact ⟨by rw [HV.out]; rfl, HB.out⟩
end Go.Proofs.YtklgjjmcflgjeaaGreat.Crew
