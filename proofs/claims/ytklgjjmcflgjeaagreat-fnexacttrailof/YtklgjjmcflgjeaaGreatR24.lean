import Derived.Lib.BufferMore
import Derived.Test.YtklgjjmcflgjeaaGreatQ
import Derived.Test.YtklgjjmcflgjeaaGreatR14
import Derived.Test.YtklgjjmcflgjeaaGreatR16
import Derived.Test.YtklgjjmcflgjeaaGreatR23
set_option linter.unusedVariables false
set_option linter.unusedSimpArgs false
namespace Go.Proofs.YtklgjjmcflgjeaaGreat.Mach
open Go.ChangeShapes Go.WideShapes Go.ChangeAt Go.RowKit
open LK Pods EngV EngCnt Eng Seg
theorem flat_set4 (ps : PList) (j : Nat) (a : Int) (hj : j < ps.length) : (flat ps).set (j * 5 + 4) (.int .i64 a) = flat (ps.set j ((ps.getD j z5).1, (ps.getD j z5).2.1, (ps.getD j z5).2.2.1, (ps.getD j z5).2.2.2.1, a)) := by
  induction ps generalizing j with
  | nil => simp at hj
  | cons x l ih =>
    cases j with
    | zero => simp [flat_cons, cells5]
    | succ j =>
      have e2 : (j + 1) * 5 + 4 = j * 5 + 4 + 1 + 1 + 1 + 1 + 1 := by omega
      have e : (x :: l).getD (j + 1) z5 = l.getD j z5 := by simp [List.getD]
      rw [e2, e, List.set_cons_succ, flat_cons, flat_cons, ← ih j (by simpa using hj)]
      simp only [cells5, List.cons_append, List.nil_append, List.set_cons_succ]
theorem own_set4 {w : World} {base g n cap j : Nat} {ps : PList} (h : OwnP w base (some ⟨g, 0, none⟩) n cap ps) (hj : j < n) (a : Int) :
    OwnP (w.setCell ⟨g, j * 5 + 4, none⟩ (.int .i64 a)) base (some ⟨g, 0, none⟩) n cap (ps.set j ((ps.getD j z5).1, (ps.getD j z5).2.1, (ps.getD j z5).2.2.1, (ps.getD j z5).2.2.2.1, a)) := by
  refine ⟨by simpa using h.1, ?_⟩
  rw [← flat_set4 ps j a (by rw [h.1]; exact hj)]
  exact (h.2.stored (j * 5 + 4) (.int .i64 a)).1
def Tail (w : World) (g k n : Nat) (ps : PList) : Prop := (∃ cs f, w.heap[g]? = some (.cells cs 85 f)) ∧ ∀ j i, k ≤ j → j < n → i < 5 → w.cell? ⟨g, j * 5 + i, none⟩ = (cells5 (ps.getD j z5))[i]?
theorem Tail.of {w : World} {lo g n c : Nat} {ps : PList} (h : OwnP w lo (some ⟨g, 0, none⟩) n c ps) (hn : 0 < n) : Tail w g 0 n ps := by
  refine ⟨?_, fun j i _ hj hi => ?_⟩
  · rcases h.2.2 with ⟨h1, _⟩ | ⟨g', cap, cur, h1, hb, hg, _⟩
    · cases h1
    · have e : g = g' := by injection h1 with h1 _ _; injection h1 with h1; injection h1
      subst e
      exact ⟨_, _, hg⟩
  · rw [h.2.cellAt (j * 5 + i) (by omega), flat_at ps j i (by rw [h.1]; exact hj) hi]
theorem Tail.same {w w' : World} {g k n : Nat} {ps : PList} (h : Tail w g k n ps) (e : w'.heap[g]? = w.heap[g]?) : Tail w' g k n ps := by
  obtain ⟨⟨cs, f, h1⟩, h2⟩ := h
  refine ⟨⟨cs, f, e.trans h1⟩, fun j i a b c => ?_⟩
  have h3 := h2 j i a b c
  simp only [World.cell?, e] at h3 ⊢
  exact h3
theorem Tail.below {w w' : World} {g k n : Nat} {ps : PList} (h : Tail w g k n ps) (hb : Below w.heap.size w w') : Tail w' g k n ps := h.same (hb.block g (by obtain ⟨⟨cs, f, h1⟩, _⟩ := h; exact box_lt h1))
theorem Tail.kept {w w' : World} {g k n : Nat} {ps : PList} (h : Tail w g k n ps) (hb : Kept w w') : Tail w' g k n ps := h.same (by obtain ⟨⟨cs, f, h1⟩, _⟩ := h; rw [h1, hb _ _ _ h1])
theorem Tail.next {w : World} {g k n : Nat} {ps : PList} (h : Tail w g k n ps) : Tail w g (k + 1) n ps := ⟨h.1, fun j i a b c => h.2 j i (by omega) b c⟩
theorem Tail.set {w : World} {g k n : Nat} {ps : PList} (h : Tail w g k n ps) (g' : Nat) (v : Value) : Tail (w.setCell ⟨g', k * 5 + 4, none⟩ v) g (k + 1) n ps := by
  by_cases e : g = g'
  · subst e
    obtain ⟨⟨cs, f, h1⟩, h2⟩ := h
    refine ⟨⟨_, f, Go.Lib.heap_setCell_same h1 v⟩, fun j i a b c => ?_⟩
    rw [World.cell?_setCell_other]
    · exact h2 j i (by omega) b c
    · intro h
      injection h with _ h _
      omega
  · exact h.next.same (Below.heap_setCell w _ v g e)
def stuR (r : Run) (k : Nat) : Run := ⟨{ r.e with ps := (r.e.ps.take k).map (stuP r.e.sp r.e.now) ++ r.e.ps.drop k }, r.ev ++ stuE r.e.sp r.e.now (r.e.ps.take k)⟩
theorem stu_zero (r : Run) : stuR r 0 = r := by simp [stuR, stuE]
theorem stu_all (r : Run) {k : Nat} (h : r.e.ps.length ≤ k) : stuR r k = r.tellStuck := by simp [stuR, Run.tellStuck, List.take_of_length_le h, List.drop_of_length_le h]
theorem stu_len (r : Run) (k : Nat) : (stuR r k).e.ps.length = r.e.ps.length := by simp [stuR]; omega
theorem stu_get (r : Run) {k : Nat} (h : k < r.e.ps.length) : (stuR r k).e.ps.getD k z5 = r.e.ps.getD k z5 := by
  have hl : ((r.e.ps.take k).map (stuP r.e.sp r.e.now)).length = k := by simp; omega
  show (((r.e.ps.take k).map (stuP r.e.sp r.e.now)) ++ r.e.ps.drop k).getD k z5 = _
  rw [List.getD, List.getElem?_append_right (by omega), hl, List.getElem?_drop]
  simp [List.getD]
theorem stu_no (r : Run) {k : Nat} (h : k < r.e.ps.length) (hs : stuB r.e.sp r.e.now (r.e.ps.getD k z5) = false) : stuR r (k + 1) = stuR r k := by
  obtain ⟨p, hp⟩ : ∃ p, p = r.e.ps.getD k z5 := ⟨_, rfl⟩
  rw [← hp] at hs
  have e : r.e.ps[k] = p := by rw [hp]; simp [List.getD, h]
  have h1 : r.e.ps.take (k + 1) = r.e.ps.take k ++ [p] := by rw [← e]; simp
  have h2 : r.e.ps.drop k = p :: r.e.ps.drop (k + 1) := by rw [← e]; exact List.drop_eq_getElem_cons h
  have hP : (r.e.ps.take (k + 1)).map (stuP r.e.sp r.e.now) ++ r.e.ps.drop (k + 1) = (r.e.ps.take k).map (stuP r.e.sp r.e.now) ++ r.e.ps.drop k := by
    have h3 : stuP r.e.sp r.e.now p = p := by simp [stuP, hs]
    rw [h1, h2, List.map_append, List.map_cons, List.map_nil, h3, List.append_assoc]
    rfl
  have hE : stuE r.e.sp r.e.now (r.e.ps.take (k + 1)) = stuE r.e.sp r.e.now (r.e.ps.take k) := by
    have h3 : List.filter (stuB r.e.sp r.e.now) [p] = [] := by simp [hs]
    unfold stuE
    rw [h1, List.filter_append, h3, List.append_nil]
  unfold stuR
  rw [hP, hE]
theorem stu_yes (r : Run) {k : Nat} (h : k < r.e.ps.length) {p : Pd} (hp : r.e.ps.getD k z5 = p) (hs : stuB r.e.sp r.e.now p = true) :
    stuR r (k + 1) = (⟨{ (stuR r k).e with ps := (stuR r k).e.ps.set k (p.1, p.2.1, p.2.2.1, p.2.2.2.1, r.e.now) }, (stuR r k).ev⟩ : Run).tell 1 p.1 p.2.1 := by
  have e : r.e.ps[k] = p := by rw [← hp]; simp [List.getD, h]
  have h1 : r.e.ps.take (k + 1) = r.e.ps.take k ++ [p] := by rw [← e]; simp
  have h2 : r.e.ps.drop k = p :: r.e.ps.drop (k + 1) := by rw [← e]; exact List.drop_eq_getElem_cons h
  have hl : ((r.e.ps.take k).map (stuP r.e.sp r.e.now)).length = k := by simp; omega
  have hP : (r.e.ps.take (k + 1)).map (stuP r.e.sp r.e.now) ++ r.e.ps.drop (k + 1) = ((r.e.ps.take k).map (stuP r.e.sp r.e.now) ++ r.e.ps.drop k).set k (p.1, p.2.1, p.2.2.1, p.2.2.2.1, r.e.now) := by
    have h3 : stuP r.e.sp r.e.now p = (p.1, p.2.1, p.2.2.1, p.2.2.2.1, r.e.now) := by simp [stuP, hs]
    rw [h1, h2, List.map_append, List.map_cons, List.map_nil, h3, List.append_assoc, List.set_append_right _ _ (by omega), hl, Nat.sub_self, List.set_cons_zero]
    rfl
  have hE : r.ev ++ stuE r.e.sp r.e.now (r.e.ps.take (k + 1)) = (r.ev ++ stuE r.e.sp r.e.now (r.e.ps.take k)) ++ [(1, p.1, p.2.1)] := by
    have h3 : List.filter (stuB r.e.sp r.e.now) [p] = [p] := by simp [hs]
    unfold stuE
    rw [h1, List.filter_append, h3, List.map_append, List.append_assoc]
    rfl
  unfold stuR Run.tell
  rw [hP, hE]
theorem stu_ev (r : Run) (k : Nat) : (stuR r k).ev.length ≤ r.ev.length + k := by
  simp only [stuR, stuE, List.length_append, List.length_map]
  have h1 := List.length_filter_le (stuB r.e.sp r.e.now) (r.e.ps.take k)
  have h2 : (r.e.ps.take k).length ≤ k := by simp; omega
  omega
def AmidT (w : World) (S : Nat → Prop) (b : Nat) (lk ot : Int) (q : Run) (wr : World) : Prop := ∃ S' : Nat → Prop, Mach wr S' b lk ot q ∧ (∀ k, S' k → S k ∨ w.heap.size ≤ k) ∧ Turned S w wr
theorem turned_then {S S' : Nat → Prop} {w v v' : World} (hS : ∀ q, S' q → S q ∨ w.heap.size ≤ q) (ht : Turned S w v) (h2 : Turned S' v v') : Turned S w v' :=
  ⟨h2.os.trans ht.os, h2.tape.trans ht.tape, h2.output.trans ht.output, Nat.le_trans ht.size h2.size, fun q hq hn => (h2.block q (Nat.lt_of_lt_of_le hq ht.size) (fun h3 => by rcases hS q h3 with h4 | h4; exact hn h4; omega)).trans (ht.block q hq hn)⟩
theorem AmidT.call {w wr w' : World} {S S' : Nat → Prop} {b : Nat} {lk2 ot2 : Int} {q' : Run} {res : Value} {e : Ending} (h2 : ∀ k, S' k → S k ∨ w.heap.size ≤ k) (h3 : Turned S w wr) (hm : Moved b lk2 ot2 q' res S' wr e w') : e = .returned res ∧ AmidT w S b lk2 ot2 q' w' ∧ Kept wr w' := by
  obtain ⟨he, S2, ha, hb, hc, hd⟩ := hm
  refine ⟨he, ⟨S2, ha, fun k hk => ?_, turned_then h2 h3 hc⟩, hd⟩
  rcases hb k hk with h | h
  · exact h2 k h
  · exact .inr (Nat.le_trans h3.size h)
set_option maxRecDepth 100000 in
set_option maxHeartbeats 12800000 in
theorem tellStuck_any (w : World) (S : Nat → Prop) (b : Nat) (lk ot : Int) (r : Run) (h : Mach w S b lk ot r) (hev : r.ev.length ≤ 900000) (hn : r.e.ps.length ≤ 1000) :
    Calls Tryz.prog 228 #[.pointer (some ⟨b, 0, none⟩)] w (fun e w' => e = .returned (.tuple #[]) ∧ AmidT w S b lk ot r.tellStuck w') := by
  have HA0 : Hid (AmidT w S b lk ot (stuR r 0) w) := by rw [stu_zero]; exact ⟨S, h, fun _ h => .inl h, Turned.of_below (Below.refl _ _)⟩
  obtain ⟨A, n, c, E, m0, k0, h⟩ := h
  have HN : Hid (r.e.ps.length = n) := h.ps.1
  have hn1 : n ≤ 1000 := by rw [← HN.out]; exact hn
  have HT0 : Hid (∀ g, A = some ⟨g, 0, none⟩ → 0 < n → Tail w g 0 n r.e.ps) := fun g hg hn => by
    have h2 := h.ps
    rw [hg] at h2
    exact Tail.of h2 hn
  have HF : Hid (0 < n → ∃ g, A = some ⟨g, 0, none⟩) := fun hn => by
    obtain ⟨g, h1, _⟩ := h.ps.at0 hn
    exact ⟨g, h1⟩
  have H := Lib.hid h
  have HEV := Lib.hid hev
  clear h hev hn
  go_enter Tryz.func228, Tryz.ntmps228
  have c17 : w.cell? ⟨b, 17, none⟩ = some (.slice A n c) := box_cell H.out.box 17 _ rfl
  go_wp2_with fail
  clear c17
  go_loopw [11] (fun i wr => ∃ k : Nat, k ≤ n ∧ i = .int .i64 k ∧ Hid (AmidT w S b lk ot (stuR r k) wr) ∧ Hid (∀ g, A = some ⟨g, 0, none⟩ → 0 < n → Tail wr g k n r.e.ps)) (fun i _ => n - (RowKit.intOf i).toNat)
  case atStart => exact ⟨0, Nat.zero_le _, rfl, HA0, HT0⟩
  case round =>
    obtain ⟨k, hk, rfl, HA, HT⟩ := hrel
    clear HA0 HT0 H
    by_cases hlt : k < n
    case neg =>
      have HK : Hid (n ≤ k) := (by omega : n ≤ k)
      go_wp2
      go_end0
      rw [← stu_all r (k := k) (by rw [HN.out]; exact HK.out)]
      exact ⟨rfl, HA.out⟩
    obtain ⟨g, hA⟩ := HF.out (by omega)
    have HTA := Lib.hid (HT.out g hA (by omega))
    have HAg := Lib.hid hA
    clear HT
    obtain ⟨off, ho⟩ : ∃ off, off = 0 := ⟨_, rfl⟩
    rw [← ho] at hA
    have HO := Lib.hid ho
    obtain ⟨y0, y1, y2, y3, y4, hy⟩ : ∃ y0 y1 y2 y3 y4, r.e.ps.getD k z5 = (y0, y1, y2, y3, y4) := ⟨_, _, _, _, _, rfl⟩
    have hc0 : wr.cell? ⟨g, off + k * 5, none⟩ = some (.int .i64 y0) := by have h := HTA.out.2 k 0 (Nat.le_refl _) hlt (by omega); rw [hy] at h; rw [ho, Nat.zero_add]; exact h
    have hc1 : wr.cell? ⟨g, off + k * 5 + 1, none⟩ = some (.int .i64 y1) := by have h := HTA.out.2 k 1 (Nat.le_refl _) hlt (by omega); rw [hy] at h; rw [ho, Nat.zero_add]; exact h
    have hc2 : wr.cell? ⟨g, off + k * 5 + 2, none⟩ = some (.int .i64 y2) := by have h := HTA.out.2 k 2 (Nat.le_refl _) hlt (by omega); rw [hy] at h; rw [ho, Nat.zero_add]; exact h
    have hc3 : wr.cell? ⟨g, off + k * 5 + 3, none⟩ = some (.int .i64 y3) := by have h := HTA.out.2 k 3 (Nat.le_refl _) hlt (by omega); rw [hy] at h; rw [ho, Nat.zero_add]; exact h
    have hc4 : wr.cell? ⟨g, off + k * 5 + 4, none⟩ = some (.int .i64 y4) := by have h := HTA.out.2 k 4 (Nat.le_refl _) hlt (by omega); rw [hy] at h; rw [ho, Nat.zero_add]; exact h
    have HY := Lib.hid hy
    clear hy ho
    subst hA
    obtain ⟨S1, hm1, hs1, ht1⟩ := HA.out
    have HS1 := Lib.hid hs1
    have HT1 := Lib.hid ht1
    obtain ⟨A1, n1, c1, E1, m1, k1, h1⟩ := hm1
    have HM1 := Lib.hid h1
    have KP : Hid ((wr.alloc (.cells #[.int .i64 y0, .int .i64 y1, .int .i64 y2, .int .i64 y3, .int .i64 y4] 85)).heap[wr.heap.size]? = some (.cells [.int .i64 y0, .int .i64 y1, .int .i64 y2, .int .i64 y3, .int .i64 y4].toArray 85 (0, 0))) := box_new wr _
    have HBA : Hid (Below wr.heap.size wr (wr.alloc (.cells #[.int .i64 y0, .int .i64 y1, .int .i64 y2, .int .i64 y3, .int .i64 y4] 85))) := bel1 _ _
    have hbr : b < wr.heap.size := h1.lt
    have HGA : Hid (∀ q, (Value.slice A1 n1 c1).ownBlock = some q → q < wr.heap.size) := fun q hq => (h1.ps.lt q hq).2
    clear h1 hs1 ht1
    go_upto_region 3 with fail
    obtain ⟨V, hV⟩ : ∃ V, V = wr.alloc (.cells #[.int .i64 y0, .int .i64 y1, .int .i64 y2, .int .i64 y3, .int .i64 y4] 85) := ⟨_, rfl⟩
    rw [← hV] at KP HBA
    rw [← hV]
    clear hV hc0 hc1 hc2 hc3 hc4
    have HM2 := Lib.hid (HM1.out.below HBA.out)
    have HT2 : Hid (Turned S w V) := HT1.out.trans (Turned.of_below HBA.out)
    have HTB := Lib.hid (HTA.out.below HBA.out)
    have hpv : wr.heap.size < V.heap.size := box_lt KP.out
    clear HM1 HT1 HTA HBA HA
    have c13 : V.cell? ⟨b, 13, none⟩ = some (.int .i64 r.e.now) := box_cell HM2.out.box 13 _ rfl
    have c9 : V.cell? ⟨b, 9, none⟩ = some (.int .i64 r.e.sp.x7) := box_cell HM2.out.box 9 _ rfl
    have p0 : V.cell? ⟨wr.heap.size, 0, none⟩ = some (.int .i64 y0) := box_cell KP.out 0 _ rfl
    have p1 : V.cell? ⟨wr.heap.size, 1, none⟩ = some (.int .i64 y1) := box_cell KP.out 1 _ rfl
    have p2 : V.cell? ⟨wr.heap.size, 2, none⟩ = some (.int .i64 y2) := box_cell KP.out 2 _ rfl
    have p4 : V.cell? ⟨wr.heap.size, 4, none⟩ = some (.int .i64 y4) := box_cell KP.out 4 _ rfl
    have hbd : Below V.heap.size V V.drew := undrew (Below.refl _ _)
    have HM3 : Hid (MachAt V.drew S1 b lk ot (stuR r k) A1 n1 c1 E1 m1 k1) := HM2.out.below hbd
    have HT3 : Hid (Turned S w V.drew) := HT2.out.trans (Turned.of_below hbd)
    have HTC : Hid (Tail V.drew g k n r.e.ps) := HTB.out.below hbd
    clear hbd
    have hst : stuB r.e.sp r.e.now (y0, y1, y2, y3, y4) = (decide (y2 = 4) && decide (r.e.sp.x7 ≤ Tick.sinceV y4 r.e.now)) := rfl
    have HST := Lib.hid hst
    clear hst HM2 HT2 HTB
    cases hq : (y2 == 4)
    · refine wp_region_held_drew (S := fun w' => w'.cell? ⟨wr.heap.size, 2, none⟩ = some (.int .i64 y2)) (by kernel_rfl) p2 (fun hHeld => ?_)
      refine tkk (i := 0) rfl ?_
      try simp only [Act.put, pj]
      refine tkk (i := 1) rfl ?_
      try simp only [Act.put, pj]
      refine tkk (i := 2) rfl ?_
      try simp only [Act.put, pj]
      refine tkk (i := 3) rfl ?_
      try simp only [Act.put, pj]
      refine tkj (i := 4) (v := undef) rfl (Or.inr ⟨by rfl, rfl⟩) ?_
      try simp only [Act.put, pj]
      refine tkj (i := 5) (v := undef) rfl (Or.inr ⟨by rfl, rfl⟩) ?_
      try simp only [Act.put, pj]
      refine tkj (i := 6) (v := undef) rfl (Or.inr ⟨by rfl, rfl⟩) ?_
      try simp only [Act.put, pj]
      refine tkj (i := 7) (v := undef) rfl (Or.inr ⟨by rfl, rfl⟩) ?_
      try simp only [Act.put, pj]
      refine tkj (i := 8) (v := undef) rfl (Or.inr ⟨by rfl, rfl⟩) ?_
      try simp only [Act.put, pj]
      refine tkj (i := 9) (v := undef) rfl (Or.inr ⟨by rfl, rfl⟩) ?_
      try simp only [Act.put, pj]
      refine tkj (i := 10) (v := undef) rfl (Or.inr ⟨by rfl, rfl⟩) ?_
      try simp only [Act.put, pj]
      refine tkj (i := 11) (v := undef) rfl (Or.inr ⟨by rfl, rfl⟩) ?_
      try simp only [Act.put, pj]
      refine tkj (i := 12) (v := undef) rfl (Or.inr ⟨by rfl, rfl⟩) ?_
      try simp only [Act.put, pj]
      refine tkj (i := 13) (v := undef) rfl (Or.inr ⟨by rfl, rfl⟩) ?_
      try simp only [Act.put, pj]
      refine tkj (i := 14) (v := undef) rfl (Or.inr ⟨by rfl, rfl⟩) ?_
      try simp only [Act.put, pj]
      refine tkj (i := 15) (v := undef) rfl (Or.inr ⟨by rfl, rfl⟩) ?_
      try simp only [Act.put, pj]
      refine tkj (i := 16) (v := undef) rfl (Or.inr ⟨by rfl, rfl⟩) ?_
      try simp only [Act.put, pj]
      refine tkj (i := 17) (v := undef) rfl (Or.inr ⟨by rfl, rfl⟩) ?_
      try simp only [Act.put, pj]
      refine tkj (i := 18) (v := undef) rfl (Or.inr ⟨by rfl, rfl⟩) ?_
      try simp only [Act.put, pj]
      refine tkk (i := 19) rfl ?_
      try simp only [Act.put, pj]
      refine wpAnyH_done (by kernel_rfl) ?_ _
      have hne : ¬ y2 = 4 := by intro h; rw [h] at hq; exact absurd hq (by decide)
      have HS5 : Hid (stuR r (k + 1) = stuR r k) := stu_no r (by rw [HN.out]; exact hlt) (by rw [HY.out, HST.out]; simp [hne])
      have HA5 : Hid (AmidT w S b lk ot (stuR r (k + 1)) V.drew) := by rw [HS5.out]; exact ⟨S1, ⟨_, _, _, _, _, _, HM3.out⟩, HS1.out, HT3.out⟩
      have HT5 : Hid (∀ g', some (⟨g, off, none⟩ : Addr) = some ⟨g', 0, none⟩ → 0 < n → Tail V.drew g' (k + 1) n r.e.ps) := fun g' h _ => by injection h with h; injection h with h _ _; rw [← h]; exact HTC.out.next
      clear hHeld hne HS5 HM3 HT3 HTC HST HY c13 c9 p0 p1 p2 p4 KP hq
      go_wp2
      go_roundw
      case rel => exact ⟨k + 1, by omega, by go_num, HA5, HT5⟩
      case measure => simp [RowKit.intOf]; omega
    refine wp_region_held_drew (S := fun w' => w'.cell? ⟨wr.heap.size, 2, none⟩ = some (.int .i64 y2) ∧ w'.cell? ⟨wr.heap.size, 4, none⟩ = some (.int .i64 y4) ∧ w'.cell? ⟨b, 13, none⟩ = some (.int .i64 r.e.now) ∧ w'.cell? ⟨b, 9, none⟩ = some (.int .i64 r.e.sp.x7)) (by kernel_rfl) ⟨p2, p4, c13, c9⟩ (fun hHeld => ?_)
    refine tkk (i := 0) rfl ?_
    try simp only [Act.put, pj]
    refine tkk (i := 1) rfl ?_
    try simp only [Act.put, pj]
    refine tkk (i := 2) rfl ?_
    try simp only [Act.put, pj]
    refine tkk (i := 3) rfl ?_
    try simp only [Act.put, pj]
    refine tkk (i := 4) rfl ?_
    try simp only [Act.put, pj]
    refine tkk (i := 5) rfl ?_
    try simp only [Act.put, pj]
    refine tkk (i := 6) rfl ?_
    try simp only [Act.put, pj]
    refine tkk (i := 7) rfl ?_
    try simp only [Act.put, pj]
    refine tkk (i := 8) rfl ?_
    try simp only [Act.put, pj]
    refine tkk (i := 9) rfl ?_
    try simp only [Act.put, pj]
    refine tkk (i := 10) rfl ?_
    try simp only [Act.put, pj]
    refine tkk (i := 12) rfl ?_
    try simp only [Act.put, pj]
    refine tkk (i := 13) rfl ?_
    try simp only [Act.put, pj]
    refine tkk (i := 14) rfl ?_
    try simp only [Act.put, pj]
    refine tkk (i := 15) rfl ?_
    try simp only [Act.put, pj]
    refine tkk (i := 16) rfl ?_
    try simp only [Act.put, pj]
    refine tkk (i := 17) rfl ?_
    try simp only [Act.put, pj]
    refine wpAnyH_ready (rs := [11]) (by kernel_rfl) (by simp) (AllReadyH.cons rfl (fun K hK => ?_) AllReadyH.nil)
    go_simp
    refine (Tick.sinceI_any y4 r.e.now _).mono ?_
    rintro e w1 ⟨rfl, rfl⟩
    obtain ⟨z, hz⟩ : ∃ z, z = Tick.sinceV y4 r.e.now := ⟨_, rfl⟩
    rw [← hz]
    rw [← hz] at HST
    clear hz
    obtain ⟨q2, hq2⟩ : ∃ q2, decide (r.e.sp.x7 ≤ z) = q2 := ⟨_, rfl⟩
    refine hK _ _ (by exact hHeld) (fun hHeld => ?_)
    clear hK K
    try simp only [Act.put, pj]
    refine tkk (i := 18) rfl ?_
    try simp only [Act.put, pj]
    refine tkk (i := 19) rfl ?_
    try simp only [Act.put, pj]
    refine wpAnyH_done (by kernel_rfl) ?_ _
    clear hHeld
    have he4 : y2 = 4 := eq_of_beq hq
    have HS5 : Hid (stuB r.e.sp r.e.now (y0, y1, y2, y3, y4) = q2) := by show _ = _; rw [HST.out, hq2]; simp [he4]
    clear HST he4 hq
    cases q2
    · have HS6 : Hid (stuR r (k + 1) = stuR r k) := stu_no r (by rw [HN.out]; exact hlt) (by rw [HY.out]; exact HS5.out)
      have HA5 : Hid (AmidT w S b lk ot (stuR r (k + 1)) V.drew) := by rw [HS6.out]; exact ⟨S1, ⟨_, _, _, _, _, _, HM3.out⟩, HS1.out, HT3.out⟩
      have HT5 : Hid (∀ g', some (⟨g, off, none⟩ : Addr) = some ⟨g', 0, none⟩ → 0 < n → Tail V.drew g' (k + 1) n r.e.ps) := fun g' h _ => by injection h with h; injection h with h _ _; rw [← h]; exact HTC.out.next
      clear HS5 HS6 HM3 HT3 HTC HY c13 c9 p0 p1 p2 p4 KP hq2
      go_wp2
      go_roundw
      case rel => exact ⟨k + 1, by omega, by go_num, HA5, HT5⟩
      case measure => simp [RowKit.intOf]; omega
    clear hq2 c13 c9 p2 p4
    have HPV : Hid (V.drew.heap[wr.heap.size]? = some (.cells [.int .i64 y0, .int .i64 y1, .int .i64 y2, .int .i64 y3, .int .i64 y4].toArray 85 (0, 0))) := KP.out
    obtain ⟨U, hU⟩ : ∃ U, U = V.drew := ⟨_, rfl⟩
    rw [← hU] at HM3 HT3 HTC HPV
    rw [← hU]
    clear hU KP p0 p1 hpv
    have hn1k : k < n1 := by have h := HM3.out.ps.1; rw [stu_len, HN.out] at h; omega
    obtain ⟨g1, hA1, _, hg1⟩ := HM3.out.ps.at0 (by omega)
    have hnb : g1 ≠ b := HM3.out.nea g1 (by rw [hA1]; rfl)
    have hnp : wr.heap.size ≠ g1 := by
      have h := HGA.out g1 (by rw [hA1]; rfl)
      omega
    clear HGA hg1
    have hne : ∀ q, (Value.slice E1 m1 k1).ownBlock = some q → q ≠ g1 := fun q hq he => by
      have h := HM3.out.nae g1 (by rw [hA1]; rfl)
      rw [he] at hq
      exact h hq
    have HNE := Lib.hid hne
    have hsg : S1 g1 := HM3.out.sa g1 (by rw [hA1]; rfl)
    clear hne
    have hgy : (stuR r k).e.ps.getD k z5 = (y0, y1, y2, y3, y4) := by rw [stu_get r (by rw [HN.out]; exact hlt)]; exact HY.out
    have HGY := Lib.hid hgy
    clear hgy
    subst hA1
    have HOP := Lib.hid HM3.out.ps
    have hd4 : U.cell? ⟨g1, k * 5 + 4, none⟩ = some (.int .i64 y4) := by
      rw [HOP.out.2.cellAt (k * 5 + 4) (by omega), flat_at _ k 4 (by rw [HOP.out.1]; exact hn1k) (by omega), HGY.out]
      rfl
    have hz4 : U.frozen? ⟨g1, k * 5 + 4, none⟩ = false := HOP.out.2.frozenAt _
    have c17 : U.cell? ⟨b, 17, none⟩ = some (.slice (some ⟨g1, 0, none⟩) n1 c1) := box_cell HM3.out.box 17 _ rfl
    have c13 : U.cell? ⟨b, 13, none⟩ = some (.int .i64 r.e.now) := box_cell HM3.out.box 13 _ rfl
    obtain ⟨Q, hQ⟩ : ∃ Q : Run, Q = ⟨{ (stuR r k).e with ps := (stuR r k).e.ps.set k (y0, y1, y2, y3, r.e.now) }, (stuR r k).ev⟩ := ⟨_, rfl⟩
    have HSY : Hid (stuR r (k + 1) = Q.tell 1 y0 y1) := by rw [hQ]; exact stu_yes r (by rw [HN.out]; exact hlt) HY.out HS5.out
    have HMQ : Hid (MachAt (U.drew.setCell ⟨g1, k * 5 + 4, none⟩ (.int .i64 r.e.now)) S1 b lk ot Q (some ⟨g1, 0, none⟩) n1 c1 E1 m1 k1) := by
      have h4 := own_set4 HOP.out hn1k r.e.now
      rw [HGY.out] at h4
      refine ⟨?_, ?_, ?_, HM3.out.sb, HM3.out.sa, HM3.out.se⟩
      · rw [hQ]; exact box_other HM3.out.box _ _ (Ne.symm hnb)
      · rw [hQ]; exact h4
      · rw [hQ]; exact HM3.out.ev.same fun q hq => Below.heap_setCell _ _ _ q (HNE.out q hq)
    have HTQ : Hid (Turned S w (U.drew.setCell ⟨g1, k * 5 + 4, none⟩ (.int .i64 r.e.now))) := turned_then HS1.out (show Turned S w U.drew from HT3.out.trans (Turned.of_below (undrew (Below.refl _ _)))) (Turned.set U.drew ⟨g1, k * 5 + 4, none⟩ _ hsg)
    have HTL : Hid (Tail (U.drew.setCell ⟨g1, k * 5 + 4, none⟩ (.int .i64 r.e.now)) g (k + 1) n r.e.ps) := Tail.set (w := U.drew) HTC.out g1 _
    have HPQ : Hid ((U.drew.setCell ⟨g1, k * 5 + 4, none⟩ (.int .i64 r.e.now)).heap[wr.heap.size]? = some (.cells [.int .i64 y0, .int .i64 y1, .int .i64 y2, .int .i64 y3, .int .i64 y4].toArray 85 (0, 0))) := box_other (w := U.drew) HPV.out _ _ hnp
    have HQE : Hid (Q.ev.length ≤ 1000000) := by show _ ≤ _; rw [hQ]; have h1 := stu_ev r k; have h2 := HEV.out; show (stuR r k).ev.length ≤ _; omega
    have HQN : Hid (Q.e.now = r.e.now) := by show _ = _; rw [hQ]; rfl
    clear hQ HM3 HT3 HTC HPV HOP HNE HGY HY HS5
    go_wp2_with fail
    refine wp_region_held_drew (S := fun w' => w'.cell? ⟨b, 17, none⟩ = some (.slice (some ⟨g1, 0, none⟩) n1 c1) ∧ w'.cell? ⟨b, 13, none⟩ = some (.int .i64 r.e.now)) (by kernel_rfl) ⟨c17, c13⟩ (fun hHeld => ?_)
    refine tkk (i := 0) rfl ?_
    try simp only [Act.put, pj]
    refine tkk (i := 1) rfl ?_
    try simp only [Act.put, pj]
    refine tkk (i := 2) rfl ?_
    try simp only [Act.put, pj]
    refine tkk (i := 3) rfl ?_
    try simp only [Act.put, pj]
    refine tkk (i := 4) rfl ?_
    try simp only [Act.put, pj]
    refine tkk (i := 5) rfl ?_
    try simp only [Act.put, pj]
    refine tkk (i := 6) rfl ?_
    try simp only [Act.put, pj]
    refine tkk (i := 7) rfl ?_
    try simp only [Act.put, pj]
    refine tkk (i := 8) rfl ?_
    try simp only [Act.put, pj]
    refine tkk (i := 9) rfl ?_
    try simp only [Act.put, pj]
    refine tkk (i := 10) rfl ?_
    try simp only [Act.put, pj]
    refine tkk (i := 11) rfl ?_
    try simp only [Act.put, pj]
    refine tkk (i := 12) rfl ?_
    try simp only [Act.put, pj]
    refine tkk (i := 13) rfl ?_
    try simp only [Act.put, pj]
    refine wpAnyH_ready (rs := [14]) (by kernel_rfl) (by simp) (AllReadyH.cons rfl (fun K hK => ?_) AllReadyH.nil)
    have hd4' : U.drew.cell? ⟨g1, k * 5 + 4, none⟩ = some (.int .i64 y4) := hd4
    have hz4' : U.drew.frozen? ⟨g1, k * 5 + 4, none⟩ = false := hz4
    go_simp
    obtain ⟨W, hW⟩ : ∃ W, W = U.drew.setCell ⟨g1, k * 5 + 4, none⟩ (.int .i64 r.e.now) := ⟨_, rfl⟩
    rw [← hW] at HMQ HTQ HTL HPQ
    rw [show (U.setCell ⟨g1, k * 5 + 4, none⟩ (.int .i64 r.e.now)).drew = W from hW.symm]
    refine hK _ _ (by exact ⟨box_cell HMQ.out.box 17 _ rfl, by rw [← HQN.out]; exact box_cell HMQ.out.box 13 _ rfl⟩) (fun hHeld => ?_)
    clear hK K
    refine wpAnyH_done (by kernel_rfl) ?_ _
    clear hHeld hW hd4 hd4' hz4 hz4' c17 c13
    have e0 : W.cell? ⟨wr.heap.size, 0, none⟩ = some (.int .i64 y0) := box_cell HPQ.out 0 _ rfl
    have e1 : W.cell? ⟨wr.heap.size, 1, none⟩ = some (.int .i64 y1) := box_cell HPQ.out 1 _ rfl
    go_wp2_with fail
    refine (tell_any W S1 b lk ot Q 1 y0 y1 ⟨_, _, _, _, _, _, HMQ.out⟩ HQE.out).mono ?_
    intro e w5 hmv
    obtain ⟨rfl, ha, hkp⟩ := AmidT.call HS1.out HTQ.out hmv
    rw [← HSY.out] at ha
    have HA5 := Lib.hid ha
    have HT5 : Hid (∀ g', some (⟨g, off, none⟩ : Addr) = some ⟨g', 0, none⟩ → 0 < n → Tail w5 g' (k + 1) n r.e.ps) := fun g' h _ => by injection h with h; injection h with h _ _; rw [← h]; exact HTL.out.kept hkp
    clear hmv ha hkp e0 e1 HMQ HTQ HTL HPQ HQE HSY
    go_wp2
    go_roundw
    case rel => exact ⟨k + 1, by omega, by go_num, HA5, HT5⟩
    case measure => simp [RowKit.intOf]; omega
end Go.Proofs.YtklgjjmcflgjeaaGreat.Mach
namespace Go.Proofs.YtklgjjmcflgjeaaGreat.Mach
open Go.ChangeShapes Go.WideShapes Go.ChangeAt Go.RowKit
open LK Pods EngV Eng Seg
set_option maxRecDepth 100000 in
set_option maxHeartbeats 6400000 in
theorem fault_any (w : World) (S : Nat → Prop) (b : Nat) (lk ot : Int) (r : Run) (h : Mach w S b lk ot r) :
    Calls Tryz.prog 246 #[.pointer (some ⟨b, 0, none⟩)] w (Says (.int .i64 (faultV r.e)) w) := by
  obtain ⟨A, n, c, E, m, k, h⟩ := h
  have H := Lib.hid h
  clear h
  obtain ⟨R, hR⟩ : ∃ R, R = faultV r.e := ⟨_, rfl⟩
  rw [← hR]
  have HR := Lib.hid hR
  clear hR
  obtain ⟨q1, hq1⟩ : ∃ q1, decide (r.e.sp.x4 < r.e.tr) = q1 := ⟨_, rfl⟩
  go_enter Tryz.func246, Tryz.ntmps246
  go_wp2_with fail
  refine wp_region_held_drew (S := fun w' => w'.cell? ⟨b, 6, none⟩ = some (.int .i64 r.e.sp.x4) ∧ w'.cell? ⟨b, 23, none⟩ = some (.int .i64 r.e.tr)) (by kernel_rfl) ⟨box_cell H.out.box 6 _ rfl, box_cell H.out.box 23 _ rfl⟩ (fun hHeld => ?_)
  refine tkk (i := 0) rfl ?_
  try simp only [Act.put, pj]
  refine tkk (i := 1) rfl ?_
  try simp only [Act.put, pj]
  refine tkk (i := 2) rfl ?_
  try simp only [Act.put, pj]
  refine tkk (i := 4) rfl ?_
  try simp only [Act.put, pj]
  refine tkk (i := 5) rfl ?_
  try simp only [Act.put, pj]
  refine tkk (i := 6) rfl ?_
  try simp only [Act.put, pj]
  refine tkk (i := 7) rfl ?_
  try simp only [Act.put, pj]
  refine tkk (i := 8) rfl ?_
  try simp only [Act.put, pj]
  refine tkk (i := 9) rfl ?_
  try simp only [Act.put, pj]
  refine wpAnyH_ready (rs := [3]) (by kernel_rfl) (by simp) (AllReadyH.cons rfl (fun K hK => ?_) AllReadyH.nil)
  go_simp
  refine (load64 b 23 r.e.tr _ (by exact hHeld.2)).mono ?_
  rintro e w1 ⟨rfl, rfl⟩
  refine hK _ _ (by exact hHeld) (fun hHeld => ?_)
  clear hK K
  try simp only [Act.put, pj]
  refine tkk (i := 10) rfl ?_
  try simp only [Act.put, pj]
  refine tkk (i := 11) rfl ?_
  try simp only [Act.put, pj]
  refine wpAnyH_done (by kernel_rfl) ?_ _
  clear hHeld
  rcases Bool.eq_false_or_eq_true q1 with h0 | h0 <;> subst h0
  · have h1 : r.e.sp.x4 < r.e.tr := of_decide_eq_true hq1
    have HF : Hid (R = 1) := by show _ = _; rw [HR.out]; simp [faultV, h1]
    clear h1 hq1
    go_wp2
    go_ret
    exact ⟨by rw [HF.out]; rfl, (Below.refl _ _).drew⟩
  have h1 : ¬ r.e.sp.x4 < r.e.tr := of_decide_eq_false hq1
  have HR2 : Hid (R = if r.e.sp.x8 ≤ Tick.sinceV r.e.st r.e.now then 2 else 0) := by show _ = _; rw [HR.out, faultV, if_neg h1]
  clear h1 HR hq1
  have hdr : Below w.heap.size w w.drew := (Below.refl _ _).drew
  have H2 := Lib.hid (H.out.below hdr)
  go_wp2_with fail
  refine wp_region_held_drew (S := fun w' => w'.cell? ⟨b, 19, none⟩ = some (.int .i64 r.e.st) ∧ w'.cell? ⟨b, 13, none⟩ = some (.int .i64 r.e.now) ∧ w'.cell? ⟨b, 10, none⟩ = some (.int .i64 r.e.sp.x8)) (by kernel_rfl) ⟨box_cell H2.out.box 19 _ rfl, box_cell H2.out.box 13 _ rfl, box_cell H2.out.box 10 _ rfl⟩ (fun hHeld => ?_)
  refine tkk (i := 0) rfl ?_
  try simp only [Act.put, pj]
  refine tkk (i := 1) rfl ?_
  try simp only [Act.put, pj]
  refine tkk (i := 2) rfl ?_
  try simp only [Act.put, pj]
  refine tkk (i := 3) rfl ?_
  try simp only [Act.put, pj]
  refine tkk (i := 4) rfl ?_
  try simp only [Act.put, pj]
  refine tkk (i := 5) rfl ?_
  try simp only [Act.put, pj]
  refine tkk (i := 6) rfl ?_
  try simp only [Act.put, pj]
  refine tkk (i := 7) rfl ?_
  try simp only [Act.put, pj]
  refine tkk (i := 8) rfl ?_
  try simp only [Act.put, pj]
  refine tkk (i := 9) rfl ?_
  try simp only [Act.put, pj]
  refine tkk (i := 11) rfl ?_
  try simp only [Act.put, pj]
  refine tkk (i := 12) rfl ?_
  try simp only [Act.put, pj]
  refine tkk (i := 13) rfl ?_
  try simp only [Act.put, pj]
  refine tkk (i := 14) rfl ?_
  try simp only [Act.put, pj]
  refine tkk (i := 15) rfl ?_
  try simp only [Act.put, pj]
  refine tkk (i := 16) rfl ?_
  try simp only [Act.put, pj]
  refine wpAnyH_ready (rs := [10]) (by kernel_rfl) (by simp) (AllReadyH.cons rfl (fun K hK => ?_) AllReadyH.nil)
  go_simp
  refine (Tick.sinceI_any r.e.st r.e.now _).mono ?_
  rintro e w1 ⟨rfl, rfl⟩
  obtain ⟨z, hz⟩ : ∃ z, z = Tick.sinceV r.e.st r.e.now := ⟨_, rfl⟩
  rw [← hz]
  rw [← hz] at HR2
  clear hz
  obtain ⟨q2, hq2⟩ : ∃ q2, decide (r.e.sp.x8 ≤ z) = q2 := ⟨_, rfl⟩
  refine hK _ _ (by exact hHeld) (fun hHeld => ?_)
  clear hK K
  try simp only [Act.put, pj]
  refine tkk (i := 17) rfl ?_
  try simp only [Act.put, pj]
  refine tkk (i := 18) rfl ?_
  try simp only [Act.put, pj]
  refine wpAnyH_done (by kernel_rfl) ?_ _
  clear hHeld
  rcases Bool.eq_false_or_eq_true q2 with h0 | h0 <;> subst h0
  · have h2 : r.e.sp.x8 ≤ z := of_decide_eq_true hq2
    have HF : Hid (R = 2) := by show _ = _; rw [HR2.out, if_pos h2]
    clear h2 HR2 hq2
    go_wp2
    go_ret
    exact ⟨by rw [HF.out]; rfl, ((Below.refl _ _).drew).drew⟩
  · have h2 : ¬ r.e.sp.x8 ≤ z := of_decide_eq_false hq2
    have HF : Hid (R = 0) := by show _ = _; rw [HR2.out, if_neg h2]
    clear h2 HR2 hq2
    go_wp2
    go_ret
    exact ⟨by rw [HF.out]; rfl, ((Below.refl _ _).drew).drew⟩
theorem moved_rfl {w w' : World} {S : Nat → Prop} {b : Nat} {lk ot : Int} {r r' : Run} {res : Value} (h : Mach w' S b lk ot r) (he : r' = r) (ht : Turned S w w') (hk : Kept w w') : Moved b lk ot r' res S w (.returned res) w' := by
  rw [he]
  exact ⟨rfl, S, h, fun q hq => .inl hq, ht, hk⟩
set_option maxRecDepth 100000 in
set_option maxHeartbeats 6400000 in
theorem judge_any (w : World) (S : Nat → Prop) (b : Nat) (lk ot : Int) (r : Run) (h : Mach w S b lk ot r) (hl : r.ev.length ≤ 900000) :
    Calls Tryz.prog 229 #[.pointer (some ⟨b, 0, none⟩)] w (Moved b lk ot r.judge (.tuple #[]) S w) := by
  have H := Lib.hid h
  obtain ⟨R, hR⟩ : ∃ R, R = r.judge := ⟨_, rfl⟩
  rw [← hR]
  have HR := Lib.hid hR
  clear hR
  go_enter Tryz.func229, Tryz.ntmps229
  go_wp2_with fail
  refine (fault_any w S b lk ot r H.out).mono ?_
  rintro e w1 ⟨rfl, hb⟩
  have H1 := Lib.hid (H.out.below hb)
  have HT1 : Hid (Turned S w w1) := Turned.of_below hb
  have HK1 : Hid (Kept w w1) := Kept.below hb
  obtain ⟨f, hf⟩ : ∃ f, f = faultV r.e := ⟨_, rfl⟩
  rw [← hf]
  have HF := Lib.hid hf
  clear hf hb h H
  obtain ⟨A, n, c, E, m, k, h1⟩ := H1.out
  have c14 : w1.cell? ⟨b, 14, none⟩ = some (.int .i64 r.e.ph) := box_cell h1.box 14 _ rfl
  have c15 : w1.cell? ⟨b, 15, none⟩ = some (.int .i64 r.e.tg) := box_cell h1.box 15 _ rfl
  clear h1
  go_wp2_with fail
  refine (EngSet.underWay_any r.e.ph _).mono ?_
  rintro e w' ⟨rfl, rfl⟩
  cases hm : mvB r.e.ph
  · have HE : Hid (R = r) := by show _ = _; rw [HR.out]; simp [Run.judge, hm]
    clear hm
    go_wp2
    go_end0
    exact moved_rfl H1.out HE.out HT1.out HK1.out
  by_cases hf0 : f = 0
  · have hq0 : (f == 0) = true := by simp [hf0]
    have HE : Hid (R = r) := by show _ = _; rw [HR.out]; simp [Run.judge, ← HF.out, hf0]
    clear hf0 hm
    go_wp2
    go_end0
    exact moved_rfl H1.out HE.out HT1.out HK1.out
  have hq0 : (f == 0) = false := by simp [hf0]
  have HE : Hid (R = if r.e.ph = 1 then (r.tell 4 r.e.tg f).start 2 r.e.gd else (r.tell 4 r.e.tg f).enter 3) := by
    show _ = _; rw [HR.out]; simp [Run.judge, hm, ← HF.out, hf0]
  clear hm hf0 HR HF
  go_wp2_with fail
  refine (tell_any w1 S b lk ot r 4 r.e.tg f H1.out (by omega)).mono ?_
  rintro e w2 ⟨rfl, S2, hm2, hs2, ht2, hk2⟩
  have HS2 : Hid (∀ q, S2 q → S q ∨ w.heap.size ≤ q) := fun q hq => by
    rcases hs2 q hq with h1 | h1
    · exact .inl h1
    · exact .inr (Nat.le_trans HT1.out.size h1)
  have H2 := Lib.hid hm2
  have HT2 : Hid (Turned S w w2) := HT1.out.trans ht2
  have HK2 : Hid (Kept w w2) := HK1.out.trans hk2
  clear hm2 hs2 ht2 hk2 H1 HT1 HK1 c14 c15
  obtain ⟨A2, n2, c2, E2, m2, k2, h2⟩ := H2.out
  have hl2 : (r.tell 4 r.e.tg f).ev.length ≤ 1000000 := by simp [Run.tell]; omega
  have c14 : w2.cell? ⟨b, 14, none⟩ = some (.int .i64 r.e.ph) := box_cell h2.box 14 _ rfl
  have c16 : w2.cell? ⟨b, 16, none⟩ = some (.int .i64 r.e.gd) := box_cell h2.box 16 _ rfl
  clear h2
  by_cases hp : r.e.ph = 1
  · have hq1 : (r.e.ph == 1) = true := by simp [hp]
    rw [if_pos hp] at HE
    clear hp
    go_wp2_with fail
    refine (start_any w2 S2 b lk ot (r.tell 4 r.e.tg f) 2 r.e.gd H2.out hl2).mono ?_
    intro e w3 hmv
    have HMV := Lib.hid (Moved.step HS2.out HT2.out HK2.out hmv)
    obtain ⟨rfl, _⟩ := hmv
    go_wp2
    go_end0
    rw [HE.out]
    exact HMV.out
  · have hq1 : (r.e.ph == 1) = false := by simp [hp]
    rw [if_neg hp] at HE
    clear hp
    go_wp2_with fail
    refine (enter_any w2 S2 b lk ot (r.tell 4 r.e.tg f) 3 H2.out hl2).mono ?_
    intro e w3 hmv
    have HMV := Lib.hid (Moved.step HS2.out HT2.out HK2.out hmv)
    obtain ⟨rfl, _⟩ := hmv
    go_wp2
    go_end0
    rw [HE.out]
    exact HMV.out
end Go.Proofs.YtklgjjmcflgjeaaGreat.Mach
