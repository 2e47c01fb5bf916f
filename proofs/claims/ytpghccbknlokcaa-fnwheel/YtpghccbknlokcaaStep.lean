/-
  THE CONTRACT of the ring's step over this seat's translation: the ring stands at the next tick; those of its list that were due are told and off the list, the others stay in their order.
-/
import Derived.Test.YtpghccbknlokcaaTakeOff
import Derived.Test.YtpghccbknlokcaaWheelOf
import Derived.ArgAppend
import Derived.Laws.BitsLemmas
import Derived.Deep.RegionHeld3
namespace Go.Proofs.Ytpghccbknlokcaa.Ring
open Go.ChangeShapes Go.WideShapes Go.ChangeAt Go.RowKit Go.Shelf
open Go.Proofs.Ytpghccbknlokcaa.Timers Go.Proofs.Ytpghccbknlokcaa.WheelOk Go.Proofs.Ytpghccbknlokcaa.Has
open Go.Proofs.Ytpghccbknlokcaa.Tick (tokB tok_t)
open Go.Proofs.Ytpghccbknlokcaa.Spoke (spokeV spoke_t spokeOf_any)
set_option linter.unusedVariables false
set_option linter.unusedSimpArgs false

/-- Amid a sifting in place: k of the first j have stayed, what is behind j stands. -/
def PartQ (q : Int × Int → Bool) (ts : TList) (j k : Nat) (L : TList) : Prop := ∃ mid : TList, L = (ts.take j).filter q ++ mid ++ ts.drop j ∧ ((ts.take j).filter q).length = k ∧ mid.length + k = j
theorem partQ_0 (q : Int × Int → Bool) (ts : TList) : PartQ q ts 0 0 ts := ⟨[], by simp, by simp, rfl⟩
theorem filt_snoc (q : Int × Int → Bool) (ts : TList) (j : Nat) (h : j < ts.length) : (ts.take (j + 1)).filter q = if q (ts.getD j (0, 0)) then (ts.take j).filter q ++ [ts.getD j (0, 0)] else (ts.take j).filter q := by
  rw [List.take_succ_eq_append_getElem h, List.filter_append, getD_lt ts j _ h]
  cases hq : q ts[j] <;> simp [hq]
theorem partQ_len {q : Int × Int → Bool} {ts L : TList} {j k : Nat} (h : PartQ q ts j k L) (hj : j ≤ ts.length) : L.length = ts.length := by
  obtain ⟨mid, rfl, h1, h2⟩ := h
  simp only [List.length_append, List.length_drop, h1]
  omega
theorem partQ_le {q : Int × Int → Bool} {ts L : TList} {j k : Nat} (h : PartQ q ts j k L) : k ≤ j := by
  obtain ⟨mid, rfl, h1, h2⟩ := h
  omega
theorem partQ_at {q : Int × Int → Bool} {ts L : TList} {j k : Nat} (h : PartQ q ts j k L) (hj : j < ts.length) : L.getD j (0, 0) = ts.getD j (0, 0) := by
  obtain ⟨mid, rfl, h1, h2⟩ := h
  have hl : ((ts.take j).filter q ++ mid).length = j := by simp only [List.length_append, h1]; omega
  simp only [List.getD]
  rw [List.getElem?_append_right (by omega), hl, Nat.sub_self]
  simp [hj]
theorem partQ_drop {q : Int × Int → Bool} {ts L : TList} {j k : Nat} (h : PartQ q ts j k L) (hj : j < ts.length) (he : q (ts.getD j (0, 0)) = false) : PartQ q ts (j + 1) k L := by
  obtain ⟨mid, rfl, h1, h2⟩ := h
  refine ⟨mid ++ [ts.getD j (0, 0)], ?_, ?_, by simp only [List.length_append, List.length_cons, List.length_nil]; omega⟩
  · rw [filt_snoc q ts j hj, he, getD_lt ts j _ hj, List.drop_eq_getElem_cons hj]
    simp
  · rw [filt_snoc q ts j hj, he]
    exact h1
theorem partQ_keep {q : Int × Int → Bool} {ts L : TList} {j k : Nat} (h : PartQ q ts j k L) (hj : j < ts.length) (he : q (ts.getD j (0, 0)) = true) : PartQ q ts (j + 1) (k + 1) (L.set k (ts.getD j (0, 0))) := by
  obtain ⟨mid, rfl, h1, h2⟩ := h
  match mid, h2 with
  | [], h2 =>
    refine ⟨[], ?_, ?_, by simp at h2 ⊢; omega⟩
    · rw [filt_snoc q ts j hj, he, if_pos rfl, List.append_nil, List.set_append_right _ _ (by omega), h1, Nat.sub_self, List.drop_eq_getElem_cons hj, List.set_cons_zero]
      simp
    · rw [filt_snoc q ts j hj, he, if_pos rfl, List.length_append, h1]
      rfl
  | m0 :: mid, h2 =>
    refine ⟨mid ++ [ts.getD j (0, 0)], ?_, ?_, by simp at h2 ⊢; omega⟩
    · rw [filt_snoc q ts j hj, he, if_pos rfl, getD_lt ts j _ hj, List.drop_eq_getElem_cons hj, List.append_assoc, List.set_append_right _ _ (by omega), h1, Nat.sub_self]
      simp
    · rw [filt_snoc q ts j hj, he, if_pos rfl, List.length_append, h1]
      rfl
theorem partQ_end {q : Int × Int → Bool} {ts L : TList} {k : Nat} (h : PartQ q ts ts.length k L) : L.take k = ts.filter q ∧ k = (ts.filter q).length := by
  obtain ⟨mid, rfl, h1, h2⟩ := h
  rw [List.take_length] at h1 ⊢
  refine ⟨?_, h1.symm⟩
  rw [List.append_assoc, List.take_append_of_le_length (by omega), ← h1, List.take_length]

/-- Those of a list that are not due at t, and the Ids of those that are. -/
def stayL (t : Int) (ts : TList) : TList := ts.filter fun p => !(p.2 == t)
def toldL (t : Int) (ts : TList) : List Int := (ts.filter fun p => p.2 == t).map Prod.fst
theorem told_snoc (t : Int) (ts : TList) (j : Nat) (h : j < ts.length) {z y : Int} (hz : ts.getD j (0, 0) = (z, y)) : toldL t (ts.take (j + 1)) = if y == t then toldL t (ts.take j) ++ [z] else toldL t (ts.take j) := by
  unfold toldL
  rw [filt_snoc _ ts j h, hz]
  cases he : (y == t) <;> simp

/-- The ring at another tick. -/
theorem OwnR.tick {w : World} {lo g : Nat} {now : Int} {rs : List TList} (h : OwnR w lo g now rs) (t : Int) : OwnR (w.setCell ⟨g, 0, none⟩ (.int .i64 t)) lo g t rs := by
  obtain ⟨vs, h1, h2, h3, hg, hr, hd⟩ := h
  have hgr : w.grownBy (w.setCell ⟨g, 0, none⟩ (.int .i64 t)) (some g) := ⟨rfl, rfl, rfl, by simp [World.setCell], fun k _ hne => Below.heap_setCell w ⟨g, 0, none⟩ _ k (fun e => hne (by rw [e]))⟩
  refine ⟨vs, h1, h2, h3, ?_, fun j v hv => (hr j v hv).kept hgr ?_, hd⟩
  · rw [heap_setCell_same w g 0 _ 94 (.int .i64 t) hg]
    simp
  · have hne := row_ne_blk (hr j v hv) hg (by decide)
    exact .inr hne

/-- Rows of ints that were there are as they were. -/
def IntKept (w w' : World) : Prop := ∀ (q : Nat) (cs : Array Value) (fz : Nat × Nat), w.heap[q]? = some (.cells cs 3 fz) → w'.heap[q]? = some (.cells cs 3 fz)
theorem IntKept.trans {a b c : World} (h : IntKept a b) (k : IntKept b c) : IntKept a c := fun q cs fz e => k q cs fz (h q cs fz e)
theorem IntKept.below {a b : World} (h : Below a.heap.size a b) : IntKept a b := fun q cs fz e => (h.block q (Array.getElem?_eq_some_iff.1 e).1).trans e
theorem IntKept.grown {a b : World} {g : Nat} {cs' : Array Value} {t : TypeId} {fz' : Nat × Nat} (h : a.grownBy b (some g)) (hg : a.heap[g]? = some (.cells cs' t fz')) (ht : t ≠ 3) : IntKept a b := by
  intro q cs fz e
  refine (h.block q (Array.getElem?_eq_some_iff.1 e).1 (fun e2 => ?_)).trans e
  injection e2 with e2
  subst e2
  rw [hg] at e
  injection e with e
  injection e with _ e
  exact ht e
theorem OwnI.kept {w w' : World} {base : Nat} {A : Option Addr} {n c : Nat} {zs : List Int} (h : OwnI w base A n c zs) (hk : IntKept w w') : OwnI w' base A n c zs := by
  refine ⟨h.1, h.2.1, ?_⟩
  rcases h.2.2 with h0 | ⟨g, cap, cur, h1, h2, h3, h4⟩
  · exact .inl h0
  · exact .inr ⟨g, cap, cur, h1, h2, hk g cur (0, 0) h3, h4⟩

theorem clear0 (w : World) (ty : TypeId) (a : Option Addr) (c : Nat) : (Builtin.clear_ #[91] ty #[.slice a 0 c]).run Try.prog w = .ok (.tuple #[]) w := by
  cases a <;> simp [Builtin.clear_, run_underlying Try.underlying91]

/-- What step leaves. -/
def Stepped (w : World) (lo g : Nat) (now : Int) (rs : List TList) (zs : List Int) (e : Ending) (w' : World) : Prop :=
  ∃ A c, e = .returned (.slice A zs.length c) ∧ OwnI w' w.heap.size A zs.length c zs ∧ OwnR w' lo g now rs ∧ Below lo w w' ∧ IntKept w w'

set_option maxRecDepth 100000 in
set_option maxHeartbeats 3000000 in
theorem step_any (lo g : Nat) (now : Int) (rs : List TList) (k : Nat) (w : World) (hR : OwnR w lo g now rs) (hn0 : 0 ≤ now) (hn1 : now < 1000000000) (hk : spokeV (now + 1) = (k : Int)) (hk8 : k < 8) (hF : tot rs ≤ 100) (hlo : lo ≤ w.heap.size) :
    Calls Try.prog 52 #[.pointer (some ⟨g, 0, none⟩)] w (Stepped w lo g (now + 1) (rs.set k (stayL (now + 1) (rs.getD k []))) (toldL (now + 1) (rs.getD k []))) := by
  obtain ⟨t, ht⟩ : ∃ t, t = now + 1 := ⟨_, rfl⟩
  obtain ⟨n0, nf⟩ := hR.now_cell
  have hgl := hR.lt
  have hlg := hR.lo_le
  have HK : Hid (spokeV t = (k : Int)) := by rw [ht]; exact hk
  have HR := Lib.hid hR
  obtain ⟨iI, hiI, hI0, hI1, hI2⟩ := info_parts infoInt
  obtain ⟨i5, hi5, hz0, hz1, hz2⟩ := info_parts info85
  have hwr : IntKind.i64.wrap (now + 1) = t := by rw [ht, IntKind.wrap_i64]; omega
  rw [← ht]
  obtain ⟨R1, hR1⟩ : ∃ R1, R1 = rs.set k (stayL t (rs.getD k [])) := ⟨_, rfl⟩
  obtain ⟨Z1, hZ1⟩ : ∃ Z1, Z1 = toldL t (rs.getD k []) := ⟨_, rfl⟩
  rw [← hR1, ← hZ1]
  have HR1 := Lib.hid hR1
  have HZ1 := Lib.hid hZ1
  have HT := Lib.hid ht
  clear hR hk ht hR1 hZ1
  go_enter Try.func52, Try.ntmps52
  go_wp2_with fail
  obtain ⟨wa, hwa⟩ : ∃ wa, wa = w.setCell ⟨g, 0, none⟩ (.int .i64 t) := ⟨_, rfl⟩
  rw [← hwa]
  have HRa : Hid (OwnR wa lo g t rs) := by rw [hwa]; exact HR.out.tick t
  have hsa : wa.heap.size = w.heap.size := by rw [hwa]; simp [World.setCell]
  have hba : Below lo w wa := by rw [hwa]; exact (Below.refl lo w).setCell (p := ⟨g, 0, none⟩) hlg _
  have HIK : Hid (IntKept w wa) := by
    obtain ⟨vs, _, _, _, hg, _⟩ := HR.out
    rw [hwa]
    exact IntKept.grown (cs' := (Value.int .i64 now :: vs).toArray) ⟨rfl, rfl, rfl, by simp [World.setCell], fun k _ hne => Below.heap_setCell w ⟨g, 0, none⟩ _ k (fun e => hne (by rw [e]))⟩ hg (by decide)
  obtain ⟨na, _⟩ := HRa.out.now_cell
  obtain ⟨A, c, hcell, hfr, hrow⟩ := HRa.out.cell hk8
  obtain ⟨m, hm⟩ : ∃ m, m = (rs.getD k []).length := ⟨_, rfl⟩
  have hm1 : m ≤ 100 := by have := tot_get rs k; omega
  rw [← hm] at hcell hrow
  have HM := Lib.hid hm
  have HROW := Lib.hid hrow
  have hglr : g < wa.heap.size := by omega
  clear hwa hm hrow n0 nf
  go_quiet ((go_at_call 99; exact Calls.quiet_of_same ((spokeOf_any _ _).mono fun _ _ ⟨h1, h2⟩ => ⟨by rw [h1, HK.out], h2.symm⟩)))
  obtain ⟨wb, hwb⟩ : ∃ wb, wb = wa.drewN nq := ⟨_, rfl⟩
  rw [← hwb]
  have hbb : Below wa.heap.size wa wb := by rw [hwb]; exact Ints.below_drewN (Below.refl _ _) nq
  have HRb := Lib.hid (HRa.out.below hbb)
  have HROWb := Lib.hid (own_below HROW.out hbb)
  have hcellb := below_keep hbb hcell
  have hnb := below_keep hbb na
  have hsb : wa.heap.size ≤ wb.heap.size := hbb.size
  have hglb : g < wb.heap.size := by omega
  clear hwb hcell na HROW hfr
  have fin : ∀ (wf : World) (v' : Value), wb.grownBy wf (Value.slice A m c).ownBlock → wf.ownsRow lo 150 2 v' (stayL t (rs.getD k [])).length (flatA (stayL t (rs.getD k []))) → v'.ownBlock = (Value.slice A m c).ownBlock →
      OwnR (wf.drew.setCell ⟨g, 1 + k, none⟩ v') lo g t (rs.set k (stayL t (rs.getD k []))) ∧ wf.frozen? ⟨g, 1 + k, none⟩ = false ∧ (∃ u, wf.cell? ⟨g, 1 + k, none⟩ = some u) ∧ wf.cell? ⟨g, 0, none⟩ = some (.int .i64 t) ∧ (wf.setCell ⟨g, 1 + k, none⟩ v').cell? ⟨g, 0, none⟩ = some (.int .i64 t) ∧ Below lo w (wf.drew.setCell ⟨g, 1 + k, none⟩ v') ∧ IntKept w (wf.drew.setCell ⟨g, 1 + k, none⟩ v') := by
    intro wf v' hgr hrow hob
    have hgr' : wb.grownBy wf.drew (Value.slice A m c).ownBlock := ⟨hgr.os, hgr.tape, hgr.output, hgr.size, hgr.block⟩
    obtain ⟨h1, h2, h3⟩ := HRb.out.put (w1 := wf.drew) hk8 (by rw [← HM.out]; exact hcellb) (by rw [← HM.out]; exact hgr') hrow (.inl (by rw [← HM.out]; exact hob))
    obtain ⟨vs, _, _, _, hg, _⟩ := HRb.out
    have hrb : ∀ q, (Value.slice A m c).ownBlock = some q → lo ≤ q ∧ q ≠ g := fun q hq => ⟨(HROWb.out.lt q hq).1, fun e => row_ne_blk HROWb.out hg (by decide) (by rw [← e]; exact hq)⟩
    have hgf : wf.heap[g]? = some (.cells (Value.int .i64 t :: vs).toArray 94 (0, 0)) := (hgr.block g hglb (fun e => (hrb g e.symm).2 rfl)).trans hg
    have hc0 : wf.cell? ⟨g, 0, none⟩ = some (.int .i64 t) := by rw [cell_of_row wf g 0 _ _ (0, 0) hgf]; rfl
    refine ⟨h1, h2, h3, hc0, (World.cell?_setCell_other wf ⟨g, 1 + k, none⟩ ⟨g, 0, none⟩ v' (fun e => by injection e with _ e; omega)).trans hc0, ?_, ?_⟩
    · exact (((hba.trans (hbb.mono (by omega))).grown hgr' (by omega) (fun q hq => (hrb q hq).1))).setCell (p := ⟨g, 1 + k, none⟩) hlg _
    · refine (HIK.out.trans (IntKept.below hbb)).trans (IntKept.trans ?_ (IntKept.grown (a := wf.drew) (cs' := (Value.int .i64 t :: vs).toArray) ⟨rfl, rfl, rfl, by simp [World.setCell], fun k _ hne => Below.heap_setCell wf.drew ⟨g, 1 + _, none⟩ _ k (fun e => hne (by rw [e]))⟩ hgf (by decide)))
      intro q cs fz e
      refine (hgr'.block q (Array.getElem?_eq_some_iff.1 e).1 (fun e2 => ?_)).trans e
      exact row_ne_blk HROWb.out e (by decide) e2.symm
  have FIN := Lib.hid fin
  have hsw : w.heap.size ≤ wb.heap.size := by omega
  have hj0 : (0 : Int) ≤ (k : Int) := by omega
  have hj1 : (k : Int) < 8 := by omega
  clear fin
  cases A with
  | none =>
    have hm0 : m = 0 ∧ c = 0 := by
      rcases HROWb.out.2 with ⟨h1, h⟩ | ⟨_, _, _, h, _⟩
      · injection h1 with _ _ h1
        exact ⟨h, h1⟩
      · cases h
    obtain ⟨rfl, rfl⟩ := hm0
    have hts : rs.getD k [] = [] := List.eq_nil_of_length_eq_zero HM.out.symm
    obtain ⟨hR1, hf1, ⟨u1, hu1⟩, hn1', hkp, hb1, hk1⟩ := FIN.out wb (.slice none 0 0) ⟨rfl, rfl, rfl, Nat.le_refl _, fun _ _ _ => rfl⟩ (by rw [hts]; exact World.ownsRow_nil _ _ _ _) rfl
    rw [← HR1.out] at hR1
    have HZ0 : Hid (Z1 = []) := by show _ = _; rw [HZ1.out, hts]; rfl
    have HF1 := Lib.hid hR1
    have HB1 := Lib.hid hb1
    have HK1 := Lib.hid hk1
    have hclr := fun ty => clear0 wb ty none 0
    clear hts hR1 hb1 hk1
    go_wp2_with fail
    go_loop [4, 5, 29] (fun a b i => a = .slice none 0 0 ∧ b = .slice none 0 0 ∧ i = .int .i64 (0 : Int)) (fun _ _ _ => 0)
    case atStart => exact ⟨rfl, rfl, rfl⟩
    case round =>
      obtain ⟨rfl, rfl, rfl⟩ := hrel
      go_wp2_with fail
      go_region_held3 (fun w' => w'.cell? ⟨g, 0, none⟩ = some (.int .i64 t)) (first | go_keep | (exact hkp)) (first | (go_at_call 99; refine (spokeOf_any _ _).mono ?_; rintro e w' ⟨rfl, rfl⟩; rw [HK.out]))
      all_goals
        go_wp2_with fail
        go_ret
        exact ⟨none, 0, by rw [HZ0.out]; rfl, by rw [HZ0.out]; exact ⟨rfl, World.ownsRow_nil _ _ _ _⟩, HF1.out, HB1.out, HK1.out⟩
  | some p =>
    obtain ⟨ga, rfl⟩ : ∃ ga, p = ⟨ga, 0, none⟩ := by
      rcases HROWb.out.2 with ⟨h1, _⟩ | ⟨ga, _, _, h, _⟩
      · cases h1
      · injection h with h
        injection h with h
        exact ⟨ga, h⟩
    have hmc : m ≤ c := own_cap HROWb.out
    have hgal := (HROWb.out.lt ga rfl).2
    have hgga : g ≠ ga := by
      obtain ⟨vs, _, _, _, hg, _⟩ := HRb.out
      intro e
      exact row_ne_blk HROWb.out hg (by decide) (by rw [e]; rfl)
    have hsl : ¬ c = 0 ∨ c = 0 := by omega
    go_wp2_with fail
    go_loopw [4, 5, 29] (fun v4 v5 v29 wr => ∃ (r j qn : Nat) (L : TList) (A5 : Option Addr) (c5 : Nat), v4 = .slice (some ⟨ga, 0, none⟩) r c ∧ v5 = .slice A5 qn c5 ∧ v29 = .int .i64 j ∧ j ≤ m ∧ r ≤ j ∧ qn ≤ j ∧ Hid (PartQ (fun p => !(p.2 == t)) (rs.getD k []) j r L) ∧ Hid (wr.ownsRow lo 150 2 (.slice (some ⟨ga, 0, none⟩) m c) m (flatA L)) ∧ Hid (OwnI wr wb.heap.size A5 qn c5 (toldL t ((rs.getD k []).take j))) ∧ Hid (wb.grownBy wr (some ga))) (fun _ _ v29 _ => m - (intOf v29).toNat)
    case atStart => exact ⟨0, 0, 0, rs.getD k [], none, 0, rfl, rfl, rfl, Nat.zero_le _, Nat.le_refl _, Nat.le_refl _, partQ_0 _ _, HROWb, ⟨rfl, World.ownsRow_nil _ _ _ _⟩, World.grownBy.refl _ _⟩
    case round =>
      obtain ⟨r, j, qn, L, A5, c5, rfl, rfl, rfl, hj, hrj, hqj, HP, HRr, HI, HG⟩ := hrel
      have hszr := HG.out.size
      have hgalr : ga < wr.heap.size := by omega
      have hglr2 : g < wr.heap.size := by omega
      have hnr : wr.cell? ⟨g, 0, none⟩ = some (.int .i64 t) := (World.cell?_of_block (HG.out.block g hglb (fun e => hgga (by injection e)))).trans hnb
      by_cases hlt : j < m
      · have hjl : j < (rs.getD k []).length := by rw [← HM.out]; exact hlt
        have hLl : L.length = m := by rw [partQ_len HP.out (by omega)]; exact HM.out.symm
        obtain ⟨z, y, hzy⟩ : ∃ z y, (rs.getD k []).getD j (0, 0) = (z, y) := ⟨_, _, rfl⟩
        have hat := flatA_at L j (by omega)
        rw [partQ_at HP.out hjl, hzy] at hat
        have hd1 : wr.cell? ⟨ga, j * 2, none⟩ = some (.int .i64 y) := (HRr.out.cellAt (j * 2) (by omega)).trans hat.1
        have hd2 : wr.cell? ⟨ga, j * 2 + 1, none⟩ = some (.int .i64 z) := (HRr.out.cellAt (j * 2 + 1) (by omega)).trans hat.2
        have HZY := Lib.hid hzy
        have HTS := Lib.hid (told_snoc t _ j hjl hzy)
        have hnA := below_keep (below_a1 wr (.cells #[.int .i64 y, .int .i64 z] 150)) hnr
        clear hat hzy
        go_wp2_with fail
        go_quiet (fail)
        obtain ⟨wc, hwc⟩ : ∃ wc, wc = (wr.alloc (.cells #[.int .i64 y, .int .i64 z] 150)).drewN nq := ⟨_, rfl⟩
        rw [← hwc]
        have hbc : Below wr.heap.size wr wc := by rw [hwc]; exact Ints.below_drewN (below_a1 _ _) nq
        have hxc : wc.heap[wr.heap.size]? = some (.cells #[.int .i64 y, .int .i64 z] 150 (0, 0)) := by rw [hwc]; exact ((Ints.below_drewN (Below.refl (wr.heap.size + 1) (wr.alloc (.cells #[.int .i64 y, .int .i64 z] 150))) nq).block _ (Nat.lt_succ_self _)).trans (heap_alloc_new wr _)
        obtain ⟨x0, x1, _, _⟩ := blk2 hxc
        have HIc := Lib.hid (HI.out.below hbc)
        have HRc := Lib.hid (own_below HRr.out hbc)
        have HGc : Hid (wb.grownBy wc (some ga)) := HG.out.andThen (row' := none) ⟨hbc.os, hbc.tape, hbc.output, hbc.size, fun q hq _ => hbc.block q hq⟩ (fun q hq => by cases hq)
        have hszc := hbc.size
        have hgac : ga < wc.heap.size := by omega
        clear hwc hd1 hd2 hnA hnr
        cases he : (y == t)
        · have HPN := Lib.hid (partQ_keep HP.out hjl (by rw [HZY.out]; simp [he]))
          have HTN : Hid (toldL t ((rs.getD k []).take (j + 1)) = toldL t ((rs.getD k []).take j)) := by show _ = _; rw [HTS.out, he]; rfl
          have hrc : r < c := by omega
          go_wp2_with (at_builtin; refine wpList_append_arg _ rfl (.tmp 45) (.tmp 47) 91 rfl 150 i5 _ 2 16 Try.underlying91 hi5 hz0 hz1 hz2 rfl (by omega) ga 0 r c ((flatA L).take (r * 2)) rfl ?lo ?olds ⟨wc.heap.size, 0, none⟩ 1 1 [.int .i64 y, .int .i64 z] rfl rfl ?c1 ?c2 ?spare ?mx ?b47 ?room ?grow)
          case lo => rw [List.length_take, HRc.out.1]; omega
          case olds =>
            intro q u hu
            have hq : q < r * 2 := by have := (List.getElem?_eq_some_iff.1 hu).1; rw [List.length_take] at this; omega
            rw [List.getElem?_take, if_pos hq] at hu
            rw [Nat.zero_add, below_keep (below_a1 wc _) ((HRc.out.cellAt q (by omega)).trans hu)]
          case c1 => exact World.news_of_block (cs := #[.int .i64 y, .int .i64 z]) (heap_alloc_new wc _)
          case c2 => intro u hu; simp at hu; rcases hu with rfl | rfl <;> rfl
          case spare =>
            intro _ q hq
            have hq2 : q < 2 := by simpa using hq
            have hrow' := own_below HRc.out (below_a1 wc (.cells #[.int .i64 y, .int .i64 z] 150))
            refine ⟨?_, by exact hrow'.frozenAt _⟩
            rw [hrow'.cellAt (0 + r * 2 + q) (by omega)]
            have h5 := hrow'.1
            rw [List.getElem?_eq_getElem (by omega)]
            rfl
          case mx => unfold maxLen; omega
          case b47 => omega
          case grow => intro h; omega
          case room =>
            intro _
            obtain ⟨w5, hw5⟩ : ∃ w5, w5 = (wc.alloc (.cells #[.int .i64 y, .int .i64 z] 150)).setCells ga (r * 2) [.int .i64 y, .int .i64 z] := ⟨_, rfl⟩
            rw [← hw5]
            have hrow' := own_below HRc.out (below_a1 wc (.cells #[.int .i64 y, .int .i64 z] 150))
            obtain ⟨hr1, hg1⟩ := hrow'.stored (r * 2) (.int .i64 y)
            obtain ⟨hr2, hg2⟩ := hr1.stored (r * 2 + 1) (.int .i64 z)
            have hw5' : w5 = ((wc.alloc (.cells #[.int .i64 y, .int .i64 z] 150)).setCell ⟨ga, r * 2, none⟩ (.int .i64 y)).setCell ⟨ga, r * 2 + 1, none⟩ (.int .i64 z) := by rw [hw5]; rfl
            rw [← hw5'] at hr2 hg2
            have HR5 : Hid (w5.ownsRow lo 150 2 (.slice (some ⟨ga, 0, none⟩) m c) m (flatA (L.set r ((rs.getD k []).getD j (0, 0))))) := by
              show _
              rw [flatA_set, HZY.out]
              exact hr2
            have hg05 : (wc.alloc (.cells #[.int .i64 y, .int .i64 z] 150)).grownBy w5 (some ga) := hg1.andThen hg2 (fun q hq => by cases hq; exact Or.inr rfl)
            have HG5 : Hid (wb.grownBy w5 (some ga)) := (HGc.out.andThen (World.grownBy_alloc _ _ none) (fun q hq => by cases hq)).andThen hg05 (fun q hq => by cases hq; exact Or.inr rfl)
            have HI5 : Hid (OwnI w5 wb.heap.size A5 qn c5 (toldL t ((rs.getD k []).take (j + 1)))) := by
              rw [HTN.out]
              refine (HIc.out.alloc _).grown hg05 ?_
              cases hb : (Value.slice A5 qn c5).ownBlock with
              | none => exact .inl rfl
              | some q =>
                refine .inr fun e => ?_
                injection e with e
                have := (HIc.out.lt q hb).1
                omega
            clear hw5 hw5' hr1 hr2 hg1 hg2 hrow' hg05
            go_wp2_with fail
            go_roundw
            case rel => exact ⟨r + 1, j + 1, qn, _, A5, c5, rfl, rfl, by go_num, by omega, by omega, by omega, HPN, HR5, HI5, HG5⟩
            case measure => simp [intOf]; omega
        · have HPN := Lib.hid (partQ_drop HP.out hjl (by rw [HZY.out]; simp [he]))
          have HTN : Hid (toldL t ((rs.getD k []).take (j + 1)) = toldL t ((rs.getD k []).take j) ++ [z]) := by show _ = _; rw [HTS.out, he]; rfl
          go_wp2_with (at_builtin; refine wpList_append_own _ rfl (.tmp 40) (.tmp 43) _ rfl wb.heap.size 3 iI _ 1 8 Try.underlying30 hiI hI0 hI1 hI2 rfl (by omega) (.slice A5 qn c5) qn ((toldL t ((rs.getD k []).take j)).map (Value.int .i64)) rfl ?o1 ⟨wc.heap.size, 0, none⟩ 1 1 [.int .i64 z] rfl rfl ?o2 ?o3 ?o4 ?o5 ?o6 ?_)
          case o1 => exact (HIc.out.alloc _).2
          case o2 => exact lit_news (by simp [go_sem])
          case o3 => intro u hu; simp at hu; subst hu; rfl
          case o4 => unfold maxLen; omega
          case o5 => omega
          case o6 => simp; omega
          intro v2 w5 hown2 hgr2 _
          obtain ⟨A6, c6, rfl, hI6⟩ := OwnI.of_append (zs := toldL t ((rs.getD k []).take j)) HI.out.1 hown2
          have hne : ∀ q, (Value.slice A5 qn c5).ownBlock = some q → wb.heap.size ≤ q := fun q hq => (HIc.out.lt q hq).1
          have HI6 : Hid (OwnI w5 wb.heap.size A6 (qn + 1) c6 (toldL t ((rs.getD k []).take (j + 1)))) := by rw [HTN.out]; exact hI6
          have HR5 : Hid (w5.ownsRow lo 150 2 (.slice (some ⟨ga, 0, none⟩) m c) m (flatA L)) := by
            refine (own_below HRc.out (below_a1 wc _)).kept hgr2 (.inr fun e => ?_)
            have := hne ga e.symm
            omega
          have HG5 : Hid (wb.grownBy w5 (some ga)) := (HGc.out.andThen (World.grownBy_alloc _ _ none) (fun q hq => by cases hq)).andThen hgr2 (fun q hq => Or.inl (hne q hq))
          clear hown2 hgr2 hI6
          go_wp2_with fail
          go_roundw
          case rel => exact ⟨r, j + 1, qn + 1, L, A6, c6, rfl, rfl, by go_num, by omega, by omega, by omega, HPN, HR5, HI6, HG5⟩
          case measure => simp [intOf]; omega
      · have HJ : Hid (j = (rs.getD k []).length) := by rw [← HM.out]; exact (by omega : j = m)
        have hPe := HP.out
        rw [HJ.out] at hPe
        obtain ⟨hp1, hp2⟩ := partQ_end hPe
        have HZJ : Hid (toldL t ((rs.getD k []).take j) = Z1) := by show _ = _; rw [HZ1.out, HJ.out, List.take_length]
        have HQ : Hid (Z1.length = qn) := by show _ = _; rw [← HZJ.out]; exact HI.out.1
        have endI : ∀ (wf : World) (v' : Value), wr.grownBy wf (some ga) → OwnI (wf.drew.setCell ⟨g, 1 + k, none⟩ v') w.heap.size A5 qn c5 Z1 := by
          intro wf v' hgr
          have hge : ∀ q, (Value.slice A5 qn c5).ownBlock = some q → wb.heap.size ≤ q := fun q hq => (HI.out.lt q hq).1
          have hne : ∀ b, b < wb.heap.size → (Value.slice A5 qn c5).ownBlock = none ∨ (Value.slice A5 qn c5).ownBlock ≠ some b := by
            intro b hb
            cases hq : (Value.slice A5 qn c5).ownBlock with
            | none => exact .inl rfl
            | some q =>
              refine .inr fun e => ?_
              injection e with e
              have := hge q hq
              omega
          have h1 : OwnI wf.drew wb.heap.size A5 qn c5 (toldL t ((rs.getD k []).take j)) := HI.out.grown (w' := wf.drew) (row := some ga) ⟨hgr.os, hgr.tape, hgr.output, hgr.size, hgr.block⟩ (hne ga hgal)
          have h2 := h1.grown (w' := wf.drew.setCell ⟨g, 1 + k, none⟩ v') (row := some g) ⟨rfl, rfl, rfl, by simp [World.setCell], fun q _ hne => Below.heap_setCell wf.drew ⟨g, 1 + k, none⟩ _ q (fun e => hne (by rw [e]))⟩ (hne g hglb)
          rw [HZJ.out] at h2
          exact ⟨h2.1, own_base h2.2 hsw⟩
        have EI := Lib.hid endI
        have HP1 := Lib.hid hp1
        have HP2 := Lib.hid hp2
        have hrm : r ≤ m := by omega
        clear hPe hp1 hp2 endI
        by_cases hr : r < m
        · have hrc : r ≤ c := by omega
          have hcr : ¬ c = r := by omega
          have hclr : ∀ ty, (Builtin.clear_ #[91] ty #[.slice (some ⟨ga, r * 2, none⟩) (m - r) (c - r)]).run Try.prog wr = .ok (.tuple #[]) (wr.setCells ga (r * 2) (List.replicate ((m - r) * 2) (.int .i64 0))) := by
            intro ty
            refine clear2 wr ty ga (r * 2) (m - r) (c - r) (by omega) (fun q hq => ?_) (fun q hq => HRr.out.frozenAt _)
            rw [HRr.out.cellAt (r * 2 + q) (by omega)]
            have h5 := HRr.out.1
            rw [List.getElem?_eq_getElem (by omega)]
            rfl
          obtain ⟨xs', hx1, hx2, hx3⟩ := own_setCells (List.replicate ((m - r) * 2) (.int .i64 0)) (r * 2) wr _ HRr.out
          have hx4 := own_less hx1 hrm
          rw [hx2, flatA_take, HP1.out] at hx4
          obtain ⟨hR5, hf5, ⟨u5, hu5⟩, hn5, hkp, hb5, hk5⟩ := FIN.out (wr.setCells ga (r * 2) (List.replicate ((m - r) * 2) (.int .i64 0))) (.slice (some ⟨ga, 0, none⟩) r c) (HG.out.andThen hx3 (fun q hq => by cases hq; exact Or.inr rfl)) (by show World.ownsRow _ _ _ _ _ (List.filter _ _).length _; rw [← HP2.out]; exact hx4) rfl
          rw [← HR1.out] at hR5
          have HF5 := Lib.hid hR5
          have HB5 := Lib.hid hb5
          have HK5 := Lib.hid hk5
          have HE5 := Lib.hid (EI.out (wr.setCells ga (r * 2) (List.replicate ((m - r) * 2) (.int .i64 0))) (.slice (some ⟨ga, 0, none⟩) r c) hx3)
          clear hR5 hb5 hk5 hx1 hx2 hx3 hx4
          go_wp2_with fail
          go_region_held3 (fun w' => w'.cell? ⟨g, 0, none⟩ = some (.int .i64 t)) (first | go_keep | (exact hkp)) (first | (go_at_call 99; refine (spokeOf_any _ _).mono ?_; rintro e w' ⟨rfl, rfl⟩; rw [HK.out]))
          all_goals
            go_wp2_with fail
            go_ret
            exact ⟨A5, c5, by rw [HQ.out]; rfl, by rw [HQ.out]; exact HE5.out, HF5.out, HB5.out, HK5.out⟩
        · have hrm2 : r = m := by omega
          subst hrm2
          have hclr := fun ty => clear0 wr ty (some ⟨ga, r * 2, none⟩) (c - r)
          have hclr2 := fun ty => clear0 wr ty (some ⟨ga, 0, none⟩) 0
          have hrow5 : wr.ownsRow lo 150 2 (.slice (some ⟨ga, 0, none⟩) r c) (stayL t (rs.getD k [])).length (flatA (stayL t (rs.getD k []))) := by
            have h5 := own_less HRr.out (Nat.le_refl _)
            rw [flatA_take, HP1.out] at h5
            show World.ownsRow _ _ _ _ _ (List.filter _ _).length _
            rw [← HP2.out]
            exact h5
          obtain ⟨hR5, hf5, ⟨u5, hu5⟩, hn5, hkp, hb5, hk5⟩ := FIN.out wr (.slice (some ⟨ga, 0, none⟩) r c) HG.out hrow5 rfl
          rw [← HR1.out] at hR5
          have HF5 := Lib.hid hR5
          have HB5 := Lib.hid hb5
          have HK5 := Lib.hid hk5
          have HE5 := Lib.hid (EI.out wr (.slice (some ⟨ga, 0, none⟩) r c) (World.grownBy.refl _ _))
          clear hR5 hb5 hk5 hrow5
          by_cases hcm : c = r
          · subst hcm
            go_wp2_with fail
            go_region_held3 (fun w' => w'.cell? ⟨g, 0, none⟩ = some (.int .i64 t)) (first | go_keep | (exact hkp)) (first | (go_at_call 99; refine (spokeOf_any _ _).mono ?_; rintro e w' ⟨rfl, rfl⟩; rw [HK.out]))
            all_goals
              go_wp2_with fail
              go_ret
              exact ⟨A5, c5, by rw [HQ.out]; rfl, by rw [HQ.out]; exact HE5.out, HF5.out, HB5.out, HK5.out⟩
          · go_wp2_with fail
            go_region_held3 (fun w' => w'.cell? ⟨g, 0, none⟩ = some (.int .i64 t)) (first | go_keep | (exact hkp)) (first | (go_at_call 99; refine (spokeOf_any _ _).mono ?_; rintro e w' ⟨rfl, rfl⟩; rw [HK.out]))
            all_goals
              go_wp2_with fail
              go_ret
              exact ⟨A5, c5, by rw [HQ.out]; rfl, by rw [HQ.out]; exact HE5.out, HF5.out, HB5.out, HK5.out⟩
end Go.Proofs.Ytpghccbknlokcaa.Ring
