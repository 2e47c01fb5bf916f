/-
  DRAWN FLEETS over this seat's translation: what every drawn fleet keeps; a fleet's variable amid a drawing.
-/
import Derived.Test.YtpghccbknlokcaaDrawTick
import Derived.Test.YtpghccbknlokcaaFleetFind
import Derived.Test.YtpghccbknlokcaaSpecTake
import Derived.Deep.LoopGhost
import Derived.Deep.DeepCutAuto
namespace Go.Proofs.Ytpghccbknlokcaa.DrawF
open Go.ChangeShapes Go.WideShapes Go.ChangeAt Go.RowKit
open Go.Proofs.Ytpghccbknlokcaa.LK Go.Proofs.Ytpghccbknlokcaa.Pods Go.Proofs.Ytpghccbknlokcaa.FleetV Go.Proofs.Ytpghccbknlokcaa.Draw Go.Proofs.Ytpghccbknlokcaa.Crew
set_option linter.unusedVariables false

def IdOk (z : Int) : Prop := 0 ≤ z ∧ z ≤ 1000000001
theorem IdOk.wf {z : Int} (h : IdOk z) : (Lit.int .i64 z).wf = true := by
  have h1 := h.1
  have h2 := h.2
  simp [Lit.wf, IntKind.min, IntKind.max, IntKind.signed, IntKind.bits]; omega
/-- At most k pods, all numbers small. -/
def Fine (k : Nat) (ps : PList) (nx : Int) : Prop := ps.length ≤ k ∧ (∀ p ∈ ps, IdOk p.1) ∧ IdOk nx
theorem fine_more {k k' : Nat} {ps : PList} {nx : Int} (h : Fine k ps nx) (hk : k ≤ k') : Fine k' ps nx := ⟨by have := h.1; omega, h.2⟩
theorem fine_at {k : Nat} {ps : PList} {nx : Int} (h : Fine k ps nx) {j : Nat} (hj : j < ps.length) : IdOk (ps.getD j z5).1 := by
  have e : ps.getD j z5 = ps[j] := by simp [List.getD, hj]
  rw [e]
  exact h.2.1 _ (List.getElem_mem hj)
theorem fine_add {k : Nat} {ps : PList} {nx : Int} (rev now : Int) (h : Fine k ps nx) (hk : 30 ≤ k) : Fine k (addD (ps, nx) rev now).1 (addD (ps, nx) rev now).2 := by
  by_cases hA : AddOk ps nx rev now
  · rw [(add_yes hA).1]
    have h1 := hA.2.2.2.1
    have h2 := hA.2.2.2.2
    refine ⟨by simp; omega, fun p hp => ?_, ?_⟩
    · rcases List.mem_append.1 hp with hp | hp
      · exact h.2.1 p hp
      · obtain rfl : p = (nx, rev, 0, 0, now) := by simpa using hp
        exact h.2.2
    · have := h.2.2.1
      exact ⟨by show 0 ≤ nx + 1; omega, by show nx + 1 ≤ _; omega⟩
  · rw [(add_no hA).1]; exact h
theorem fine_setP {k : Nat} {ps : PList} {nx : Int} {p : Pd} (h : Fine k ps nx) (hp : IdOk p.1) : Fine k (setP p ps) nx := by
  refine ⟨by rw [len_setP]; exact h.1, fun q hq => ?_, h.2.2⟩
  rcases mem_setP hq with rfl | hq
  · exact hp
  · exact h.2.1 q hq
theorem fine_take {k : Nat} {ps : PList} {nx : Int} (rp gen st now : Int) (h : Fine k ps nx) : Fine k (takeD (ps, nx) rp gen st now).1 (takeD (ps, nx) rp gen st now).2 := by
  unfold takeD
  split
  · split
    · exact h
    · rename_i p hf
      have hp := fnd_mem hf
      split
      · exact h
      · split
        · refine ⟨by have := len_off rp ps; have := h.1; show (offP rp ps).length ≤ k; omega, fun q hq => h.2.1 q (mem_off.1 hq).1, h.2.2⟩
        · exact fine_setP h (by rw [rep_id]; exact h.2.1 _ hp.1)
  · exact h
theorem fine_go {k : Nat} {ps : PList} {nx : Int} (id now : Int) (h : Fine k ps nx) : Fine k (goD (ps, nx) id now).1 (goD (ps, nx) id now).2 := by
  unfold goD
  cases e : goP (ps, nx) id now with
  | none => exact h
  | some p =>
    refine fine_setP h ?_
    unfold goP at e
    split at e
    · split at e
      · rename_i q hf
        split at e
        · cases e
        · injection e with e
          subst e
          exact h.2.1 q (fnd_mem hf).1
      · cases e
    · cases e
theorem fine_set {k : Nat} {ps : PList} {nx : Int} {p : Pd} {j : Nat} (h : Fine k ps nx) (hp : IdOk p.1) : Fine k (ps.set j p) nx := by
  refine ⟨by simpa using h.1, fun q hq => ?_, h.2.2⟩
  rcases List.mem_or_eq_of_mem_set hq with hq | rfl
  · exact h.2.1 q hq
  · exact hp
theorem fine_next {k : Nat} {ps : PList} {nx z : Int} (h : Fine k ps nx) (hz : IdOk z) : Fine k ps z := ⟨h.1, h.2.1, hz⟩
theorem fine_push {k : Nat} {ps : PList} {nx : Int} {p : Pd} (h : Fine k ps nx) (hp : IdOk p.1) : Fine (k + 1) (ps ++ [p]) nx := by
  refine ⟨by have := h.1; simp; omega, fun q hq => ?_, h.2.2⟩
  rcases List.mem_append.1 hq with hq | hq
  · exact h.2.1 q hq
  · obtain rfl : q = p := by simpa using hq
    exact hp
theorem fine_new (k : Nat) : Fine k [] 1 := ⟨Nat.zero_le _, by simp, by unfold IdOk; omega⟩

/-! one cell of a pod -/
def setF (p : Pd) (i : Nat) (z : Int) : Pd := if i = 1 then (p.1, z, p.2.2) else if i = 2 then (p.1, p.2.1, z, p.2.2.2) else (p.1, p.2.1, p.2.2.1, z, p.2.2.2.2)
theorem setF_id (p : Pd) (i : Nat) (z : Int) : (setF p i z).1 = p.1 := by unfold setF; split; rfl; split <;> rfl
theorem flat_setF (ps : PList) (j i : Nat) (a : Int) (hj : j < ps.length) (h1 : 1 ≤ i) (h3 : i ≤ 3) : (flat ps).set (j * 5 + i) (.int .i64 a) = flat (ps.set j (setF (ps.getD j z5) i a)) := by
  induction ps generalizing j with
  | nil => simp at hj
  | cons x l ih =>
    cases j with
    | zero =>
      have hi : i = 1 ∨ i = 2 ∨ i = 3 := by omega
      rcases hi with rfl | rfl | rfl <;> simp [flat_cons, cells5, setF]
    | succ j =>
      have e2 : (j + 1) * 5 + i = j * 5 + i + 1 + 1 + 1 + 1 + 1 := by omega
      have e : (x :: l).getD (j + 1) z5 = l.getD j z5 := by simp [List.getD]
      rw [e2, e, List.set_cons_succ, flat_cons, flat_cons, ← ih j (by simpa using hj)]
      simp only [cells5, List.cons_append, List.nil_append, List.set_cons_succ]
theorem own_setF {w : World} {base g n cap j i : Nat} {ps : PList} (h : OwnP w base (some ⟨g, 0, none⟩) n cap ps) (hj : j < n) (h1 : 1 ≤ i) (h3 : i ≤ 3) (a : Int) :
    OwnP (w.setCell ⟨g, j * 5 + i, none⟩ (.int .i64 a)) base (some ⟨g, 0, none⟩) n cap (ps.set j (setF (ps.getD j z5) i a)) := by
  refine ⟨by simpa using h.1, ?_⟩
  rw [← flat_setF ps j i a (by rw [h.1]; exact hj) h1 h3]
  exact (h.2.stored (j * 5 + i) (.int .i64 a)).1

/-! amid a drawing -/
theorem grown_bel {w w' : World} {r : Option Nat} (h : Below w.heap.size w w') : w.grownBy w' r := ⟨h.os, h.tape, h.output, h.size, fun i hi _ => h.block i hi⟩
theorem grown_hi {w wr : World} {r : Option Nat} (h : w.grownBy wr r) (p : Addr) (hp : w.heap.size ≤ p.block) (u : Value) : w.grownBy (wr.setCell p u) r :=
  ⟨h.os, h.tape, h.output, by have := h.size; simpa [World.setCell] using this, fun i hi hn => (Below.heap_setCell wr p u i (by omega)).trans (h.block i hi hn)⟩
theorem cur_set {w : World} {B g : Nat} {A : Option Addr} {n cap : Nat} {zs : List UInt8} (h : CurAt w B g A n cap zs) (p : Addr) (hp : g < p.block) (u : Value) : CurAt (w.setCell p u) B g A n cap zs := by
  obtain ⟨i, k, hc⟩ := h
  have hge := hc.ge
  exact ⟨i, k, ⟨(Below.heap_setCell w p u g (by omega)).trans hc.blk, hc.le, hc.small, hc.bytes.keep fun q hq => World.cell?_of_block (Below.heap_setCell w p u q.block (by omega)), hc.ge⟩⟩
theorem cur_drew {w : World} {B g : Nat} {A : Option Addr} {n cap : Nat} {zs : List UInt8} (h : CurAt w B g A n cap zs) : CurAt w.drew B g A n cap zs := h.below (w' := w.drew) ⟨rfl, rfl, rfl, Nat.le_refl _, fun _ _ => rfl⟩
theorem undrew_g {a b : World} {r : Option Nat} (h : a.drew.grownBy b r) : a.grownBy b r := ⟨h.os, h.tape, h.output, h.size, h.block⟩

/-- The answer's variable, the fleet's at block fb, the cursor. -/
structure Dr (w wr : World) (fb B g : Nat) (A : Option Addr) (n cap : Nat) (zs : List UInt8) (A' : Option Addr) (m c' : Nat) (ps : PList) (nx : Int) : Prop where
  r4 : wr.heap[w.heap.size]? = some (.cells #[.slice none 0 0, .int .i64 0] 44)
  box : wr.heap[fb]? = some (.cells #[.slice A' m c', .int .i64 nx] 44)
  own : OwnP wr (w.heap.size + 1) A' m c' ps
  cur : CurAt wr B g A n cap zs
  gr : w.grownBy wr (some g)
section
variable {w wr w' : World} {fb B g : Nat} {A : Option Addr} {n cap : Nat} {zs : List UInt8} {A' A2 : Option Addr} {m c' m2 c2 : Nat} {ps ps2 : PList} {nx : Int}
theorem Dr.sz (h : Dr w wr fb B g A n cap zs A' m c' ps nx) : fb < wr.heap.size := box_lt h.box
theorem Dr.step (h : Dr w wr fb B g A n cap zs A' m c' ps nx) (hgl : g < w.heap.size) (hb : w.heap.size < fb) (hg : wr.grownBy w' (some g)) (hc : CurAt w' B g A n cap zs) : Dr w w' fb B g A n cap zs A' m c' ps nx :=
  ⟨(hg.block _ (box_lt h.r4) (by simp; omega)).trans h.r4, (hg.block _ (box_lt h.box) (by simp; omega)).trans h.box, h.own.same fun k hk => hg.block k (h.own.lt k hk).2 (by have := (h.own.lt k hk).1; simp; omega), hc, grown_trans h.gr hg⟩
theorem Dr.alloc (h : Dr w wr fb B g A n cap zs A' m c' ps nx) (o : Obj) : Dr w (wr.alloc o) fb B g A n cap zs A' m c' ps nx :=
  ⟨box_alloc h.r4 o, box_alloc h.box o, h.own.below (bel1 _ _), h.cur.alloc o, grown_alloc h.gr o⟩
theorem Dr.drew (h : Dr w wr fb B g A n cap zs A' m c' ps nx) : Dr w wr.drew fb B g A n cap zs A' m c' ps nx :=
  ⟨h.r4, h.box, h.own.same fun _ _ => rfl, cur_drew h.cur, ⟨h.gr.os, h.gr.tape, h.gr.output, h.gr.size, h.gr.block⟩⟩
theorem Dr.below (h : Dr w wr fb B g A n cap zs A' m c' ps nx) (hb : Below wr.heap.size wr w') : Dr w w' fb B g A n cap zs A' m c' ps nx :=
  ⟨box_below h.r4 hb, box_below h.box hb, h.own.below hb, h.cur.below hb, grown_trans h.gr (grown_bel hb)⟩
/-- Another fleet is stored. -/
theorem Dr.put (h : Dr w wr fb B g A n cap zs A' m c' ps nx) (hgl : g < w.heap.size) (hb : w.heap.size < fb) (hw : Below wr.heap.size wr w') (hO : OwnP w' wr.heap.size A2 m2 c2 ps2) (nx2 : Int) :
    Dr w ((w'.setCell ⟨fb, 0, none⟩ (.slice A2 m2 c2)).setCell ⟨fb, 1, none⟩ (.int .i64 nx2)) fb B g A n cap zs A2 m2 c2 ps2 nx2 := by
  have h2 := h.below hw
  have hs := h.sz
  refine ⟨box_other (box_other h2.r4 _ _ (by show w.heap.size ≠ fb; omega)) _ _ (by show w.heap.size ≠ fb; omega), box_set (i := 1) (box_set (i := 0) h2.box _) _, ?_, cur_set (cur_set h2.cur _ (by show g < fb; omega) _) _ (by show g < fb; omega) _, grown_hi (grown_hi h2.gr _ (by show w.heap.size ≤ fb; omega) _) _ (by show w.heap.size ≤ fb; omega) _⟩
  refine (hO.down (by omega)).same fun k hk => ?_
  have hk2 := (hO.lt k hk).1
  exact (Below.heap_setCell _ _ _ k (by show k ≠ fb; omega)).trans (Below.heap_setCell _ _ _ k (by show k ≠ fb; omega))
/-- Another Next. -/
theorem Dr.next (h : Dr w wr fb B g A n cap zs A' m c' ps nx) (hgl : g < w.heap.size) (hb : w.heap.size < fb) (z : Int) : Dr w (wr.setCell ⟨fb, 1, none⟩ (.int .i64 z)) fb B g A n cap zs A' m c' ps z := by
  refine ⟨box_other h.r4 _ _ (by show w.heap.size ≠ fb; omega), box_set (i := 1) h.box _, h.own.same fun k hk => Below.heap_setCell _ _ _ k ?_, cur_set h.cur _ (by show g < fb; omega) _, grown_hi h.gr _ (by show w.heap.size ≤ fb; omega) _⟩
  exact own_ne h.own h.box (by decide) k hk
/-- Another field of a pod. -/
theorem Dr.field {q j i : Nat} (h : Dr w wr fb B g A n cap zs (some ⟨q, 0, none⟩) m c' ps nx) (hgl : g < w.heap.size) (hb : w.heap.size < fb) (hj : j < m) (h1 : 1 ≤ i) (h3 : i ≤ 3) (z : Int) : Dr w (wr.setCell ⟨q, j * 5 + i, none⟩ (.int .i64 z)) fb B g A n cap zs (some ⟨q, 0, none⟩) m c' (ps.set j (setF (ps.getD j z5) i z)) nx := by
  have hq := h.own.lt q (by simp [Value.ownBlock])
  have hne : q ≠ fb := own_ne h.own h.box (by decide) q (by simp [Value.ownBlock])
  exact ⟨box_other h.r4 _ _ (by show w.heap.size ≠ q; omega), box_other h.box _ _ (by show fb ≠ q; omega), own_setF h.own hj h1 h3 z, cur_set h.cur _ (by show g < q; omega) _, grown_hi h.gr _ (by show w.heap.size ≤ q; omega) _⟩
/-- A pod is appended, and the list stored. -/
theorem Dr.push {g6 cap6 : Nat} {p : Pd} (h : Dr w wr fb B g A n cap zs A' m c' ps nx) (hgl : g < w.heap.size) (hb : w.heap.size < fb) (hown : w'.ownsRow (w.heap.size + 1) 52 5 (.slice (some ⟨g6, 0, none⟩) (m + 1) cap6) (m + 1) (flat ps ++ cells5 p)) (hgr : wr.grownBy w' (Value.slice A' m c').ownBlock) (hat : (Value.slice A' m c').ownBlock = some g6 ∨ g6 = wr.heap.size) :
    w'.heap[fb]? = some (.cells #[.slice A' m c', .int .i64 nx] 44) ∧ Dr w (w'.setCell ⟨fb, 0, none⟩ (.slice (some ⟨g6, 0, none⟩) (m + 1) cap6)) fb B g A n cap zs (some ⟨g6, 0, none⟩) (m + 1) cap6 (ps ++ [p]) nx := by
  have hq : ∀ q, (Value.slice A' m c').ownBlock = some q → w.heap.size + 1 ≤ q ∧ q ≠ fb := fun q hq => ⟨(h.own.lt q hq).1, own_ne h.own h.box (by decide) q hq⟩
  have hO6 : OwnP w' (w.heap.size + 1) (some ⟨g6, 0, none⟩) (m + 1) cap6 (ps ++ [p]) := ⟨by rw [List.length_append, h.own.1]; rfl, by rw [flat_app, flat_one]; exact hown⟩
  have hbx : w'.heap[fb]? = some (.cells #[.slice A' m c', .int .i64 nx] 44) := (hgr.block fb h.sz (fun e => (hq fb e.symm).2 rfl)).trans h.box
  have h4 : w'.heap[w.heap.size]? = some (.cells #[.slice none 0 0, .int .i64 0] 44) := (hgr.block _ (box_lt h.r4) (fun e => by have := (hq _ e.symm).1; omega)).trans h.r4
  have hcur : CurAt w' B g A n cap zs := by
    obtain ⟨i, k, hc⟩ := h.cur
    have hl := blk_lt hc.blk
    have hge := hc.ge
    exact ⟨i, k, ⟨(hgr.block g hl (fun e => by have := (hq g e.symm).1; omega)).trans hc.blk, hc.le, hc.small, hc.bytes.keep fun p hp => World.cell?_of_block (hgr.block p.block (by omega) (fun e => by have := (hq _ e.symm).1; omega)), hc.ge⟩⟩
  have hg2 : w.grownBy w' (some g) := ⟨hgr.os.trans h.gr.os, hgr.tape.trans h.gr.tape, hgr.output.trans h.gr.output, Nat.le_trans h.gr.size hgr.size, fun i hi hn => (hgr.block i (Nat.lt_of_lt_of_le hi h.gr.size) (fun e => by have := (hq i e.symm).1; omega)).trans (h.gr.block i hi hn)⟩
  refine ⟨hbx, box_other h4 _ _ (by show w.heap.size ≠ fb; omega), box_set (i := 0) hbx _, hO6.same fun k hk => Below.heap_setCell _ _ _ k ?_, cur_set hcur _ (by show g < fb; omega) _, grown_hi hg2 _ (by show w.heap.size ≤ fb; omega) _⟩
  exact own_ne hO6 hbx (by decide) k hk
end
/-- Some fleet, drawn. -/
def FleetSaid (w : World) (B g : Nat) (A : Option Addr) (n cap : Nat) (zs : List UInt8) (e : Ending) (w' : World) : Prop :=
  ∃ (A' : Option Addr) (m c' : Nat) (ps : PList) (nx : Int), e = .returned (.agg #[.slice A' m c', .int .i64 nx]) ∧ m ≤ 40 ∧ Fine 40 ps nx ∧ OwnP w' w.heap.size A' m c' ps ∧ CurAt w' B g A n cap zs ∧ w.grownBy w' (some g)
theorem Dr.end_ {w wr : World} {fb B g : Nat} {A : Option Addr} {n cap : Nat} {zs : List UInt8} {A' : Option Addr} {m c' : Nat} {ps : PList} {nx : Int} (h : Dr w wr fb B g A n cap zs A' m c' ps nx) (hgl : g < w.heap.size) (hf : Fine 40 ps nx) :
    FleetSaid w B g A n cap zs (.returned (.agg #[.slice A' m c', .int .i64 nx])) ((wr.setCell ⟨w.heap.size, 0, none⟩ (.slice A' m c')).setCell ⟨w.heap.size, 1, none⟩ (.int .i64 nx)) := by
  refine ⟨A', m, c', ps, nx, rfl, by have := hf.1; rw [h.own.1] at this; exact this, hf, ?_, cur_set (cur_set h.cur _ hgl _) _ hgl _, grown_hi (grown_hi h.gr _ (Nat.le_refl _) _) _ (Nat.le_refl _) _⟩
  refine (h.own.down (by omega)).same fun k hk => ?_
  have hk2 := (h.own.lt k hk).1
  exact (Below.heap_setCell _ _ _ k (by show k ≠ w.heap.size; omega)).trans (Below.heap_setCell _ _ _ k (by show k ≠ w.heap.size; omega))
end Go.Proofs.Ytpghccbknlokcaa.DrawF
