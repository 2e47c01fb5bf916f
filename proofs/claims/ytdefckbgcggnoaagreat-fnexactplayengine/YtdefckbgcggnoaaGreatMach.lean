/-
  THE PROGRAM's ENGINE AT WORK (impl.machine), in memory: its box, its pods' row, its events' row; and the first contracts over it: tell, enter, the tries' atomic, start.
-/
import Derived.Test.YtdefckbgcggnoaaGreatEng
import Derived.Test.YtdefckbgcggnoaaGreatSeg
import Derived.Test.YtdefckbgcggnoaaGreatLocks
import Derived.Laws.LoneSync
import Derived.Maps.AppendAt
namespace Go.Proofs.YtdefckbgcggnoaaGreat.Mach
open Go.ChangeShapes Go.WideShapes Go.ChangeAt Go.RowKit
open Go.Proofs.YtdefckbgcggnoaaGreat.LK Go.Proofs.YtdefckbgcggnoaaGreat.Pods Go.Proofs.YtdefckbgcggnoaaGreat.EngV Go.Proofs.YtdefckbgcggnoaaGreat.Eng Go.Proofs.YtdefckbgcggnoaaGreat.Seg
set_option linter.unusedVariables false
set_option linter.unusedSimpArgs false

def cells3 (v : Ev) : List Value := [.int .i64 v.1, .int .i64 v.2.1, .int .i64 v.2.2]
def flat3 (l : List Ev) : List Value := l.flatMap cells3
theorem flat3_app (a b : List Ev) : flat3 (a ++ b) = flat3 a ++ flat3 b := by simp [flat3]
theorem flat3_one (v : Ev) : flat3 [v] = cells3 v := by simp [flat3]
/-- A row of events of one's own. -/
def OwnE (w : World) (lo : Nat) (A : Option Addr) (n c : Nat) (l : List Ev) : Prop := l.length = n ∧ w.ownsRow lo 91 3 (.slice A n c) n (flat3 l)
section
variable {w w' : World} {lo : Nat} {A : Option Addr} {n c : Nat} {l : List Ev}
theorem OwnE.lt (h : OwnE w lo A n c l) (k : Nat) (hk : (Value.slice A n c).ownBlock = some k) : lo ≤ k ∧ k < w.heap.size := h.2.lt k hk
theorem OwnE.same (h : OwnE w lo A n c l) (hs : ∀ k, (Value.slice A n c).ownBlock = some k → w'.heap[k]? = w.heap[k]?) : OwnE w' lo A n c l := by
  refine ⟨h.1, h.2.1, ?_⟩
  rcases h.2.2 with ⟨h1, h2⟩ | ⟨g, cap, cur, h1, hb, hg, h3⟩
  · exact .inl ⟨h1, h2⟩
  · refine .inr ⟨g, cap, cur, h1, hb, ?_, h3⟩
    rw [hs g (by rw [h1]; rfl)]
    exact hg
theorem OwnE.below (h : OwnE w lo A n c l) (hb : Below w.heap.size w w') : OwnE w' lo A n c l := h.same fun k hk => hb.block k (h.lt k hk).2
theorem OwnE.nil (w : World) (lo : Nat) : OwnE w lo none 0 0 [] := ⟨rfl, World.ownsRow_nil _ _ _ _⟩
end
/-- A row and a box of another type are two blocks. -/
theorem own_ne {w : World} {lo : Nat} {v : Value} {n size q : Nat} {xs : List Value} {cs : Array Value} {e t : TypeId} {f : Nat × Nat} (h : w.ownsRow lo e size v n xs) (hq : w.heap[q]? = some (.cells cs t f)) (ht : t ≠ e) (k : Nat) (hk : v.ownBlock = some k) : k ≠ q := by
  rintro rfl
  rcases h.2 with ⟨rfl, _⟩ | ⟨g, cap, cur, rfl, hb, hg, _⟩
  · cases hk
  · have hk2 : g = k := by simpa [Value.ownBlock] using hk
    subst hk2
    rw [hg] at hq
    injection hq with hq
    injection hq with _ hq _
    exact ht hq.symm
theorem rows_ne {w : World} {lo lo' : Nat} {v v' : Value} {n n' s s' : Nat} {xs ys : List Value} {e e' : TypeId} (h : w.ownsRow lo e s v n xs) (h' : w.ownsRow lo' e' s' v' n' ys) (ht : e ≠ e') (k : Nat) (hk : v.ownBlock = some k) : v'.ownBlock ≠ some k := by
  intro hk'
  rcases h'.2 with ⟨rfl, _⟩ | ⟨g, cap, cur, rfl, hb, hg, _⟩
  · cases hk'
  · have hk2 : g = k := by simpa [Value.ownBlock] using hk'
    subst hk2
    exact own_ne h hg (Ne.symm ht) _ hk rfl

/-- The machine's 24 cells: its lock, its engine (whose own Tries is out of date), its events, its tries. -/
def maL (lk ot : Int) (r : Run) (A : Option Addr) (n c : Nat) (E : Option Addr) (m k : Nat) : List Value := [.int .i32 lk, .int .u32 0,
  .int .i64 r.e.sp.x0, .int .i64 r.e.sp.x1, .int .i64 r.e.sp.x2, .int .i64 r.e.sp.x3, .int .i64 r.e.sp.x4, .int .i64 r.e.sp.x5, .int .i64 r.e.sp.x6, .int .i64 r.e.sp.x7, .int .i64 r.e.sp.x8, .int .i64 r.e.sp.x9, .int .i64 r.e.sp.x10,
  .int .i64 r.e.now, .int .i64 r.e.ph, .int .i64 r.e.tg, .int .i64 r.e.gd, .slice A n c, .int .i64 r.e.nx, .int .i64 r.e.st, .int .i64 ot, .int .i64 r.e.wt, .slice E m k, .int .i64 r.e.tr]
structure MachAt (w : World) (S : Nat → Prop) (b : Nat) (lk ot : Int) (r : Run) (A : Option Addr) (n c : Nat) (E : Option Addr) (m k : Nat) : Prop where
  box : w.heap[b]? = some (.cells (maL lk ot r A n c E m k).toArray 122 (0, 0))
  ps : OwnP w 0 A n c r.e.ps
  ev : OwnE w 0 E m k r.ev
  sb : S b
  sa : ∀ q, (Value.slice A n c).ownBlock = some q → S q
  se : ∀ q, (Value.slice E m k).ownBlock = some q → S q
def Mach (w : World) (S : Nat → Prop) (b : Nat) (lk ot : Int) (r : Run) : Prop := ∃ A n c E m k, MachAt w S b lk ot r A n c E m k
/-- No block of pods that was there is turned. -/
def Kept (w w' : World) : Prop := ∀ (q : Nat) (cs : Array Value) (f : Nat × Nat), w.heap[q]? = some (.cells cs 77 f) → w'.heap[q]? = some (.cells cs 77 f)
theorem Kept.refl (w : World) : Kept w w := fun _ _ _ h => h
theorem Kept.trans {a b c : World} (h : Kept a b) (k : Kept b c) : Kept a c := fun q cs f hq => k q cs f (h q cs f hq)
theorem Kept.below {w w' : World} (h : Below w.heap.size w w') : Kept w w' := fun q cs f hq => box_below hq h
theorem Kept.row {w : World} {b : Nat} {cs : Array Value} {t : TypeId} {f : Nat × Nat} (h : w.heap[b]? = some (.cells cs t f)) (ht : t ≠ 77) (vs : Array Value) : Kept w (w.setRow b vs) := fun q cs' f' hq => row_far hq (fun e => by
  subst e
  rw [h] at hq
  injection hq with hq
  injection hq with _ hq _
  exact ht hq)
theorem Kept.set {w : World} {b i : Nat} {cs : Array Value} {t : TypeId} {f : Nat × Nat} (h : w.heap[b]? = some (.cells cs t f)) (ht : t ≠ 77) (v : Value) : Kept w (w.setCell ⟨b, i, none⟩ v) := fun q cs' f' hq => box_other hq _ _ (fun e => by
  have e : q = b := e
  subst e
  rw [h] at hq
  injection hq with hq
  injection hq with _ hq _
  exact ht hq)
theorem Kept.grown {w w' : World} {lo size n : Nat} {v : Value} {xs : List Value} {e : TypeId} (hg : w.grownBy w' v.ownBlock) (h : w.ownsRow lo e size v n xs) (ht : e ≠ 77) : Kept w w' := fun q cs f hq =>
  (hg.block q (box_lt hq) (fun e' => own_ne h hq (Ne.symm ht) q e'.symm rfl)).trans hq
theorem Kept.pods {w w' : World} (h : Kept w w') {lo : Nat} {A : Option Addr} {n c : Nat} {ps : PList} (hp : OwnP w lo A n c ps) : OwnP w' lo A n c ps := hp.same fun q hq => by
  rcases hp.2.2 with ⟨h1, _⟩ | ⟨g, cap, cur, h1, hb, hg, _⟩
  · rw [h1] at hq; cases hq
  · rw [h1] at hq
    have e : g = q := by simpa [Value.ownBlock] using hq
    subst e
    rw [h _ _ _ hg, hg]
/-- What a method of the machine leaves: its answer, the machine r', nothing else of what was there turned. -/
def Moved (b : Nat) (lk ot : Int) (r' : Run) (res : Value) (S : Nat → Prop) (w : World) (e : Ending) (w' : World) : Prop :=
  e = .returned res ∧ ∃ S' : Nat → Prop, Mach w' S' b lk ot r' ∧ (∀ q, S' q → S q ∨ w.heap.size ≤ q) ∧ Turned S w w' ∧ Kept w w'
section
variable {w w' : World} {S : Nat → Prop} {b : Nat} {lk ot : Int} {r : Run} {A : Option Addr} {n c : Nat} {E : Option Addr} {m k : Nat}
theorem MachAt.lt (h : MachAt w S b lk ot r A n c E m k) : b < w.heap.size := box_lt h.box
theorem MachAt.below (h : MachAt w S b lk ot r A n c E m k) (hb : Below w.heap.size w w') : MachAt w' S b lk ot r A n c E m k := ⟨box_below h.box hb, h.ps.below hb, h.ev.below hb, h.sb, h.sa, h.se⟩
theorem Mach.below (h : Mach w S b lk ot r) (hb : Below w.heap.size w w') : Mach w' S b lk ot r := by
  obtain ⟨A, n, c, E, m, k, h⟩ := h
  exact ⟨A, n, c, E, m, k, h.below hb⟩
theorem MachAt.nea (h : MachAt w S b lk ot r A n c E m k) (q : Nat) (hq : (Value.slice A n c).ownBlock = some q) : q ≠ b := own_ne h.ps.2 h.box (by decide) q hq
theorem MachAt.nee (h : MachAt w S b lk ot r A n c E m k) (q : Nat) (hq : (Value.slice E m k).ownBlock = some q) : q ≠ b := own_ne h.ev.2 h.box (by decide) q hq
theorem MachAt.nae (h : MachAt w S b lk ot r A n c E m k) (q : Nat) (hq : (Value.slice A n c).ownBlock = some q) : (Value.slice E m k).ownBlock ≠ some q := rows_ne h.ps.2 h.ev.2 (by decide) q hq
/-- The box is laid anew: other numbers, the same rows. -/
theorem MachAt.row {lk' ot' : Int} {r' : Run} (h : MachAt w S b lk ot r A n c E m k) (hp : r'.e.ps = r.e.ps) (he : r'.ev = r.ev) : MachAt (w.setRow b (maL lk' ot' r' A n c E m k).toArray) S b lk' ot' r' A n c E m k :=
  ⟨row_box h.box, by rw [hp]; exact h.ps.same fun q hq => setRow_other _ _ _ _ (h.nea q hq), by rw [he]; exact h.ev.same fun q hq => setRow_other _ _ _ _ (h.nee q hq), h.sb, h.sa, h.se⟩
theorem turned_row (h : MachAt w S b lk ot r A n c E m k) (vs : Array Value) : Turned S w (w.setRow b vs) := (row_turned w b vs).wide fun q hq => by rw [hq]; exact h.sb
theorem moved_of {r' : Run} {res : Value} {lk' ot' : Int} (h : MachAt w' S b lk' ot' r' A n c E m k) (ht : Turned S w w') (hk : Kept w w') : Moved b lk' ot' r' res S w (.returned res) w' := ⟨rfl, S, ⟨A, n, c, E, m, k, h⟩, fun q hq => .inl hq, ht, hk⟩
/-- One method behind the other. -/
theorem Moved.step {S' : Nat → Prop} {r' : Run} {res : Value} {lk2 ot2 : Int} {v v' : World} {e : Ending} (hS : ∀ q, S' q → S q ∨ w.heap.size ≤ q) (ht : Turned S w v) (hk : Kept w v) (h : Moved b lk2 ot2 r' res S' v e v') : Moved b lk2 ot2 r' res S w e v' := by
  obtain ⟨rfl, S2, hm, hs, h2, h3⟩ := h
  refine ⟨rfl, S2, hm, fun q hq => ?_, ?_, hk.trans h3⟩
  · rcases hs q hq with h3 | h3
    · exact hS q h3
    · exact .inr (Nat.le_trans ht.size h3)
  · exact ⟨h2.os.trans ht.os, h2.tape.trans ht.tape, h2.output.trans ht.output, Nat.le_trans ht.size h2.size, fun q hq hn => (h2.block q (Nat.lt_of_lt_of_le hq ht.size) (fun h3 => by rcases hS q h3 with h4 | h4; exact hn h4; omega)).trans (ht.block q hq hn)⟩
end
theorem infoE : (Tryz.prog.info? 91).map (fun i => (i.zero, i.size, i.bytes)) = some (some (.agg #[.int .i64 0, .int .i64 0, .int .i64 0]), 3, 24) := by kernel_rfl
theorem of_app {w' : World} {base n : Nat} {v' : Value} {l : List Ev} {x : Ev} (hl : l.length = n) (h : w'.ownsRow base 91 3 v' (n + 1) (flat3 l ++ cells3 x)) : ∃ A c, v' = .slice A (n + 1) c ∧ OwnE w' base A (n + 1) c (l ++ [x]) := by
  obtain ⟨g, cap, rfl, _⟩ := h.form (by omega)
  exact ⟨_, _, rfl, by simp [hl], by rw [flat3_app, flat3_one]; exact h⟩
theorem news3 (w : World) (l : List Value) (t : TypeId) : ∀ j u, l[j]? = some u → (w.alloc (.cells l.toArray t)).cell? ((⟨w.heap.size, 0, none⟩ : Addr).add j) = some u := by
  intro j u h
  rw [FlatOpen.add_off, Nat.zero_add]
  exact box_cell (box_new w (.cells l.toArray t)) j u (by simpa using h)

set_option maxRecDepth 100000 in
set_option maxHeartbeats 3200000 in
theorem tell_any (w : World) (S : Nat → Prop) (b : Nat) (lk ot : Int) (r : Run) (kd x y : Int) (h : Mach w S b lk ot r) (hl : r.ev.length ≤ 1000000) :
    Calls Tryz.prog 197 #[.pointer (some ⟨b, 0, none⟩), .int .i64 kd, .int .i64 x, .int .i64 y] w (Moved b lk ot (r.tell kd x y) (.tuple #[]) S w) := by
  obtain ⟨A, n, c, E, m, k, h⟩ := h
  obtain ⟨i0, hi0, hz0, hz1, hz2⟩ := info_parts infoE
  have H := Lib.hid h
  have hm : m ≤ 1000000 := by rw [← h.ev.1]; exact hl
  have c22 : w.cell? ⟨b, 22, none⟩ = some (.slice E m k) := box_cell h.box 22 _ rfl
  clear h
  go_enter Tryz.func197, Tryz.ntmps197
  go_wp2_with (at_builtin; refine wpList_append_own_at _ rfl (.tmp 12) (.tmp 17) _ rfl 0 91 i0 _ 3 24 Tryz.underlying37 hi0 hz0 hz1 hz2 rfl (by omega) (.slice E m k) m (flat3 r.ev) rfl ?o1 ⟨w.heap.size, 0, none⟩ 1 1 [.int .i64 kd, .int .i64 x, .int .i64 y] rfl rfl (news3 w [.int .i64 kd, .int .i64 x, .int .i64 y] 91) ?o3 ?o4 ?o5 ?o6 ?_)
  case o1 => exact (H.out.ev.below (bel1 w _)).2
  case o3 => intro u hu; simp at hu; rcases hu with rfl | rfl | rfl <;> rfl
  case o4 => unfold maxLen; omega
  case o5 => omega
  case o6 => omega
  intro v2 w5 hown hgr hif hat
  obtain ⟨E2, k2, rfl, hO⟩ := of_app (l := r.ev) (x := (kd, x, y)) H.out.ev.1 hown
  have hbl := H.out.lt
  have hbx := (hgr.block b (by rw [World.size_alloc]; omega) (fun e => H.out.nee b e.symm rfl)).trans (box_alloc H.out.box _)
  have d22 : w5.cell? ⟨b, 22, none⟩ = some (.slice E m k) := box_cell hbx 22 _ rfl
  have f22 := box_frozen hbx 22
  have HX := Lib.hid hbx
  have HO := Lib.hid hO
  have HG := Lib.hid hgr
  have HAT : Hid (∀ q, (Value.slice E2 (m + 1) k2).ownBlock = some q → S q ∨ w.heap.size ≤ q) := fun q hq => by
    rcases hat with h1 | h1
    · exact .inl (H.out.se q (by rw [← h1]; exact hq))
    · right
      have h2 := Option.some.inj (h1.symm.trans hq)
      first | omega | (rw [World.size_alloc] at h2; omega)
  clear hown hgr hif hat hO hbx c22
  go_wp2
  go_end0
  have hps : OwnP w5 0 A n c r.e.ps := (H.out.ps.below (bel1 w _)).same fun q hq => HG.out.block q (((H.out.ps.below (bel1 w _)).lt q hq).2) (fun e => H.out.nae q hq e.symm)
  have hew := HO.out.lt
  have ht5 : Turned S w w5 := (Turned.of_below (bel1 w _)).trans (Turned.of_grown HG.out (fun q hq => H.out.se q hq))
  have hset := set_row (i := 22) HX.out (.slice E2 (m + 1) k2) (maL lk ot (r.tell kd x y) A n c E2 (m + 1) k2) rfl
  rw [hset]
  have hne : ∀ q, (Value.slice E2 (m + 1) k2).ownBlock = some q → q ≠ b := fun q hq => own_ne HO.out.2 HX.out (by decide) q hq
  have hna : ∀ q, (Value.slice A n c).ownBlock = some q → q ≠ b := fun q hq => H.out.nea q hq
  refine ⟨rfl, fun q => S q ∨ w.heap.size ≤ q, ⟨A, n, c, E2, m + 1, k2, ⟨row_box HX.out, hps.same fun q hq => setRow_other _ _ _ _ (hna q hq), HO.out.same fun q hq => setRow_other _ _ _ _ (hne q hq), .inl H.out.sb, fun q hq => .inl (H.out.sa q hq), HAT.out⟩⟩, fun q hq => hq, ht5.trans ((row_turned _ _ _).wide fun q hq => by rw [hq]; exact H.out.sb), ((Kept.below (bel1 w _)).trans (Kept.grown HG.out (H.out.ev.below (bel1 w _)).2 (by decide))).trans (Kept.row HX.out (by decide) _)⟩
set_option maxRecDepth 100000 in
set_option maxHeartbeats 3200000 in
theorem enter_any (w : World) (S : Nat → Prop) (b : Nat) (lk ot : Int) (r : Run) (ph : Int) (h : Mach w S b lk ot r) (hl : r.ev.length ≤ 1000000) :
    Calls Tryz.prog 185 #[.pointer (some ⟨b, 0, none⟩), .int .i64 ph] w (Moved b lk ot (r.enter ph) (.tuple #[]) S w) := by
  obtain ⟨A, n, c, E, m, k, h⟩ := h
  have H := Lib.hid h
  have d14 : w.cell? ⟨b, 14, none⟩ = some (.int .i64 r.e.ph) := box_cell h.box 14 _ rfl
  have f14 := box_frozen h.box 14
  clear h
  go_enter Tryz.func185, Tryz.ntmps185
  go_upto_region 1 with fail
  obtain ⟨W, hW⟩ : ∃ W, W = w.setCell ⟨b, 14, none⟩ (.int .i64 ph) := ⟨_, rfl⟩
  have hset := set_row (i := 14) H.out.box (.int .i64 ph) (maL lk ot ({ r with e := { r.e with ph := ph } } : Run) A n c E m k) rfl
  have HM : Hid (MachAt W S b lk ot ({ r with e := { r.e with ph := ph } } : Run) A n c E m k) := by rw [hW, hset]; exact H.out.row rfl rfl
  have HT : Hid (Turned S w W) := by rw [hW, hset]; exact turned_row H.out _
  have HKP : Hid (Kept w W) := by rw [hW]; exact Kept.set H.out.box (by decide) _
  rw [← hW]
  clear hW hset d14 f14
  have c15 : W.cell? ⟨b, 15, none⟩ = some (.int .i64 r.e.tg) := box_cell HM.out.box 15 _ rfl
  go_wp2_with fail
  refine (tell_any W S b lk ot ({ r with e := { r.e with ph := ph } } : Run) 2 ph r.e.tg ⟨A, n, c, E, m, k, HM.out⟩ hl).mono ?_
  intro e w2 hmv
  have HMV := Lib.hid (Moved.step (fun q hq => .inl hq) HT.out HKP.out hmv)
  obtain ⟨rfl, _⟩ := hmv
  clear c15
  go_wp2
  go_end0
  exact HMV.out
theorem store64 (b off : Nat) (x y : Int) (w : World) (hc : w.cell? ⟨b, off, none⟩ = some (.int .i64 x)) (hz : w.frozen? ⟨b, off, none⟩ = false) : Calls Tryz.prog 105 #[.pointer (some ⟨b, off, none⟩), .int .i64 y] w fun e w' => e = .returned (.tuple #[]) ∧ w' = w.setCell ⟨b, off, none⟩ (.int .i64 y) := by
  have hst := run_call_store (P := Tryz.prog) Tryz.func128 (by kernel_rfl) (by kernel_rfl) (by kernel_rfl) (by kernel_rfl) (k := .i64) (y := y) hc hz
  go_enter Tryz.func105, Tryz.ntmps105
  go_wp2
  go_end0
  exact ⟨rfl, rfl⟩
theorem load64 (b off : Nat) (x : Int) (w : World) (hc : w.cell? ⟨b, off, none⟩ = some (.int .i64 x)) : Calls Tryz.prog 74 #[.pointer (some ⟨b, off, none⟩)] w fun e w' => e = .returned (.int .i64 x) ∧ w' = w := by
  have hst := run_call_load (P := Tryz.prog) Tryz.func110 (by kernel_rfl) (by kernel_rfl) (by kernel_rfl) .i64 (by kernel_rfl) hc
  go_enter Tryz.func74, Tryz.ntmps74
  go_wp2
  go_ret
  exact ⟨rfl, rfl⟩
theorem add64 (b off : Nat) (x y s : Int) (w : World) (hs : x + y = s) (hb : -9223372036854775808 ≤ s ∧ s ≤ 9223372036854775807) (hc : w.cell? ⟨b, off, none⟩ = some (.int .i64 x)) (hz : w.frozen? ⟨b, off, none⟩ = false) : Calls Tryz.prog 216 #[.pointer (some ⟨b, off, none⟩), .int .i64 y] w fun e w' => e = .returned (.int .i64 s) ∧ w' = w.setCell ⟨b, off, none⟩ (.int .i64 s) := by
  have hst := run_call_add (P := Tryz.prog) Tryz.func239 (by kernel_rfl) (by kernel_rfl) (by kernel_rfl) .i64 (by kernel_rfl) (x := x) (y := y) (s := s) hc hz (by
    have hw : IntKind.i64.wrap (x + y) = s := by rw [hs]; exact FleetSpec.wrap_id hb.1 hb.2
    simp [Op.intArith, hw])
  go_enter Tryz.func216, Tryz.ntmps216
  go_wp2
  go_ret
  exact ⟨rfl, rfl⟩
set_option maxRecDepth 100000 in
set_option maxHeartbeats 3200000 in
theorem start_any (w : World) (S : Nat → Prop) (b : Nat) (lk ot : Int) (r : Run) (ph tg : Int) (h : Mach w S b lk ot r) (hl : r.ev.length ≤ 1000000) :
    Calls Tryz.prog 160 #[.pointer (some ⟨b, 0, none⟩), .int .i64 ph, .int .i64 tg] w (Moved b lk ot (r.start ph tg) (.tuple #[]) S w) := by
  obtain ⟨A, n, c, E, m, k, h⟩ := h
  have H := Lib.hid h
  have d13 : w.cell? ⟨b, 13, none⟩ = some (.int .i64 r.e.now) := box_cell h.box 13 _ rfl
  have d15 : w.cell? ⟨b, 15, none⟩ = some (.int .i64 r.e.tg) := box_cell h.box 15 _ rfl
  have d19 : w.cell? ⟨b, 19, none⟩ = some (.int .i64 r.e.st) := box_cell h.box 19 _ rfl
  have d21 : w.cell? ⟨b, 21, none⟩ = some (.int .i64 r.e.wt) := box_cell h.box 21 _ rfl
  have f15 := box_frozen h.box 15
  have f19 := box_frozen h.box 19
  have f21 := box_frozen h.box 21
  clear h
  go_enter Tryz.func160, Tryz.ntmps160
  go_upto_region 1 with fail
  obtain ⟨W, hW⟩ : ∃ W, W = ((w.setCell ⟨b, 15, none⟩ (.int .i64 tg)).setCell ⟨b, 19, none⟩ (.int .i64 r.e.now)).setCell ⟨b, 21, none⟩ (.int .i64 0) := ⟨_, rfl⟩
  have HM : Hid (MachAt W S b lk ot ({ r with e := { r.e with tg := tg, st := r.e.now, wt := 0 } } : Run) A n c E m k) := by
    rw [hW, set_row (i := 15) H.out.box (.int .i64 tg) (maL lk ot ({ r with e := { r.e with tg := tg } } : Run) A n c E m k) rfl,
      set_row (i := 19) (row_box H.out.box) (.int .i64 r.e.now) (maL lk ot ({ r with e := { r.e with tg := tg, st := r.e.now } } : Run) A n c E m k) rfl, row_row,
      set_row (i := 21) (row_box H.out.box) (.int .i64 0) (maL lk ot ({ r with e := { r.e with tg := tg, st := r.e.now, wt := 0 } } : Run) A n c E m k) rfl, row_row]
    exact H.out.row rfl rfl
  have HT : Hid (Turned S w W) := by rw [hW]; exact ((Turned.set _ _ _ H.out.sb).trans (Turned.set _ _ _ H.out.sb)).trans (Turned.set _ _ _ H.out.sb)
  have HKP : Hid (Kept w W) := by rw [hW]; exact ((Kept.set H.out.box (by decide) _).trans (Kept.set (set_box H.out.box _) (by decide) _)).trans (Kept.set (set_box (set_box H.out.box _) _) (by decide) _)
  rw [← hW]
  clear hW d13 d15 d19 d21 f15 f19 f21
  have c23 : W.cell? ⟨b, 23, none⟩ = some (.int .i64 r.e.tr) := box_cell HM.out.box 23 _ rfl
  go_wp2_with fail
  refine (store64 b 23 r.e.tr 0 _ c23 (box_frozen HM.out.box 23)).mono ?_
  rintro e W2 ⟨rfl, hW2⟩
  have HM2 : Hid (MachAt W2 S b lk ot ({ r with e := { r.e with tg := tg, st := r.e.now, tr := 0, wt := 0 } } : Run) A n c E m k) := by
    rw [hW2, set_row (i := 23) HM.out.box (.int .i64 0) (maL lk ot ({ r with e := { r.e with tg := tg, st := r.e.now, tr := 0, wt := 0 } } : Run) A n c E m k) rfl]
    exact HM.out.row rfl rfl
  have HT2 : Hid (Turned S w W2) := by rw [hW2]; exact HT.out.trans (Turned.set _ _ _ H.out.sb)
  have HKP2 : Hid (Kept w W2) := by rw [hW2]; exact HKP.out.trans (Kept.set HM.out.box (by decide) _)
  clear hW2 c23 HM HT HKP
  go_wp2_with fail
  refine (enter_any W2 S b lk ot ({ r with e := { r.e with tg := tg, st := r.e.now, tr := 0, wt := 0 } } : Run) ph ⟨A, n, c, E, m, k, HM2.out⟩ hl).mono ?_
  intro e w2 hmv
  have HMV := Lib.hid (Moved.step (fun q hq => .inl hq) HT2.out HKP2.out hmv)
  obtain ⟨rfl, _⟩ := hmv
  go_wp2
  go_end0
  exact HMV.out
end Go.Proofs.YtdefckbgcggnoaaGreat.Mach
