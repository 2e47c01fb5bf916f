import Derived.Conc.MuData
import Derived.Conc.MuLone
import Derived.KernelRfl
import Derived.Laws.LoneSync
import Derived.Maps.AppendAt
import Derived.Test.YtklgjjmcflgjeaaGreatRows
import Derived.Test.YtklgjjmcflgjeaaGreatQ
import Derived.Test.YtklgjjmcflgjeaaGreatR01
import Derived.Test.YtklgjjmcflgjeaaGreatR05
import Derived.Test.YtklgjjmcflgjeaaGreatR10
import Derived.Test.YtklgjjmcflgjeaaGreatR12
import Derived.Test.YtklgjjmcflgjeaaGreatR13
set_option linter.unusedVariables false
set_option linter.unusedSimpArgs false
namespace Go.Proofs.YtklgjjmcflgjeaaGreat.Locks
abbrev link : Go.Conc.Locks.MuLink := { lock := 84, unlock := 85, ilock := 132, iunlock := 133, lockSlow := 173, unlockSlow := 176, disable := 169, enable := 171, acquire := 172, relMerge := 174, cas32 := 170, add32 := 175, tMutex := 130, tIMutex := 128, tPMutex := 175, tPIMutex := 210, tPI32 := 212, tUP := 214, tNoCopy := 125, tU32 := 126 }
theorem lib : Go.Conc.Locks.MuLib Tryz.prog link :=
  ⟨Tryz.func84, Tryz.func85, Tryz.func132, Tryz.func133, Tryz.func169, Tryz.func171, Tryz.func172, Tryz.func174, Tryz.func170, Tryz.func175, Tryz.underlying128, Tryz.runUnderlying128, Tryz.sizeOf128, Tryz.isAgg128, Tryz.zeroValue128, Tryz.underlying130, Tryz.runUnderlying130, Tryz.sizeOf130, Tryz.isAgg130, Tryz.zeroValue130, Tryz.underlying175, Tryz.runUnderlying175, Tryz.sizeOf175, Tryz.isAgg175, Tryz.zeroValue175, Tryz.underlying210, Tryz.runUnderlying210, Tryz.sizeOf210, Tryz.isAgg210, Tryz.zeroValue210, Tryz.underlying212, Tryz.runUnderlying212, Tryz.sizeOf212, Tryz.isAgg212, Tryz.zeroValue212, Tryz.underlying214, Tryz.runUnderlying214, Tryz.sizeOf214, Tryz.isAgg214, Tryz.zeroValue214, Tryz.underlying125, Tryz.runUnderlying125, Tryz.sizeOf125, Tryz.isAgg125, Tryz.zeroValue125, Tryz.underlying21, Tryz.runUnderlying21, Tryz.sizeOf21, Tryz.isAgg21, Tryz.zeroValue21, (by kernel_rfl)⟩
end Go.Proofs.YtklgjjmcflgjeaaGreat.Locks
namespace Go.Proofs.YtklgjjmcflgjeaaGreat.Mach
open Go.ChangeShapes Go.WideShapes Go.ChangeAt Go.RowKit
open LK Pods EngV Eng Seg
def cells3 (v : Ev) : List Value := [.int .i64 v.1, .int .i64 v.2.1, .int .i64 v.2.2]
def flat3 (l : List Ev) : List Value := l.flatMap cells3
theorem flat3_app (a b : List Ev) : flat3 (a ++ b) = flat3 a ++ flat3 b := by simp [flat3]
theorem flat3_one (v : Ev) : flat3 [v] = cells3 v := by simp [flat3]
def OwnE (w : World) (lo : Nat) (A : Option Addr) (n c : Nat) (l : List Ev) : Prop := l.length = n ∧ w.ownsRow lo 107 3 (.slice A n c) n (flat3 l)
section
variable {w w' : World} {lo : Nat} {A : Option Addr} {n c : Nat} {l : List Ev}
theorem OwnE.lt (h : OwnE w lo A n c l) (k : Nat) (hk : (Value.slice A n c).ownBlock = some k) : lo ≤ k ∧ k < w.heap.size := h.2.lt k hk
theorem OwnE.same (h : OwnE w lo A n c l) (hs : ∀ k, (Value.slice A n c).ownBlock = some k → w'.heap[k]? = w.heap[k]?) : OwnE w' lo A n c l := by
  refine ⟨h.1, h.2.1, ?_⟩
  rcases h.2.2 with ⟨h1, h2⟩ | ⟨g, cap, cur, h1, hb, hg, h3⟩
  · exact .inl ⟨h1, h2⟩
  · refine .inr ⟨g, cap, cur, h1, hb, ?_, h3⟩
    rw [hs g (by rw [h1]; rfl)]
    exact hg
theorem OwnE.below (h : OwnE w lo A n c l) (hb : Below w.heap.size w w') : OwnE w' lo A n c l := h.same fun k hk => hb.block k (h.lt k hk).2
end
theorem own_ne {w : World} {lo : Nat} {v : Value} {n size q : Nat} {xs : List Value} {cs : Array Value} {e t : TypeId} {f : Nat × Nat} (h : w.ownsRow lo e size v n xs) (hq : w.heap[q]? = some (.cells cs t f)) (ht : t ≠ e) (k : Nat) (hk : v.ownBlock = some k) : k ≠ q := by
  rintro rfl
  rcases h.2 with ⟨rfl, _⟩ | ⟨g, cap, cur, rfl, hb, hg, _⟩
  · cases hk
  · have hk2 : g = k := by simpa [Value.ownBlock] using hk
    subst hk2
    rw [hg] at hq
    injection hq with hq
    injection hq with _ hq _
    exact ht hq.symm
theorem rows_ne {w : World} {lo lo' : Nat} {v v' : Value} {n n' s s' : Nat} {xs ys : List Value} {e e' : TypeId} (h : w.ownsRow lo e s v n xs) (h' : w.ownsRow lo' e' s' v' n' ys) (ht : e ≠ e') (k : Nat) (hk : v.ownBlock = some k) : v'.ownBlock ≠ some k := by
  intro hk'
  rcases h'.2 with ⟨rfl, _⟩ | ⟨g, cap, cur, rfl, hb, hg, _⟩
  · cases hk'
  · have hk2 : g = k := by simpa [Value.ownBlock] using hk'
    subst hk2
    exact own_ne h hg (Ne.symm ht) _ hk rfl
def maL (lk ot : Int) (r : Run) (A : Option Addr) (n c : Nat) (E : Option Addr) (m k : Nat) : List Value := [.int .i32 lk, .int .u32 0,
  .int .i64 r.e.sp.x0, .int .i64 r.e.sp.x1, .int .i64 r.e.sp.x2, .int .i64 r.e.sp.x3, .int .i64 r.e.sp.x4, .int .i64 r.e.sp.x5, .int .i64 r.e.sp.x6, .int .i64 r.e.sp.x7, .int .i64 r.e.sp.x8, .int .i64 r.e.sp.x9, .int .i64 r.e.sp.x10,
  .int .i64 r.e.now, .int .i64 r.e.ph, .int .i64 r.e.tg, .int .i64 r.e.gd, .slice A n c, .int .i64 r.e.nx, .int .i64 r.e.st, .int .i64 ot, .int .i64 r.e.wt, .slice E m k, .int .i64 r.e.tr]
structure MachAt (w : World) (S : Nat → Prop) (b : Nat) (lk ot : Int) (r : Run) (A : Option Addr) (n c : Nat) (E : Option Addr) (m k : Nat) : Prop where
  box : w.heap[b]? = some (.cells (maL lk ot r A n c E m k).toArray 136 (0, 0))
  ps : OwnP w 0 A n c r.e.ps
  ev : OwnE w 0 E m k r.ev
  sb : S b
  sa : ∀ q, (Value.slice A n c).ownBlock = some q → S q
  se : ∀ q, (Value.slice E m k).ownBlock = some q → S q
def Mach (w : World) (S : Nat → Prop) (b : Nat) (lk ot : Int) (r : Run) : Prop := ∃ A n c E m k, MachAt w S b lk ot r A n c E m k
def Kept (w w' : World) : Prop := ∀ (q : Nat) (cs : Array Value) (f : Nat × Nat), w.heap[q]? = some (.cells cs 85 f) → w'.heap[q]? = some (.cells cs 85 f)
theorem Kept.refl (w : World) : Kept w w := fun _ _ _ h => h
theorem Kept.trans {a b c : World} (h : Kept a b) (k : Kept b c) : Kept a c := fun q cs f hq => k q cs f (h q cs f hq)
theorem Kept.below {w w' : World} (h : Below w.heap.size w w') : Kept w w' := fun q cs f hq => box_below hq h
theorem Kept.row {w : World} {b : Nat} {cs : Array Value} {t : TypeId} {f : Nat × Nat} (h : w.heap[b]? = some (.cells cs t f)) (ht : t ≠ 85) (vs : Array Value) : Kept w (w.setRow b vs) := fun q cs' f' hq => row_far hq (fun e => by
  subst e
  rw [h] at hq
  injection hq with hq
  injection hq with _ hq _
  exact ht hq)
theorem Kept.set {w : World} {b i : Nat} {cs : Array Value} {t : TypeId} {f : Nat × Nat} (h : w.heap[b]? = some (.cells cs t f)) (ht : t ≠ 85) (v : Value) : Kept w (w.setCell ⟨b, i, none⟩ v) := fun q cs' f' hq => box_other hq _ _ (fun e => by
  have e : q = b := e
  subst e
  rw [h] at hq
  injection hq with hq
  injection hq with _ hq _
  exact ht hq)
theorem Kept.grown {w w' : World} {lo size n : Nat} {v : Value} {xs : List Value} {e : TypeId} (hg : w.grownBy w' v.ownBlock) (h : w.ownsRow lo e size v n xs) (ht : e ≠ 85) : Kept w w' := fun q cs f hq =>
  (hg.block q (box_lt hq) (fun e' => own_ne h hq (Ne.symm ht) q e'.symm rfl)).trans hq
theorem Kept.pods {w w' : World} (h : Kept w w') {lo : Nat} {A : Option Addr} {n c : Nat} {ps : PList} (hp : OwnP w lo A n c ps) : OwnP w' lo A n c ps := hp.same fun q hq => by
  rcases hp.2.2 with ⟨h1, _⟩ | ⟨g, cap, cur, h1, hb, hg, _⟩
  · rw [h1] at hq; cases hq
  · rw [h1] at hq
    have e : g = q := by simpa [Value.ownBlock] using hq
    subst e
    rw [h _ _ _ hg, hg]
def Moved (b : Nat) (lk ot : Int) (r' : Run) (res : Value) (S : Nat → Prop) (w : World) (e : Ending) (w' : World) : Prop :=
  e = .returned res ∧ ∃ S' : Nat → Prop, Mach w' S' b lk ot r' ∧ (∀ q, S' q → S q ∨ w.heap.size ≤ q) ∧ Turned S w w' ∧ Kept w w'
section
variable {w w' : World} {S : Nat → Prop} {b : Nat} {lk ot : Int} {r : Run} {A : Option Addr} {n c : Nat} {E : Option Addr} {m k : Nat}
theorem MachAt.lt (h : MachAt w S b lk ot r A n c E m k) : b < w.heap.size := box_lt h.box
theorem MachAt.below (h : MachAt w S b lk ot r A n c E m k) (hb : Below w.heap.size w w') : MachAt w' S b lk ot r A n c E m k := ⟨box_below h.box hb, h.ps.below hb, h.ev.below hb, h.sb, h.sa, h.se⟩
theorem Mach.below (h : Mach w S b lk ot r) (hb : Below w.heap.size w w') : Mach w' S b lk ot r := by
  obtain ⟨A, n, c, E, m, k, h⟩ := h
  exact ⟨A, n, c, E, m, k, h.below hb⟩
theorem MachAt.nea (h : MachAt w S b lk ot r A n c E m k) (q : Nat) (hq : (Value.slice A n c).ownBlock = some q) : q ≠ b := own_ne h.ps.2 h.box (by decide) q hq
theorem MachAt.nee (h : MachAt w S b lk ot r A n c E m k) (q : Nat) (hq : (Value.slice E m k).ownBlock = some q) : q ≠ b := own_ne h.ev.2 h.box (by decide) q hq
theorem MachAt.nae (h : MachAt w S b lk ot r A n c E m k) (q : Nat) (hq : (Value.slice A n c).ownBlock = some q) : (Value.slice E m k).ownBlock ≠ some q := rows_ne h.ps.2 h.ev.2 (by decide) q hq
theorem MachAt.row {lk' ot' : Int} {r' : Run} (h : MachAt w S b lk ot r A n c E m k) (hp : r'.e.ps = r.e.ps) (he : r'.ev = r.ev) : MachAt (w.setRow b (maL lk' ot' r' A n c E m k).toArray) S b lk' ot' r' A n c E m k :=
  ⟨row_box h.box, by rw [hp]; exact h.ps.same fun q hq => setRow_other _ _ _ _ (h.nea q hq), by rw [he]; exact h.ev.same fun q hq => setRow_other _ _ _ _ (h.nee q hq), h.sb, h.sa, h.se⟩
theorem turned_row (h : MachAt w S b lk ot r A n c E m k) (vs : Array Value) : Turned S w (w.setRow b vs) := (row_turned w b vs).wide fun q hq => by rw [hq]; exact h.sb
theorem moved_of {r' : Run} {res : Value} {lk' ot' : Int} (h : MachAt w' S b lk' ot' r' A n c E m k) (ht : Turned S w w') (hk : Kept w w') : Moved b lk' ot' r' res S w (.returned res) w' := ⟨rfl, S, ⟨A, n, c, E, m, k, h⟩, fun q hq => .inl hq, ht, hk⟩
theorem Moved.step {S' : Nat → Prop} {r' : Run} {res : Value} {lk2 ot2 : Int} {v v' : World} {e : Ending} (hS : ∀ q, S' q → S q ∨ w.heap.size ≤ q) (ht : Turned S w v) (hk : Kept w v) (h : Moved b lk2 ot2 r' res S' v e v') : Moved b lk2 ot2 r' res S w e v' := by
  obtain ⟨rfl, S2, hm, hs, h2, h3⟩ := h
  refine ⟨rfl, S2, hm, fun q hq => ?_, ?_, hk.trans h3⟩
  · rcases hs q hq with h3 | h3
    · exact hS q h3
    · exact .inr (Nat.le_trans ht.size h3)
  · exact ⟨h2.os.trans ht.os, h2.tape.trans ht.tape, h2.output.trans ht.output, Nat.le_trans ht.size h2.size, fun q hq hn => (h2.block q (Nat.lt_of_lt_of_le hq ht.size) (fun h3 => by rcases hS q h3 with h4 | h4; exact hn h4; omega)).trans (ht.block q hq hn)⟩
end
theorem infoE : (Tryz.prog.info? 107).map (fun i => (i.zero, i.size, i.bytes)) = some (some (.agg #[.int .i64 0, .int .i64 0, .int .i64 0]), 3, 24) := by kernel_rfl
theorem of_app {w' : World} {base n : Nat} {v' : Value} {l : List Ev} {x : Ev} (hl : l.length = n) (h : w'.ownsRow base 107 3 v' (n + 1) (flat3 l ++ cells3 x)) : ∃ A c, v' = .slice A (n + 1) c ∧ OwnE w' base A (n + 1) c (l ++ [x]) := by
  obtain ⟨g, cap, rfl, _⟩ := h.form (by omega)
  exact ⟨_, _, rfl, by simp [hl], by rw [flat3_app, flat3_one]; exact h⟩
theorem news3 (w : World) (l : List Value) (t : TypeId) : ∀ j u, l[j]? = some u → (w.alloc (.cells l.toArray t)).cell? ((⟨w.heap.size, 0, none⟩ : Addr).add j) = some u := by
  intro j u h
  rw [FlatOpen.add_off, Nat.zero_add]
  exact box_cell (box_new w (.cells l.toArray t)) j u (by simpa using h)
set_option maxRecDepth 100000 in
set_option maxHeartbeats 3200000 in
theorem tell_any (w : World) (S : Nat → Prop) (b : Nat) (lk ot : Int) (r : Run) (kd x y : Int) (h : Mach w S b lk ot r) (hl : r.ev.length ≤ 1000000) :
    Calls Tryz.prog 245 #[.pointer (some ⟨b, 0, none⟩), .int .i64 kd, .int .i64 x, .int .i64 y] w (Moved b lk ot (r.tell kd x y) (.tuple #[]) S w) := by
  obtain ⟨A, n, c, E, m, k, h⟩ := h
  obtain ⟨i0, hi0, hz0, hz1, hz2⟩ := info_parts infoE
  have H := Lib.hid h
  have hm : m ≤ 1000000 := by rw [← h.ev.1]; exact hl
  have c22 : w.cell? ⟨b, 22, none⟩ = some (.slice E m k) := box_cell h.box 22 _ rfl
  clear h
  go_enter Tryz.func245, Tryz.ntmps245
  go_wp2_with (at_builtin; refine wpList_append_own_at _ rfl (.tmp 12) (.tmp 17) _ rfl 0 107 i0 _ 3 24 Tryz.underlying37 hi0 hz0 hz1 hz2 rfl (by omega) (.slice E m k) m (flat3 r.ev) rfl ?o1 ⟨w.heap.size, 0, none⟩ 1 1 [.int .i64 kd, .int .i64 x, .int .i64 y] rfl rfl (news3 w [.int .i64 kd, .int .i64 x, .int .i64 y] 107) ?o3 ?o4 ?o5 ?o6 ?_)
  case o1 => exact (H.out.ev.below (bel1 w _)).2
  case o3 => intro u hu; simp at hu; rcases hu with rfl | rfl | rfl <;> rfl
  case o4 => unfold maxLen; omega
  case o5 => omega
  case o6 => omega
  intro v2 w5 hown hgr hif hat
  obtain ⟨E2, k2, rfl, hO⟩ := of_app (l := r.ev) (x := (kd, x, y)) H.out.ev.1 hown
  have hbl := H.out.lt
  have hbx := (hgr.block b (by rw [World.size_alloc]; omega) (fun e => H.out.nee b e.symm rfl)).trans (box_alloc H.out.box _)
  have d22 : w5.cell? ⟨b, 22, none⟩ = some (.slice E m k) := box_cell hbx 22 _ rfl
  have f22 := box_frozen hbx 22
  have HX := Lib.hid hbx
  have HO := Lib.hid hO
  have HG := Lib.hid hgr
  have HAT : Hid (∀ q, (Value.slice E2 (m + 1) k2).ownBlock = some q → S q ∨ w.heap.size ≤ q) := fun q hq => by
    rcases hat with h1 | h1
    · exact .inl (H.out.se q (by rw [← h1]; exact hq))
    · right
      have h2 := Option.some.inj (h1.symm.trans hq)
      first | omega | (rw [World.size_alloc] at h2; omega)
  clear hown hgr hif hat hO hbx c22
  go_wp2
  go_end0
  have hps : OwnP w5 0 A n c r.e.ps := (H.out.ps.below (bel1 w _)).same fun q hq => HG.out.block q (((H.out.ps.below (bel1 w _)).lt q hq).2) (fun e => H.out.nae q hq e.symm)
  have hew := HO.out.lt
  have ht5 : Turned S w w5 := (Turned.of_below (bel1 w _)).trans (Turned.of_grown HG.out (fun q hq => H.out.se q hq))
  have hset := set_row (i := 22) HX.out (.slice E2 (m + 1) k2) (maL lk ot (r.tell kd x y) A n c E2 (m + 1) k2) rfl
  rw [hset]
  have hne : ∀ q, (Value.slice E2 (m + 1) k2).ownBlock = some q → q ≠ b := fun q hq => own_ne HO.out.2 HX.out (by decide) q hq
  have hna : ∀ q, (Value.slice A n c).ownBlock = some q → q ≠ b := fun q hq => H.out.nea q hq
  refine ⟨rfl, fun q => S q ∨ w.heap.size ≤ q, ⟨A, n, c, E2, m + 1, k2, ⟨row_box HX.out, hps.same fun q hq => setRow_other _ _ _ _ (hna q hq), HO.out.same fun q hq => setRow_other _ _ _ _ (hne q hq), .inl H.out.sb, fun q hq => .inl (H.out.sa q hq), HAT.out⟩⟩, fun q hq => hq, ht5.trans ((row_turned _ _ _).wide fun q hq => by rw [hq]; exact H.out.sb), ((Kept.below (bel1 w _)).trans (Kept.grown HG.out (H.out.ev.below (bel1 w _)).2 (by decide))).trans (Kept.row HX.out (by decide) _)⟩
set_option maxRecDepth 100000 in
set_option maxHeartbeats 3200000 in
theorem enter_any (w : World) (S : Nat → Prop) (b : Nat) (lk ot : Int) (r : Run) (ph : Int) (h : Mach w S b lk ot r) (hl : r.ev.length ≤ 1000000) :
    Calls Tryz.prog 233 #[.pointer (some ⟨b, 0, none⟩), .int .i64 ph] w (Moved b lk ot (r.enter ph) (.tuple #[]) S w) := by
  obtain ⟨A, n, c, E, m, k, h⟩ := h
  have H := Lib.hid h
  have d14 : w.cell? ⟨b, 14, none⟩ = some (.int .i64 r.e.ph) := box_cell h.box 14 _ rfl
  have f14 := box_frozen h.box 14
  clear h
  go_enter Tryz.func233, Tryz.ntmps233
  go_upto_region 1 with fail
  obtain ⟨W, hW⟩ : ∃ W, W = w.setCell ⟨b, 14, none⟩ (.int .i64 ph) := ⟨_, rfl⟩
  have hset := set_row (i := 14) H.out.box (.int .i64 ph) (maL lk ot ({ r with e := { r.e with ph := ph } } : Run) A n c E m k) rfl
  have HM : Hid (MachAt W S b lk ot ({ r with e := { r.e with ph := ph } } : Run) A n c E m k) := by rw [hW, hset]; exact H.out.row rfl rfl
  have HT : Hid (Turned S w W) := by rw [hW, hset]; exact turned_row H.out _
  have HKP : Hid (Kept w W) := by rw [hW]; exact Kept.set H.out.box (by decide) _
  rw [← hW]
  clear hW hset d14 f14
  have c15 : W.cell? ⟨b, 15, none⟩ = some (.int .i64 r.e.tg) := box_cell HM.out.box 15 _ rfl
  go_wp2_with fail
  refine (tell_any W S b lk ot ({ r with e := { r.e with ph := ph } } : Run) 2 ph r.e.tg ⟨A, n, c, E, m, k, HM.out⟩ hl).mono ?_
  intro e w2 hmv
  have HMV := Lib.hid (Moved.step (fun q hq => .inl hq) HT.out HKP.out hmv)
  obtain ⟨rfl, _⟩ := hmv
  clear c15
  go_wp2
  go_end0
  exact HMV.out
theorem store64 (b off : Nat) (x y : Int) (w : World) (hc : w.cell? ⟨b, off, none⟩ = some (.int .i64 x)) (hz : w.frozen? ⟨b, off, none⟩ = false) : Calls Tryz.prog 130 #[.pointer (some ⟨b, off, none⟩), .int .i64 y] w fun e w' => e = .returned (.tuple #[]) ∧ w' = w.setCell ⟨b, off, none⟩ (.int .i64 y) := by
  have hst := run_call_store (P := Tryz.prog) Tryz.func165 (by kernel_rfl) (by kernel_rfl) (by kernel_rfl) (by kernel_rfl) (k := .i64) (y := y) hc hz
  go_enter Tryz.func130, Tryz.ntmps130
  go_wp2
  go_end0
  exact ⟨rfl, rfl⟩
theorem load64 (b off : Nat) (x : Int) (w : World) (hc : w.cell? ⟨b, off, none⟩ = some (.int .i64 x)) : Calls Tryz.prog 87 #[.pointer (some ⟨b, off, none⟩)] w fun e w' => e = .returned (.int .i64 x) ∧ w' = w := by
  have hst := run_call_load (P := Tryz.prog) Tryz.func135 (by kernel_rfl) (by kernel_rfl) (by kernel_rfl) .i64 (by kernel_rfl) hc
  go_enter Tryz.func87, Tryz.ntmps87
  go_wp2
  go_ret
  exact ⟨rfl, rfl⟩
theorem add64 (b off : Nat) (x y s : Int) (w : World) (hs : x + y = s) (hb : -9223372036854775808 ≤ s ∧ s ≤ 9223372036854775807) (hc : w.cell? ⟨b, off, none⟩ = some (.int .i64 x)) (hz : w.frozen? ⟨b, off, none⟩ = false) : Calls Tryz.prog 264 #[.pointer (some ⟨b, off, none⟩), .int .i64 y] w fun e w' => e = .returned (.int .i64 s) ∧ w' = w.setCell ⟨b, off, none⟩ (.int .i64 s) := by
  have hst := run_call_add (P := Tryz.prog) Tryz.func287 (by kernel_rfl) (by kernel_rfl) (by kernel_rfl) .i64 (by kernel_rfl) (x := x) (y := y) (s := s) hc hz (by
    have hw : IntKind.i64.wrap (x + y) = s := by rw [hs]; exact FleetSpec.wrap_id hb.1 hb.2
    simp [Op.intArith, hw])
  go_enter Tryz.func264, Tryz.ntmps264
  go_wp2
  go_ret
  exact ⟨rfl, rfl⟩
set_option maxRecDepth 100000 in
set_option maxHeartbeats 3200000 in
theorem start_any (w : World) (S : Nat → Prop) (b : Nat) (lk ot : Int) (r : Run) (ph tg : Int) (h : Mach w S b lk ot r) (hl : r.ev.length ≤ 1000000) :
    Calls Tryz.prog 206 #[.pointer (some ⟨b, 0, none⟩), .int .i64 ph, .int .i64 tg] w (Moved b lk ot (r.start ph tg) (.tuple #[]) S w) := by
  obtain ⟨A, n, c, E, m, k, h⟩ := h
  have H := Lib.hid h
  have d13 : w.cell? ⟨b, 13, none⟩ = some (.int .i64 r.e.now) := box_cell h.box 13 _ rfl
  have d15 : w.cell? ⟨b, 15, none⟩ = some (.int .i64 r.e.tg) := box_cell h.box 15 _ rfl
  have d19 : w.cell? ⟨b, 19, none⟩ = some (.int .i64 r.e.st) := box_cell h.box 19 _ rfl
  have d21 : w.cell? ⟨b, 21, none⟩ = some (.int .i64 r.e.wt) := box_cell h.box 21 _ rfl
  have f15 := box_frozen h.box 15
  have f19 := box_frozen h.box 19
  have f21 := box_frozen h.box 21
  clear h
  go_enter Tryz.func206, Tryz.ntmps206
  go_upto_region 1 with fail
  obtain ⟨W, hW⟩ : ∃ W, W = ((w.setCell ⟨b, 15, none⟩ (.int .i64 tg)).setCell ⟨b, 19, none⟩ (.int .i64 r.e.now)).setCell ⟨b, 21, none⟩ (.int .i64 0) := ⟨_, rfl⟩
  have HM : Hid (MachAt W S b lk ot ({ r with e := { r.e with tg := tg, st := r.e.now, wt := 0 } } : Run) A n c E m k) := by
    rw [hW, set_row (i := 15) H.out.box (.int .i64 tg) (maL lk ot ({ r with e := { r.e with tg := tg } } : Run) A n c E m k) rfl,
      set_row (i := 19) (row_box H.out.box) (.int .i64 r.e.now) (maL lk ot ({ r with e := { r.e with tg := tg, st := r.e.now } } : Run) A n c E m k) rfl, row_row,
      set_row (i := 21) (row_box H.out.box) (.int .i64 0) (maL lk ot ({ r with e := { r.e with tg := tg, st := r.e.now, wt := 0 } } : Run) A n c E m k) rfl, row_row]
    exact H.out.row rfl rfl
  have HT : Hid (Turned S w W) := by rw [hW]; exact ((Turned.set _ _ _ H.out.sb).trans (Turned.set _ _ _ H.out.sb)).trans (Turned.set _ _ _ H.out.sb)
  have HKP : Hid (Kept w W) := by rw [hW]; exact ((Kept.set H.out.box (by decide) _).trans (Kept.set (set_box H.out.box _) (by decide) _)).trans (Kept.set (set_box (set_box H.out.box _) _) (by decide) _)
  rw [← hW]
  clear hW d13 d15 d19 d21 f15 f19 f21
  have c23 : W.cell? ⟨b, 23, none⟩ = some (.int .i64 r.e.tr) := box_cell HM.out.box 23 _ rfl
  go_wp2_with fail
  refine (store64 b 23 r.e.tr 0 _ c23 (box_frozen HM.out.box 23)).mono ?_
  rintro e W2 ⟨rfl, hW2⟩
  have HM2 : Hid (MachAt W2 S b lk ot ({ r with e := { r.e with tg := tg, st := r.e.now, tr := 0, wt := 0 } } : Run) A n c E m k) := by
    rw [hW2, set_row (i := 23) HM.out.box (.int .i64 0) (maL lk ot ({ r with e := { r.e with tg := tg, st := r.e.now, tr := 0, wt := 0 } } : Run) A n c E m k) rfl]
    exact HM.out.row rfl rfl
  have HT2 : Hid (Turned S w W2) := by rw [hW2]; exact HT.out.trans (Turned.set _ _ _ H.out.sb)
  have HKP2 : Hid (Kept w W2) := by rw [hW2]; exact HKP.out.trans (Kept.set HM.out.box (by decide) _)
  clear hW2 c23 HM HT HKP
  go_wp2_with fail
  refine (enter_any W2 S b lk ot ({ r with e := { r.e with tg := tg, st := r.e.now, tr := 0, wt := 0 } } : Run) ph ⟨A, n, c, E, m, k, HM2.out⟩ hl).mono ?_
  intro e w2 hmv
  have HMV := Lib.hid (Moved.step (fun q hq => .inl hq) HT2.out HKP2.out hmv)
  obtain ⟨rfl, _⟩ := hmv
  go_wp2
  go_end0
  exact HMV.out
end Go.Proofs.YtklgjjmcflgjeaaGreat.Mach
namespace Go.Proofs.YtklgjjmcflgjeaaGreat.Mach
open Go.ChangeShapes Go.WideShapes Go.ChangeAt Go.RowKit
open LK Pods EngV Eng Seg
theorem maL_sp (lk ot : Int) (r : Run) (A : Option Addr) (n c : Nat) (E : Option Addr) (m k : Nat) : ((maL lk ot r A n c E m k).drop 2).take (spL r.e.sp).length = spL r.e.sp := rfl
theorem maL_fl (lk ot : Int) (r : Run) (A : Option Addr) (n c : Nat) (E : Option Addr) (m k : Nat) : ((maL lk ot r A n c E m k).drop 17).take (flL A n c r.e.nx).length = flL A n c r.e.nx := rfl
theorem MachAt.pods {w : World} {S S' : Nat → Prop} {b : Nat} {lk ot : Int} {r : Run} {A A' : Option Addr} {n c n' c' : Nat} {E : Option Addr} {m k : Nat} {d : PList × Int} (h : MachAt w S b lk ot r A n c E m k) (hp : OwnP w 0 A' n' c' d.1) (hS : ∀ q, S q → S' q) (hs : ∀ q, (Value.slice A' n' c').ownBlock = some q → S' q) :
    MachAt (w.setRow b (maL lk ot (r.setFl d) A' n' c' E m k).toArray) S' b lk ot (r.setFl d) A' n' c' E m k :=
  ⟨row_box h.box, hp.same fun q hq => setRow_other _ _ _ _ (own_ne hp.2 h.box (by decide) q hq), h.ev.same fun q hq => setRow_other _ _ _ _ (h.nee q hq), hS _ h.sb, hs, fun q hq => hS _ (h.se q hq)⟩
set_option maxRecDepth 100000 in
set_option maxHeartbeats 6400000 in
theorem drop_any (w : World) (S : Nat → Prop) (b : Nat) (lk ot : Int) (r : Run) (y0 y1 y2 y3 y4 : Int) (h : Mach w S b lk ot r) (hl : r.ev.length ≤ 1000000) (hn : r.e.ps.length ≤ 1048576) (hid : (Lit.int .i64 y0).wf = true) :
    Calls Tryz.prog 242 #[.pointer (some ⟨b, 0, none⟩), .agg #[.int .i64 y0, .int .i64 y1, .int .i64 y2, .int .i64 y3, .int .i64 y4]] w (Moved b lk ot (r.drop (y0, y1, y2, y3, y4)) (.tuple #[]) S w) := by
  obtain ⟨A, n, c, E, m, k, h⟩ := h
  have hn2 : n ≤ 1048576 := by rw [← h.ps.1]; exact hn
  obtain ⟨V, hV⟩ : ∃ V, V = w.alloc (.cells #[.int .i64 y0, .int .i64 y1, .int .i64 y2, .int .i64 y3, .int .i64 y4] 85) := ⟨_, rfl⟩
  have hbv : Below w.heap.size w V := by rw [hV]; exact bel1 _ _
  have H := Lib.hid (h.below hbv)
  have KP : Hid (V.heap[w.heap.size]? = some (.cells [.int .i64 y0, .int .i64 y1, .int .i64 y2, .int .i64 y3, .int .i64 y4].toArray 85 (0, 0))) := by rw [hV]; exact box_new w _
  have hbw : b < w.heap.size := h.lt
  have HBV := Lib.hid hbv
  clear h hbv
  go_enter Tryz.func242, Tryz.ntmps242
  go_upto_region 1 with fail
  rw [← hV]
  clear hV
  refine wp_region_held_drew (S := fun w' => w'.cell? ⟨w.heap.size, 0, none⟩ = some (.int .i64 y0) ∧ w'.cell? ⟨b, 13, none⟩ = some (.int .i64 r.e.now)) (by kernel_rfl) ⟨box_cell KP.out 0 _ rfl, box_cell H.out.box 13 _ rfl⟩ (fun hHeld => ?_)
  refine tkk (i := 0) rfl ?_
  try simp only [Act.put, pj]
  refine tkk (i := 1) rfl ?_
  try simp only [Act.put, pj]
  refine tkk (i := 2) rfl ?_
  try simp only [Act.put, pj]
  refine tkk (i := 3) rfl ?_
  try simp only [Act.put, pj]
  refine tkk (i := 4) rfl ?_
  try simp only [Act.put, pj]
  refine tkk (i := 6) rfl ?_
  try simp only [Act.put, pj]
  refine tkk (i := 7) rfl ?_
  try simp only [Act.put, pj]
  refine tkk (i := 8) rfl ?_
  try simp only [Act.put, pj]
  refine tkk (i := 9) rfl ?_
  try simp only [Act.put, pj]
  refine tkk (i := 10) rfl ?_
  try simp only [Act.put, pj]
  refine tkk (i := 11) rfl ?_
  try simp only [Act.put, pj]
  refine tkk (i := 12) rfl ?_
  try simp only [Act.put, pj]
  refine wpAnyH_ready (rs := [5]) (by kernel_rfl) (by simp) (AllReadyH.cons rfl (fun K hK => ?_) AllReadyH.nil)
  refine wp_load_mid 34 _ rfl b 17 rfl (flL A n c r.e.nx) _ (range_of H.out.box (maL_fl lk ot r A n c E m k)) Tryz.underlying34 rfl (by kernel_rfl) ?_
  refine hK _ _ (by exact ⟨box_cell KP.out 0 _ rfl, box_cell H.out.box 13 _ rfl⟩) (fun hHeld => ?_)
  clear hK K
  try simp only [Act.put, pj]
  refine wpAnyH_ready (rs := [13]) (by kernel_rfl) (by simp) (AllReadyH.cons rfl (fun K hK => ?_) AllReadyH.nil)
  go_simp
  refine (Crew.markGoing_any A n c r.e.nx y0 r.e.now r.e.ps V.heap.size _ (by exact H.out.ps.podsAll) (by exact Nat.le_refl _) hn2 hid).mono ?_
  rintro e w2 ⟨v, S2, rfl, hO, hb⟩
  have hb' : Below V.heap.size V w2 := undrew hb
  obtain ⟨A2, c2, rfl, ho, hs⟩ := hO.own
  have hin := hO.inn
  have H2 := Lib.hid (H.out.below hb')
  have KP2 := Lib.hid (box_below KP.out hb')
  have HT2 : Hid (Turned S w w2) := Turned.of_below (bel_then HBV.out hb' HBV.out.size)
  have HK2 : Hid (Kept w w2) := Kept.below (bel_then HBV.out hb' HBV.out.size)
  have HO := Lib.hid ho
  have HS := Lib.hid hs
  have HI : Hid (∀ q, S2 q → w.heap.size ≤ q) := fun q hq => by have := (hin q hq).1; have h2 := HBV.out.size; simp only [World.size_drew] at this; omega
  have hwp : w.heap.size < w2.heap.size := box_lt KP2.out
  clear hb hb' hO ho hs hin H KP HBV hHeld
  refine hK _ _ (by exact ⟨box_cell KP2.out 0 _ rfl, box_cell H2.out.box 13 _ rfl⟩) (fun hHeld => ?_)
  clear hK K
  try simp only [Act.put, pj]
  refine tkk (i := 14) rfl ?_
  try simp only [Act.put, pj]
  refine tkk (i := 15) rfl ?_
  try simp only [Act.put, pj]
  refine tkk (i := 16) rfl ?_
  try simp only [Act.put, pj]
  refine tkk (i := 17) rfl ?_
  try simp only [Act.put, pj]
  refine tkk (i := 18) rfl ?_
  try simp only [Act.put, pj]
  refine tkk (i := 19) rfl ?_
  try simp only [Act.put, pj]
  refine wpAnyH_ready (rs := [20]) (by kernel_rfl) (by simp) (AllReadyH.cons rfl (fun K hK => ?_) AllReadyH.nil)
  obtain ⟨D, hD⟩ : ∃ D, D = Crew.goD (r.e.ps, r.e.nx) y0 r.e.now := ⟨_, rfl⟩
  rw [← hD] at HO HS
  refine wp_put rfl 34 _ _ rfl b 17 (flL A2 D.1.length c2 D.2) rfl (by rw [hD]; rfl) H2.out.box (by kernel_rfl) (maL lk ot (r.setFl D) A2 D.1.length c2 E m k) rfl (Nat.le_of_ble_eq_true rfl) (flL_one _ _ _ _) ?_
  obtain ⟨W, hW⟩ : ∃ W, W = w2.setRow b (maL lk ot (r.setFl D) A2 D.1.length c2 E m k).toArray := ⟨_, rfl⟩
  have HM : Hid (MachAt W (fun q => S q ∨ w.heap.size ≤ q) b lk ot (r.setFl D) A2 D.1.length c2 E m k) := by
    rw [hW]
    exact H2.out.pods HO.out (fun q hq => .inl hq) (fun q hq => .inr (HI.out q (HS.out q hq)))
  have HT : Hid (Turned S w W) := by rw [hW]; exact HT2.out.trans (turned_row H2.out _)
  have HKP : Hid (Kept w W) := by rw [hW]; exact HK2.out.trans (Kept.row H2.out.box (by decide) _)
  have KP3 : Hid (W.heap[w.heap.size]? = some (.cells [.int .i64 y0, .int .i64 y1, .int .i64 y2, .int .i64 y3, .int .i64 y4].toArray 85 (0, 0))) := by rw [hW]; exact row_far KP2.out (by omega)
  rw [← hW]
  have HD := Lib.hid hD
  clear hW hD H2 KP2 HT2 HK2 HO HS HI hHeld
  refine hK _ _ (by exact ⟨box_cell KP3.out 0 _ rfl, box_cell HM.out.box 13 _ rfl⟩) (fun hHeld => ?_)
  clear hK K
  refine wpAnyH_done (by kernel_rfl) ?_ _
  clear hHeld
  have e0 : W.cell? ⟨w.heap.size, 0, none⟩ = some (.int .i64 y0) := box_cell KP3.out 0 _ rfl
  have e1 : W.cell? ⟨w.heap.size, 1, none⟩ = some (.int .i64 y1) := box_cell KP3.out 1 _ rfl
  clear KP3
  go_wp2_with fail
  refine (tell_any W (fun q => S q ∨ w.heap.size ≤ q) b lk ot (r.setFl D) 1 y0 y1 ⟨A2, D.1.length, c2, E, m, k, HM.out⟩ hl).mono ?_
  intro e w4 hmv
  have HMV := Lib.hid (Moved.step (fun q hq => hq) HT.out HKP.out hmv)
  obtain ⟨rfl, _⟩ := hmv
  clear e0 e1
  go_wp2
  go_end0
  rw [HD.out] at HMV
  exact HMV.out
set_option maxRecDepth 100000 in
set_option maxHeartbeats 6400000 in
theorem waitForRetry_any (w : World) (S : Nat → Prop) (b : Nat) (lk ot : Int) (r : Run) (h : Mach w S b lk ot r) (ht0 : 0 ≤ r.e.tr ∧ r.e.tr ≤ 1000000) :
    Calls Tryz.prog 244 #[.pointer (some ⟨b, 0, none⟩)] w (Moved b lk ot r.tryOn (.tuple #[]) S w) := by
  obtain ⟨A, n, c, E, m, k, h⟩ := h
  have H := Lib.hid h
  have hbw : b < w.heap.size := h.lt
  obtain ⟨q, hq⟩ : ∃ q, r.e.tr + 1 = q := ⟨_, rfl⟩
  have hqb : q ≤ 9223372036854775807 := by omega
  have HQ := Lib.hid hq
  have HTB := Lib.hid ht0
  clear h hq ht0
  go_enter Tryz.func244, Tryz.ntmps244
  go_wp2_with fail
  refine (add64 b 23 r.e.tr 1 q _ HQ.out (by have h1 := HTB.out; have h2 := HQ.out; omega) (box_cell H.out.box 23 _ rfl) (box_frozen H.out.box 23)).mono ?_
  rintro e W ⟨rfl, hW⟩
  have HM : Hid (MachAt W S b lk ot ({ r with e := { r.e with tr := q } } : Run) A n c E m k) := by
    rw [hW, set_row (i := 23) H.out.box (.int .i64 q) (maL lk ot ({ r with e := { r.e with tr := q } } : Run) A n c E m k) rfl]
    exact H.out.row rfl rfl
  have HT : Hid (Turned S w W) := by rw [hW]; exact Turned.set _ _ _ H.out.sb
  have HKP : Hid (Kept w W) := by rw [hW]; exact Kept.set H.out.box (by decide) _
  clear hW H
  go_wp2_with fail
  refine wp_region_held_drew (S := fun w' => w'.cell? ⟨b, 13, none⟩ = some (.int .i64 r.e.now) ∧ w'.rangeAt b 2 (spL r.e.sp)) (by kernel_rfl) ⟨box_cell HM.out.box 13 _ rfl, range_of HM.out.box (maL_sp lk ot _ A n c E m k)⟩ (fun hHeld => ?_)
  refine tkk (i := 0) rfl ?_
  try simp only [Act.put, pj]
  refine tkk (i := 1) rfl ?_
  try simp only [Act.put, pj]
  refine tkk (i := 2) rfl ?_
  try simp only [Act.put, pj]
  refine tkk (i := 3) rfl ?_
  try simp only [Act.put, pj]
  refine tkk (i := 4) rfl ?_
  try simp only [Act.put, pj]
  refine tkk (i := 5) rfl ?_
  try simp only [Act.put, pj]
  refine tkk (i := 6) rfl ?_
  try simp only [Act.put, pj]
  refine tkk (i := 7) rfl ?_
  try simp only [Act.put, pj]
  refine tkk (i := 8) rfl ?_
  try simp only [Act.put, pj]
  refine tkk (i := 9) rfl ?_
  try simp only [Act.put, pj]
  refine tkj (i := 10) (v := .agg (spL r.e.sp).toArray) rfl (yieldsIf_load_mid (by rfl) 25 _ rfl b 2 rfl (spL r.e.sp) _ (fun w' h => h.2) Tryz.underlying25 rfl (by kernel_rfl)) ?_
  try simp only [Act.put, pj]
  refine tkk (i := 11) rfl ?_
  try simp only [Act.put, pj]
  refine wpAnyH_ready (rs := [12]) (by kernel_rfl) (by simp) (AllReadyH.cons rfl (fun K hK => ?_) AllReadyH.nil)
  go_simp
  refine (Rw.retryWait_any r.e.sp.x0 r.e.sp.x1 r.e.sp.x2 r.e.sp.x3 r.e.sp.x4 r.e.sp.x5 r.e.sp.x6 r.e.sp.x7 r.e.sp.x8 r.e.sp.x9 r.e.sp.x10 q _ hqb).mono ?_
  rintro e w2 ⟨rfl, hb⟩
  have hb' : Below W.heap.size W w2 := undrew hb
  have H2 := Lib.hid (HM.out.below hb')
  have HT2 : Hid (Turned S w w2) := HT.out.trans (Turned.of_below hb')
  have HK2 : Hid (Kept w w2) := HKP.out.trans (Kept.below hb')
  obtain ⟨z, hz⟩ : ∃ z, z = waitS r.e.sp q := ⟨_, rfl⟩
  have HZ : Hid (z = waitS r.e.sp q) := hz
  rw [show Rw.waitV r.e.sp.x0 r.e.sp.x1 r.e.sp.x2 r.e.sp.x3 r.e.sp.x4 r.e.sp.x5 r.e.sp.x6 r.e.sp.x7 r.e.sp.x8 r.e.sp.x9 r.e.sp.x10 q = z from hz.symm]
  clear hb hb' HM HT HKP hHeld hz
  refine hK _ _ (by exact ⟨box_cell H2.out.box 13 _ rfl, range_of H2.out.box (maL_sp lk ot _ A n c E m k)⟩) (fun hHeld => ?_)
  clear hK K
  try simp only [Act.put, pj]
  refine wpAnyH_ready (rs := [13]) (by kernel_rfl) (by simp) (AllReadyH.cons rfl (fun K hK => ?_) AllReadyH.nil)
  go_simp
  refine (Tick.addTick_any r.e.now z _).mono ?_
  rintro e w3 ⟨rfl, rfl⟩
  obtain ⟨t, ht⟩ : ∃ t, t = Tick.addV r.e.now z := ⟨_, rfl⟩
  rw [← ht]
  have HTT := Lib.hid ht
  clear ht
  refine hK _ _ (by exact hHeld) (fun hHeld => ?_)
  clear hK K
  try simp only [Act.put, pj]
  refine tkk (i := 14) rfl ?_
  try simp only [Act.put, pj]
  refine tkk (i := 15) rfl ?_
  try simp only [Act.put, pj]
  refine tkk (i := 16) rfl ?_
  try simp only [Act.put, pj]
  refine wpAnyH_ready (rs := [17]) (by kernel_rfl) (by simp) (AllReadyH.cons rfl (fun K hK => ?_) AllReadyH.nil)
  have d21 : w2.cell? ⟨b, 21, none⟩ = some (.int .i64 r.e.wt) := box_cell H2.out.box 21 _ rfl
  have f21 := box_frozen H2.out.box 21
  go_simp
  obtain ⟨W3, hW3⟩ : ∃ W, W = w2.setCell ⟨b, 21, none⟩ (.int .i64 t) := ⟨_, rfl⟩
  have HM3 : Hid (MachAt W3 S b lk ot r.tryOn A n c E m k) := by
    rw [hW3, set_row (i := 21) H2.out.box (.int .i64 t) (maL lk ot r.tryOn A n c E m k) (by rw [HTT.out, HZ.out, ← HQ.out]; rfl)]
    exact H2.out.row rfl rfl
  have HT3 : Hid (Turned S w W3) := by rw [hW3]; exact HT2.out.trans (Turned.set _ _ _ H2.out.sb)
  have HK3 : Hid (Kept w W3) := by rw [hW3]; exact HK2.out.trans (Kept.set H2.out.box (by decide) _)
  rw [← hW3]
  clear hW3 d21 f21 H2 HT2 HK2 hHeld
  refine hK _ _ (by exact ⟨box_cell HM3.out.box 13 _ rfl, range_of HM3.out.box (maL_sp lk ot _ A n c E m k)⟩) (fun hHeld => ?_)
  clear hK K
  refine wpAnyH_done (by kernel_rfl) ?_ _
  clear hHeld
  go_wp2
  go_end0
  exact moved_of HM3.out HT3.out HK3.out
end Go.Proofs.YtklgjjmcflgjeaaGreat.Mach
namespace Go.Proofs.YtklgjjmcflgjeaaGreat.EngTy
open Go.ChangeShapes Go.WideShapes Go.ChangeAt Go.RowKit Go.Joins Go.Deep
open LK Pods EngV Seg
def ERd (w : World) (B : Nat) (v : Value) (d : Eng) : Prop := ∃ A c, v = enV d A d.ps.length c ∧ IsPods w B A d.ps.length d.ps
def EOwn (w : World) (S : Nat → Prop) (v : Value) (d : Eng) : Prop := ∃ A c, v = enV d A d.ps.length c ∧ OwnP w 0 A d.ps.length c d.ps ∧ (∀ k, (Value.slice A d.ps.length c).ownBlock = some k → S k)
def ety : Ty where
  D := Eng
  Rd := ERd
  Own := EOwn
  Few := fun d => d.ps.length ≤ 1048576
  cnt := fun d => 5 * d.ps.length
  mark := fun k d => { d with ps := marksP k d.ps.length }
  rd_below := by
    rintro w w' B C v d ⟨A, c, rfl, h1⟩ hb hC
    exact ⟨A, c, rfl, h1.below hb hC⟩
  own_rd := by
    rintro w S v d B ⟨A, c, rfl, h1, s1⟩ hB
    exact ⟨A, c, rfl, h1.pods (fun k hk => hB k (s1 k hk))⟩
  own_same := by
    rintro w w' S v d ⟨A, c, rfl, h1, s1⟩ hs
    exact ⟨A, c, rfl, h1.same (fun k hk => hs k (s1 k hk)), s1⟩
  few_cnt := by intro d h; omega
end Go.Proofs.YtklgjjmcflgjeaaGreat.EngTy
