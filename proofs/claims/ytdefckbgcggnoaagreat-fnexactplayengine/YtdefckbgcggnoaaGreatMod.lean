/-
  THE MODEL's ENGINE AT WORK (spec.l08Run), in memory: its box, its pods' row, its events' row; and what its first functions leave: l08Tell, l08Phase.
-/
import Derived.Test.YtdefckbgcggnoaaGreatMach
namespace Go.Proofs.YtdefckbgcggnoaaGreat.Mod
open Go.ChangeShapes Go.WideShapes Go.ChangeAt Go.RowKit
open Go.Proofs.YtdefckbgcggnoaaGreat.LK Go.Proofs.YtdefckbgcggnoaaGreat.Pods Go.Proofs.YtdefckbgcggnoaaGreat.EngV Go.Proofs.YtdefckbgcggnoaaGreat.Eng Go.Proofs.YtdefckbgcggnoaaGreat.Seg
open Go.Proofs.YtdefckbgcggnoaaGreat.Mach (OwnE own_ne rows_ne infoE of_app news3 flat3)
set_option linter.unusedVariables false
set_option linter.unusedSimpArgs false

theorem turned_then {S S' : Nat → Prop} {w v v' : World} (hS : ∀ q, S' q → S q ∨ w.heap.size ≤ q) (ht : Turned S w v) (h2 : Turned S' v v') : Turned S w v' :=
  ⟨h2.os.trans ht.os, h2.tape.trans ht.tape, h2.output.trans ht.output, Nat.le_trans ht.size h2.size, fun q hq hn => (h2.block q (Nat.lt_of_lt_of_le hq ht.size) (fun h3 => by rcases hS q h3 with h4 | h4; exact hn h4; omega)).trans (ht.block q hq hn)⟩
/-- The run's 21 cells: its engine, its events. -/
def moL (r : Run) (A : Option Addr) (n c : Nat) (E : Option Addr) (m k : Nat) : List Value := [
  .int .i64 r.e.sp.x0, .int .i64 r.e.sp.x1, .int .i64 r.e.sp.x2, .int .i64 r.e.sp.x3, .int .i64 r.e.sp.x4, .int .i64 r.e.sp.x5, .int .i64 r.e.sp.x6, .int .i64 r.e.sp.x7, .int .i64 r.e.sp.x8, .int .i64 r.e.sp.x9, .int .i64 r.e.sp.x10,
  .int .i64 r.e.now, .int .i64 r.e.ph, .int .i64 r.e.tg, .int .i64 r.e.gd, .slice A n c, .int .i64 r.e.nx, .int .i64 r.e.st, .int .i64 r.e.tr, .int .i64 r.e.wt, .slice E m k]
structure ModAt (w : World) (S : Nat → Prop) (b : Nat) (r : Run) (A : Option Addr) (n c : Nat) (E : Option Addr) (m k : Nat) : Prop where
  box : w.heap[b]? = some (.cells (moL r A n c E m k).toArray 82 (0, 0))
  ps : OwnP w 0 A n c r.e.ps
  ev : OwnE w 0 E m k r.ev
  sb : S b
  sa : ∀ q, (Value.slice A n c).ownBlock = some q → S q
  se : ∀ q, (Value.slice E m k).ownBlock = some q → S q
def Mod (w : World) (S : Nat → Prop) (b : Nat) (r : Run) : Prop := ∃ A n c E m k, ModAt w S b r A n c E m k
/-- Blocks of other types than the run's and the events', that were there, are not turned. -/
def Kept (w w' : World) : Prop := ∀ (q : Nat) (cs : Array Value) (t : TypeId) (f : Nat × Nat), t ≠ 82 → t ≠ 91 → w.heap[q]? = some (.cells cs t f) → w'.heap[q]? = some (.cells cs t f)
theorem Kept.refl (w : World) : Kept w w := fun _ _ _ _ _ _ h => h
theorem Kept.trans {a b c : World} (h : Kept a b) (k : Kept b c) : Kept a c := fun q cs t f h1 h2 hq => k q cs t f h1 h2 (h q cs t f h1 h2 hq)
theorem Kept.below {w w' : World} (h : Below w.heap.size w w') : Kept w w' := fun q cs t f _ _ hq => box_below hq h
theorem Kept.row {w : World} {b : Nat} {cs : Array Value} {t : TypeId} {f : Nat × Nat} (h : w.heap[b]? = some (.cells cs t f)) (ht : t = 82 ∨ t = 91) (vs : Array Value) : Kept w (w.setRow b vs) := fun q cs' t' f' h1 h2 hq => row_far hq (fun e => by
  subst e
  rw [h] at hq
  injection hq with hq
  injection hq with _ hq _
  subst hq
  rcases ht with ht | ht
  · exact h1 ht
  · exact h2 ht)
theorem Kept.set {w : World} {b i : Nat} {cs : Array Value} {t : TypeId} {f : Nat × Nat} (h : w.heap[b]? = some (.cells cs t f)) (ht : t = 82 ∨ t = 91) (v : Value) : Kept w (w.setCell ⟨b, i, none⟩ v) := fun q cs' t' f' h1 h2 hq => box_other hq _ _ (fun e => by
  have e : q = b := e
  subst e
  rw [h] at hq
  injection hq with hq
  injection hq with _ hq _
  subst hq
  rcases ht with ht | ht
  · exact h1 ht
  · exact h2 ht)
theorem Kept.grown {w w' : World} {lo size n : Nat} {v : Value} {xs : List Value} (hg : w.grownBy w' v.ownBlock) (h : w.ownsRow lo 91 size v n xs) : Kept w w' := fun q cs t f h1 h2 hq =>
  (hg.block q (box_lt hq) (fun e' => own_ne h hq h2 q e'.symm rfl)).trans hq
theorem Kept.own {w w' : World} (h : Kept w w') {lo size n : Nat} {v : Value} {xs : List Value} {e : TypeId} (h1 : e ≠ 82) (h2 : e ≠ 91) (hp : w.ownsRow lo e size v n xs) (k : Nat) (hk : v.ownBlock = some k) : w'.heap[k]? = w.heap[k]? := by
  rcases hp.2 with ⟨rfl, _⟩ | ⟨g, cap, cur, rfl, hb, hg, _⟩
  · cases hk
  · have e : g = k := by simpa [Value.ownBlock] using hk
    subst e
    rw [h _ _ _ _ h1 h2 hg, hg]
theorem Kept.pods {w w' : World} (h : Kept w w') {lo : Nat} {A : Option Addr} {n c : Nat} {ps : PList} (hp : OwnP w lo A n c ps) : OwnP w' lo A n c ps := hp.same fun q hq => h.own (by decide) (by decide) hp.2 q hq
/-- What a function of the model leaves: its answer, the run r', nothing else of what was there turned. -/
def Moved (b : Nat) (r' : Run) (res : Value) (S : Nat → Prop) (w : World) (e : Ending) (w' : World) : Prop :=
  e = .returned res ∧ ∃ S' : Nat → Prop, Mod w' S' b r' ∧ (∀ q, S' q → S q ∨ w.heap.size ≤ q) ∧ Turned S w w' ∧ Kept w w'
/-- .. which may write into the rows of pods. -/
def MovedT (b : Nat) (r' : Run) (res : Value) (S : Nat → Prop) (w : World) (e : Ending) (w' : World) : Prop :=
  e = .returned res ∧ ∃ S' : Nat → Prop, Mod w' S' b r' ∧ (∀ q, S' q → S q ∨ w.heap.size ≤ q) ∧ Turned S w w'
section
variable {w w' : World} {S : Nat → Prop} {b : Nat} {r : Run} {A : Option Addr} {n c : Nat} {E : Option Addr} {m k : Nat}
theorem Moved.wide {r' : Run} {res : Value} {e : Ending} (h : Moved b r' res S w e w') : MovedT b r' res S w e w' := by
  obtain ⟨h1, S', h2, h3, h4, _⟩ := h
  exact ⟨h1, S', h2, h3, h4⟩
theorem ModAt.lt (h : ModAt w S b r A n c E m k) : b < w.heap.size := box_lt h.box
theorem ModAt.below (h : ModAt w S b r A n c E m k) (hb : Below w.heap.size w w') : ModAt w' S b r A n c E m k := ⟨box_below h.box hb, h.ps.below hb, h.ev.below hb, h.sb, h.sa, h.se⟩
theorem Mod.below (h : Mod w S b r) (hb : Below w.heap.size w w') : Mod w' S b r := by
  obtain ⟨A, n, c, E, m, k, h⟩ := h
  exact ⟨A, n, c, E, m, k, h.below hb⟩
theorem ModAt.nea (h : ModAt w S b r A n c E m k) (q : Nat) (hq : (Value.slice A n c).ownBlock = some q) : q ≠ b := own_ne h.ps.2 h.box (by decide) q hq
theorem ModAt.nee (h : ModAt w S b r A n c E m k) (q : Nat) (hq : (Value.slice E m k).ownBlock = some q) : q ≠ b := own_ne h.ev.2 h.box (by decide) q hq
theorem ModAt.nae (h : ModAt w S b r A n c E m k) (q : Nat) (hq : (Value.slice A n c).ownBlock = some q) : (Value.slice E m k).ownBlock ≠ some q := rows_ne h.ps.2 h.ev.2 (by decide) q hq
/-- Amid a function of the model that began at w. -/
def Amid (w : World) (S : Nat → Prop) (b : Nat) (q : Run) (wr : World) : Prop := ∃ S' : Nat → Prop, Mod wr S' b q ∧ (∀ k, S' k → S k ∨ w.heap.size ≤ k) ∧ Turned S w wr ∧ Kept w wr
theorem Amid.start {q : Run} (h : Mod w S b q) : Amid w S b q w := ⟨S, h, fun _ h => .inl h, Turned.of_below (Below.refl _ _), Kept.refl w⟩
theorem Amid.fin {q : Run} {res : Value} (h : Amid w S b q w') : Moved b q res S w (.returned res) w' := by
  obtain ⟨S', h1, h2, h3, h4⟩ := h
  exact ⟨rfl, S', h1, h2, h3, h4⟩
theorem Amid.below {q : Run} {v : World} (h : Amid w S b q w') (hb : Below w'.heap.size w' v) : Amid w S b q v := by
  obtain ⟨S', h1, h2, h3, h4⟩ := h
  exact ⟨S', h1.below hb, h2, h3.trans (Turned.of_below hb), h4.trans (Kept.below hb)⟩
/-- The same, where the rows of pods may be turned too. -/
def AmidT (w : World) (S : Nat → Prop) (b : Nat) (q : Run) (wr : World) : Prop := ∃ S' : Nat → Prop, Mod wr S' b q ∧ (∀ k, S' k → S k ∨ w.heap.size ≤ k) ∧ Turned S w wr
theorem Amid.wide {q : Run} (h : Amid w S b q w') : AmidT w S b q w' := by
  obtain ⟨S', h1, h2, h3, _⟩ := h
  exact ⟨S', h1, h2, h3⟩
theorem AmidT.fin {q : Run} {res : Value} (h : AmidT w S b q w') : MovedT b q res S w (.returned res) w' := ⟨rfl, h⟩
theorem AmidT.below {q : Run} {v : World} (h : AmidT w S b q w') (hb : Below w'.heap.size w' v) : AmidT w S b q v := by
  obtain ⟨S', h1, h2, h3⟩ := h
  exact ⟨S', h1.below hb, h2, h3.trans (Turned.of_below hb)⟩
/-- The box is laid anew: other numbers, the same rows. -/
theorem ModAt.row {r' : Run} (h : ModAt w S b r A n c E m k) (hp : r'.e.ps = r.e.ps) (he : r'.ev = r.ev) : ModAt (w.setRow b (moL r' A n c E m k).toArray) S b r' A n c E m k :=
  ⟨row_box h.box, by rw [hp]; exact h.ps.same fun q hq => setRow_other _ _ _ _ (h.nea q hq), by rw [he]; exact h.ev.same fun q hq => setRow_other _ _ _ _ (h.nee q hq), h.sb, h.sa, h.se⟩
theorem turned_row (h : ModAt w S b r A n c E m k) (vs : Array Value) : Turned S w (w.setRow b vs) := (row_turned w b vs).wide fun q hq => by rw [hq]; exact h.sb
theorem moved_of {r' : Run} {res : Value} (h : ModAt w' S b r' A n c E m k) (ht : Turned S w w') (hk : Kept w w') : Moved b r' res S w (.returned res) w' := ⟨rfl, S, ⟨A, n, c, E, m, k, h⟩, fun q hq => .inl hq, ht, hk⟩
/-- One behind the other. -/
theorem Moved.step {S' : Nat → Prop} {r' : Run} {res : Value} {v v' : World} {e : Ending} (hS : ∀ q, S' q → S q ∨ w.heap.size ≤ q) (ht : Turned S w v) (hk : Kept w v) (h : Moved b r' res S' v e v') : Moved b r' res S w e v' := by
  obtain ⟨rfl, S2, hm, hs, h2, h3⟩ := h
  refine ⟨rfl, S2, hm, fun q hq => ?_, turned_then hS ht h2, hk.trans h3⟩
  rcases hs q hq with h3 | h3
  · exact hS q h3
  · exact .inr (Nat.le_trans ht.size h3)
theorem MovedT.step {S' : Nat → Prop} {r' : Run} {res : Value} {v v' : World} {e : Ending} (hS : ∀ q, S' q → S q ∨ w.heap.size ≤ q) (ht : Turned S w v) (h : MovedT b r' res S' v e v') : MovedT b r' res S w e v' := by
  obtain ⟨rfl, S2, hm, hs, h2⟩ := h
  refine ⟨rfl, S2, hm, fun q hq => ?_, turned_then hS ht h2⟩
  rcases hs q hq with h3 | h3
  · exact hS q h3
  · exact .inr (Nat.le_trans ht.size h3)
theorem Amid.call {S' : Nat → Prop} {q' : Run} {res : Value} {e : Ending} {v : World} (h2 : ∀ k, S' k → S k ∨ w.heap.size ≤ k) (h3 : Turned S w w') (h4 : Kept w w') (hm : Moved b q' res S' w' e v) : e = .returned res ∧ Amid w S b q' v := by
  obtain ⟨he, S2, ha, hb, hc, hd⟩ := Moved.step h2 h3 h4 hm
  exact ⟨he, S2, ha, hb, hc, hd⟩
theorem AmidT.call {S' : Nat → Prop} {q' : Run} {res : Value} {e : Ending} {v : World} (h2 : ∀ k, S' k → S k ∨ w.heap.size ≤ k) (h3 : Turned S w w') (hm : MovedT b q' res S' w' e v) : e = .returned res ∧ AmidT w S b q' v := MovedT.step h2 h3 hm
theorem moL_sp (r : Run) (A : Option Addr) (n c : Nat) (E : Option Addr) (m k : Nat) : ((moL r A n c E m k).drop 0).take (spL r.e.sp).length = spL r.e.sp := rfl
theorem moL_fl (r : Run) (A : Option Addr) (n c : Nat) (E : Option Addr) (m k : Nat) : ((moL r A n c E m k).drop 15).take (flL A n c r.e.nx).length = flL A n c r.e.nx := rfl
theorem moL_en (r : Run) (A : Option Addr) (n c : Nat) (E : Option Addr) (m k : Nat) : ((moL r A n c E m k).drop 0).take (enL r.e A n c).length = enL r.e A n c := rfl
/-- Another fleet is laid in. -/
theorem ModAt.pods {S' : Nat → Prop} {A' : Option Addr} {n' c' : Nat} {d : PList × Int} (h : ModAt w S b r A n c E m k) (hp : OwnP w 0 A' n' c' d.1) (hS : ∀ q, S q → S' q) (hs : ∀ q, (Value.slice A' n' c').ownBlock = some q → S' q) :
    ModAt (w.setRow b (moL (r.setFl d) A' n' c' E m k).toArray) S' b (r.setFl d) A' n' c' E m k :=
  ⟨row_box h.box, hp.same fun q hq => setRow_other _ _ _ _ (own_ne hp.2 h.box (by decide) q hq), h.ev.same fun q hq => setRow_other _ _ _ _ (h.nee q hq), hS _ h.sb, hs, fun q hq => hS _ (h.se q hq)⟩
end
set_option maxRecDepth 100000 in
set_option maxHeartbeats 3200000 in
theorem tell_any (w : World) (S : Nat → Prop) (b : Nat) (r : Run) (kd x y : Int) (h : Mod w S b r) (hl : r.ev.length ≤ 1000000) :
    Calls Tryz.prog 114 #[.pointer (some ⟨b, 0, none⟩), .int .i64 kd, .int .i64 x, .int .i64 y] w (Moved b (r.tell kd x y) (.tuple #[]) S w) := by
  obtain ⟨A, n, c, E, m, k, h⟩ := h
  obtain ⟨i0, hi0, hz0, hz1, hz2⟩ := info_parts infoE
  have H := Lib.hid h
  have hm : m ≤ 1000000 := by rw [← h.ev.1]; exact hl
  have c20 : w.cell? ⟨b, 20, none⟩ = some (.slice E m k) := box_cell h.box 20 _ rfl
  clear h
  go_enter Tryz.func114, Tryz.ntmps114
  go_wp2_with (at_builtin; refine wpList_append_own_at _ rfl (.tmp 12) (.tmp 17) _ rfl 0 91 i0 _ 3 24 Tryz.underlying37 hi0 hz0 hz1 hz2 rfl (by omega) (.slice E m k) m (flat3 r.ev) rfl ?o1 ⟨w.heap.size, 0, none⟩ 1 1 [.int .i64 kd, .int .i64 x, .int .i64 y] rfl rfl (news3 w [.int .i64 kd, .int .i64 x, .int .i64 y] 91) ?o3 ?o4 ?o5 ?o6 ?_)
  case o1 => exact (H.out.ev.below (bel1 w _)).2
  case o3 => intro u hu; simp at hu; rcases hu with rfl | rfl | rfl <;> rfl
  case o4 => unfold maxLen; omega
  case o5 => omega
  case o6 => omega
  intro v2 w5 hown hgr hif hat
  obtain ⟨E2, k2, rfl, hO⟩ := of_app (l := r.ev) (x := (kd, x, y)) H.out.ev.1 hown
  have hbl := H.out.lt
  have hbx := (hgr.block b (by rw [World.size_alloc]; omega) (fun e => H.out.nee b e.symm rfl)).trans (box_alloc H.out.box _)
  have d20 : w5.cell? ⟨b, 20, none⟩ = some (.slice E m k) := box_cell hbx 20 _ rfl
  have f20 := box_frozen hbx 20
  have HX := Lib.hid hbx
  have HO := Lib.hid hO
  have HG := Lib.hid hgr
  have HAT : Hid (∀ q, (Value.slice E2 (m + 1) k2).ownBlock = some q → S q ∨ w.heap.size ≤ q) := fun q hq => by
    rcases hat with h1 | h1
    · exact .inl (H.out.se q (by rw [← h1]; exact hq))
    · right
      have h2 := Option.some.inj (h1.symm.trans hq)
      first | omega | (rw [World.size_alloc] at h2; omega)
  clear hown hgr hif hat hO hbx c20
  go_wp2
  go_end0
  have hps : OwnP w5 0 A n c r.e.ps := (H.out.ps.below (bel1 w _)).same fun q hq => HG.out.block q (((H.out.ps.below (bel1 w _)).lt q hq).2) (fun e => H.out.nae q hq e.symm)
  have hew := HO.out.lt
  have ht5 : Turned S w w5 := (Turned.of_below (bel1 w _)).trans (Turned.of_grown HG.out (fun q hq => H.out.se q hq))
  have hset := set_row (i := 20) HX.out (.slice E2 (m + 1) k2) (moL (r.tell kd x y) A n c E2 (m + 1) k2) rfl
  rw [hset]
  have hne : ∀ q, (Value.slice E2 (m + 1) k2).ownBlock = some q → q ≠ b := fun q hq => own_ne HO.out.2 HX.out (by decide) q hq
  have hna : ∀ q, (Value.slice A n c).ownBlock = some q → q ≠ b := fun q hq => H.out.nea q hq
  refine ⟨rfl, fun q => S q ∨ w.heap.size ≤ q, ⟨A, n, c, E2, m + 1, k2, ⟨row_box HX.out, hps.same fun q hq => setRow_other _ _ _ _ (hna q hq), HO.out.same fun q hq => setRow_other _ _ _ _ (hne q hq), .inl H.out.sb, fun q hq => .inl (H.out.sa q hq), HAT.out⟩⟩, fun q hq => hq, ht5.trans ((row_turned _ _ _).wide fun q hq => by rw [hq]; exact H.out.sb), ((Kept.below (bel1 w _)).trans (Kept.grown HG.out (H.out.ev.below (bel1 w _)).2)).trans (Kept.row HX.out (.inl rfl) _)⟩
set_option maxRecDepth 100000 in
set_option maxHeartbeats 3200000 in
theorem phase_any (w : World) (S : Nat → Prop) (b : Nat) (r : Run) (ph : Int) (h : Mod w S b r) (hl : r.ev.length ≤ 1000000) :
    Calls Tryz.prog 89 #[.pointer (some ⟨b, 0, none⟩), .int .i64 ph] w (Moved b (r.enter ph) (.tuple #[]) S w) := by
  obtain ⟨A, n, c, E, m, k, h⟩ := h
  have H := Lib.hid h
  have d12 : w.cell? ⟨b, 12, none⟩ = some (.int .i64 r.e.ph) := box_cell h.box 12 _ rfl
  have f12 := box_frozen h.box 12
  clear h
  go_enter Tryz.func89, Tryz.ntmps89
  go_upto_region 1 with fail
  obtain ⟨W, hW⟩ : ∃ W, W = w.setCell ⟨b, 12, none⟩ (.int .i64 ph) := ⟨_, rfl⟩
  have hset := set_row (i := 12) H.out.box (.int .i64 ph) (moL ({ r with e := { r.e with ph := ph } } : Run) A n c E m k) rfl
  have HM : Hid (ModAt W S b ({ r with e := { r.e with ph := ph } } : Run) A n c E m k) := by rw [hW, hset]; exact H.out.row rfl rfl
  have HT : Hid (Turned S w W) := by rw [hW, hset]; exact turned_row H.out _
  have HKP : Hid (Kept w W) := by rw [hW]; exact Kept.set H.out.box (.inl rfl) _
  rw [← hW]
  clear hW hset d12 f12
  have c13 : W.cell? ⟨b, 13, none⟩ = some (.int .i64 r.e.tg) := box_cell HM.out.box 13 _ rfl
  go_wp2_with fail
  refine (tell_any W S b ({ r with e := { r.e with ph := ph } } : Run) 2 ph r.e.tg ⟨A, n, c, E, m, k, HM.out⟩ hl).mono ?_
  intro e w2 hmv
  have HMV := Lib.hid (Moved.step (fun q hq => .inl hq) HT.out HKP.out hmv)
  obtain ⟨rfl, _⟩ := hmv
  clear c13
  go_wp2
  go_end0
  exact HMV.out
end Go.Proofs.YtdefckbgcggnoaaGreat.Mod
