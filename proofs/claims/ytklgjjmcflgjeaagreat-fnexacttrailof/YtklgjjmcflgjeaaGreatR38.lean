import Derived.Test.YtklgjjmcflgjeaaGreatQ
import Derived.Test.YtklgjjmcflgjeaaGreatR03
import Derived.Test.YtklgjjmcflgjeaaGreatR06
import Derived.Test.YtklgjjmcflgjeaaGreatR07
import Derived.Test.YtklgjjmcflgjeaaGreatR09
import Derived.Test.YtklgjjmcflgjeaaGreatR10
import Derived.Test.YtklgjjmcflgjeaaGreatR14
import Derived.Test.YtklgjjmcflgjeaaGreatR30
set_option linter.unusedVariables false
set_option linter.unusedSimpArgs false
namespace Go.Proofs.YtklgjjmcflgjeaaGreat.Mod
open Go.ChangeShapes Go.WideShapes Go.ChangeAt Go.RowKit
open LK Pods EngV Eng Seg
open Mach (OwnE own_ne rows_ne infoE of_app news3 flat3)
theorem turned_then {S S' : Nat → Prop} {w v v' : World} (hS : ∀ q, S' q → S q ∨ w.heap.size ≤ q) (ht : Turned S w v) (h2 : Turned S' v v') : Turned S w v' :=
  ⟨h2.os.trans ht.os, h2.tape.trans ht.tape, h2.output.trans ht.output, Nat.le_trans ht.size h2.size, fun q hq hn => (h2.block q (Nat.lt_of_lt_of_le hq ht.size) (fun h3 => by rcases hS q h3 with h4 | h4; exact hn h4; omega)).trans (ht.block q hq hn)⟩
def moL (r : Run) (A : Option Addr) (n c : Nat) (E : Option Addr) (m k : Nat) : List Value := [
  .int .i64 r.e.sp.x0, .int .i64 r.e.sp.x1, .int .i64 r.e.sp.x2, .int .i64 r.e.sp.x3, .int .i64 r.e.sp.x4, .int .i64 r.e.sp.x5, .int .i64 r.e.sp.x6, .int .i64 r.e.sp.x7, .int .i64 r.e.sp.x8, .int .i64 r.e.sp.x9, .int .i64 r.e.sp.x10,
  .int .i64 r.e.now, .int .i64 r.e.ph, .int .i64 r.e.tg, .int .i64 r.e.gd, .slice A n c, .int .i64 r.e.nx, .int .i64 r.e.st, .int .i64 r.e.tr, .int .i64 r.e.wt, .slice E m k]
structure ModAt (w : World) (S : Nat → Prop) (b : Nat) (r : Run) (A : Option Addr) (n c : Nat) (E : Option Addr) (m k : Nat) : Prop where
  box : w.heap[b]? = some (.cells (moL r A n c E m k).toArray 90 (0, 0))
  ps : OwnP w 0 A n c r.e.ps
  ev : OwnE w 0 E m k r.ev
  sb : S b
  sa : ∀ q, (Value.slice A n c).ownBlock = some q → S q
  se : ∀ q, (Value.slice E m k).ownBlock = some q → S q
def Mod (w : World) (S : Nat → Prop) (b : Nat) (r : Run) : Prop := ∃ A n c E m k, ModAt w S b r A n c E m k
def Kept (w w' : World) : Prop := ∀ (q : Nat) (cs : Array Value) (t : TypeId) (f : Nat × Nat), t ≠ 90 → t ≠ 107 → w.heap[q]? = some (.cells cs t f) → w'.heap[q]? = some (.cells cs t f)
theorem Kept.refl (w : World) : Kept w w := fun _ _ _ _ _ _ h => h
theorem Kept.trans {a b c : World} (h : Kept a b) (k : Kept b c) : Kept a c := fun q cs t f h1 h2 hq => k q cs t f h1 h2 (h q cs t f h1 h2 hq)
theorem Kept.below {w w' : World} (h : Below w.heap.size w w') : Kept w w' := fun q cs t f _ _ hq => box_below hq h
theorem Kept.row {w : World} {b : Nat} {cs : Array Value} {t : TypeId} {f : Nat × Nat} (h : w.heap[b]? = some (.cells cs t f)) (ht : t = 90 ∨ t = 107) (vs : Array Value) : Kept w (w.setRow b vs) := fun q cs' t' f' h1 h2 hq => row_far hq (fun e => by
  subst e
  rw [h] at hq
  injection hq with hq
  injection hq with _ hq _
  subst hq
  rcases ht with ht | ht
  · exact h1 ht
  · exact h2 ht)
theorem Kept.set {w : World} {b i : Nat} {cs : Array Value} {t : TypeId} {f : Nat × Nat} (h : w.heap[b]? = some (.cells cs t f)) (ht : t = 90 ∨ t = 107) (v : Value) : Kept w (w.setCell ⟨b, i, none⟩ v) := fun q cs' t' f' h1 h2 hq => box_other hq _ _ (fun e => by
  have e : q = b := e
  subst e
  rw [h] at hq
  injection hq with hq
  injection hq with _ hq _
  subst hq
  rcases ht with ht | ht
  · exact h1 ht
  · exact h2 ht)
theorem Kept.grown {w w' : World} {lo size n : Nat} {v : Value} {xs : List Value} (hg : w.grownBy w' v.ownBlock) (h : w.ownsRow lo 107 size v n xs) : Kept w w' := fun q cs t f h1 h2 hq =>
  (hg.block q (box_lt hq) (fun e' => own_ne h hq h2 q e'.symm rfl)).trans hq
theorem Kept.own {w w' : World} (h : Kept w w') {lo size n : Nat} {v : Value} {xs : List Value} {e : TypeId} (h1 : e ≠ 90) (h2 : e ≠ 107) (hp : w.ownsRow lo e size v n xs) (k : Nat) (hk : v.ownBlock = some k) : w'.heap[k]? = w.heap[k]? := by
  rcases hp.2 with ⟨rfl, _⟩ | ⟨g, cap, cur, rfl, hb, hg, _⟩
  · cases hk
  · have e : g = k := by simpa [Value.ownBlock] using hk
    subst e
    rw [h _ _ _ _ h1 h2 hg, hg]
theorem Kept.pods {w w' : World} (h : Kept w w') {lo : Nat} {A : Option Addr} {n c : Nat} {ps : PList} (hp : OwnP w lo A n c ps) : OwnP w' lo A n c ps := hp.same fun q hq => h.own (by decide) (by decide) hp.2 q hq
def Moved (b : Nat) (r' : Run) (res : Value) (S : Nat → Prop) (w : World) (e : Ending) (w' : World) : Prop :=
  e = .returned res ∧ ∃ S' : Nat → Prop, Mod w' S' b r' ∧ (∀ q, S' q → S q ∨ w.heap.size ≤ q) ∧ Turned S w w' ∧ Kept w w'
def MovedT (b : Nat) (r' : Run) (res : Value) (S : Nat → Prop) (w : World) (e : Ending) (w' : World) : Prop :=
  e = .returned res ∧ ∃ S' : Nat → Prop, Mod w' S' b r' ∧ (∀ q, S' q → S q ∨ w.heap.size ≤ q) ∧ Turned S w w'
section
variable {w w' : World} {S : Nat → Prop} {b : Nat} {r : Run} {A : Option Addr} {n c : Nat} {E : Option Addr} {m k : Nat}
theorem Moved.wide {r' : Run} {res : Value} {e : Ending} (h : Moved b r' res S w e w') : MovedT b r' res S w e w' := by
  obtain ⟨h1, S', h2, h3, h4, _⟩ := h
  exact ⟨h1, S', h2, h3, h4⟩
theorem ModAt.lt (h : ModAt w S b r A n c E m k) : b < w.heap.size := box_lt h.box
theorem ModAt.below (h : ModAt w S b r A n c E m k) (hb : Below w.heap.size w w') : ModAt w' S b r A n c E m k := ⟨box_below h.box hb, h.ps.below hb, h.ev.below hb, h.sb, h.sa, h.se⟩
theorem Mod.below (h : Mod w S b r) (hb : Below w.heap.size w w') : Mod w' S b r := by
  obtain ⟨A, n, c, E, m, k, h⟩ := h
  exact ⟨A, n, c, E, m, k, h.below hb⟩
theorem ModAt.nea (h : ModAt w S b r A n c E m k) (q : Nat) (hq : (Value.slice A n c).ownBlock = some q) : q ≠ b := own_ne h.ps.2 h.box (by decide) q hq
theorem ModAt.nee (h : ModAt w S b r A n c E m k) (q : Nat) (hq : (Value.slice E m k).ownBlock = some q) : q ≠ b := own_ne h.ev.2 h.box (by decide) q hq
theorem ModAt.nae (h : ModAt w S b r A n c E m k) (q : Nat) (hq : (Value.slice A n c).ownBlock = some q) : (Value.slice E m k).ownBlock ≠ some q := rows_ne h.ps.2 h.ev.2 (by decide) q hq
def Amid (w : World) (S : Nat → Prop) (b : Nat) (q : Run) (wr : World) : Prop := ∃ S' : Nat → Prop, Mod wr S' b q ∧ (∀ k, S' k → S k ∨ w.heap.size ≤ k) ∧ Turned S w wr ∧ Kept w wr
theorem Amid.start {q : Run} (h : Mod w S b q) : Amid w S b q w := ⟨S, h, fun _ h => .inl h, Turned.of_below (Below.refl _ _), Kept.refl w⟩
theorem Amid.fin {q : Run} {res : Value} (h : Amid w S b q w') : Moved b q res S w (.returned res) w' := by
  obtain ⟨S', h1, h2, h3, h4⟩ := h
  exact ⟨rfl, S', h1, h2, h3, h4⟩
theorem Amid.below {q : Run} {v : World} (h : Amid w S b q w') (hb : Below w'.heap.size w' v) : Amid w S b q v := by
  obtain ⟨S', h1, h2, h3, h4⟩ := h
  exact ⟨S', h1.below hb, h2, h3.trans (Turned.of_below hb), h4.trans (Kept.below hb)⟩
def AmidT (w : World) (S : Nat → Prop) (b : Nat) (q : Run) (wr : World) : Prop := ∃ S' : Nat → Prop, Mod wr S' b q ∧ (∀ k, S' k → S k ∨ w.heap.size ≤ k) ∧ Turned S w wr
theorem AmidT.fin {q : Run} {res : Value} (h : AmidT w S b q w') : MovedT b q res S w (.returned res) w' := ⟨rfl, h⟩
theorem ModAt.row {r' : Run} (h : ModAt w S b r A n c E m k) (hp : r'.e.ps = r.e.ps) (he : r'.ev = r.ev) : ModAt (w.setRow b (moL r' A n c E m k).toArray) S b r' A n c E m k :=
  ⟨row_box h.box, by rw [hp]; exact h.ps.same fun q hq => setRow_other _ _ _ _ (h.nea q hq), by rw [he]; exact h.ev.same fun q hq => setRow_other _ _ _ _ (h.nee q hq), h.sb, h.sa, h.se⟩
theorem turned_row (h : ModAt w S b r A n c E m k) (vs : Array Value) : Turned S w (w.setRow b vs) := (row_turned w b vs).wide fun q hq => by rw [hq]; exact h.sb
theorem Moved.step {S' : Nat → Prop} {r' : Run} {res : Value} {v v' : World} {e : Ending} (hS : ∀ q, S' q → S q ∨ w.heap.size ≤ q) (ht : Turned S w v) (hk : Kept w v) (h : Moved b r' res S' v e v') : Moved b r' res S w e v' := by
  obtain ⟨rfl, S2, hm, hs, h2, h3⟩ := h
  refine ⟨rfl, S2, hm, fun q hq => ?_, turned_then hS ht h2, hk.trans h3⟩
  rcases hs q hq with h3 | h3
  · exact hS q h3
  · exact .inr (Nat.le_trans ht.size h3)
theorem MovedT.step {S' : Nat → Prop} {r' : Run} {res : Value} {v v' : World} {e : Ending} (hS : ∀ q, S' q → S q ∨ w.heap.size ≤ q) (ht : Turned S w v) (h : MovedT b r' res S' v e v') : MovedT b r' res S w e v' := by
  obtain ⟨rfl, S2, hm, hs, h2⟩ := h
  refine ⟨rfl, S2, hm, fun q hq => ?_, turned_then hS ht h2⟩
  rcases hs q hq with h3 | h3
  · exact hS q h3
  · exact .inr (Nat.le_trans ht.size h3)
theorem Amid.call {S' : Nat → Prop} {q' : Run} {res : Value} {e : Ending} {v : World} (h2 : ∀ k, S' k → S k ∨ w.heap.size ≤ k) (h3 : Turned S w w') (h4 : Kept w w') (hm : Moved b q' res S' w' e v) : e = .returned res ∧ Amid w S b q' v := by
  obtain ⟨he, S2, ha, hb, hc, hd⟩ := Moved.step h2 h3 h4 hm
  exact ⟨he, S2, ha, hb, hc, hd⟩
theorem AmidT.call {S' : Nat → Prop} {q' : Run} {res : Value} {e : Ending} {v : World} (h2 : ∀ k, S' k → S k ∨ w.heap.size ≤ k) (h3 : Turned S w w') (hm : MovedT b q' res S' w' e v) : e = .returned res ∧ AmidT w S b q' v := MovedT.step h2 h3 hm
theorem moL_sp (r : Run) (A : Option Addr) (n c : Nat) (E : Option Addr) (m k : Nat) : ((moL r A n c E m k).drop 0).take (spL r.e.sp).length = spL r.e.sp := rfl
theorem moL_fl (r : Run) (A : Option Addr) (n c : Nat) (E : Option Addr) (m k : Nat) : ((moL r A n c E m k).drop 15).take (flL A n c r.e.nx).length = flL A n c r.e.nx := rfl
theorem moL_en (r : Run) (A : Option Addr) (n c : Nat) (E : Option Addr) (m k : Nat) : ((moL r A n c E m k).drop 0).take (enL r.e A n c).length = enL r.e A n c := rfl
theorem ModAt.pods {S' : Nat → Prop} {A' : Option Addr} {n' c' : Nat} {d : PList × Int} (h : ModAt w S b r A n c E m k) (hp : OwnP w 0 A' n' c' d.1) (hS : ∀ q, S q → S' q) (hs : ∀ q, (Value.slice A' n' c').ownBlock = some q → S' q) :
    ModAt (w.setRow b (moL (r.setFl d) A' n' c' E m k).toArray) S' b (r.setFl d) A' n' c' E m k :=
  ⟨row_box h.box, hp.same fun q hq => setRow_other _ _ _ _ (own_ne hp.2 h.box (by decide) q hq), h.ev.same fun q hq => setRow_other _ _ _ _ (h.nee q hq), hS _ h.sb, hs, fun q hq => hS _ (h.se q hq)⟩
end
set_option maxRecDepth 100000 in
set_option maxHeartbeats 3200000 in
theorem tell_any (w : World) (S : Nat → Prop) (b : Nat) (r : Run) (kd x y : Int) (h : Mod w S b r) (hl : r.ev.length ≤ 1000000) :
    Calls Tryz.prog 139 #[.pointer (some ⟨b, 0, none⟩), .int .i64 kd, .int .i64 x, .int .i64 y] w (Moved b (r.tell kd x y) (.tuple #[]) S w) := by
  obtain ⟨A, n, c, E, m, k, h⟩ := h
  obtain ⟨i0, hi0, hz0, hz1, hz2⟩ := info_parts infoE
  have H := Lib.hid h
  have hm : m ≤ 1000000 := by rw [← h.ev.1]; exact hl
  have c20 : w.cell? ⟨b, 20, none⟩ = some (.slice E m k) := box_cell h.box 20 _ rfl
  clear h
  go_enter Tryz.func139, Tryz.ntmps139
  go_wp2_with (at_builtin; refine wpList_append_own_at _ rfl (.tmp 12) (.tmp 17) _ rfl 0 107 i0 _ 3 24 Tryz.underlying37 hi0 hz0 hz1 hz2 rfl (by omega) (.slice E m k) m (flat3 r.ev) rfl ?o1 ⟨w.heap.size, 0, none⟩ 1 1 [.int .i64 kd, .int .i64 x, .int .i64 y] rfl rfl (news3 w [.int .i64 kd, .int .i64 x, .int .i64 y] 107) ?o3 ?o4 ?o5 ?o6 ?_)
  case o1 => exact (H.out.ev.below (bel1 w _)).2
  case o3 => intro u hu; simp at hu; rcases hu with rfl | rfl | rfl <;> rfl
  case o4 => unfold maxLen; omega
  case o5 => omega
  case o6 => omega
  intro v2 w5 hown hgr hif hat
  obtain ⟨E2, k2, rfl, hO⟩ := of_app (l := r.ev) (x := (kd, x, y)) H.out.ev.1 hown
  have hbl := H.out.lt
  have hbx := (hgr.block b (by rw [World.size_alloc]; omega) (fun e => H.out.nee b e.symm rfl)).trans (box_alloc H.out.box _)
  have d20 : w5.cell? ⟨b, 20, none⟩ = some (.slice E m k) := box_cell hbx 20 _ rfl
  have f20 := box_frozen hbx 20
  have HX := Lib.hid hbx
  have HO := Lib.hid hO
  have HG := Lib.hid hgr
  have HAT : Hid (∀ q, (Value.slice E2 (m + 1) k2).ownBlock = some q → S q ∨ w.heap.size ≤ q) := fun q hq => by
    rcases hat with h1 | h1
    · exact .inl (H.out.se q (by rw [← h1]; exact hq))
    · right
      have h2 := Option.some.inj (h1.symm.trans hq)
      first | omega | (rw [World.size_alloc] at h2; omega)
  clear hown hgr hif hat hO hbx c20
  go_wp2
  go_end0
  have hps : OwnP w5 0 A n c r.e.ps := (H.out.ps.below (bel1 w _)).same fun q hq => HG.out.block q (((H.out.ps.below (bel1 w _)).lt q hq).2) (fun e => H.out.nae q hq e.symm)
  have hew := HO.out.lt
  have ht5 : Turned S w w5 := (Turned.of_below (bel1 w _)).trans (Turned.of_grown HG.out (fun q hq => H.out.se q hq))
  have hset := set_row (i := 20) HX.out (.slice E2 (m + 1) k2) (moL (r.tell kd x y) A n c E2 (m + 1) k2) rfl
  rw [hset]
  have hne : ∀ q, (Value.slice E2 (m + 1) k2).ownBlock = some q → q ≠ b := fun q hq => own_ne HO.out.2 HX.out (by decide) q hq
  have hna : ∀ q, (Value.slice A n c).ownBlock = some q → q ≠ b := fun q hq => H.out.nea q hq
  refine ⟨rfl, fun q => S q ∨ w.heap.size ≤ q, ⟨A, n, c, E2, m + 1, k2, ⟨row_box HX.out, hps.same fun q hq => setRow_other _ _ _ _ (hna q hq), HO.out.same fun q hq => setRow_other _ _ _ _ (hne q hq), .inl H.out.sb, fun q hq => .inl (H.out.sa q hq), HAT.out⟩⟩, fun q hq => hq, ht5.trans ((row_turned _ _ _).wide fun q hq => by rw [hq]; exact H.out.sb), ((Kept.below (bel1 w _)).trans (Kept.grown HG.out (H.out.ev.below (bel1 w _)).2)).trans (Kept.row HX.out (.inl rfl) _)⟩
set_option maxRecDepth 100000 in
set_option maxHeartbeats 3200000 in
theorem phase_any (w : World) (S : Nat → Prop) (b : Nat) (r : Run) (ph : Int) (h : Mod w S b r) (hl : r.ev.length ≤ 1000000) :
    Calls Tryz.prog 102 #[.pointer (some ⟨b, 0, none⟩), .int .i64 ph] w (Moved b (r.enter ph) (.tuple #[]) S w) := by
  obtain ⟨A, n, c, E, m, k, h⟩ := h
  have H := Lib.hid h
  have d12 : w.cell? ⟨b, 12, none⟩ = some (.int .i64 r.e.ph) := box_cell h.box 12 _ rfl
  have f12 := box_frozen h.box 12
  clear h
  go_enter Tryz.func102, Tryz.ntmps102
  go_upto_region 1 with fail
  obtain ⟨W, hW⟩ : ∃ W, W = w.setCell ⟨b, 12, none⟩ (.int .i64 ph) := ⟨_, rfl⟩
  have hset := set_row (i := 12) H.out.box (.int .i64 ph) (moL ({ r with e := { r.e with ph := ph } } : Run) A n c E m k) rfl
  have HM : Hid (ModAt W S b ({ r with e := { r.e with ph := ph } } : Run) A n c E m k) := by rw [hW, hset]; exact H.out.row rfl rfl
  have HT : Hid (Turned S w W) := by rw [hW, hset]; exact turned_row H.out _
  have HKP : Hid (Kept w W) := by rw [hW]; exact Kept.set H.out.box (.inl rfl) _
  rw [← hW]
  clear hW hset d12 f12
  have c13 : W.cell? ⟨b, 13, none⟩ = some (.int .i64 r.e.tg) := box_cell HM.out.box 13 _ rfl
  go_wp2_with fail
  refine (tell_any W S b ({ r with e := { r.e with ph := ph } } : Run) 2 ph r.e.tg ⟨A, n, c, E, m, k, HM.out⟩ hl).mono ?_
  intro e w2 hmv
  have HMV := Lib.hid (Moved.step (fun q hq => .inl hq) HT.out HKP.out hmv)
  obtain ⟨rfl, _⟩ := hmv
  clear c13
  go_wp2
  go_end0
  exact HMV.out
end Go.Proofs.YtklgjjmcflgjeaaGreat.Mod
namespace Go.Proofs.YtklgjjmcflgjeaaGreat.Crew
open Go.ChangeShapes Go.WideShapes Go.ChangeAt Go.RowKit Go.Maps Go.Sort Go.Shelf
open LK Pods FleetV Has Ints
open FleetSpec (atP at_cases at_any copy_any specFleetOk_any)
def findO (d : PList × Int) (id : Int) : Option Pd := if FGood d.1 d.2 then fndP d.1 id else none
def findP (d : PList × Int) (id : Int) : Pd := (findO d id).getD z5
def findB (d : PList × Int) (id : Int) : Bool := (findO d id).isSome
theorem find_no {d : PList × Int} {id : Int} (h : findO d id = none) : findP d id = z5 ∧ findB d id = false := by simp [findP, findB, h]
theorem find_yes {d : PList × Int} {id : Int} {p : Pd} (h : findO d id = some p) : findP d id = p ∧ findB d id = true := by simp [findP, findB, h]
def podT (p : Pd) (b : Bool) : Value := .tuple #[.agg #[.int .i64 p.1, .int .i64 p.2.1, .int .i64 p.2.2.1, .int .i64 p.2.2.2.1, .int .i64 p.2.2.2.2], .bool b]
set_option maxRecDepth 100000 in
set_option maxHeartbeats 3200000 in
theorem specFindPod_any (A : Option Addr) (n c : Nat) (nx id : Int) (ps : PList) (B : Nat) (w : World) (hr : IsPods w B A n ps) (hB : B ≤ w.heap.size) (hn : n ≤ 1048576) :
    Calls Tryz.prog 182 #[.agg #[.slice A n c, .int .i64 nx], .int .i64 id] w (Says (podT (findP (ps, nx) id) (findB (ps, nx) id)) w) := by
  have HL : Hid (ps.length = n) := hr.1
  have HR := Lib.hid hr
  clear hr
  have k0 : ((w.alloc (.cells #[.slice A n c, .int .i64 nx] 34)).alloc (.cells #[.int .i64 0, .int .i64 0, .int .i64 0, .int .i64 0, .int .i64 0] 85)).heap[w.heap.size]? = some (.cells #[.slice A n c, .int .i64 nx] 34) := box_alloc (box_new _ _) _
  have k1 : ((w.alloc (.cells #[.slice A n c, .int .i64 nx] 34)).alloc (.cells #[.int .i64 0, .int .i64 0, .int .i64 0, .int .i64 0, .int .i64 0] 85)).heap[w.heap.size + 1]? = some (.cells #[.int .i64 0, .int .i64 0, .int .i64 0, .int .i64 0, .int .i64 0] 85) := by
    have h := box_new (w.alloc (.cells #[.slice A n c, .int .i64 nx] 34)) (.cells #[.int .i64 0, .int .i64 0, .int .i64 0, .int .i64 0, .int .i64 0] 85)
    simp only [World.size_alloc] at h
    exact h
  have K0 := Lib.hid k0
  have K1 := Lib.hid k1
  clear k0 k1
  go_enter Tryz.func182, Tryz.ntmps182
  go_wp2_with fail
  refine (at_any A n c nx id ps B _ (HR.out.below (bel2 _ _ _) hB) (by simp; omega) hn).mono ?_
  rintro e w3 ⟨rfl, hb3⟩
  have E0 := Lib.hid (box_below K0.out hb3)
  have E1 := Lib.hid (box_below K1.out hb3)
  have HB3 := Lib.hid (bel_then (bel2 w _ _) hb3 (by simp; omega))
  have e00 := box_cell E0.out 0 _ rfl
  have e01 := box_cell E0.out 1 _ rfl
  obtain ⟨at0, hat⟩ : ∃ at0, at0 = atP ps id := ⟨_, rfl⟩
  rw [← hat]
  have HAT := Lib.hid hat
  clear hat hb3 K0 K1
  go_wp2_with fail
  refine (specFleetOk_any A n c nx ps B _ (HR.out.below HB3.out hB) (by have := HB3.out.size; omega) hn).mono ?_
  rintro e w4 ⟨rfl, hb4⟩
  have F0 := box_below E0.out hb4
  have F1 := box_below E1.out hb4
  have HBW := Lib.hid (bel_then HB3.out hb4 HB3.out.size)
  have hs4 : w.heap.size + 1 < w4.heap.size := box_lt F1
  have e00 := box_cell F0 0 _ rfl
  have f0 := box_cell F1 0 _ rfl
  have f1 := box_cell F1 1 _ rfl
  have f2 := box_cell F1 2 _ rfl
  have f3 := box_cell F1 3 _ rfl
  have f4 := box_cell F1 4 _ rfl
  have g0 := box_frozen F1 0
  have g1 := box_frozen F1 1
  have g2 := box_frozen F1 2
  have g3 := box_frozen F1 3
  have g4 := box_frozen F1 4
  clear hb4 E0 E1 F0 F1
  by_cases hg : FGood ps nx
  · rw [decide_eq_true hg]
    have hfo : findO (ps, nx) id = fndP ps id := if_pos hg
    rcases at_cases ps id with ⟨hat, hfn⟩ | ⟨j, hj, hat, hfn, hjid⟩
    · have HN := Lib.hid (find_no (hfo.trans hfn))
      have ha : at0 = -1 := HAT.out.trans hat
      subst ha
      clear hg hat hfn hfo
      go_wp2
      refine bodyPost_ret (v := .tuple #[.agg #[.int .i64 0, .int .i64 0, .int .i64 0, .int .i64 0, .int .i64 0], .bool false]) (by simp [results, Tryz.results182, go_sem, f0, f1, f2, f3, f4]) rfl ?_
      rw [HN.out.1, HN.out.2]
      exact ⟨rfl, set5_below HBW.out (w.heap.size + 1) 0 z5 (by omega)⟩
    · have ha : at0 = (j : Int) := HAT.out.trans hat
      subst ha
      have hjn : j < n := by rw [← HL.out]; exact hj
      obtain ⟨b, off, x0, x1, x2, x3, x4, rfl, hbB, hz, hc0, hc1, hc2, hc3, hc4⟩ := (HR.out.below HBW.out hB).at_ hjn
      rw [hz] at hfn
      have HY := Lib.hid (find_yes (hfo.trans hfn))
      clear hg hat hfn hfo hz hjid HAT
      go_wp2
      refine bodyPost_ret (v := .tuple #[.agg #[.int .i64 x0, .int .i64 x1, .int .i64 x2, .int .i64 x3, .int .i64 x4], .bool true]) (by simp [results, Tryz.results182, go_sem, f0, f1, f2, f3, f4]) rfl ?_
      rw [HY.out.1, HY.out.2]
      exact ⟨rfl, set5_below HBW.out (w.heap.size + 1) 0 (x0, x1, x2, x3, x4) (by omega)⟩
  · rw [decide_eq_false hg]
    have HN := Lib.hid (find_no (d := (ps, nx)) (id := id) (if_neg hg))
    clear hg
    go_wp2
    refine bodyPost_ret (v := .tuple #[.agg #[.int .i64 0, .int .i64 0, .int .i64 0, .int .i64 0, .int .i64 0], .bool false]) (by simp [results, Tryz.results182, go_sem, f0, f1, f2, f3, f4]) rfl ?_
    rw [HN.out.1, HN.out.2]
    exact ⟨rfl, set5_below HBW.out (w.heap.size + 1) 0 z5 (by omega)⟩
end Go.Proofs.YtklgjjmcflgjeaaGreat.Crew
namespace Go.Proofs.YtklgjjmcflgjeaaGreat.Av
open Go.ChangeShapes Go.WideShapes Go.ChangeAt Go.RowKit
open LK Pods FleetV Sp Hl Has Ints
def loL (x0 x1 x2 x3 x4 x5 x6 x7 x8 x9 x10 now : Int) (ps : PList) : List Int := (ps.filter fun p => lostB x0 x1 x2 x3 x4 x5 x6 x7 x8 x9 x10 p.2.2.1 p.2.2.2.2 now).map (·.1)
theorem lo_take {x0 x1 x2 x3 x4 x5 x6 x7 x8 x9 x10 now : Int} {ps : PList} {k : Nat} (h : k < ps.length) : loL x0 x1 x2 x3 x4 x5 x6 x7 x8 x9 x10 now (ps.take (k + 1)) = loL x0 x1 x2 x3 x4 x5 x6 x7 x8 x9 x10 now (ps.take k) ++ if lostB x0 x1 x2 x3 x4 x5 x6 x7 x8 x9 x10 (ps.getD k z5).2.2.1 (ps.getD k z5).2.2.2.2 now then [(ps.getD k z5).1] else [] := by
  unfold loL
  rw [Crew.take_get h, List.filter_append, List.map_append]
  by_cases hm : lostB x0 x1 x2 x3 x4 x5 x6 x7 x8 x9 x10 (ps.getD k z5).2.2.1 (ps.getD k z5).2.2.2.2 now = true
  · rw [if_pos hm, List.filter_cons_of_pos (by exact hm)]; rfl
  · rw [if_neg hm, List.filter_cons_of_neg (by exact hm)]; rfl
def lostD (x0 x1 x2 x3 x4 x5 x6 x7 x8 x9 x10 now : Int) (d : PList × Int) : List Int := if FGood d.1 d.2 then loL x0 x1 x2 x3 x4 x5 x6 x7 x8 x9 x10 now d.1 else []
set_option maxRecDepth 100000 in
set_option maxHeartbeats 6400000 in
theorem specLostOf_any (x0 x1 x2 x3 x4 x5 x6 x7 x8 x9 x10 now : Int) (A : Option Addr) (n c : Nat) (nx : Int) (ps : PList) (B : Nat) (w : World) (hr : IsPods w B A n ps) (hB : B ≤ w.heap.size) (hn : n ≤ 1048576) :
    Calls Tryz.prog 181 #[.agg #[.int .i64 x0, .int .i64 x1, .int .i64 x2, .int .i64 x3, .int .i64 x4, .int .i64 x5, .int .i64 x6, .int .i64 x7, .int .i64 x8, .int .i64 x9, .int .i64 x10], .agg #[.slice A n c, .int .i64 nx], .int .i64 now] w (Made IntTy.ity (lostD x0 x1 x2 x3 x4 x5 x6 x7 x8 x9 x10 now (ps, nx)) w) := by
  have HL : Hid (ps.length = n) := hr.1
  have HR := Lib.hid hr
  clear hr
  obtain ⟨i0, hi0, hz0, hz1, hz2⟩ := info_parts infoInt
  have HA : Hid (∀ (y0 y1 y2 y3 y4 : Int) (W : World), Calls Tryz.prog 217 #[.agg #[.int .i64 x0, .int .i64 x1, .int .i64 x2, .int .i64 x3, .int .i64 x4, .int .i64 x5, .int .i64 x6, .int .i64 x7, .int .i64 x8, .int .i64 x9, .int .i64 x10], .agg #[.int .i64 y0, .int .i64 y1, .int .i64 y2, .int .i64 y3, .int .i64 y4], .int .i64 now] W (Says (.bool (lostB x0 x1 x2 x3 x4 x5 x6 x7 x8 x9 x10 y2 y4 now)) W)) := fun y0 y1 y2 y3 y4 W => specIsLost_any x0 x1 x2 x3 x4 x5 x6 x7 x8 x9 x10 y0 y1 y2 y3 y4 now W
  obtain ⟨R, hR⟩ : ∃ R, R = lostD x0 x1 x2 x3 x4 x5 x6 x7 x8 x9 x10 now (ps, nx) := ⟨_, rfl⟩
  rw [← hR]
  have HRV := Lib.hid hR
  clear hR
  obtain ⟨V, hV⟩ : ∃ V, V = (((w.alloc (.cells #[.int .i64 x0, .int .i64 x1, .int .i64 x2, .int .i64 x3, .int .i64 x4, .int .i64 x5, .int .i64 x6, .int .i64 x7, .int .i64 x8, .int .i64 x9, .int .i64 x10] 25)).alloc (.cells #[.slice A n c, .int .i64 nx] 34)).alloc (.cells #[] 3)) := ⟨_, rfl⟩
  have hbV : Below w.heap.size w V := by rw [hV]; exact bel3 _ _ _ _
  have BS : Hid (V.heap[w.heap.size]? = some (.cells #[.int .i64 x0, .int .i64 x1, .int .i64 x2, .int .i64 x3, .int .i64 x4, .int .i64 x5, .int .i64 x6, .int .i64 x7, .int .i64 x8, .int .i64 x9, .int .i64 x10] 25)) := by have h := box_alloc (box_alloc (box_new w (.cells #[.int .i64 x0, .int .i64 x1, .int .i64 x2, .int .i64 x3, .int .i64 x4, .int .i64 x5, .int .i64 x6, .int .i64 x7, .int .i64 x8, .int .i64 x9, .int .i64 x10] 25)) (.cells #[.slice A n c, .int .i64 nx] 34)) (.cells #[] 3); (try simp only [World.size_alloc] at h); rw [hV]; exact h
  have BF : Hid (V.heap[w.heap.size + 1]? = some (.cells #[.slice A n c, .int .i64 nx] 34)) := by have h := box_alloc (box_new (w.alloc (.cells #[.int .i64 x0, .int .i64 x1, .int .i64 x2, .int .i64 x3, .int .i64 x4, .int .i64 x5, .int .i64 x6, .int .i64 x7, .int .i64 x8, .int .i64 x9, .int .i64 x10] 25)) (.cells #[.slice A n c, .int .i64 nx] 34)) (.cells #[] 3); (try simp only [World.size_alloc] at h); rw [hV]; exact h
  have BE : Hid (V.heap[w.heap.size + 1 + 1]? = some (.cells #[] 3)) := by have h := box_new ((w.alloc (.cells #[.int .i64 x0, .int .i64 x1, .int .i64 x2, .int .i64 x3, .int .i64 x4, .int .i64 x5, .int .i64 x6, .int .i64 x7, .int .i64 x8, .int .i64 x9, .int .i64 x10] 25)).alloc (.cells #[.slice A n c, .int .i64 nx] 34)) (.cells #[] 3); (try simp only [World.size_alloc] at h); rw [hV]; exact h
  go_enter Tryz.func181, Tryz.ntmps181
  go_wp2_with fail
  rw [← hV]
  clear hV
  refine (FleetSpec.specFleetOk_any A n c nx ps B _ (HR.out.below hbV hB) (Nat.le_trans hB hbV.size) hn).mono ?_
  rintro e w1 ⟨rfl, hbs⟩
  have BS' := Lib.hid (box_below BS.out hbs)
  have BF' := Lib.hid (box_below BF.out hbs)
  have BE' := Lib.hid (box_below BE.out hbs)
  have hbn1 : Below w.heap.size w w1 := bel_then hbV hbs hbV.size
  clear BS
  have BS := BS'
  clear BS'
  clear BF
  have BF := BF'
  clear BF'
  clear BE
  have BE := BE'
  clear BE'
  clear hbs
  have hO0 : OwnI w1 (w.heap.size + 1 + 1) (some ⟨w.heap.size + 1 + 1, 0, none⟩) 0 0 [] := ⟨by simp, by simp, .inr ⟨w.heap.size + 1 + 1, 0, #[], rfl, Nat.le_refl _, BE.out, Nat.le_refl _, Nat.zero_le _, rfl, by simp⟩⟩
  have hs1 : w.heap.size + 1 + 1 < w1.heap.size := box_lt BE.out
  clear BE
  by_cases hg : FGood ps nx
  case neg =>
    have HV : Hid (R = []) := by show R = _; rw [HRV.out]; exact if_neg hg
    rw [decide_eq_false hg]
    clear hg
    have HO0 := Lib.hid hO0
    clear hO0
    go_wp2
    go_ret
    rw [HV.out]
    exact IntTy.made_of (lo := w.heap.size) hbn1 ⟨rfl, World.ownsRow_nil _ _ _ _⟩ (Nat.le_refl _)
  have HV : Hid (R = loL x0 x1 x2 x3 x4 x5 x6 x7 x8 x9 x10 now ps) := by show R = _; rw [HRV.out]; exact if_pos hg
  clear HRV
  rw [decide_eq_true hg]
  clear hg
  have cBF_0 : w1.cell? ⟨w.heap.size + 1, 0, none⟩ = some (.slice A n c) := box_cell BF.out 0 _ rfl
  go_wp2_with fail
  clear cBF_0
  go_loopw [7, 8] (fun q i wr => ∃ (k m : Nat) (A3 : Option Addr) (c3 : Nat) (T : List Int), k ≤ n ∧ i = .int .i64 k ∧ q = .slice A3 m c3 ∧ m ≤ k ∧ Hid (T = loL x0 x1 x2 x3 x4 x5 x6 x7 x8 x9 x10 now (ps.take k)) ∧ Hid (OwnI wr (w.heap.size + 1 + 1) A3 m c3 T) ∧ Hid (wr.heap[w.heap.size]? = some (.cells #[.int .i64 x0, .int .i64 x1, .int .i64 x2, .int .i64 x3, .int .i64 x4, .int .i64 x5, .int .i64 x6, .int .i64 x7, .int .i64 x8, .int .i64 x9, .int .i64 x10] 25)) ∧ Hid (wr.heap[w.heap.size + 1]? = some (.cells #[.slice A n c, .int .i64 nx] 34)) ∧ Below w.heap.size w wr ∧ w.heap.size + 1 + 1 ≤ wr.heap.size) (fun _ i _ => n - (RowKit.intOf i).toNat)
  case atStart => exact ⟨0, 0, _, 0, [], Nat.zero_le _, rfl, rfl, Nat.le_refl _, by simp [Hid, loL], hO0, BS, BF, hbn1, by omega⟩
  case round =>
    obtain ⟨k, m, A3, c3, T, hk, rfl, rfl, hmk, HM, HO, FS, FF, hbr, hsr⟩ := hrel
    clear BS BF hO0 hs1 hbn1
    by_cases hlt : k < n
    case neg =>
      have HK : Hid (k = n) := (by omega : k = n)
      have cFF_0 : wr.cell? ⟨w.heap.size + 1, 0, none⟩ = some (.slice A n c) := box_cell FF.out 0 _ rfl
      go_wp2
      go_ret
      have h := HM.out
      rw [List.take_of_length_le (by rw [HL.out, HK.out]; exact Nat.le_refl _)] at h
      rw [HV.out, ← h]
      exact IntTy.made_of hbr HO.out (by omega)
    have hrw := HR.out.below hbr hB
    obtain ⟨b, off, y0, y1, y2, y3, y4, rfl, hbB, hz, hc0, hc1, hc2, hc3, hc4⟩ := hrw.at_ hlt
    have HS := Lib.hid (lo_take (now := now) (x0 := x0) (x1 := x1) (x2 := x2) (x3 := x3) (x4 := x4) (x5 := x5) (x6 := x6) (x7 := x7) (x8 := x8) (x9 := x9) (x10 := x10) (ps := ps) (k := k) (by rw [HL.out]; exact hlt))
    rw [hz] at HS
    clear hz hrw
    obtain ⟨Q, hQ⟩ : ∃ Q, Q = lostB x0 x1 x2 x3 x4 x5 x6 x7 x8 x9 x10 y2 y4 now := ⟨_, rfl⟩
    have HQ : Hid (∀ W : World, Calls Tryz.prog 217 #[.agg #[.int .i64 x0, .int .i64 x1, .int .i64 x2, .int .i64 x3, .int .i64 x4, .int .i64 x5, .int .i64 x6, .int .i64 x7, .int .i64 x8, .int .i64 x9, .int .i64 x10], .agg #[.int .i64 y0, .int .i64 y1, .int .i64 y2, .int .i64 y3, .int .i64 y4], .int .i64 now] W (Says (.bool Q) W)) := fun W => by rw [hQ]; exact HA.out y0 y1 y2 y3 y4 W
    have HS2 : Hid (loL x0 x1 x2 x3 x4 x5 x6 x7 x8 x9 x10 now (ps.take (k + 1)) = loL x0 x1 x2 x3 x4 x5 x6 x7 x8 x9 x10 now (ps.take k) ++ if Q then [y0] else []) := by show _ = _; rw [hQ]; exact HS.out
    clear hQ HS
    have cFS_0 : wr.cell? ⟨w.heap.size, 0, none⟩ = some (.int .i64 x0) := box_cell FS.out 0 _ rfl
    have cFS_1 : wr.cell? ⟨w.heap.size, 1, none⟩ = some (.int .i64 x1) := box_cell FS.out 1 _ rfl
    have cFS_2 : wr.cell? ⟨w.heap.size, 2, none⟩ = some (.int .i64 x2) := box_cell FS.out 2 _ rfl
    have cFS_3 : wr.cell? ⟨w.heap.size, 3, none⟩ = some (.int .i64 x3) := box_cell FS.out 3 _ rfl
    have cFS_4 : wr.cell? ⟨w.heap.size, 4, none⟩ = some (.int .i64 x4) := box_cell FS.out 4 _ rfl
    have cFS_5 : wr.cell? ⟨w.heap.size, 5, none⟩ = some (.int .i64 x5) := box_cell FS.out 5 _ rfl
    have cFS_6 : wr.cell? ⟨w.heap.size, 6, none⟩ = some (.int .i64 x6) := box_cell FS.out 6 _ rfl
    have cFS_7 : wr.cell? ⟨w.heap.size, 7, none⟩ = some (.int .i64 x7) := box_cell FS.out 7 _ rfl
    have cFS_8 : wr.cell? ⟨w.heap.size, 8, none⟩ = some (.int .i64 x8) := box_cell FS.out 8 _ rfl
    have cFS_9 : wr.cell? ⟨w.heap.size, 9, none⟩ = some (.int .i64 x9) := box_cell FS.out 9 _ rfl
    have cFS_10 : wr.cell? ⟨w.heap.size, 10, none⟩ = some (.int .i64 x10) := box_cell FS.out 10 _ rfl
    have cFF_0 : wr.cell? ⟨w.heap.size + 1, 0, none⟩ = some (.slice (some ⟨b, off, none⟩) n c) := box_cell FF.out 0 _ rfl
    have cFF_1 : wr.cell? ⟨w.heap.size + 1, 1, none⟩ = some (.int .i64 nx) := box_cell FF.out 1 _ rfl
    go_wp2_with fail
    refine wp_region_held_drew (S := fun w' => w'.cell? ⟨w.heap.size, 0, none⟩ = some (.int .i64 x0) ∧ w'.cell? ⟨w.heap.size, 1, none⟩ = some (.int .i64 x1) ∧ w'.cell? ⟨w.heap.size, 2, none⟩ = some (.int .i64 x2) ∧ w'.cell? ⟨w.heap.size, 3, none⟩ = some (.int .i64 x3) ∧ w'.cell? ⟨w.heap.size, 4, none⟩ = some (.int .i64 x4) ∧ w'.cell? ⟨w.heap.size, 5, none⟩ = some (.int .i64 x5) ∧ w'.cell? ⟨w.heap.size, 6, none⟩ = some (.int .i64 x6) ∧ w'.cell? ⟨w.heap.size, 7, none⟩ = some (.int .i64 x7) ∧ w'.cell? ⟨w.heap.size, 8, none⟩ = some (.int .i64 x8) ∧ w'.cell? ⟨w.heap.size, 9, none⟩ = some (.int .i64 x9) ∧ w'.cell? ⟨w.heap.size, 10, none⟩ = some (.int .i64 x10) ∧ w'.cell? ⟨w.heap.size + 1, 0, none⟩ = some (.slice (some ⟨b, off, none⟩) n c) ∧ w'.cell? ⟨b, off + k * 5, none⟩ = some (.int .i64 y0) ∧ w'.cell? ⟨b, off + k * 5 + 1, none⟩ = some (.int .i64 y1) ∧ w'.cell? ⟨b, off + k * 5 + 2, none⟩ = some (.int .i64 y2) ∧ w'.cell? ⟨b, off + k * 5 + 3, none⟩ = some (.int .i64 y3) ∧ w'.cell? ⟨b, off + k * 5 + 4, none⟩ = some (.int .i64 y4)) (by kernel_rfl) ⟨cFS_0, cFS_1, cFS_2, cFS_3, cFS_4, cFS_5, cFS_6, cFS_7, cFS_8, cFS_9, cFS_10, cFF_0, hc0, hc1, hc2, hc3, hc4⟩ (fun hHeld => ?_)
    refine tkk (i := 0) rfl ?_
    try simp only [Act.put, pj]
    refine tkk (i := 1) rfl ?_
    try simp only [Act.put, pj]
    refine tkk (i := 2) rfl ?_
    try simp only [Act.put, pj]
    refine tkk (i := 3) rfl ?_
    try simp only [Act.put, pj]
    refine tkk (i := 4) rfl ?_
    try simp only [Act.put, pj]
    refine tkk (i := 5) rfl ?_
    try simp only [Act.put, pj]
    refine tkk (i := 6) rfl ?_
    try simp only [Act.put, pj]
    refine wpAnyH_ready (rs := [7]) (by kernel_rfl) (by simp) (AllReadyH.cons rfl (fun K hK => ?_) AllReadyH.nil)
    go_simp
    refine (HQ.out _).mono ?_
    rintro e w2 ⟨rfl, hb2⟩
    have hb3 : Below wr.heap.size wr w2 := undrew hb2
    clear hHeld
    refine hK _ _ (by exact ⟨cell_keep hb3 cFS_0, cell_keep hb3 cFS_1, cell_keep hb3 cFS_2, cell_keep hb3 cFS_3, cell_keep hb3 cFS_4, cell_keep hb3 cFS_5, cell_keep hb3 cFS_6, cell_keep hb3 cFS_7, cell_keep hb3 cFS_8, cell_keep hb3 cFS_9, cell_keep hb3 cFS_10, cell_keep hb3 cFF_0, cell_keep hb3 hc0, cell_keep hb3 hc1, cell_keep hb3 hc2, cell_keep hb3 hc3, cell_keep hb3 hc4⟩) (fun hHeld => ?_)
    clear hK K
    try simp only [Act.put, pj]
    refine wpAnyH_done (by kernel_rfl) ?_ _
    have FS2 := Lib.hid (box_below FS.out hb3)
    have FF2 := Lib.hid (box_below FF.out hb3)
    have HO2 := Lib.hid (HO.out.below hb3)
    have hbr2 := bel_then hbr hb3 hbr.size
    have hs2 : w.heap.size + 1 + 1 ≤ w2.heap.size := by have := hb3.size; omega
    have g0 := box_cell FF2.out 0 _ rfl
    have g1 := cell_keep hb3 hc0
    clear hb2 hb3 hHeld FS FF HO hbr hc0 hc1 hc2 hc3 hc4
    clear cFS_0 cFS_1 cFS_2 cFS_3 cFS_4 cFS_5 cFS_6 cFS_7 cFS_8 cFS_9 cFS_10 cFF_0 cFF_1
    cases Q
    · have HS3 : Hid (T = loL x0 x1 x2 x3 x4 x5 x6 x7 x8 x9 x10 now (ps.take (k + 1))) := by show _ = _; have h := HS2.out; simp at h; rw [h]; exact HM.out
      clear HS2
      go_wp2
      go_roundw
      case rel => exact ⟨k + 1, m, A3, c3, T, by omega, by go_num, rfl, by omega, HS3, HO2, FS2, FF2, hbr2, hs2⟩
      case measure => simp [RowKit.intOf]; omega
    · have HS3 : Hid (T ++ [y0] = loL x0 x1 x2 x3 x4 x5 x6 x7 x8 x9 x10 now (ps.take (k + 1))) := by show _ = _; have h := HS2.out; simp at h; rw [h, HM.out]
      clear HS2
      have hTm : T.length = m := HO2.out.1
      go_wp2_with (at_builtin; refine wpList_append_own _ rfl (.tmp 28) (.tmp 35) _ rfl (w.heap.size + 1 + 1) 3 i0 _ 1 8 Tryz.underlying38 hi0 hz0 hz1 hz2 rfl (by omega) (.slice A3 m c3) m (T.map (Value.int .i64)) rfl ?o1 ⟨w2.heap.size, 0, none⟩ 1 1 [.int .i64 y0] rfl rfl (Crew.news_new w2 [.int .i64 y0] 3) ?o3 ?o4 ?o5 ?o6 ?_)
      case o1 => exact (HO2.out.alloc _).2
      case o3 => first | rfl | (intro u hu; simp at hu; subst hu; rfl)
      case o4 => unfold maxLen; omega
      case o5 => omega
      case o6 => first | omega | (simp; omega)
      intro v2 w5 hown hgr _
      obtain ⟨A5, c5, rfl, hO5⟩ := OwnI.of_append (zs := T) (x := y0) hTm hown
      have HO5 := Lib.hid hO5
      have hne : ∀ q, (Value.slice A3 m c3).ownBlock = some q → w.heap.size + 1 + 1 ≤ q := fun q hq => (HO2.out.lt q hq).1
      have FS5 := Lib.hid ((hgr.block w.heap.size (by simp; omega) (fun e => by have := hne _ e.symm; omega)).trans (box_alloc FS2.out _))
      have FF5 := Lib.hid ((hgr.block (w.heap.size + 1) (by simp; omega) (fun e => by have := hne _ e.symm; omega)).trans (box_alloc FF2.out _))
      have hb5 : Below w.heap.size w w5 := (hbr2.alloc hbr2.size _).grown hgr (by simp; omega) (fun qq hq => by have := hne qq hq; omega)
      have hs5 : w.heap.size + 1 + 1 ≤ w5.heap.size := by have := hgr.size; simp at this; omega
      clear hown hgr hO5 hne g0
      go_wp2
      go_roundw
      case rel => exact ⟨k + 1, m + 1, A5, c5, T ++ [y0], by omega, by go_num, rfl, by omega, HS3, HO5, FS5, FF5, hb5, hs5⟩
      case measure => simp [RowKit.intOf]; omega
end Go.Proofs.YtklgjjmcflgjeaaGreat.Av
