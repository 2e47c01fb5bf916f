/-
  THE CONTRACTS of the model's l05Draw and DrawTakeReport over this seat's translation: some fleet, some report, some tick.
-/
import Derived.Test.YtpghccbknlokcaaDrawFleet
import Derived.Test.YtpghccbknlokcaaDrawId
import Derived.Test.YtpghccbknlokcaaLawReports
import Derived.Deep.RegionHeld3
import Derived.Deep.Cut
import Derived.Deep.DeepCutAuto
namespace Go.Proofs.Ytpghccbknlokcaa.DrawF
open Go.ChangeShapes Go.WideShapes Go.ChangeAt Go.RowKit
open Go.Proofs.Ytpghccbknlokcaa.LK Go.Proofs.Ytpghccbknlokcaa.Pods Go.Proofs.Ytpghccbknlokcaa.FleetV Go.Proofs.Ytpghccbknlokcaa.Draw Go.Proofs.Ytpghccbknlokcaa.Crew
open Go.Proofs.Ytpghccbknlokcaa.DrawTick (lit_cells drawAny_any below_grown)
open Go.Proofs.Ytpghccbknlokcaa.RepV (RepSaid)
set_option linter.unusedVariables false
set_option linter.unusedSimpArgs false

theorem size_any (A : Option Addr) (n cap : Nat) (hn : n ≤ 1048576) (w : World) :
    Calls Try.prog 105 #[.slice A n cap, .int .i64 30] w fun e w' => ∃ z : Int, e = .returned (.int .i64 z) ∧ 2 ≤ z ∧ z ≤ 30 ∧ w = w' := by
  obtain ⟨x, hx⟩ : ∃ x : Int, (n : Int) / 16 = x := ⟨_, rfl⟩
  have hx2 : 0 ≤ x ∧ x ≤ 65536 := by omega
  by_cases h : 28 < x
  · go_enter Try.func105, Try.ntmps105
    go_wp2
    go_ret
    exact ⟨30, rfl, by omega, by omega, rfl⟩
  · go_enter Try.func105, Try.ntmps105
    go_wp2
    go_ret
    exact ⟨2 + x, rfl, by omega, by omega, rfl⟩
theorem cur_set2 {w : World} {B g : Nat} {A : Option Addr} {n cap : Nat} {zs : List UInt8} (h : CurAt w B g A n cap zs) (p : Addr) (hp : p.block ≠ g) (hB : B ≤ p.block) (u : Value) : CurAt (w.setCell p u) B g A n cap zs := by
  obtain ⟨i, k, hc⟩ := h
  exact ⟨i, k, ⟨(Below.heap_setCell w p u g (fun e => hp e.symm)).trans hc.blk, hc.le, hc.small, hc.bytes.keep fun q hq => World.cell?_of_block (Below.heap_setCell w p u q.block (by omega)), hc.ge⟩⟩
theorem ownP_set {w : World} {lo : Nat} {A' : Option Addr} {m c' : Nat} {ps : PList} (h : OwnP w lo A' m c' ps) (p : Addr) (hp : p.block < lo) (u : Value) : OwnP (w.setCell p u) lo A' m c' ps :=
  h.same fun k hk => Below.heap_setCell w p u k (by have := (h.lt k hk).1; omega)
/-- A cursor and some fleet. -/
def DrawSaid (w : World) (B : Nat) (A : Option Addr) (n cap : Nat) (zs : List UInt8) (e : Ending) (w' : World) : Prop :=
  ∃ (g : Nat) (A' : Option Addr) (m c' : Nat) (ps : PList) (nx : Int), e = .returned (.tuple #[.pointer (some ⟨g, 0, none⟩), .agg #[.slice A' m c', .int .i64 nx]]) ∧ w.heap.size ≤ g ∧ CurAt w' B g A n cap zs ∧ OwnP w' (g + 1) A' m c' ps ∧ Fine 40 ps nx ∧ Below w.heap.size w w'

set_option maxRecDepth 100000 in
set_option maxHeartbeats 3200000 in
theorem draw_any (w : World) (B : Nat) (hB : B ≤ w.heap.size) (A : Option Addr) (n cap : Nat) (zs : List UInt8) (hb : IsBytes w B A n zs) (hn : n ≤ 1048576) :
    Calls Try.prog 60 #[.slice A n cap] w (DrawSaid w B A n cap zs) := by
  have HB := Lib.hid hb
  clear hb
  have KX := Lib.hid (box_new w (.cells #[.slice none 0 0, .int .i64 0] 44))
  go_enter Try.func60, Try.ntmps60
  go_wp2_with fail
  refine (new_any _ B (by simp; omega) A n cap zs (HB.out.keep fun p hp => (bel1 w (.cells #[.slice none 0 0, .int .i64 0] 44)).cell (by omega)) hn).mono ?_
  rintro e w1 ⟨g, rfl, hg, hc1, hb1⟩
  have hg1 : w.heap.size + 1 ≤ g := by simpa using hg
  have K1 := Lib.hid (box_below KX.out hb1)
  have HB1 := Lib.hid (bel_then (bel1 w (.cells #[.slice none 0 0, .int .i64 0] 44)) hb1 (by simp))
  have HC1 := Lib.hid hc1
  clear hg hc1 hb1
  go_wp2_with fail
  refine (size_any A n cap hn w1).mono ?_
  rintro e w' ⟨z, rfl, hz2, hz30, rfl⟩
  go_wp2_with fail
  refine (below_any z (by omega) _ B g A n cap zs HC1.out).mono ?_
  rintro e w2 ⟨x, hx, _, rfl, hc2, hg2⟩
  have hx30 : x ≤ 30 := by have := hx (by omega); omega
  have K2 : Hid (w2.heap[w.heap.size]? = some (.cells #[.slice none 0 0, .int .i64 0] 44)) := (hg2.block _ (box_lt K1.out) (by simp; omega)).trans K1.out
  have HB2 : Hid (Below w.heap.size w w2) := HB1.out.grown hg2 HB1.out.size (fun k e => by injection e with e; omega)
  have HC2 := Lib.hid hc2
  clear hx hc2 hg2
  go_wp2_with fail
  refine (drawFleet_any x hx30 w2 B g A n cap zs HC2.out).mono ?_
  rintro e w3 ⟨A', m, c', ps, nx, rfl, hm, hF, hO, hc3, hg3⟩
  have K3 : Hid (w3.heap[w.heap.size]? = some (.cells #[.slice none 0 0, .int .i64 0] 44)) := (hg3.block _ (box_lt K2.out) (by simp; omega)).trans K2.out
  have HB3 : Hid (Below w.heap.size w w3) := HB2.out.grown hg3 HB2.out.size (fun k e => by injection e with e; omega)
  have hgl : g < w2.heap.size := HC2.out.lt
  have HO3 : Hid (OwnP w3 (g + 1) A' m c' ps) := hO.down (by omega)
  have HC3 := Lib.hid hc3
  have HF := Lib.hid hF
  obtain ⟨b0, b1, f0, f1⟩ := box2 K3.out
  clear hF hO hc3 hg3
  go_wp2
  refine bodyPost_ret (v := .tuple #[.pointer (some ⟨g, 0, none⟩), .agg #[.slice A' m c', .int .i64 nx]]) (by simp [results, Try.results60, go_sem, b0, b1]) rfl ?_
  exact ⟨g, A', m, c', ps, nx, rfl, by omega, cur_set2 (cur_set2 HC3.out _ (by show w.heap.size ≠ g; omega) (by show B ≤ w.heap.size; exact hB) _) _ (by show w.heap.size ≠ g; omega) (by show B ≤ w.heap.size; exact hB) _, ownP_set (ownP_set HO3.out _ (by show w.heap.size < g + 1; omega) _) _ (by show w.heap.size < g + 1; omega) _, HF.out, (HB3.out.setCell (p := ⟨w.heap.size, 0, none⟩) (Nat.le_refl _) _).setCell (p := ⟨w.heap.size, 1, none⟩) (Nat.le_refl _) _⟩

/-- Amid the drawing of a report. -/
structure Rs (w W : World) (fb rb B g : Nat) (A : Option Addr) (n cap : Nat) (zs : List UInt8) (A' : Option Addr) (m c' : Nat) (ps : PList) (nx rp gen st : Int) : Prop where
  q2 : W.heap[w.heap.size]? = some (.cells #[.slice none 0 0, .int .i64 0] 44)
  q3 : W.heap[w.heap.size + 1]? = some (.cells #[.int .i64 0, .int .i64 0, .int .i64 0] 46)
  kf : W.heap[fb]? = some (.cells #[.slice A' m c', .int .i64 nx] 44)
  kr : W.heap[rb]? = some (.cells #[.int .i64 rp, .int .i64 gen, .int .i64 st] 46)
  cur : CurAt W B g A n cap zs
  own : OwnP W (g + 1) A' m c' ps
  be : Below w.heap.size w W
  gg : w.heap.size + 1 < g
  hf : w.heap.size + 1 < fb ∧ fb ≠ g
  hr : w.heap.size + 1 < rb ∧ rb ≠ g ∧ rb ≠ fb
section
variable {w W W' : World} {fb rb B g : Nat} {A : Option Addr} {n cap : Nat} {zs : List UInt8} {A' : Option Addr} {m c' : Nat} {ps : PList} {nx rp gen st : Int}
theorem Rs.step (h : Rs w W fb rb B g A n cap zs A' m c' ps nx rp gen st) (hg : W.grownBy W' (some g)) (hc : CurAt W' B g A n cap zs) : Rs w W' fb rb B g A n cap zs A' m c' ps nx rp gen st := by
  have h1 := h.gg
  have h2 := h.hf
  have h3 := h.hr
  exact ⟨(hg.block _ (box_lt h.q2) (by simp; omega)).trans h.q2, (hg.block _ (box_lt h.q3) (by simp; omega)).trans h.q3, (hg.block _ (box_lt h.kf) (by simp; omega)).trans h.kf, (hg.block _ (box_lt h.kr) (by simp; omega)).trans h.kr, hc, ownP_step h.own hg, h.be.grown hg h.be.size (fun k e => by injection e with e; omega), h.gg, h.hf, h.hr⟩
theorem Rs.alloc (h : Rs w W fb rb B g A n cap zs A' m c' ps nx rp gen st) (o : Obj) : Rs w (W.alloc o) fb rb B g A n cap zs A' m c' ps nx rp gen st :=
  ⟨box_alloc h.q2 o, box_alloc h.q3 o, box_alloc h.kf o, box_alloc h.kr o, h.cur.alloc o, h.own.below (bel1 _ _), h.be.alloc h.be.size o, h.gg, h.hf, h.hr⟩
theorem Rs.drew (h : Rs w W fb rb B g A n cap zs A' m c' ps nx rp gen st) : Rs w W.drew fb rb B g A n cap zs A' m c' ps nx rp gen st :=
  ⟨h.q2, h.q3, h.kf, h.kr, cur_drew h.cur, h.own.same fun _ _ => rfl, h.be.drew, h.gg, h.hf, h.hr⟩
theorem Rs.ne (h : Rs w W fb rb B g A n cap zs A' m c' ps nx rp gen st) : ∀ k, (Value.slice A' m c').ownBlock = some k → k ≠ rb := own_ne h.own h.kr (by decide)
theorem Rs.setGen (h : Rs w W fb rb B g A n cap zs A' m c' ps nx rp gen st) (hB : B ≤ w.heap.size) (z : Int) : Rs w (W.setCell ⟨rb, 1, none⟩ (.int .i64 z)) fb rb B g A n cap zs A' m c' ps nx rp z st := by
  have h3 := h.hr
  have h1 := h.gg
  exact ⟨box_other h.q2 _ _ (by show w.heap.size ≠ rb; omega), box_other h.q3 _ _ (by show w.heap.size + 1 ≠ rb; omega), box_other h.kf _ _ (by show fb ≠ rb; omega), box_set (i := 1) h.kr _, cur_set2 h.cur _ (by show rb ≠ g; omega) (by show B ≤ rb; omega) _, h.own.same fun k hk => Below.heap_setCell _ _ _ k (h.ne k hk), h.be.setCell (p := ⟨rb, 1, none⟩) (by show w.heap.size ≤ rb; omega) _, h.gg, h.hf, h.hr⟩
theorem Rs.setSt (h : Rs w W fb rb B g A n cap zs A' m c' ps nx rp gen st) (hB : B ≤ w.heap.size) (z : Int) : Rs w (W.setCell ⟨rb, 2, none⟩ (.int .i64 z)) fb rb B g A n cap zs A' m c' ps nx rp gen z := by
  have h3 := h.hr
  have h1 := h.gg
  exact ⟨box_other h.q2 _ _ (by show w.heap.size ≠ rb; omega), box_other h.q3 _ _ (by show w.heap.size + 1 ≠ rb; omega), box_other h.kf _ _ (by show fb ≠ rb; omega), box_set (i := 2) h.kr _, cur_set2 h.cur _ (by show rb ≠ g; omega) (by show B ≤ rb; omega) _, h.own.same fun k hk => Below.heap_setCell _ _ _ k (h.ne k hk), h.be.setCell (p := ⟨rb, 2, none⟩) (by show w.heap.size ≤ rb; omega) _, h.gg, h.hf, h.hr⟩
end

theorem cells_rs {w W : World} {fb rb B g : Nat} {A : Option Addr} {n cap : Nat} {zs : List UInt8} {A' : Option Addr} {m c' : Nat} {ps : PList} {nx rp gen st : Int} (h : Rs w W fb rb B g A n cap zs A' m c' ps nx rp gen st) :
    W.cell? ⟨fb, 0, none⟩ = some (.slice A' m c') ∧ W.cell? ⟨fb, 1, none⟩ = some (.int .i64 nx) ∧ W.cell? ⟨rb, 0, none⟩ = some (.int .i64 rp) ∧ W.cell? ⟨rb, 1, none⟩ = some (.int .i64 gen) ∧ W.cell? ⟨rb, 2, none⟩ = some (.int .i64 st) :=
  ⟨box_cell h.kf 0 _ rfl, box_cell h.kf 1 _ rfl, box_cell h.kr 0 _ rfl, box_cell h.kr 1 _ rfl, box_cell h.kr 2 _ rfl⟩
theorem cells_rs2 {w W : World} {fb rb B g : Nat} {A : Option Addr} {n cap : Nat} {zs : List UInt8} {A' : Option Addr} {m c' : Nat} {ps : PList} {nx rp gen st : Int} (h : Rs w W fb rb B g A n cap zs A' m c' ps nx rp gen st) (u0 u1 : Value) :
    ((W.setCell ⟨w.heap.size, 0, none⟩ u0).setCell ⟨w.heap.size, 1, none⟩ u1).cell? ⟨fb, 0, none⟩ = some (.slice A' m c') ∧ ((W.setCell ⟨w.heap.size, 0, none⟩ u0).setCell ⟨w.heap.size, 1, none⟩ u1).cell? ⟨fb, 1, none⟩ = some (.int .i64 nx) ∧ ((W.setCell ⟨w.heap.size, 0, none⟩ u0).setCell ⟨w.heap.size, 1, none⟩ u1).cell? ⟨rb, 0, none⟩ = some (.int .i64 rp) ∧ ((W.setCell ⟨w.heap.size, 0, none⟩ u0).setCell ⟨w.heap.size, 1, none⟩ u1).cell? ⟨rb, 1, none⟩ = some (.int .i64 gen) ∧ ((W.setCell ⟨w.heap.size, 0, none⟩ u0).setCell ⟨w.heap.size, 1, none⟩ u1).cell? ⟨rb, 2, none⟩ = some (.int .i64 st) := by
  have h1 : fb ≠ w.heap.size := by have := h.hf; omega
  have h2 : rb ≠ w.heap.size := by have := h.hr; omega
  obtain ⟨z0, z1, z2, z3, z4⟩ := cells_rs h
  exact ⟨far1 h1 (far1 h1 z0), far1 h1 (far1 h1 z1), far1 h2 (far1 h2 z2), far1 h2 (far1 h2 z3), far1 h2 (far1 h2 z4)⟩
theorem cells_rs5 {w W : World} {fb rb B g : Nat} {A : Option Addr} {n cap : Nat} {zs : List UInt8} {A' : Option Addr} {m c' : Nat} {ps : PList} {nx rp gen st : Int} (h : Rs w W fb rb B g A n cap zs A' m c' ps nx rp gen st) (u0 u1 u2 u3 u4 : Value) {X : World}
    (hX : X = ((((W.setCell ⟨w.heap.size, 0, none⟩ u0).setCell ⟨w.heap.size, 1, none⟩ u1).setCell ⟨w.heap.size + 1, 0, none⟩ u2).setCell ⟨w.heap.size + 1, 1, none⟩ u3).setCell ⟨w.heap.size + 1, 2, none⟩ u4) :
    X.cell? ⟨fb, 0, none⟩ = some (.slice A' m c') ∧ X.cell? ⟨fb, 1, none⟩ = some (.int .i64 nx) ∧ X.cell? ⟨rb, 0, none⟩ = some (.int .i64 rp) ∧ X.cell? ⟨rb, 1, none⟩ = some (.int .i64 gen) ∧ X.cell? ⟨rb, 2, none⟩ = some (.int .i64 st) := by
  have h1 : fb ≠ w.heap.size := by have := h.hf; omega
  have h2 : rb ≠ w.heap.size := by have := h.hr; omega
  have h3 : fb ≠ w.heap.size + 1 := by have := h.hf; omega
  have h4 : rb ≠ w.heap.size + 1 := by have := h.hr; omega
  obtain ⟨z0, z1, z2, z3, z4⟩ := cells_rs2 h u0 u1
  rw [hX]
  exact ⟨far1 h3 (far1 h3 (far1 h3 z0)), far1 h3 (far1 h3 (far1 h3 z1)), far1 h4 (far1 h4 (far1 h4 z2)), far1 h4 (far1 h4 (far1 h4 z3)), far1 h4 (far1 h4 (far1 h4 z4))⟩
theorem set5T {S : Nat → Prop} {w : World} {p1 p2 p3 p4 p5 : Addr} {u1 u2 u3 u4 u5 : Value} (h1 : S p1.block) (h2 : S p2.block) (h3 : S p3.block) (h4 : S p4.block) (h5 : S p5.block) :
    Turned S w (((((w.setCell p1 u1).setCell p2 u2).setCell p3 u3).setCell p4 u4).setCell p5 u5) :=
  ((((Turned.set w p1 u1 h1).trans (Turned.set _ p2 u2 h2)).trans (Turned.set _ p3 u3 h3)).trans (Turned.set _ p4 u4 h4)).trans (Turned.set _ p5 u5 h5)
theorem rep_end {w W X : World} {fb rb B g : Nat} {A : Option Addr} {n cap : Nat} {zs : List UInt8} {A' : Option Addr} {m c' : Nat} {ps : PList} {nx rp gen st : Int} (h : Rs w W fb rb B g A n cap zs A' m c' ps nx rp gen st) (hm : m ≤ 40) (hwf : (Lit.int .i64 rp).wf = true) (z : Int) (ht : Turned (fun k => k = w.heap.size ∨ k = w.heap.size + 1) W X) :
    RepSaid w (.returned (.tuple #[.agg #[.slice A' m c', .int .i64 nx], .agg #[.int .i64 rp, .int .i64 gen, .int .i64 st], .int .i64 z])) X := by
  have hg := h.gg
  refine ⟨A', m, c', ps, nx, rp, gen, st, z, rfl, hm, hwf, (h.own.down (by omega)).same fun k hk => ?_, Turned.low h.be ht (fun k hk => by omega) h.be.size⟩
  have hk2 := h.own.lt k hk
  exact ht.block k hk2.2 (by rintro (e | e) <;> omega)
end Go.Proofs.Ytpghccbknlokcaa.DrawF
