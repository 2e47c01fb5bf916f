import Derived.Laws.Rows
import Derived.Test.YtklgjjmcflgjeaaGreatR02
import Derived.Test.YtklgjjmcflgjeaaGreatR03
set_option linter.unusedVariables false
set_option linter.unusedSimpArgs false
namespace Go.Proofs.YtklgjjmcflgjeaaGreat.CountI
open Go.ChangeShapes Go.WideShapes Go.ChangeAt Go.RowKit Go.Shelf
open LK Pods Sp Hl EachP
attribute [local go_sem] Oper.semAt_some
def cntF (f : Pd → Bool) (ps : PList) : Nat := (ps.filter f).length
theorem cnt_snoc (f : Pd → Bool) (ps : PList) (p : Pd) : cntF f (ps ++ [p]) = cntF f ps + if f p then 1 else 0 := by
  unfold cntF
  rw [List.filter_append, List.length_append]
  by_cases h : f p = true
  · rw [if_pos h, List.filter_cons_of_pos h]; rfl
  · rw [if_neg h, List.filter_cons_of_neg h]; rfl
theorem cnt_le (f : Pd → Bool) (ps : PList) : cntF f ps ≤ ps.length := List.length_filter_le _ _
def selB (oth : Bool) (rev : Int) (p : Pd) : Bool := !((p.2.1 == rev) == oth)
def liveB (oth : Bool) (rev : Int) (p : Pd) : Bool := selB oth rev p && !(p.2.2.1 == 4)
def goodB (x0 x1 x2 x3 x4 x5 x6 x7 x8 x9 x10 : Int) (oth : Bool) (rev now : Int) (p : Pd) : Bool := liveB oth rev p && availB x0 x1 x2 x3 x4 x5 x6 x7 x8 x9 x10 p.2.2.1 p.2.2.2.2 now
theorem own_box {A B : World} {row : Option Nat} {b : Nat} {cs : Array Value} {t : TypeId} (h : A.heap[b]? = some (.cells cs t (0, 0))) (hg : A.grownBy B row) (hr : ∀ r, row = some r → ∃ o : Obj, A.heap[r]? = some o ∧ o.isCells = false) : B.heap[b]? = some (.cells cs t (0, 0)) :=
  (grownBy_keeps_cells hg hr h rfl).trans h
theorem keeps_of {W W' : World} {Bp : Nat} {cs : Array Value} {t : TypeId} (hp : W.heap[Bp]? = some (.cells cs t (0, 0))) (h : Turned (fun k => k = Bp) W W') : KeepsOthers W W' :=
  ⟨h.size, fun k o hk hc => (h.block k (Array.getElem?_eq_some_iff.1 hk).1 (fun e => by subst e; rw [hp] at hk; cases hk; simp [Obj.isCells] at hc)).trans hk⟩
theorem set2B {W : World} {b : Nat} {t : TypeId} {z0 z1 : Value} (h : W.heap[b]? = some (.cells #[z0, z1] t (0, 0))) (u0 u1 : Value) : ((W.setCell ⟨b, 0, none⟩ u0).setCell ⟨b, 1, none⟩ u1).heap[b]? = some (.cells #[u0, u1] t (0, 0)) := by
  have h0 := box_set (i := 0) h u0
  have h1 := box_set (i := 1) h0 u1
  rw [h1]; simp
theorem set2T {S : Nat → Prop} {W : World} {b : Nat} (h : S b) (u0 u1 : Value) : Turned S W ((W.setCell ⟨b, 0, none⟩ u0).setCell ⟨b, 1, none⟩ u1) := (Turned.set W ⟨b, 0, none⟩ u0 h).trans (Turned.set _ ⟨b, 1, none⟩ u1 h)
theorem set0B {W : World} {b : Nat} {t : TypeId} {z0 z1 : Value} (h : W.heap[b]? = some (.cells #[z0, z1] t (0, 0))) (u0 : Value) : (W.setCell ⟨b, 0, none⟩ u0).heap[b]? = some (.cells #[u0, z1] t (0, 0)) := by
  have h0 := box_set (i := 0) h u0
  rw [h0]; simp
theorem set1B {W : World} {b : Nat} {t : TypeId} {z0 z1 : Value} (h : W.heap[b]? = some (.cells #[z0, z1] t (0, 0))) (u1 : Value) : (W.setCell ⟨b, 1, none⟩ u1).heap[b]? = some (.cells #[z0, u1] t (0, 0)) := by
  have h0 := box_set (i := 1) h u1
  rw [h0]; simp
set_option maxHeartbeats 1600000 in
theorem wantOf_any (y0 y1 y2 y3 y4 rev : Int) (Bw : Nat) (w : World) (hw : w.heap[Bw]? = some (.cells #[.int .i64 rev] 3 (0, 0))) : Calls Tryz.prog 291 #[.agg #[.int .i64 y0, .int .i64 y1, .int .i64 y2, .int .i64 y3, .int .i64 y4], .pointer (some ⟨Bw, 0, none⟩)] w (Says (.bool ((y1 == rev))) w) := by
  have hc : (w.alloc (.cells #[.int .i64 y0, .int .i64 y1, .int .i64 y2, .int .i64 y3, .int .i64 y4] 85)).cell? ⟨Bw, 0, none⟩ = some (.int .i64 rev) := box_cell (box_alloc hw _) 0 _ rfl
  have HB := Lib.hid (bel1 w (.cells #[.int .i64 y0, .int .i64 y1, .int .i64 y2, .int .i64 y3, .int .i64 y4] 85))
  clear hw
  go_enter Tryz.func291, Tryz.ntmps291
  cases hx : (y1 == rev)
  all_goals
    go_wp2
    go_ret
    exact ⟨by first | rfl | (simp [hx, bne]; done) | simp [hx], HB.out⟩
set_option maxRecDepth 100000 in
set_option maxHeartbeats 12800000 in
theorem countOf_at (x0 x1 x2 x3 x4 x5 x6 x7 x8 x9 x10 rev now : Int) (A : Option Addr) (n c : Nat) (nx : Int) (ps : PList) (B Bw : Nat) (w : World) (hr : IsPods w B A n ps) (hB : B ≤ w.heap.size) (hn : n ≤ 1048576) (hw : w.heap[Bw]? = some (.cells #[.int .i64 rev] 3 (0, 0))) :
    Calls Tryz.prog 290 #[.agg #[.int .i64 x0, .int .i64 x1, .int .i64 x2, .int .i64 x3, .int .i64 x4, .int .i64 x5, .int .i64 x6, .int .i64 x7, .int .i64 x8, .int .i64 x9, .int .i64 x10], .agg #[.slice A n c, .int .i64 nx], .int .i64 now, .func (.func 291) #[] #[.pointer (some ⟨Bw, 0, none⟩)]] w (Says (.agg #[.int .i64 (cntF (liveB false rev) ps), .int .i64 (cntF (goodB x0 x1 x2 x3 x4 x5 x6 x7 x8 x9 x10 false rev now) ps)]) w) := by
  have HR := Lib.hid hr
  have HW := Lib.hid hw
  clear hr hw
  obtain ⟨V0, hV0⟩ : ∃ V, V = (((((w.alloc (.cells #[.int .i64 x0, .int .i64 x1, .int .i64 x2, .int .i64 x3, .int .i64 x4, .int .i64 x5, .int .i64 x6, .int .i64 x7, .int .i64 x8, .int .i64 x9, .int .i64 x10] 25)).alloc (.cells #[.slice A n c, .int .i64 nx] 34)).alloc (.cells #[.int .i64 now] 3)).alloc (.cells #[.func (.func 291) #[] #[.pointer (some ⟨Bw, 0, none⟩)]] 220)).alloc (.cells #[.int .i64 0, .int .i64 0] 231)) := ⟨_, rfl⟩
  have hs0 : V0.heap.size = w.heap.size + 1 + 1 + 1 + 1 + 1 := by rw [hV0]; simp only [World.size_alloc]
  have hb0 : Below w.heap.size w V0 := by rw [hV0]; exact ((bel3 _ _ _ _).alloc (by simp; omega) _).alloc (by simp; omega) _
  have K0 : Hid (V0.heap[w.heap.size]? = some (.cells #[.int .i64 x0, .int .i64 x1, .int .i64 x2, .int .i64 x3, .int .i64 x4, .int .i64 x5, .int .i64 x6, .int .i64 x7, .int .i64 x8, .int .i64 x9, .int .i64 x10] 25)) := by have h := box_alloc (box_alloc (box_alloc (box_alloc (box_new w (.cells #[.int .i64 x0, .int .i64 x1, .int .i64 x2, .int .i64 x3, .int .i64 x4, .int .i64 x5, .int .i64 x6, .int .i64 x7, .int .i64 x8, .int .i64 x9, .int .i64 x10] 25)) (.cells #[.slice A n c, .int .i64 nx] 34)) (.cells #[.int .i64 now] 3)) (.cells #[.func (.func 291) #[] #[.pointer (some ⟨Bw, 0, none⟩)]] 220)) (.cells #[.int .i64 0, .int .i64 0] 231); (try simp only [World.size_alloc] at h); rw [hV0]; exact h
  have K1 : Hid (V0.heap[w.heap.size + 1]? = some (.cells #[.slice A n c, .int .i64 nx] 34)) := by have h := box_alloc (box_alloc (box_alloc (box_new (w.alloc (.cells #[.int .i64 x0, .int .i64 x1, .int .i64 x2, .int .i64 x3, .int .i64 x4, .int .i64 x5, .int .i64 x6, .int .i64 x7, .int .i64 x8, .int .i64 x9, .int .i64 x10] 25)) (.cells #[.slice A n c, .int .i64 nx] 34)) (.cells #[.int .i64 now] 3)) (.cells #[.func (.func 291) #[] #[.pointer (some ⟨Bw, 0, none⟩)]] 220)) (.cells #[.int .i64 0, .int .i64 0] 231); (try simp only [World.size_alloc] at h); rw [hV0]; exact h
  have K2 : Hid (V0.heap[w.heap.size + 1 + 1]? = some (.cells #[.int .i64 now] 3)) := by have h := box_alloc (box_alloc (box_new ((w.alloc (.cells #[.int .i64 x0, .int .i64 x1, .int .i64 x2, .int .i64 x3, .int .i64 x4, .int .i64 x5, .int .i64 x6, .int .i64 x7, .int .i64 x8, .int .i64 x9, .int .i64 x10] 25)).alloc (.cells #[.slice A n c, .int .i64 nx] 34)) (.cells #[.int .i64 now] 3)) (.cells #[.func (.func 291) #[] #[.pointer (some ⟨Bw, 0, none⟩)]] 220)) (.cells #[.int .i64 0, .int .i64 0] 231); (try simp only [World.size_alloc] at h); rw [hV0]; exact h
  have K3 : Hid (V0.heap[w.heap.size + 1 + 1 + 1]? = some (.cells #[.func (.func 291) #[] #[.pointer (some ⟨Bw, 0, none⟩)]] 220)) := by have h := box_alloc (box_new (((w.alloc (.cells #[.int .i64 x0, .int .i64 x1, .int .i64 x2, .int .i64 x3, .int .i64 x4, .int .i64 x5, .int .i64 x6, .int .i64 x7, .int .i64 x8, .int .i64 x9, .int .i64 x10] 25)).alloc (.cells #[.slice A n c, .int .i64 nx] 34)).alloc (.cells #[.int .i64 now] 3)) (.cells #[.func (.func 291) #[] #[.pointer (some ⟨Bw, 0, none⟩)]] 220)) (.cells #[.int .i64 0, .int .i64 0] 231); (try simp only [World.size_alloc] at h); rw [hV0]; exact h
  have K4 : Hid (V0.heap[w.heap.size + 1 + 1 + 1 + 1]? = some (.cells #[.int .i64 0, .int .i64 0] 231)) := by have h := box_new ((((w.alloc (.cells #[.int .i64 x0, .int .i64 x1, .int .i64 x2, .int .i64 x3, .int .i64 x4, .int .i64 x5, .int .i64 x6, .int .i64 x7, .int .i64 x8, .int .i64 x9, .int .i64 x10] 25)).alloc (.cells #[.slice A n c, .int .i64 nx] 34)).alloc (.cells #[.int .i64 now] 3)).alloc (.cells #[.func (.func 291) #[] #[.pointer (some ⟨Bw, 0, none⟩)]] 220)) (.cells #[.int .i64 0, .int .i64 0] 231); (try simp only [World.size_alloc] at h); rw [hV0]; exact h
  refine (callsIn_wide (n := 8)).1 ?_
  refine callsIn_of_wp_marks Tryz.func290 rfl trivial ?_ rfl
  simp only [Tryz.ntmps290, List.size_toArray, List.length_cons, List.length_nil, Nat.reduceAdd, Nat.reduceSub, Array.replicate_succ, Array.replicate_zero, List.push_toArray, List.append_toArray, List.nil_append, List.cons_append]
  refine wpIn_wide.2 ?_
  go_upto_region 1 with fail
  rw [← hV0]
  clear hV0
  have HS0 := Lib.hid hs0
  have HB0 := Lib.hid hb0
  clear hs0 hb0
  have fc : (V0.alloc (.cells #[.int .i64 0, .int .i64 0] 231)).cell? ⟨w.heap.size + 1, 0, none⟩ = some (.slice A n c) := box_cell (box_alloc K1.out _) 0 _ rfl
  go_wp2_with fail
  rw [HS0.out]
  refine (callsIn_wide.1 (eachP_in Fence.wide 1 trivial rfl _ _ _ _)).mono ?_
  rintro e w3 ⟨rfl, rfl⟩
  clear fc
  go_wp2
  simp only [World.size_alloc, HS0.out]
  obtain ⟨W0, hW0⟩ : ∃ V, V = (V0.alloc (.cells #[.int .i64 0, .int .i64 0] 231)).alloc (.cells #[.slice A n c] 32) := ⟨_, rfl⟩
  have hsz : W0.heap.size = w.heap.size + 1 + 1 + 1 + 1 + 1 + 1 + 1 := by rw [hW0]; simp only [World.size_alloc, HS0.out]
  have L0 : Hid (W0.heap[w.heap.size]? = some (.cells #[.int .i64 x0, .int .i64 x1, .int .i64 x2, .int .i64 x3, .int .i64 x4, .int .i64 x5, .int .i64 x6, .int .i64 x7, .int .i64 x8, .int .i64 x9, .int .i64 x10] 25)) := by show _ = _; rw [hW0]; exact box_alloc (box_alloc K0.out _) _
  have L2 : Hid (W0.heap[w.heap.size + 1 + 1]? = some (.cells #[.int .i64 now] 3)) := by show _ = _; rw [hW0]; exact box_alloc (box_alloc K2.out _) _
  have L3 : Hid (W0.heap[w.heap.size + 1 + 1 + 1]? = some (.cells #[.func (.func 291) #[] #[.pointer (some ⟨Bw, 0, none⟩)]] 220)) := by show _ = _; rw [hW0]; exact box_alloc (box_alloc K3.out _) _
  have L4 : Hid (W0.heap[w.heap.size + 1 + 1 + 1 + 1]? = some (.cells #[.int .i64 0, .int .i64 0] 231)) := by show _ = _; rw [hW0]; exact box_alloc (box_alloc K4.out _) _
  have L5 : Hid (W0.heap[w.heap.size + 1 + 1 + 1 + 1 + 1]? = some (.cells #[.int .i64 0, .int .i64 0] 231)) := by have h := box_alloc (box_new V0 (.cells #[.int .i64 0, .int .i64 0] 231)) (.cells #[.slice A n c] 32); rw [HS0.out] at h; show _ = _; rw [hW0]; exact h
  have kb : W0.cell? ⟨w.heap.size + 1 + 1 + 1 + 1 + 1 + 1, 0, none⟩ = some (.slice A n c) := by have h := box_new (V0.alloc (.cells #[.int .i64 0, .int .i64 0] 231)) (.cells #[.slice A n c] 32); simp only [World.size_alloc, HS0.out] at h; rw [hW0]; exact box_cell h 0 _ rfl
  have HBW : Hid (Below w.heap.size w W0) := by show Below _ _ _; rw [hW0]; exact (HB0.out.alloc HB0.out.size _).alloc (by simp; have := HB0.out.size; omega) _
  rw [← hW0]
  clear hW0 HB0 K0 K1 K2 K3 K4 HS0
  have HRW := Lib.hid ((HR.out.more hB).below HBW.out (Nat.le_refl _))
  refine (wpIn_wide (n := 8)).1 ?_
  refine wpIn_rangeFunc_ownH rfl (by omega) (gf := 314) (lb := #[.pointer (some ⟨w.heap.size + 1 + 1 + 1 + 1 + 1 + 1, 0, none⟩)]) rfl trivial (enters_of Tryz.func314 (by kernel_rfl) rfl)
    (eachP_stops Fence.wide _ trivial rfl (by omega) (w.heap.size + 1 + 1 + 1 + 1 + 1 + 1) w.heap.size A n c ps W0 hn (by omega) (by omega) kb HRW.out) belowK_t (belowK_b (by omega)) (Below.refl _ _) (fun _ => rfl)
    (fun pre W => (W.heap[w.heap.size]? = some (.cells #[.int .i64 x0, .int .i64 x1, .int .i64 x2, .int .i64 x3, .int .i64 x4, .int .i64 x5, .int .i64 x6, .int .i64 x7, .int .i64 x8, .int .i64 x9, .int .i64 x10] 25 (0, 0)) ∧ W.heap[w.heap.size + 1 + 1]? = some (.cells #[.int .i64 now] 3 (0, 0)) ∧ W.heap[w.heap.size + 1 + 1 + 1]? = some (.cells #[.func (.func 291) #[] #[.pointer (some ⟨Bw, 0, none⟩)]] 220 (0, 0)) ∧ W.heap[w.heap.size + 1 + 1 + 1 + 1]? = some (.cells #[.int .i64 0, .int .i64 0] 231 (0, 0)) ∧ W.heap[w.heap.size + 1 + 1 + 1 + 1 + 1]? = some (.cells #[.int .i64 (cntF (liveB false rev) pre), .int .i64 (cntF (goodB x0 x1 x2 x3 x4 x5 x6 x7 x8 x9 x10 false rev now) pre)] 231 (0, 0)) ∧ w.heap.size + 1 + 1 + 1 + 1 + 1 + 1 + 1 ≤ W.heap.size) ∧ Below w.heap.size w W)
    (fun _ _ _ => False)
    (OwnFrom.and (Own.from (fun s A B row hs hg hr => ⟨own_box hs.1 hg hr, own_box hs.2.1 hg hr, own_box hs.2.2.1 hg hr, own_box hs.2.2.2.1 hg hr, own_box hs.2.2.2.2.1 hg hr, Nat.le_trans hs.2.2.2.2.2 hg.size⟩) _) (ownFrom_below (Nat.le_refl _) (by omega)))
    (fun _ _ _ _ _ hs _ _ => hs)
    ⟨⟨L0.out, L2.out, L3.out, L4.out, L5.out, by omega⟩, HBW.out⟩
    (fun x a' W => ∃ Bx, w.heap.size + 1 + 1 + 1 + 1 + 1 + 1 < Bx ∧ W.heap[Bx]? = some (.cells #[.int .i64 x.1, .int .i64 x.2.1, .int .i64 x.2.2.1, .int .i64 x.2.2.2.1, .int .i64 x.2.2.2.2] 85 (0, 0)) ∧ a' = { tmps := #[.agg #[.int .i64 x0, .int .i64 x1, .int .i64 x2, .int .i64 x3, .int .i64 x4, .int .i64 x5, .int .i64 x6, .int .i64 x7, .int .i64 x8, .int .i64 x9, .int .i64 x10], .agg #[.slice A n c, .int .i64 nx], .int .i64 now, .func (.func 291) #[] #[.pointer (some ⟨Bw, 0, none⟩)], .pointer (some ⟨w.heap.size, 0, none⟩), .pointer (some ⟨w.heap.size + 1, 0, none⟩), .pointer (some ⟨w.heap.size + 1 + 1, 0, none⟩), .pointer (some ⟨w.heap.size + 1 + 1 + 1, 0, none⟩), .pointer (some ⟨w.heap.size + 1 + 1 + 1 + 1, 0, none⟩), .pointer (some ⟨w.heap.size + 1 + 1 + 1 + 1 + 1, 0, none⟩), .pointer (some ⟨Bx, 0, none⟩), .agg #[.int .i64 0, .int .i64 0], .pointer (some ⟨w.heap.size + 1, 0, none⟩), .slice A n c, .func (.func 314) #[] #[.pointer (some ⟨w.heap.size + 1 + 1 + 1 + 1 + 1 + 1, 0, none⟩)], podA x, undef, undef, undef, undef, undef, undef, undef, undef, undef, undef, undef, undef, undef, undef, undef, undef, undef, undef, undef, undef, undef, undef], defers := [] })
    (fun x a' s A B row hs hg hr => by obtain ⟨Bx, h1, h2, h3⟩ := hs; exact ⟨Bx, h1, own_box h2 hg (fun r e => (hr r e).2), h3⟩) ?assign ?body ?done ?stop
  case assign =>
    rintro l pre x W K ⟨⟨h1, h2, h3, h4, h5, h6⟩, hB⟩ hK
    have HK := Lib.hid hK
    clear hK
    obtain ⟨y0, y1, y2, y3, y4⟩ := x
    have HB' := Lib.hid hB
    clear hB
    gi_wp2
    exact HK.out _ _ ((KeepsOthers.alloc _ _).from _) ((Below.refl _ W).alloc HB'.out.size _) ⟨⟨box_alloc h1 _, box_alloc h2 _, box_alloc h3 _, box_alloc h4 _, box_alloc h5 _, by simp; omega⟩, HB'.out.alloc HB'.out.size _⟩ ⟨W.heap.size, by omega, box_new W _, rfl⟩
  case body =>
    rintro l pre x a' W hl hrr ⟨⟨h1, h2, h3, h4, h5, h6⟩, hB⟩ ⟨Bx, hBx, bX, rfl⟩ hlt
    obtain ⟨y0, y1, y2, y3, y4⟩ := x
    have hm1 : cntF (liveB false rev) pre ≤ 1048576 := Nat.le_trans (cnt_le _ _) (by omega)
    have hm2 : cntF (goodB x0 x1 x2 x3 x4 x5 x6 x7 x8 x9 x10 false rev now) pre ≤ 1048576 := Nat.le_trans (cnt_le _ _) (by omega)
    have hs1 := cnt_snoc (liveB false rev) pre (y0, y1, y2, y3, y4)
    have hs2 := cnt_snoc (goodB x0 x1 x2 x3 x4 x5 x6 x7 x8 x9 x10 false rev now) pre (y0, y1, y2, y3, y4)
    obtain ⟨m1, hM1⟩ : ∃ m, m = cntF (liveB false rev) pre := ⟨_, rfl⟩
    obtain ⟨m2, hM2⟩ : ∃ m, m = cntF (goodB x0 x1 x2 x3 x4 x5 x6 x7 x8 x9 x10 false rev now) pre := ⟨_, rfl⟩
    rw [← hM1] at h5 hm1 hs1
    rw [← hM2] at h5 hm2 hs2
    clear hM1 hM2 hrr hlt
    have H1 := Lib.hid h1
    have H2 := Lib.hid h2
    have H3 := Lib.hid h3
    have H4 := Lib.hid h4
    have H5 := Lib.hid h5
    have H6 := Lib.hid h6
    have HBx := Lib.hid hB
    have BX := Lib.hid bX
    have HS1 := Lib.hid hs1
    have HS2 := Lib.hid hs2
    have HL := Lib.hid hl
    clear h1 h2 h3 h4 h5 h6 hB bX hs1 hs2 hl
    have b0 := box_cell BX.out 0 _ rfl
    have b1 := box_cell BX.out 1 _ rfl
    have b2 := box_cell BX.out 2 _ rfl
    have b3 := box_cell BX.out 3 _ rfl
    have b4 := box_cell BX.out 4 _ rfl
    have v0 := box_cell H3.out 0 _ rfl
    cases hq : (y2 == 4)
    case true =>
      have hz1 : liveB false rev (y0, y1, y2, y3, y4) = false := by simp [liveB, hq]
      have hz2 : goodB x0 x1 x2 x3 x4 x5 x6 x7 x8 x9 x10 false rev now (y0, y1, y2, y3, y4) = false := by simp [goodB, hz1]
      have HE1 : Hid (cntF (liveB false rev) (pre ++ [(y0, y1, y2, y3, y4)]) = m1) := by show _ = _; rw [HS1.out, hz1]; rfl
      have HE2 : Hid (cntF (goodB x0 x1 x2 x3 x4 x5 x6 x7 x8 x9 x10 false rev now) (pre ++ [(y0, y1, y2, y3, y4)]) = m2) := by show _ = _; rw [HS2.out, hz2]; rfl
      clear hz1 hz2
      gi_wp2
      refine ⟨fun _ h => (by cases h), ?_⟩
      gi_wp2
      exact ⟨(KeepsOthers.refl _).from _, Below.refl _ _, ⟨H1.out, H2.out, H3.out, H4.out, by rw [HE1.out, HE2.out]; exact H5.out, H6.out⟩, HBx.out⟩
    gi_wp2_with fail
    refine ⟨trivial, ?_⟩
    refine (CallsIn.inRound l (callsIn_wide.2 (wantOf_any y0 y1 y2 y3 y4 rev Bw W (box_below HW.out (HBx.out))))).mono ?_
    rintro e W2 ⟨rfl, hb2⟩
    have J1 := Lib.hid (box_below H1.out hb2)
    have J2 := Lib.hid (box_below H2.out hb2)
    have J3 := Lib.hid (box_below H3.out hb2)
    have J4 := Lib.hid (box_below H4.out hb2)
    have J5 := Lib.hid (box_below H5.out hb2)
    have JX := Lib.hid (box_below BX.out hb2)
    have J6 : Hid (w.heap.size + 1 + 1 + 1 + 1 + 1 + 1 + 1 ≤ W2.heap.size) := Nat.le_trans H6.out hb2.size
    have HB2 := Lib.hid (bel_then HBx.out hb2 HBx.out.size)
    have KP2 := Lib.hid hb2
    clear hb2 v0 b0 b1 b2 b3 b4
    cases hx : (y1 == rev)
    case false =>
      have hz1 : liveB false rev (y0, y1, y2, y3, y4) = false := by simp [liveB, selB, hx]
      have hz2 : goodB x0 x1 x2 x3 x4 x5 x6 x7 x8 x9 x10 false rev now (y0, y1, y2, y3, y4) = false := by simp [goodB, hz1]
      have HE1 : Hid (cntF (liveB false rev) (pre ++ [(y0, y1, y2, y3, y4)]) = m1) := by show _ = _; rw [HS1.out, hz1]; rfl
      have HE2 : Hid (cntF (goodB x0 x1 x2 x3 x4 x5 x6 x7 x8 x9 x10 false rev now) (pre ++ [(y0, y1, y2, y3, y4)]) = m2) := by show _ = _; rw [HS2.out, hz2]; rfl
      clear hz1 hz2
      gi_wp2
      exact ⟨(keeps_of (Bp := w.heap.size + 1 + 1 + 1 + 1 + 1) H5.out (Turned.of_below KP2.out)).from _, KP2.out.mono HBx.out.size, ⟨J1.out, J2.out, J3.out, J4.out, by rw [HE1.out, HE2.out]; exact J5.out, J6.out⟩, HB2.out⟩
    case true =>
      have hz1 : liveB false rev (y0, y1, y2, y3, y4) = true := by simp [liveB, selB, hx, hq]
      have HE1 : Hid (((cntF (liveB false rev) (pre ++ [(y0, y1, y2, y3, y4)]) : Nat) : Int) = (m1 : Int) + 1) := by show _ = _; rw [HS1.out, hz1]; simp
      obtain ⟨Q, hQ⟩ : ∃ Q, Q = availB x0 x1 x2 x3 x4 x5 x6 x7 x8 x9 x10 y2 y4 now := ⟨_, rfl⟩
      have hz2 : goodB x0 x1 x2 x3 x4 x5 x6 x7 x8 x9 x10 false rev now (y0, y1, y2, y3, y4) = Q := by simp [goodB, hz1, hQ]
      have HE2 : Hid (cntF (goodB x0 x1 x2 x3 x4 x5 x6 x7 x8 x9 x10 false rev now) (pre ++ [(y0, y1, y2, y3, y4)]) = m2 + if Q then 1 else 0) := by show _ = _; rw [HS2.out, hz2]
      have HA : Hid (∀ W : World, Calls Tryz.prog 148 #[.agg #[.int .i64 x0, .int .i64 x1, .int .i64 x2, .int .i64 x3, .int .i64 x4, .int .i64 x5, .int .i64 x6, .int .i64 x7, .int .i64 x8, .int .i64 x9, .int .i64 x10], .agg #[.int .i64 y0, .int .i64 y1, .int .i64 y2, .int .i64 y3, .int .i64 y4], .int .i64 now] W (Says (.bool Q) W)) := fun W => by rw [hQ]; exact isAvailable_any x0 x1 x2 x3 x4 x5 x6 x7 x8 x9 x10 y0 y1 y2 y3 y4 now W
      clear hz1 hz2 hQ
      have k0 := box_cell J5.out 0 _ rfl
      have g0 := box_frozen J5.out 0
      have T3 : Turned (fun k => k = w.heap.size + 1 + 1 + 1 + 1 + 1) W2 (W2.setCell ⟨w.heap.size + 1 + 1 + 1 + 1 + 1, 0, none⟩ (.int .i64 ((m1 : Int) + 1))) := Turned.set _ _ _ rfl
      have hlx : Bx < W2.heap.size := box_lt JX.out
      have M1 := Lib.hid (box_turned J1.out T3 (by omega))
      have M2 := Lib.hid (box_turned J2.out T3 (by omega))
      have M3 := Lib.hid (box_turned J3.out T3 (by omega))
      have M4 := Lib.hid (box_turned J4.out T3 (by omega))
      have M5 := Lib.hid (set0B J5.out (.int .i64 ((m1 : Int) + 1)))
      have MX := Lib.hid (box_turned JX.out T3 (by omega))
      have T4 := Lib.hid ((Turned.of_below KP2.out).trans T3)
      have M6 : Hid (w.heap.size + 1 + 1 + 1 + 1 + 1 + 1 + 1 ≤ (W2.setCell ⟨w.heap.size + 1 + 1 + 1 + 1 + 1, 0, none⟩ (.int .i64 ((m1 : Int) + 1))).heap.size) := Nat.le_trans J6.out T3.size
      have HB3 := Lib.hid (Turned.low HB2.out T3 (fun k hk => by omega) HB2.out.size)
      clear T3 J1 J2 J3 J4 JX J5 J6 HB2 hlx
      have c0 := box_cell M1.out 0 _ rfl
      have c1 := box_cell M1.out 1 _ rfl
      have c2 := box_cell M1.out 2 _ rfl
      have c3 := box_cell M1.out 3 _ rfl
      have c4 := box_cell M1.out 4 _ rfl
      have c5 := box_cell M1.out 5 _ rfl
      have c6 := box_cell M1.out 6 _ rfl
      have c7 := box_cell M1.out 7 _ rfl
      have c8 := box_cell M1.out 8 _ rfl
      have c9 := box_cell M1.out 9 _ rfl
      have c10 := box_cell M1.out 10 _ rfl
      have b0 := box_cell MX.out 0 _ rfl
      have b1 := box_cell MX.out 1 _ rfl
      have b2 := box_cell MX.out 2 _ rfl
      have b3 := box_cell MX.out 3 _ rfl
      have b4 := box_cell MX.out 4 _ rfl
      have nw := box_cell M2.out 0 _ rfl
      gi_wp2_with fail
      refine ⟨trivial, ?_⟩
      refine (CallsIn.inRound l (callsIn_wide.2 (HA.out _))).mono ?_
      rintro e W4 ⟨rfl, hb4⟩
      clear nw k0 g0 c0 c1 c2 c3 c4 c5 c6 c7 c8 c9 c10 b0 b1 b2 b3 b4
      have N1 := Lib.hid (box_below M1.out hb4)
      have N2 := Lib.hid (box_below M2.out hb4)
      have N3 := Lib.hid (box_below M3.out hb4)
      have N4 := Lib.hid (box_below M4.out hb4)
      have N5 := Lib.hid (box_below M5.out hb4)
      have N6 : Hid (w.heap.size + 1 + 1 + 1 + 1 + 1 + 1 + 1 ≤ W4.heap.size) := Nat.le_trans M6.out hb4.size
      have T5 := Lib.hid (T4.out.trans (Turned.of_below hb4))
      have HB4 := Lib.hid (bel_then HB3.out hb4 HB3.out.size)
      clear hb4 M1 M2 M3 M4 M5 M6 MX HB3 T4
      cases Q
      case false =>
        gi_wp2
        exact ⟨(keeps_of (Bp := w.heap.size + 1 + 1 + 1 + 1 + 1) H5.out T5.out).from _, Turned.low (Below.refl _ _) T5.out (fun k hk => by omega) HBx.out.size, ⟨N1.out, N2.out, N3.out, N4.out, by rw [HE1.out, HE2.out]; exact N5.out, N6.out⟩, HB4.out⟩
      case true =>
        have k1 := box_cell N5.out 1 _ rfl
        have g1 := box_frozen N5.out 1
        have T6 : Turned (fun k => k = w.heap.size + 1 + 1 + 1 + 1 + 1) W4 (W4.setCell ⟨w.heap.size + 1 + 1 + 1 + 1 + 1, 1, none⟩ (.int .i64 ((m2 : Int) + 1))) := Turned.set _ _ _ rfl
        have O5 := Lib.hid (set1B N5.out (.int .i64 ((m2 : Int) + 1)))
        have HT6 := Lib.hid T6
        clear T6
        gi_wp2
        exact ⟨(keeps_of (Bp := w.heap.size + 1 + 1 + 1 + 1 + 1) H5.out (T5.out.trans HT6.out)).from _, Turned.low (Below.refl _ _) (T5.out.trans HT6.out) (fun k hk => by omega) HBx.out.size, ⟨box_turned N1.out HT6.out (by omega), box_turned N2.out HT6.out (by omega), box_turned N3.out HT6.out (by omega), box_turned N4.out HT6.out (by omega), by rw [HE1.out, HE2.out]; exact O5.out, Nat.le_trans N6.out HT6.out.size⟩, Turned.low HB4.out HT6.out (fun k hk => by omega) HB4.out.size⟩
  case done =>
    rintro D ys W hD rfl ⟨⟨h1, h2, h3, h4, h5, h6⟩, hB⟩ hK
    obtain ⟨m1, hM1⟩ : ∃ m, m = cntF (liveB false rev) ys := ⟨_, rfl⟩
    obtain ⟨m2, hM2⟩ : ∃ m, m = cntF (goodB x0 x1 x2 x3 x4 x5 x6 x7 x8 x9 x10 false rev now) ys := ⟨_, rfl⟩
    rw [← hM1, ← hM2] at h5
    have HM1 := Lib.hid hM1
    have HM2 := Lib.hid hM2
    have KPf := Lib.hid h5
    clear h1 h2 h3 h5 h6 hM1 hM2
    have k0 := box_cell h4 0 _ rfl
    have g0 := box_frozen h4 0
    have k1 := box_cell h4 1 _ rfl
    have g1 := box_frozen h4 1
    have RB := set2B h4 (.int .i64 m1) (.int .i64 m2)
    have hlr := box_lt h4
    have hTT := set2T (S := fun k => k = w.heap.size + 1 + 1 + 1 + 1) (W := W) (b := w.heap.size + 1 + 1 + 1 + 1) rfl (.int .i64 m1) (.int .i64 m2)
    have hK' := (hTT.block D (Array.getElem?_eq_some_iff.1 hK).1 (by omega)).trans hK
    have HBF := Lib.hid ((Turned.low hB hTT (fun k hk => by omega) hB.size).trans (belowK_b (w := w) (Nat.le_refl _) _ D _ (.deferred none) (by omega) hK' rfl rfl))
    have r0 := cell_kept (box_cell RB 0 _ rfl) (grownBy_putObj' _ D (.deferred none)) (fun r e => by cases e; exact ⟨_, hK', rfl⟩)
    have r1 := cell_kept (box_cell RB 1 _ rfl) (grownBy_putObj' _ D (.deferred none)) (fun r e => by cases e; exact ⟨_, hK', rfl⟩)
    have HKD := Lib.hid hK'
    clear RB hTT hK' hK h4 hlr hB
    go_wp2_with (refine wpList_load_row rfl 231 _ rfl _ rfl _ _ (0, 0) _ KPf.out Tryz.underlying231 rfl (by kernel_rfl) ?_)
    refine ⟨by simp, .inl ⟨_, _, rfl, run_takeDeferred HKD.out, ?_⟩⟩
    exact ⟨.agg #[.int .i64 m1, .int .i64 m2], by simp [results, Tryz.f290, go_sem, r0, r1], by rw [HM1.out, HM2.out], HBF.out⟩
  case stop =>
    rintro D c pre W _ _ h _
    exact h.elim
end Go.Proofs.YtklgjjmcflgjeaaGreat.CountI
