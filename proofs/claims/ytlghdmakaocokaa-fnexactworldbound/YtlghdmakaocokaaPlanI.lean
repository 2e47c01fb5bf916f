/-
  WHAT THE PROGRAM'S PlanStep ANSWERS over this seat's translation.
-/
import Derived.Test.YtlghdmakaocokaaRul2
import Derived.Test.YtlghdmakaocokaaEachR
import Derived.Laws.Rows
namespace Go.Proofs.Ytlghdmakaocokaa.PlanI
open Go.ChangeShapes Go.WideShapes Go.ChangeAt Go.RowKit Go.Shelf
open Go.Proofs.Ytlghdmakaocokaa.LK Go.Proofs.Ytlghdmakaocokaa.Sp Go.Proofs.Ytlghdmakaocokaa.Put Go.Proofs.Ytlghdmakaocokaa.Cnt Go.Proofs.Ytlghdmakaocokaa.Each Go.Proofs.Ytlghdmakaocokaa.Scn Go.Proofs.Ytlghdmakaocokaa.Rul Go.Proofs.Ytlghdmakaocokaa.EachR
set_option linter.unusedVariables false
set_option linter.unusedSimpArgs false
attribute [local go_sem] Oper.semAt_some
/-- What a rule makes of the plan's numbers. -/
def stp (cr dr df sp oa ro : Int) (q : Int × Int × Int × Int) : Nat → Int × Int × Int × Int
  | 0 => (cr, q.2.1, q.2.2.1, q.2.2.2)
  | 1 => (q.1, dr, q.2.2.1, q.2.2.2)
  | 2 => (q.1, q.2.1, min (min sp oa) (ro - q.2.1), q.2.2.2)
  | _ => (q.1, q.2.1, q.2.2.1, df)
def stF (cr dr df sp oa ro : Int) (pre : List Nat) : Int × Int × Int × Int := pre.foldl (stp cr dr df sp oa ro) (0, 0, 0, 0)
theorem stF_snoc (cr dr df sp oa ro : Int) (pre : List Nat) (x : Nat) : stF cr dr df sp oa ro (pre ++ [x]) = stp cr dr df sp oa ro (stF cr dr df sp oa ro pre) x := by
  unfold stF; rw [List.foldl_append]; rfl
theorem stp_bd {cr dr df sp oa ro : Int} {q : Int × Int × Int × Int} (x : Nat) (hd : 0 ≤ dr ∧ dr ≤ 30) (h : 0 ≤ q.2.1 ∧ q.2.1 ≤ 30) : 0 ≤ (stp cr dr df sp oa ro q x).2.1 ∧ (stp cr dr df sp oa ro q x).2.1 ≤ 30 := by
  unfold stp
  split <;> simp only [] <;> omega
theorem stF_bd {cr dr df sp oa ro : Int} (hd : 0 ≤ dr ∧ dr ≤ 30) (pre : List Nat) : 0 ≤ (stF cr dr df sp oa ro pre).2.1 ∧ (stF cr dr df sp oa ro pre).2.1 ≤ 30 := by
  have h : ∀ (l : List Nat) (q : Int × Int × Int × Int), (0 ≤ q.2.1 ∧ q.2.1 ≤ 30) → 0 ≤ (l.foldl (stp cr dr df sp oa ro) q).2.1 ∧ (l.foldl (stp cr dr df sp oa ro) q).2.1 ≤ 30 := by
    intro l
    induction l with
    | nil => exact fun q h => h
    | cons x l ih => exact fun q h => ih _ (stp_bd x hd h)
  exact h pre _ ⟨by decide, by decide⟩
/-- The plan's cells. -/
def pc (q : Int × Int × Int × Int) : Array Value := #[.int .i64 q.1, .int .i64 q.2.1, .int .i64 q.2.2.1, .int .i64 q.2.2.2]
theorem own_box {A B : World} {row : Option Nat} {b : Nat} {cs : Array Value} {t : TypeId} (h : A.heap[b]? = some (.cells cs t (0, 0))) (hg : A.grownBy B row) (hr : ∀ r, row = some r → ∃ o : Obj, A.heap[r]? = some o ∧ o.isCells = false) : B.heap[b]? = some (.cells cs t (0, 0)) :=
  (grownBy_keeps_cells hg hr h rfl).trans h
theorem keeps_of {W W' : World} {Bp : Nat} {cs : Array Value} {t : TypeId} (hp : W.heap[Bp]? = some (.cells cs t (0, 0))) (h : Turned (fun k => k = Bp) W W') : KeepsOthers W W' :=
  ⟨h.size, fun k o hk hc => (h.block k (Array.getElem?_eq_some_iff.1 hk).1 (fun e => by subst e; rw [hp] at hk; cases hk; simp [Obj.isCells] at hc)).trans hk⟩
theorem rules_lit (W : World) (Bc n₀ Bp : Nat) (hn : W.heap.size < n₀) (hne : W.heap.size ≠ Bp) : IsRules Bc (W.alloc (.cells #[ruF 40 Bc, ruF 45 Bc, ruF 47 Bc, ruF 49 Bc] 69)) n₀ Bp (some ⟨W.heap.size, 0, none⟩) 4 [0, 1, 2, 3] :=
  ⟨rfl, fun _ => ⟨W.heap.size, 0, rfl, hn, hne, fun j hj => by
    have h := box_new W (.cells #[ruF 40 Bc, ruF 45 Bc, ruF 47 Bc, ruF 49 Bc] 69)
    match j, hj with
    | 0, _ => exact box_cell h 0 _ rfl
    | 1, _ => exact box_cell h 1 _ rfl
    | 2, _ => exact box_cell h 2 _ rfl
    | 3, _ => exact box_cell h 3 _ rfl⟩⟩
/-- Four cells stored, one after the other. -/
theorem set4B {W : World} {b : Nat} {t : TypeId} {z0 z1 z2 z3 : Value} (h : W.heap[b]? = some (.cells #[z0, z1, z2, z3] t (0, 0))) (u0 u1 u2 u3 : Value) : ((((W.setCell ⟨b, 0, none⟩ u0).setCell ⟨b, 1, none⟩ u1).setCell ⟨b, 2, none⟩ u2).setCell ⟨b, 3, none⟩ u3).heap[b]? = some (.cells #[u0, u1, u2, u3] t (0, 0)) := by
  have h0 := box_set (i := 0) h u0
  have h1 := box_set (i := 1) h0 u1
  have h2 := box_set (i := 2) h1 u2
  have h3 := box_set (i := 3) h2 u3
  rw [h3]; simp
theorem set4T {S : Nat → Prop} {W : World} {b : Nat} (h : S b) (u0 u1 u2 u3 : Value) : Turned S W ((((W.setCell ⟨b, 0, none⟩ u0).setCell ⟨b, 1, none⟩ u1).setCell ⟨b, 2, none⟩ u2).setCell ⟨b, 3, none⟩ u3) :=
  (((Turned.set W ⟨b, 0, none⟩ u0 h).trans (Turned.set _ ⟨b, 1, none⟩ u1 h)).trans (Turned.set _ ⟨b, 2, none⟩ u2 h)).trans (Turned.set _ ⟨b, 3, none⟩ u3 h)
set_option maxRecDepth 100000 in
set_option maxHeartbeats 12800000 in
theorem planStep_any (x0 x1 x2 x3 x4 x5 x6 x7 x8 x9 x10 fl fa ol oa go li : Int) (w : World) : Calls Try.prog 31 #[.agg #[.int .i64 x0, .int .i64 x1, .int .i64 x2, .int .i64 x3, .int .i64 x4, .int .i64 x5, .int .i64 x6, .int .i64 x7, .int .i64 x8, .int .i64 x9, .int .i64 x10], .agg #[.int .i64 fl, .int .i64 fa], .agg #[.int .i64 ol, .int .i64 oa], .int .i64 go, .int .i64 li] w (Says (planT x0 x1 x2 x3 x4 x5 x6 x7 x8 x9 x10 fl fa ol oa go li) w) := by
  obtain ⟨T, hT⟩ : ∃ T, T = planT x0 x1 x2 x3 x4 x5 x6 x7 x8 x9 x10 fl fa ol oa go li := ⟨_, rfl⟩
  rw [← hT]
  have HT := Lib.hid hT
  clear hT
  obtain ⟨V0, hV0⟩ : ∃ V, V = (((w.alloc (.cells #[.int .i64 x0, .int .i64 x1, .int .i64 x2, .int .i64 x3, .int .i64 x4, .int .i64 x5, .int .i64 x6, .int .i64 x7, .int .i64 x8, .int .i64 x9, .int .i64 x10] 38)).alloc (.cells #[.int .i64 fl, .int .i64 fa] 52)).alloc (.cells #[.int .i64 ol, .int .i64 oa] 52)).alloc (.cells #[.int .i64 0, .int .i64 0, .int .i64 0, .int .i64 0] 55) := ⟨_, rfl⟩
  obtain ⟨V, hV⟩ : ∃ V, V = V0.alloc (.cells #[.int .i64 x0, .int .i64 x1, .int .i64 x2, .int .i64 x3, .int .i64 x4, .int .i64 x5, .int .i64 x6, .int .i64 x7, .int .i64 x8, .int .i64 x9, .int .i64 x10, .int .i64 fl, .int .i64 fa, .int .i64 ol, .int .i64 oa, .int .i64 go, .int .i64 li] 63) := ⟨_, rfl⟩
  have hs0 : V0.heap.size = w.heap.size + 1 + 1 + 1 + 1 := by rw [hV0]; simp only [World.size_alloc]
  have hb0 : Below w.heap.size w V0 := by rw [hV0]; exact (bel3 _ _ _ _).alloc (by simp; omega) _
  have HB : Hid (Below w.heap.size w V) := by rw [hV]; exact hb0.alloc hb0.size _
  clear hb0
  have KR : Hid (V.heap[w.heap.size + 1 + 1 + 1]? = some (.cells #[.int .i64 0, .int .i64 0, .int .i64 0, .int .i64 0] 55)) := by have h := box_alloc (box_new (((w.alloc (.cells #[.int .i64 x0, .int .i64 x1, .int .i64 x2, .int .i64 x3, .int .i64 x4, .int .i64 x5, .int .i64 x6, .int .i64 x7, .int .i64 x8, .int .i64 x9, .int .i64 x10] 38)).alloc (.cells #[.int .i64 fl, .int .i64 fa] 52)).alloc (.cells #[.int .i64 ol, .int .i64 oa] 52)) (.cells #[.int .i64 0, .int .i64 0, .int .i64 0, .int .i64 0] 55)) (.cells #[.int .i64 x0, .int .i64 x1, .int .i64 x2, .int .i64 x3, .int .i64 x4, .int .i64 x5, .int .i64 x6, .int .i64 x7, .int .i64 x8, .int .i64 x9, .int .i64 x10, .int .i64 fl, .int .i64 fa, .int .i64 ol, .int .i64 oa, .int .i64 go, .int .i64 li] 63); (try simp only [World.size_alloc] at h); rw [hV, hV0]; exact h
  have hsV : V.heap.size = w.heap.size + 1 + 1 + 1 + 1 + 1 := by rw [hV, World.size_alloc, hs0]
  have KC : Hid (V.heap[w.heap.size + 1 + 1 + 1 + 1]? = some (.cells #[.int .i64 x0, .int .i64 x1, .int .i64 x2, .int .i64 x3, .int .i64 x4, .int .i64 x5, .int .i64 x6, .int .i64 x7, .int .i64 x8, .int .i64 x9, .int .i64 x10, .int .i64 fl, .int .i64 fa, .int .i64 ol, .int .i64 oa, .int .i64 go, .int .i64 li] 63)) := by have h := box_new V0 (.cells #[.int .i64 x0, .int .i64 x1, .int .i64 x2, .int .i64 x3, .int .i64 x4, .int .i64 x5, .int .i64 x6, .int .i64 x7, .int .i64 x8, .int .i64 x9, .int .i64 x10, .int .i64 fl, .int .i64 fa, .int .i64 ol, .int .i64 oa, .int .i64 go, .int .i64 li] 63); rw [hs0] at h; rw [hV]; exact h
  have K0S : Hid (V0.heap[w.heap.size]? = some (.cells #[.int .i64 x0, .int .i64 x1, .int .i64 x2, .int .i64 x3, .int .i64 x4, .int .i64 x5, .int .i64 x6, .int .i64 x7, .int .i64 x8, .int .i64 x9, .int .i64 x10] 38)) := by have h := box_alloc (box_alloc (box_alloc (box_new w (.cells #[.int .i64 x0, .int .i64 x1, .int .i64 x2, .int .i64 x3, .int .i64 x4, .int .i64 x5, .int .i64 x6, .int .i64 x7, .int .i64 x8, .int .i64 x9, .int .i64 x10] 38)) (.cells #[.int .i64 fl, .int .i64 fa] 52)) (.cells #[.int .i64 ol, .int .i64 oa] 52)) (.cells #[.int .i64 0, .int .i64 0, .int .i64 0, .int .i64 0] 55); (try simp only [World.size_alloc] at h); rw [hV0]; exact h
  have K0F : Hid (V0.heap[w.heap.size + 1]? = some (.cells #[.int .i64 fl, .int .i64 fa] 52)) := by have h := box_alloc (box_alloc (box_new (w.alloc (.cells #[.int .i64 x0, .int .i64 x1, .int .i64 x2, .int .i64 x3, .int .i64 x4, .int .i64 x5, .int .i64 x6, .int .i64 x7, .int .i64 x8, .int .i64 x9, .int .i64 x10] 38)) (.cells #[.int .i64 fl, .int .i64 fa] 52)) (.cells #[.int .i64 ol, .int .i64 oa] 52)) (.cells #[.int .i64 0, .int .i64 0, .int .i64 0, .int .i64 0] 55); (try simp only [World.size_alloc] at h); rw [hV0]; exact h
  have K0O : Hid (V0.heap[w.heap.size + 1 + 1]? = some (.cells #[.int .i64 ol, .int .i64 oa] 52)) := by have h := box_alloc (box_new ((w.alloc (.cells #[.int .i64 x0, .int .i64 x1, .int .i64 x2, .int .i64 x3, .int .i64 x4, .int .i64 x5, .int .i64 x6, .int .i64 x7, .int .i64 x8, .int .i64 x9, .int .i64 x10] 38)).alloc (.cells #[.int .i64 fl, .int .i64 fa] 52)) (.cells #[.int .i64 ol, .int .i64 oa] 52)) (.cells #[.int .i64 0, .int .i64 0, .int .i64 0, .int .i64 0] 55); (try simp only [World.size_alloc] at h); rw [hV0]; exact h
  have HS0 := Lib.hid hs0
  clear hs0
  have HSV := Lib.hid hsV
  clear hsV
  have HV := Lib.hid hV
  clear hV
  refine (callsIn_wide (n := 8)).1 ?_
  refine callsIn_of_wp_marks Try.func31 rfl trivial ?_ rfl
  simp only [Try.ntmps31, List.size_toArray, List.length_cons, List.length_nil, Nat.reduceAdd, Nat.reduceSub, Array.replicate_succ, Array.replicate_zero, List.push_toArray, List.append_toArray, List.nil_append, List.cons_append]
  refine wpIn_wide.2 ?_
  go_upto_region 1 with fail
  rw [← hV0]
  clear hV0
  go_upto_region 2 with (first | (refine wpList_load_row rfl 38 _ rfl _ rfl _ _ (0, 0) _ K0S.out Try.underlying38 rfl (by kernel_rfl) ?_) | (refine wpList_load_row rfl 52 _ rfl _ rfl _ _ (0, 0) _ K0F.out Try.underlying52 rfl (by kernel_rfl) ?_) | (refine wpList_load_row rfl 52 _ rfl _ rfl _ _ (0, 0) _ K0O.out Try.underlying52 rfl (by kernel_rfl) ?_))
  rw [← HV.out]
  rw [HS0.out]
  clear K0S K0F K0O HV HS0
  go_wp2_with (refine wpList_load_row rfl 63 _ rfl _ rfl _ _ (0, 0) _ KC.out Try.underlying63 rfl (by kernel_rfl) ?_)
  refine (ok_any x0 x1 x2 x3 x4 x5 x6 x7 x8 x9 x10 fl fa ol oa go li _).mono ?_
  rintro e w1 ⟨rfl, hb⟩
  have KR1 := Lib.hid (box_below KR.out hb)
  have KC1 := Lib.hid (box_below KC.out hb)
  have HB1 := Lib.hid (bel_then HB.out hb HB.out.size)
  have hlr : w.heap.size + 1 + 1 + 1 + 1 < w1.heap.size := box_lt KC1.out
  clear KR KC HB hb HSV
  cases hpl : planB x0 x1 x2 x3 x4 x5 x6 x7 x8 x9 x10 fl fa ol oa go li
  · have HF : Hid (T = .tuple #[.agg #[.int .i64 0, .int .i64 0, .int .i64 0, .int .i64 0], .bool false]) := by show _ = _; rw [HT.out, planT_no hpl]
    have k0 := box_cell KR1.out 0 _ rfl
    have g0 := box_frozen KR1.out 0
    have k1 := box_cell KR1.out 1 _ rfl
    have g1 := box_frozen KR1.out 1
    have k2 := box_cell KR1.out 2 _ rfl
    have g2 := box_frozen KR1.out 2
    have k3 := box_cell KR1.out 3 _ rfl
    have g3 := box_frozen KR1.out 3
    have RB := set4B KR1.out (.int .i64 0) (.int .i64 0) (.int .i64 0) (.int .i64 0)
    have r0 := box_cell RB 0 _ rfl
    have r1 := box_cell RB 1 _ rfl
    have r2 := box_cell RB 2 _ rfl
    have r3 := box_cell RB 3 _ rfl
    have HBF := Lib.hid (Turned.low (S := fun k => k = w.heap.size + 1 + 1 + 1) HB1.out (set4T (S := fun k => k = w.heap.size + 1 + 1 + 1) (W := w1) (b := w.heap.size + 1 + 1 + 1) rfl (.int .i64 0) (.int .i64 0) (.int .i64 0) (.int .i64 0)) (fun k hk => by omega) HB1.out.size)
    clear RB hpl hlr
    go_wp2
    exact ⟨.tuple #[.agg #[.int .i64 0, .int .i64 0, .int .i64 0, .int .i64 0], .bool false], by simp [results, Try.f31, go_sem, r0, r1, r2, r3], by rw [HF.out], HBF.out⟩
  have HPL := Lib.hid hpl
  clear hpl
  have KC2 := Lib.hid (box_alloc KC1.out (.cells #[.int .i64 0, .int .i64 0, .int .i64 0, .int .i64 0] 55))
  go_wp2_with (refine wpList_load_row rfl 63 _ rfl _ rfl _ _ (0, 0) _ KC2.out Try.underlying63 rfl (by kernel_rfl) ?_)
  refine (rulesOf_any x0 x1 x2 x3 x4 x5 x6 x7 x8 x9 x10 fl fa ol oa go li _).mono ?_
  rintro e w2 ⟨rfl, rfl⟩
  clear KC2
  go_wp2_with fail
  refine (callsIn_wide.1 (eachR_in Fence.wide 1 trivial rfl _ _ _ _)).mono ?_
  rintro e w3 ⟨rfl, rfl⟩
  go_wp2
  obtain ⟨W0, hW0⟩ : ∃ V, V = (((w1.alloc (.cells #[.int .i64 0, .int .i64 0, .int .i64 0, .int .i64 0] 55)).alloc (.cells #[.int .i64 x0, .int .i64 x1, .int .i64 x2, .int .i64 x3, .int .i64 x4, .int .i64 x5, .int .i64 x6, .int .i64 x7, .int .i64 x8, .int .i64 x9, .int .i64 x10, .int .i64 fl, .int .i64 fa, .int .i64 ol, .int .i64 oa, .int .i64 go, .int .i64 li] 63)).alloc (.cells #[ruF 40 (w1.heap.size + 1), ruF 45 (w1.heap.size + 1), ruF 47 (w1.heap.size + 1), ruF 49 (w1.heap.size + 1)] 69)).alloc (.cells #[.slice (some ⟨w1.heap.size + 1 + 1, 0, none⟩) 4 4] 70) := ⟨_, rfl⟩
  have hsz : W0.heap.size = w1.heap.size + 1 + 1 + 1 + 1 := by rw [hW0]; simp only [World.size_alloc]
  have KP : Hid (W0.heap[w1.heap.size]? = some (.cells #[.int .i64 0, .int .i64 0, .int .i64 0, .int .i64 0] 55)) := by have h := box_alloc (box_alloc (box_alloc (box_new w1 (.cells #[.int .i64 0, .int .i64 0, .int .i64 0, .int .i64 0] 55)) (.cells #[.int .i64 x0, .int .i64 x1, .int .i64 x2, .int .i64 x3, .int .i64 x4, .int .i64 x5, .int .i64 x6, .int .i64 x7, .int .i64 x8, .int .i64 x9, .int .i64 x10, .int .i64 fl, .int .i64 fa, .int .i64 ol, .int .i64 oa, .int .i64 go, .int .i64 li] 63)) (.cells #[ruF 40 (w1.heap.size + 1), ruF 45 (w1.heap.size + 1), ruF 47 (w1.heap.size + 1), ruF 49 (w1.heap.size + 1)] 69)) (.cells #[.slice (some ⟨w1.heap.size + 1 + 1, 0, none⟩) 4 4] 70); rw [hW0]; exact h
  have KC : Hid (W0.heap[w1.heap.size + 1]? = some (.cells #[.int .i64 x0, .int .i64 x1, .int .i64 x2, .int .i64 x3, .int .i64 x4, .int .i64 x5, .int .i64 x6, .int .i64 x7, .int .i64 x8, .int .i64 x9, .int .i64 x10, .int .i64 fl, .int .i64 fa, .int .i64 ol, .int .i64 oa, .int .i64 go, .int .i64 li] 63)) := by have h := box_alloc (box_alloc (box_new (w1.alloc (.cells #[.int .i64 0, .int .i64 0, .int .i64 0, .int .i64 0] 55)) (.cells #[.int .i64 x0, .int .i64 x1, .int .i64 x2, .int .i64 x3, .int .i64 x4, .int .i64 x5, .int .i64 x6, .int .i64 x7, .int .i64 x8, .int .i64 x9, .int .i64 x10, .int .i64 fl, .int .i64 fa, .int .i64 ol, .int .i64 oa, .int .i64 go, .int .i64 li] 63)) (.cells #[ruF 40 (w1.heap.size + 1), ruF 45 (w1.heap.size + 1), ruF 47 (w1.heap.size + 1), ruF 49 (w1.heap.size + 1)] 69)) (.cells #[.slice (some ⟨w1.heap.size + 1 + 1, 0, none⟩) 4 4] 70); (try simp only [World.size_alloc] at h); rw [hW0]; exact h
  have KB : Hid (W0.heap[w1.heap.size + 1 + 1 + 1]? = some (.cells #[.slice (some ⟨w1.heap.size + 1 + 1, 0, none⟩) 4 4] 70)) := by have h := box_new (((w1.alloc (.cells #[.int .i64 0, .int .i64 0, .int .i64 0, .int .i64 0] 55)).alloc (.cells #[.int .i64 x0, .int .i64 x1, .int .i64 x2, .int .i64 x3, .int .i64 x4, .int .i64 x5, .int .i64 x6, .int .i64 x7, .int .i64 x8, .int .i64 x9, .int .i64 x10, .int .i64 fl, .int .i64 fa, .int .i64 ol, .int .i64 oa, .int .i64 go, .int .i64 li] 63)).alloc (.cells #[ruF 40 (w1.heap.size + 1), ruF 45 (w1.heap.size + 1), ruF 47 (w1.heap.size + 1), ruF 49 (w1.heap.size + 1)] 69)) (.cells #[.slice (some ⟨w1.heap.size + 1 + 1, 0, none⟩) 4 4] 70); (try simp only [World.size_alloc] at h); rw [hW0]; exact h
  have hbl : Below w1.heap.size w1 W0 := by rw [hW0]; exact (bel3 _ _ _ _).alloc (by simp; omega) _
  have KR : Hid (W0.heap[w.heap.size + 1 + 1 + 1]? = some (.cells #[.int .i64 0, .int .i64 0, .int .i64 0, .int .i64 0] 55)) := box_below KR1.out hbl
  have HRU : Hid (IsRules (w1.heap.size + 1) W0 (w1.heap.size + 1 + 1 + 1 + 1) w1.heap.size (some ⟨w1.heap.size + 1 + 1, 0, none⟩) 4 [0, 1, 2, 3]) := by have h := rules_lit ((w1.alloc (.cells #[.int .i64 0, .int .i64 0, .int .i64 0, .int .i64 0] 55)).alloc (.cells #[.int .i64 x0, .int .i64 x1, .int .i64 x2, .int .i64 x3, .int .i64 x4, .int .i64 x5, .int .i64 x6, .int .i64 x7, .int .i64 x8, .int .i64 x9, .int .i64 x10, .int .i64 fl, .int .i64 fa, .int .i64 ol, .int .i64 oa, .int .i64 go, .int .i64 li] 63)) (w1.heap.size + 1) (w1.heap.size + 1 + 1 + 1) w1.heap.size (by simp) (by simp; omega); (try simp only [World.size_alloc] at h); show IsRules _ _ _ _ _ _ _; rw [hW0]; exact (h.keep ⟨by simp, fun k hk _ => (bel1 _ _).block k (by simp; omega)⟩).more (by omega)
  have HB := Lib.hid (bel_then HB1.out hbl HB1.out.size)
  rw [← hW0]
  clear hW0 hbl KR1 KC1 HB1
  have hdb : 0 ≤ drV x0 ol oa li ∧ drV x0 ol oa li ≤ 30 := by have h := plan_bd HPL.out; have h2 := (planB_t HPL.out).2.2.1; omega
  have HDB := Lib.hid hdb
  clear hdb
  have kb := box_cell KB.out 0 _ rfl
  refine (wpIn_wide (n := 8)).1 ?_
  refine wpIn_rangeFunc_ownF rfl (by omega) (gf := 39) (lb := #[.pointer (some ⟨w1.heap.size + 1 + 1 + 1, 0, none⟩)]) rfl trivial (enters_of Try.func39 (by kernel_rfl) rfl)
    (eachR_stops Fence.wide _ trivial rfl (by omega) (w1.heap.size + 1) w1.heap.size (w1.heap.size + 1 + 1 + 1) (w1.heap.size + 1 + 1 + 1 + 1) _ 4 4 [0, 1, 2, 3] W0 (by omega) (by omega) (by omega) kb HRU.out) KpB.trans (kpB_b (by omega)) (Below.refl _ _) (fun _ => rfl)
    (fun pre W => (W.heap[w1.heap.size]? = some (.cells (pc (stF (crV x0 x1 fl ol go li) (drV x0 ol oa li) (dfV x0 fl) (spV x0 x2 fa oa) oa (roV x0 ol li) pre)) 55 (0, 0)) ∧ W.heap[w1.heap.size + 1]? = some (.cells #[.int .i64 x0, .int .i64 x1, .int .i64 x2, .int .i64 x3, .int .i64 x4, .int .i64 x5, .int .i64 x6, .int .i64 x7, .int .i64 x8, .int .i64 x9, .int .i64 x10, .int .i64 fl, .int .i64 fa, .int .i64 ol, .int .i64 oa, .int .i64 go, .int .i64 li] 63 (0, 0)) ∧ W.heap[w.heap.size + 1 + 1 + 1]? = some (.cells #[.int .i64 0, .int .i64 0, .int .i64 0, .int .i64 0] 55 (0, 0)) ∧ w1.heap.size + 1 + 1 + 1 + 1 ≤ W.heap.size) ∧ Below w.heap.size w W)
    (fun _ _ _ => False)
    (OwnFrom.and (Own.from (fun s A B row hs hg hr => ⟨own_box hs.1 hg hr, own_box hs.2.1 hg hr, own_box hs.2.2.1 hg hr, Nat.le_trans hs.2.2.2 hg.size⟩) _) (ownFrom_below (Nat.le_refl _) (by omega)))
    (fun _ _ _ _ _ hs _ _ => hs)
    ⟨⟨KP.out, KC.out, KR.out, by omega⟩, HB.out⟩
    (fun x => { tmps := #[.agg #[.int .i64 x0, .int .i64 x1, .int .i64 x2, .int .i64 x3, .int .i64 x4, .int .i64 x5, .int .i64 x6, .int .i64 x7, .int .i64 x8, .int .i64 x9, .int .i64 x10], .agg #[.int .i64 fl, .int .i64 fa], .agg #[.int .i64 ol, .int .i64 oa], .int .i64 go, .int .i64 li, .pointer (some ⟨w.heap.size, 0, none⟩), .pointer (some ⟨w.heap.size + 1, 0, none⟩), .pointer (some ⟨w.heap.size + 1 + 1, 0, none⟩), undef, undef, .pointer (some ⟨w.heap.size + 1 + 1 + 1, 0, none⟩), .bool false, .pointer (some ⟨w.heap.size + 1 + 1 + 1 + 1, 0, none⟩), .pointer (some ⟨w1.heap.size, 0, none⟩), rv (w1.heap.size + 1) x, .agg #[.int .i64 x0, .int .i64 x1, .int .i64 x2, .int .i64 x3, .int .i64 x4, .int .i64 x5, .int .i64 x6, .int .i64 x7, .int .i64 x8, .int .i64 x9, .int .i64 x10], .agg #[.int .i64 fl, .int .i64 fa], .agg #[.int .i64 ol, .int .i64 oa], .int .i64 go, .int .i64 li, .agg #[.int .i64 x0, .int .i64 x1, .int .i64 x2, .int .i64 x3, .int .i64 x4, .int .i64 x5, .int .i64 x6, .int .i64 x7, .int .i64 x8, .int .i64 x9, .int .i64 x10, .int .i64 fl, .int .i64 fa, .int .i64 ol, .int .i64 oa, .int .i64 go, .int .i64 li], .agg #[.int .i64 x0, .int .i64 x1, .int .i64 x2, .int .i64 x3, .int .i64 x4, .int .i64 x5, .int .i64 x6, .int .i64 x7, .int .i64 x8, .int .i64 x9, .int .i64 x10, .int .i64 fl, .int .i64 fa, .int .i64 ol, .int .i64 oa, .int .i64 go, .int .i64 li], .bool true, .bool false, undef, .agg #[.int .i64 0, .int .i64 0, .int .i64 0, .int .i64 0], .agg #[.int .i64 x0, .int .i64 x1, .int .i64 x2, .int .i64 x3, .int .i64 x4, .int .i64 x5, .int .i64 x6, .int .i64 x7, .int .i64 x8, .int .i64 x9, .int .i64 x10, .int .i64 fl, .int .i64 fa, .int .i64 ol, .int .i64 oa, .int .i64 go, .int .i64 li], .slice (some ⟨w1.heap.size + 1 + 1, 0, none⟩) 4 4, .func (.func 39) #[] #[.pointer (some ⟨w1.heap.size + 1 + 1 + 1, 0, none⟩)], rv (w1.heap.size + 1) x, undef, undef, undef], defers := [] }) ?assign ?body ?done ?stop
  case assign =>
    intro l x W K hK
    gi_wp2
    exact hK
  case body =>
    rintro l pre x W ⟨⟨hp, hc, hr, hn⟩, hB⟩ hlen
    have hq := stF_bd (cr := crV x0 x1 fl ol go li) (df := dfV x0 fl) (sp := spV x0 x2 fa oa) (oa := oa) (ro := roV x0 ol li) HDB.out pre
    have hst := stF_snoc (crV x0 x1 fl ol go li) (drV x0 ol oa li) (dfV x0 fl) (spV x0 x2 fa oa) oa (roV x0 ol li) pre x
    obtain ⟨q, hQ⟩ : ∃ q, q = stF (crV x0 x1 fl ol go li) (drV x0 ol oa li) (dfV x0 fl) (spV x0 x2 fa oa) oa (roV x0 ol li) pre := ⟨_, rfl⟩
    rw [← hQ] at hp hq hst
    clear hQ
    obtain ⟨q0, q1, q2, q3⟩ := q
    have hne : w1.heap.size + 1 ≠ w1.heap.size := by omega
    have HPx := Lib.hid hp
    have HCx := Lib.hid hc
    have HRx := Lib.hid hr
    have HBx := Lib.hid hB
    have HST := Lib.hid hst
    have HNx := Lib.hid hn
    clear hp hc hr hB hst hn
    obtain ⟨v, hv⟩ : ∃ v, v = rv (w1.heap.size + 1) x := ⟨_, rfl⟩
    dsimp only
    rw [← hv]
    rcases x with _ | _ | _ | x
    · obtain rfl : v = ruF 40 (w1.heap.size + 1) := hv
      gi_wp2_with (refine ⟨trivial, ?_⟩; gi_at_call 40; refine (CallsIn.inRound l (callsIn_wide.2 (rule1_any x0 x1 x2 x3 x4 x5 x6 x7 x8 x9 x10 fl fa ol oa go li q0 q1 q2 q3 (w1.heap.size + 1) w1.heap.size _ HCx.out HPx.out hne hq HPL.out))).mono ?_; rintro e W3 ⟨u, rfl, ht, hp3⟩)
      exact ⟨keeps_of HPx.out ht, KpB.of ht HNx.out, ⟨by rw [HST.out]; exact hp3, box_turned HCx.out ht (by omega), box_turned HRx.out ht (by omega), Nat.le_trans HNx.out ht.size⟩, Turned.low HBx.out ht (fun k hk => by omega) HBx.out.size⟩
    · obtain rfl : v = ruF 45 (w1.heap.size + 1) := hv
      gi_wp2_with (refine ⟨trivial, ?_⟩; gi_at_call 45; refine (CallsIn.inRound l (callsIn_wide.2 (rule2_any x0 x1 x2 x3 x4 x5 x6 x7 x8 x9 x10 fl fa ol oa go li q0 q1 q2 q3 (w1.heap.size + 1) w1.heap.size _ HCx.out HPx.out hne hq HPL.out))).mono ?_; rintro e W3 ⟨u, rfl, ht, hp3⟩)
      exact ⟨keeps_of HPx.out ht, KpB.of ht HNx.out, ⟨by rw [HST.out]; exact hp3, box_turned HCx.out ht (by omega), box_turned HRx.out ht (by omega), Nat.le_trans HNx.out ht.size⟩, Turned.low HBx.out ht (fun k hk => by omega) HBx.out.size⟩
    · obtain rfl : v = ruF 47 (w1.heap.size + 1) := hv
      gi_wp2_with (refine ⟨trivial, ?_⟩; gi_at_call 47; refine (CallsIn.inRound l (callsIn_wide.2 (rule3_any x0 x1 x2 x3 x4 x5 x6 x7 x8 x9 x10 fl fa ol oa go li q0 q1 q2 q3 (w1.heap.size + 1) w1.heap.size _ HCx.out HPx.out hne hq HPL.out))).mono ?_; rintro e W3 ⟨u, rfl, ht, hp3⟩)
      exact ⟨keeps_of HPx.out ht, KpB.of ht HNx.out, ⟨by rw [HST.out]; exact hp3, box_turned HCx.out ht (by omega), box_turned HRx.out ht (by omega), Nat.le_trans HNx.out ht.size⟩, Turned.low HBx.out ht (fun k hk => by omega) HBx.out.size⟩
    · obtain rfl : v = ruF 49 (w1.heap.size + 1) := hv
      gi_wp2_with (refine ⟨trivial, ?_⟩; gi_at_call 49; refine (CallsIn.inRound l (callsIn_wide.2 (rule4_any x0 x1 x2 x3 x4 x5 x6 x7 x8 x9 x10 fl fa ol oa go li q0 q1 q2 q3 (w1.heap.size + 1) w1.heap.size _ HCx.out HPx.out hne hq HPL.out))).mono ?_; rintro e W3 ⟨u, rfl, ht, hp3⟩)
      exact ⟨keeps_of HPx.out ht, KpB.of ht HNx.out, ⟨by rw [HST.out]; exact hp3, box_turned HCx.out ht (by omega), box_turned HRx.out ht (by omega), Nat.le_trans HNx.out ht.size⟩, Turned.low HBx.out ht (fun k hk => by omega) HBx.out.size⟩
  case done =>
    rintro D ys W hD rfl ⟨⟨hp, hc, hr, hn⟩, hB⟩ hK
    obtain ⟨cr, hcr⟩ : ∃ z, crV x0 x1 fl ol go li = z := ⟨_, rfl⟩
    obtain ⟨dr, hdr⟩ : ∃ z, drV x0 ol oa li = z := ⟨_, rfl⟩
    obtain ⟨da, hda⟩ : ∃ z, daV x0 x2 fa ol oa li = z := ⟨_, rfl⟩
    obtain ⟨df, hdf⟩ : ∃ z, dfV x0 fl = z := ⟨_, rfl⟩
    have KPf : Hid (W.heap[w1.heap.size]? = some (.cells #[.int .i64 cr, .int .i64 dr, .int .i64 da, .int .i64 df] 55 (0, 0))) := by rw [← hcr, ← hdr, ← hda, ← hdf]; exact hp
    have HTY : Hid (T = .tuple #[.agg #[.int .i64 cr, .int .i64 dr, .int .i64 da, .int .i64 df], .bool true]) := by show _ = _; rw [HT.out, planT_yes HPL.out hcr hdr hda hdf]
    clear hp hc hcr hdr hda hdf hn
    have k0 := box_cell hr 0 _ rfl
    have g0 := box_frozen hr 0
    have k1 := box_cell hr 1 _ rfl
    have g1 := box_frozen hr 1
    have k2 := box_cell hr 2 _ rfl
    have g2 := box_frozen hr 2
    have k3 := box_cell hr 3 _ rfl
    have g3 := box_frozen hr 3
    have RB := set4B hr (.int .i64 cr) (.int .i64 dr) (.int .i64 da) (.int .i64 df)
    have hlr : w.heap.size + 1 + 1 + 1 < W.heap.size := box_lt hr
    have hTT := set4T (S := fun k => k = w.heap.size + 1 + 1 + 1) (W := W) (b := w.heap.size + 1 + 1 + 1) rfl (.int .i64 cr) (.int .i64 dr) (.int .i64 da) (.int .i64 df)
    have hK' := (hTT.block D (Array.getElem?_eq_some_iff.1 hK).1 (by have := HB.out.size; omega)).trans hK
    have HBF := Lib.hid ((Turned.low hB hTT (fun k hk => by omega) hB.size).trans (belowK_b (w := w) (Nat.le_refl _) _ D _ (.deferred none) (by have := HB.out.size; omega) hK' rfl rfl))
    have r0 := cell_kept (box_cell RB 0 _ rfl) (grownBy_putObj' _ D (.deferred none)) (fun r e => by cases e; exact ⟨_, hK', rfl⟩)
    have r1 := cell_kept (box_cell RB 1 _ rfl) (grownBy_putObj' _ D (.deferred none)) (fun r e => by cases e; exact ⟨_, hK', rfl⟩)
    have r2 := cell_kept (box_cell RB 2 _ rfl) (grownBy_putObj' _ D (.deferred none)) (fun r e => by cases e; exact ⟨_, hK', rfl⟩)
    have r3 := cell_kept (box_cell RB 3 _ rfl) (grownBy_putObj' _ D (.deferred none)) (fun r e => by cases e; exact ⟨_, hK', rfl⟩)
    have HKD := Lib.hid hK'
    clear RB hTT hK' hK hr hlr hB
    go_wp2_with (refine wpList_load_row rfl 55 _ rfl _ rfl _ _ (0, 0) _ KPf.out Try.underlying55 rfl (by kernel_rfl) ?_)
    refine ⟨by simp, .inl ⟨_, _, rfl, run_takeDeferred HKD.out, ?_⟩⟩
    exact ⟨.tuple #[.agg #[.int .i64 cr, .int .i64 dr, .int .i64 da, .int .i64 df], .bool true], by simp [results, Try.f31, go_sem, r0, r1, r2, r3], by rw [HTY.out], HBF.out⟩
  case stop =>
    rintro D c pre W _ _ h _
    exact h.elim
end Go.Proofs.Ytlghdmakaocokaa.PlanI
