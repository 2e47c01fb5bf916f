/-
  THE PROGRAM'S crewOf over this seat's translation: a crew just of a fleet that is ok; and slices.Equal and slices.Clone at pods.
-/
import Derived.Test.YtdefckbgcggnoaaGreatCrew
import Derived.Laws.StructEq
import Derived.StillTailTactics
import Derived.Deep.RegionHeld3
namespace Go.Proofs.YtdefckbgcggnoaaGreat.Crew
open Go.ChangeShapes Go.WideShapes Go.ChangeAt Go.RowKit Go.Maps Go.Sort Go.Shelf
open Go.Proofs.YtdefckbgcggnoaaGreat.LK Go.Proofs.YtdefckbgcggnoaaGreat.Pods Go.Proofs.YtdefckbgcggnoaaGreat.FleetV Go.Proofs.YtdefckbgcggnoaaGreat.Has Go.Proofs.YtdefckbgcggnoaaGreat.Ints
open Go.Proofs.YtdefckbgcggnoaaGreat.Tick (inB in_t in_f tokB tok_t tok_f tickOk_any)
set_option linter.unusedVariables false

def eqb (x y : Pd) : Bool := x.1 == y.1 && x.2.1 == y.2.1 && x.2.2.1 == y.2.2.1 && x.2.2.2.1 == y.2.2.2.1 && x.2.2.2.2 == y.2.2.2.2
theorem eqb_iff (x y : Pd) : eqb x y = true ↔ x = y := by
  obtain ⟨a, b, c, d, e⟩ := x
  obtain ⟨a', b', c', d', e'⟩ := y
  simp [eqb]
  grind
set_option maxHeartbeats 1600000 in
theorem neqP : NeqAt Tryz.prog 77 (fun x => .agg (cells5 x).toArray) eqb := by
  refine ⟨fun x y w => ?_, GuardAt.agg _ (by kernel_rfl)⟩
  have u3 := Tryz.underlying3
  have a3 := Tryz.isAgg3
  have z3 := Tryz.sizeOf3
  have hS : Tryz.prog.underlying 77 = some (.struct (Tryz.prog.fieldsOf 77)) := by kernel_rfl
  have hp : Tryz.prog.stoodInHeld 77 = false := by kernel_rfl
  obtain ⟨a, b, c, d, e⟩ := x
  obtain ⟨a', b', c', d', e'⟩ := y
  simp only [cells5]
  rw [run_neq_struct, show (10000 : Nat) = 9999 + 1 from rfl, run_equalIn_agg w 9999 77 _ _ hS hp]
  simp only [Program.fieldsOf, Tryz.underlying77]
  go_simp
  by_cases h1 : a = a' <;> by_cases h2 : b = b' <;> by_cases h3 : c = c' <;> by_cases h4 : d = d' <;> by_cases h5 : e = e' <;> simp [eqb, h1, h2, h3, h4, h5]
theorem allEq_iff (xs ys : PList) : Lib.allEq eqb xs ys = true ↔ xs = ys := by
  induction xs generalizing ys with
  | nil => cases ys <;> simp [Lib.allEq]
  | cons x l ih => cases ys with
    | nil => simp [Lib.allEq]
    | cons y m => simp [Lib.allEq, ih, eqb_iff]
theorem pods_cells {w : World} {B n b off : Nat} {ps : PList} (h : IsPods w B (some ⟨b, off, none⟩) n ps) (hn : 0 < n) : ∀ j, j < ps.length → ∀ i v, (cells5 ps[j]!)[i]? = some v → w.cell? ⟨b, off + j * 5 + i, none⟩ = some v := by
  intro j hj i v hi
  obtain ⟨b', off', e, _, hc⟩ := h.2 hn
  injection e with e
  injection e with e1 e2
  subst e1 e2
  have h5 := hc j (by have := h.1; omega)
  have e : ps.getD j z5 = ps[j]! := by simp [List.getD, hj]
  rw [e] at h5
  clear e
  generalize ps[j]! = p at hi h5
  obtain ⟨h0, h1, h2, h3, h4⟩ := h5
  match i, hi with
  | 0, hi => simp [cells5] at hi; subst hi; simpa using h0
  | 1, hi => simp [cells5] at hi; subst hi; exact h1
  | 2, hi => simp [cells5] at hi; subst hi; exact h2
  | 3, hi => simp [cells5] at hi; subst hi; exact h3
  | 4, hi => simp [cells5] at hi; subst hi; exact h4
  | i + 5, hi => simp [cells5] at hi
set_option maxHeartbeats 1600000 in
theorem equal_any (A C : Option Addr) (n c m d : Nat) (xs ys : PList) (B B' : Nat) (w : World) (hx : IsPods w B A n xs) (hy : IsPods w B' C m ys) (hn : n ≤ 1048576) (hm : m ≤ 1048576) :
    Calls Tryz.prog 141 #[.slice A n c, .slice C m d] w fun e w' => e = .returned (.bool (decide (xs = ys))) ∧ ∃ q, w' = w.drewN q := by
  by_cases hnm : n = m
  · subst hnm
    by_cases h0 : 0 < n
    · obtain ⟨b, off, rfl, _⟩ := hx.2 h0
      obtain ⟨b', off', rfl, _⟩ := hy.2 h0
      have h := AnyQ.slices_Equal Tryz.equalP 5 Tryz.isAgg77 Tryz.sizeOf77 cells5 (fun _ => rfl) eqb neqP b off n c b' off' n d xs ys w (by rw [hx.1]; exact Nat.le_refl _) (by rw [hy.1]; exact Nat.le_refl _) (by omega) (by omega) (pods_cells hx h0) (pods_cells hy h0)
      change Calls Tryz.prog 141 _ _ _ at h
      refine h.mono ?_
      rintro e w' ⟨rfl, hq⟩
      refine ⟨?_, hq⟩
      rw [List.take_of_length_le (by rw [hx.1]; exact Nat.le_refl _), List.take_of_length_le (by rw [hy.1]; exact Nat.le_refl _)]
      congr 2
      rw [Bool.eq_iff_iff, allEq_iff]
      simp
    · have hx0 : xs = [] := List.eq_nil_of_length_eq_zero (by rw [hx.1]; omega)
      have hy0 : ys = [] := List.eq_nil_of_length_eq_zero (by rw [hy.1]; omega)
      subst hx0 hy0
      have hn0 : n = 0 := by omega
      subst hn0
      clear hx hy
      go_enter Tryz.func141, Tryz.ntmps141
      go_wp2_with fail
      go_loop [13] (fun i => i = .int .i64 (0 : Int)) (fun _ => 0)
      case atStart => rfl
      case round =>
        subst hrel
        go_wp2
        go_ret
        exact ⟨rfl, 0, rfl⟩
  · have hne : decide (xs = ys) = false := by
      simp only [decide_eq_false_iff_not]
      intro e
      exact hnm (hx.1.symm.trans (by rw [e]; exact hy.1))
    rw [hne]
    clear hx hy hne
    go_enter Tryz.func141, Tryz.ntmps141
    go_wp2
    go_ret
    exact ⟨rfl, 0, rfl⟩
/-- What a copy of a list of pods leaves. -/
theorem clone_any (A : Option Addr) (n c : Nat) (ps : PList) (B : Nat) (w : World) (hr : IsPods w B A n ps) (hn : n ≤ 1048576) :
    Calls Tryz.prog 109 #[.slice A n c] w fun e w' => ∃ A' c', e = .returned (.slice A' n c') ∧ OwnP w' w.heap.size A' n c' ps ∧ Below w.heap.size w w' := by
  obtain ⟨i0, hi0, hz0, hz1, hz2⟩ := info_parts infoP
  cases A with
  | none =>
    have h0 : n = 0 := by
      rcases Nat.eq_zero_or_pos n with h | h
      · exact h
      · obtain ⟨b, off, e, _⟩ := hr.2 h; cases e
    have hp : ps = [] := List.eq_nil_of_length_eq_zero (by rw [hr.1]; exact h0)
    have h := AnyE.slices_Clone_nil Tryz.cloneP n c w
    change Calls Tryz.prog 109 _ _ _ at h
    refine h.mono ?_
    rintro e w' ⟨rfl, rfl⟩
    refine ⟨none, 0, by rw [h0], ?_, Below.refl _ _⟩
    rw [hp, h0]
    exact OwnP.nil _ _
  | some ad =>
    by_cases h0 : 0 < n
    · obtain ⟨b, off, e, _⟩ := hr.2 h0
      injection e with e
      subst e
      have hcl : ∀ j u, (flat ps)[j]? = some u → w.cell? ⟨b, off + j, none⟩ = some u := by
        intro j u hj
        have hjl : j < ps.length * 5 := by
          rw [← flat_len]
          rcases Nat.lt_or_ge j (flat ps).length with h | h
          · exact h
          · rw [List.getElem?_eq_none h] at hj; cases hj
        have e1 : j = j / 5 * 5 + j % 5 := by omega
        have hlt : j / 5 < ps.length := by omega
        rw [e1, flat_at ps (j / 5) (j % 5) hlt (by omega)] at hj
        have e2 : ps.getD (j / 5) z5 = ps[j / 5]! := by simp [List.getD, hlt]
        rw [e2] at hj
        have := pods_cells hr h0 (j / 5) hlt (j % 5) u hj
        rw [Nat.add_assoc, ← e1] at this
        exact this
      have h := AnyE.slices_Clone Tryz.cloneP i0 _ 5 40 hi0 hz0 hz1 hz2 rfl (by omega) Tryz.sizeOf77 b off n c (flat ps) w (by rw [flat_len, hr.1]) (by unfold maxLen; omega) (by omega) hcl (by
        intro u hu
        obtain ⟨p, _, hp⟩ := List.mem_flatMap.1 hu
        simp [cells5] at hp
        rcases hp with rfl | rfl | rfl | rfl | rfl <;> rfl)
      change Calls Tryz.prog 109 _ _ _ at h
      refine h.mono ?_
      rintro e w' ⟨v', rfl, hrow, _, hb⟩
      obtain ⟨g, cap, rfl, _⟩ := hrow.form h0
      exact ⟨_, _, rfl, ⟨hr.1, hrow⟩, hb⟩
    · have h0' : n = 0 := by omega
      subst h0'
      have hp : ps = [] := List.eq_nil_of_length_eq_zero hr.1
      subst hp
      obtain ⟨b, off, spot⟩ := ad
      have hq : (binOp .eql 32 (.slice (some ⟨b, off, spot⟩) 0 c) (.slice none 0 0)).run Tryz.prog w = .ok (.bool false) w := Lib.run_eql_slice_nil w _ _ _ _ _ _ _ Tryz.underlying32
      clear hr
      go_enter Tryz.func109, Tryz.ntmps109
      go_wp2_with fail
      go_ret
      refine ⟨_, _, rfl, ⟨rfl, rfl, .inr ⟨w.heap.size, 0, #[], rfl, Nat.le_refl _, box_new _ _, Nat.le_refl _, Nat.zero_le _, rfl, rfl⟩⟩, bel1 _ _⟩

theorem made_of {w w2 w3 : World} {lo : Nat} {S : Nat → Prop} {A : Option Addr} {n c : Nat} {ps : PList} {x : Int} (hb : Below w.heap.size w w2) (hO : OwnP w2 lo A n c ps) (hlo : w.heap.size ≤ lo) (hS : ∀ k, S k → w.heap.size ≤ k ∧ k < lo) (ht : Turned S w2 w3) :
    Made FleetTy.fty (ps, x) w (.returned (.agg #[.slice A n c, .int .i64 x])) w3 := by
  have hz := ht.size
  have hl := hO.1
  subst hl
  refine ⟨_, fun k => w.heap.size ≤ k ∧ k < w3.heap.size, rfl, ⟨⟨A, c, rfl, hO.zero.same fun k hk => ht.block k (hO.lt k hk).2 (fun e => by have := hO.lt k hk; have := hS k e; omega), fun k hk => ?_⟩, fun k hk => hk, Nat.le_refl _⟩, Turned.low hb ht (fun k hk => (hS k hk).1) hb.size⟩
  have := hO.lt k hk
  exact ⟨by omega, by omega⟩
set_option maxHeartbeats 1600000 in
theorem sameFleet_any (A : Option Addr) (n c : Nat) (nx : Int) (ps : PList) (B : Nat) (w : World) (hr : IsPods w B A n ps) (hB : B ≤ w.heap.size) (hn : n ≤ 1048576) :
    Calls Tryz.prog 73 #[.agg #[.slice A n c, .int .i64 nx]] w (Made FleetTy.fty (ps, nx) w) := by
  have HR := Lib.hid hr
  clear hr
  obtain ⟨V, hV⟩ : ∃ V, V = (w.alloc (.cells #[.slice A n c, .int .i64 nx] 34)).alloc (.cells #[.slice none 0 0, .int .i64 0] 34) := ⟨_, rfl⟩
  have hbV : Below w.heap.size w V := by rw [hV]; exact bel2 _ _ _
  have k0 : V.heap[w.heap.size]? = some (.cells #[.slice A n c, .int .i64 nx] 34) := by rw [hV]; exact box_alloc (box_new _ _) _
  have k1 : V.heap[w.heap.size + 1]? = some (.cells #[.slice none 0 0, .int .i64 0] 34) := by rw [hV]; have h := box_new (w.alloc (.cells #[.slice A n c, .int .i64 nx] 34)) (.cells #[.slice none 0 0, .int .i64 0] 34); simpa using h
  have HSV : Hid (V.heap.size = w.heap.size + 1 + 1) := by show _ = _; rw [hV]; simp
  go_enter Tryz.func73, Tryz.ntmps73
  go_wp2_with fail
  rw [← hV]
  clear hV
  have c0 : V.cell? ⟨w.heap.size, 0, none⟩ = some (.slice A n c) := box_cell k0 0 _ rfl
  have c1 : V.cell? ⟨w.heap.size, 1, none⟩ = some (.int .i64 nx) := box_cell k0 1 _ rfl
  have K1 := Lib.hid k1
  clear k0 k1
  go_region_held3 (fun w' => w'.cell? ⟨w.heap.size, 0, none⟩ = some (.slice A n c) ∧ w'.cell? ⟨w.heap.size, 1, none⟩ = some (.int .i64 nx)) (first | go_keep | (refine ⟨cell_keep hb2 ?_, cell_keep hb2 ?_⟩ <;> simp only [*]))
    (first | (go_at_call 109; refine (clone_any A n c ps B _ (by exact HR.out.below hbV.drew hB) hn).mono ?_; rintro e w2 ⟨A2, c2, rfl, hO, hb2⟩; have hb2' : Below V.heap.size V w2 := undrew hb2; have HO := Lib.hid hO; clear hO; obtain ⟨r0, r1, s0, s1⟩ := box2 (box_below K1.out hb2')))
  all_goals
    have HB := Lib.hid (bel_then hbV hb2' hbV.size)
    clear hb2 hb2' c0 c1
    go_wp2
    refine bodyPost_ret (v := .agg #[.slice A2 n c2, .int .i64 nx]) (by simp [results, Tryz.results73, go_sem, r0, r1]) rfl ?_
    exact made_of HB.out HO.out hbV.size (S := fun k => k = w.heap.size + 1) (fun k hk => by have := HSV.out; show _ ∧ k < V.heap.size; omega) ((Turned.set (S := fun k => k = w.heap.size + 1) _ ⟨w.heap.size + 1, 0, none⟩ _ rfl).trans (Turned.set (S := fun k => k = w.heap.size + 1) _ ⟨w.heap.size + 1, 1, none⟩ _ rfl))
set_option maxHeartbeats 1600000 in
theorem fleet_any (cb mb nn : Nat) (m : PList) (nx : Int) (w : World) (hC : CrewAt w cb mb nn m nx) (hn : m.length ≤ 1000) :
    Calls Tryz.prog 188 #[.pointer (some ⟨cb, 0, none⟩)] w (Made FleetTy.fty (m, nx) w) := by
  have HC := Lib.hid hC
  have HN := Lib.hid hn
  clear hC hn
  obtain ⟨V, hV⟩ : ∃ V, V = w.alloc (.cells #[.slice none 0 0, .int .i64 0] 34) := ⟨_, rfl⟩
  have hbV : Below w.heap.size w V := by rw [hV]; exact bel1 _ _
  have k1 : V.heap[w.heap.size]? = some (.cells #[.slice none 0 0, .int .i64 0] 34) := by rw [hV]; exact box_new _ _
  have HSV : Hid (V.heap.size = w.heap.size + 1) := by show _ = _; rw [hV]; simp
  go_enter Tryz.func188, Tryz.ntmps188
  go_wp2_with fail
  rw [← hV]
  clear hV
  have c1 : V.cell? ⟨cb, 1, none⟩ = some (.int .i64 nx) := box_cell (box_below HC.out.box hbV) 1 _ rfl
  have hcb := box_lt HC.out.box
  have K1 := Lib.hid k1
  clear k1
  go_region_held3 (fun w' => w'.cell? ⟨cb, 1, none⟩ = some (.int .i64 nx)) (first | (go_keep; done) | (refine cell_keep hb2 ?_ <;> simp only [*]; done) | exact far1 (by omega) (far1 (by omega) cz) | go_keep)
    (first | (go_at_call 142; refine (told_any cb mb nn m nx _ (by exact HC.out.below hbV.drew) HN.out).mono ?_; rintro e w2 ⟨A2, c2, rfl, hO, hb2⟩; have hb2' : Below V.heap.size V w2 := undrew hb2; have HO := Lib.hid hO; clear hO; have cz : w2.cell? ⟨cb, 1, none⟩ = some (.int .i64 nx) := box_cell (box_below (box_below HC.out.box hbV) hb2') 1 _ rfl; obtain ⟨r0, r1, s0, s1⟩ := box2 (box_below K1.out hb2')))
  all_goals
    have HB := Lib.hid (bel_then hbV hb2' hbV.size)
    clear hb2 hb2' c1 cz
    obtain ⟨n, hn⟩ : ∃ n, n = m.length := ⟨_, rfl⟩
    rw [← hn] at HO ⊢
    clear hn
    go_wp2
    refine bodyPost_ret (v := .agg #[.slice A2 n c2, .int .i64 nx]) (by simp [results, Tryz.results188, go_sem, r0, r1]) rfl ?_
    exact made_of HB.out HO.out hbV.size (S := fun k => k = w.heap.size) (fun k hk => by have := HSV.out; show _ ∧ k < V.heap.size; omega) ((Turned.set (S := fun k => k = w.heap.size) _ ⟨w.heap.size, 0, none⟩ _ rfl).trans (Turned.set (S := fun k => k = w.heap.size) _ ⟨w.heap.size, 1, none⟩ _ rfl))
end Go.Proofs.YtdefckbgcggnoaaGreat.Crew
