/-
  THE CONTRACTS of the ring's count and atOf over this seat's translation; nothing that was there has turned.
-/
import Derived.Test.YtpghccbknlokcaaRingIter
namespace Go.Proofs.Ytpghccbknlokcaa.Ring
open Go.ChangeShapes Go.WideShapes Go.ChangeAt Go.RowKit Go.Shelf
open Go.Proofs.Ytpghccbknlokcaa.Timers Go.Proofs.Ytpghccbknlokcaa.WheelOk
open Go.Proofs.Ytpghccbknlokcaa.Tick (tokB tok_t)
set_option linter.unusedVariables false
attribute [local go_sem] Oper.semAt_some

theorem blk1 {w : World} {g : Nat} {a : Value} {t : TypeId} (h : w.heap[g]? = some (.cells #[a] t (0, 0))) : w.cell? ⟨g, 0, none⟩ = some a ∧ w.frozen? ⟨g, 0, none⟩ = false := by
  constructor <;> simp [World.cell?, World.frozen?, h]
theorem box1_new (W : World) (v : Value) (t : TypeId) : (W.alloc (.cells #[v] t)).cell? ⟨W.heap.size, 0, none⟩ = some v ∧ (W.alloc (.cells #[v] t)).frozen? ⟨W.heap.size, 0, none⟩ = false := by
  exact blk1 (heap_alloc_new W (.cells #[v] t))
theorem box1_alloc {W : World} {p : Addr} {v : Value} (o : Obj) (h : W.cell? p = some v ∧ W.frozen? p = false) : (W.alloc o).cell? p = some v ∧ (W.alloc o).frozen? p = false :=
  ⟨cell_kept h.1 (World.grownBy_alloc W o none) (fun r e => by cases e), (frozen_kept h.1 (World.grownBy_alloc W o none) (fun r e => by cases e)).trans h.2⟩

set_option maxRecDepth 100000 in
set_option maxHeartbeats 2000000 in
theorem count_any (lo g : Nat) (now : Int) (rs : List TList) (w : World) (hR : OwnR w lo g now rs) (hT : ∀ j t, t ∈ rs.getD j [] → tokB t.2 = true) (hF : tot rs ≤ 100) :
    Calls Try.prog 50 #[.pointer (some ⟨g, 0, none⟩)] w fun e w' => e = .returned (.int .i64 (tot rs)) ∧ Below w.heap.size w w' := by
  refine (callsIn_wide (n := 6)).1 ?_
  refine callsIn_of_wp_marks Try.func50 rfl trivial ?_ rfl
  simp only [Try.ntmps50, List.size_toArray, List.length_cons, List.length_nil, Nat.reduceAdd, Nat.reduceSub, Array.replicate_succ, Array.replicate_zero, List.push_toArray, List.append_toArray, List.nil_append, List.cons_append]
  gi_wp2_with (refine ⟨trivial, ?_⟩; gi_at_call 58; refine (timers_in Fence.wide _ trivial rfl _ _).mono ?_; rintro e w' ⟨rfl, rfl⟩)
  have hs := box1_new w (.int .i64 0) 3
  have hb := box1_new (w.alloc (.cells #[.int .i64 0] 3)) (.pointer (some ⟨g, 0, none⟩)) 84
  rw [World.size_alloc] at hb
  have hB0 : Below w.heap.size w ((w.alloc (.cells #[.int .i64 0] 3)).alloc (.cells #[.pointer (some ⟨g, 0, none⟩)] 84)) := below_a2 _ _ _
  refine wpIn_rangeFunc_ownF rfl (by omega) (gf := 102) (lb := #[.pointer (some ⟨w.heap.size + 1, 0, none⟩)]) rfl trivial (enters_of Try.func102 (by kernel_rfl) rfl)
    (timers_stops Fence.wide _ trivial rfl (by omega) (w.heap.size + 1) w.heap.size g rs _ hT hF (by simp) (by simp; omega) hb.1 (hR.reads.keep hB0)) belowK_t (belowK_b (by simp; omega)) (Below.refl _ _) (fun _ => rfl)
    (fun pre W => (W.cell? ⟨w.heap.size, 0, none⟩ = some (.int .i64 pre.length) ∧ W.frozen? ⟨w.heap.size, 0, none⟩ = false) ∧ Below w.heap.size w W)
    (fun _ _ _ => False)
    (OwnFrom.and (Own.from (fun s A B row hs hg hr => ⟨cell_kept hs.1 hg hr, (frozen_kept hs.1 hg hr).trans hs.2⟩) _) (ownFrom_below (Nat.le_refl _) (by simp; omega)))
    (fun _ _ _ _ _ hs _ _ => hs)
    ⟨box1_alloc _ hs, hB0⟩
    (fun x => { tmps := #[.pointer (some ⟨g, 0, none⟩), undef, .int .i64 0, .pointer (some ⟨w.heap.size, 0, none⟩), .pointer (some ⟨g, 0, none⟩), .func (.func 102) #[] #[.pointer (some ⟨w.heap.size + 1, 0, none⟩)], .int .i64 x.1, .int .i64 (norm x.2), undef, undef, undef], defers := [] }) ?assign ?body ?done ?stop
  case assign =>
    intro l x W K hK
    gi_wp2
    simpa [encs] using hK
  case body =>
    rintro l pre x W ⟨⟨hc, hf⟩, hB⟩ hlen
    have hpl : pre.length ≤ 100 := by omega
    gi_wp2
    have e1 : ((pre ++ [x]).length : Int) = (pre.length : Int) + 1 := by simp
    exact ⟨KeepsOthers.setCell _ _ _, (Below.refl w.heap.size W).setCell (p := ⟨w.heap.size, 0, none⟩) (Nat.le_refl _) _, ⟨by rw [e1]; exact World.cell?_setCell_same' _ _ _ (by rw [hc]; rfl), by rw [World.frozen?_setCell]; exact hf⟩, hB.setCell (p := ⟨w.heap.size, 0, none⟩) (Nat.le_refl _) _⟩
  case done =>
    rintro D ys W hD rfl ⟨⟨hc, _⟩, hB⟩ hK
    rw [flat_len_tot] at hc
    gi_wp2
    refine ⟨by simp, .inl ⟨_, _, rfl, run_takeDeferred hK, ?_⟩⟩
    exact ⟨_, results_tmp rfl _ _ _, rfl, hB.trans (belowK_b (w := w) (Nat.le_refl _) W D _ _ (by simp at hD; omega) hK rfl rfl)⟩
  case stop =>
    rintro D c pre W _ _ h _
    exact h.elim

/-- The tick of the first timer of that Id; -1 where there is none. -/
def atV (ts : TList) (x : Int) : Int := ((ts.find? fun p => p.1 == x).map Prod.snd).getD (-1)
theorem atV_none {ts : TList} {x : Int} (h : ∀ p ∈ ts, p.1 ≠ x) : atV ts x = -1 := by
  unfold atV
  rw [List.find?_eq_none.2 (fun p hp => by simpa using h p hp)]
  rfl
theorem atV_hit {ts pre : TList} {p : Int × Int} (hp : pre ++ [p] <+: ts) (h : ∀ q ∈ pre, q.1 ≠ p.1) : atV ts p.1 = p.2 := by
  obtain ⟨r, rfl⟩ := hp
  unfold atV
  rw [List.append_assoc, List.find?_append, List.find?_eq_none.2 (fun q hq => by simpa using h q hq)]
  simp
theorem mem_getD {rs : List TList} {t : Int × Int} (h : t ∈ rs.flatten) : ∃ j, t ∈ rs.getD j [] := by
  obtain ⟨l, hl, ht⟩ := List.mem_flatten.1 h
  obtain ⟨j, hj, rfl⟩ := List.mem_iff_getElem.1 hl
  exact ⟨j, by rw [getD_lt rs j [] hj]; exact ht⟩

set_option maxRecDepth 100000 in
set_option maxHeartbeats 2000000 in
theorem atOf_any (lo g : Nat) (now x : Int) (rs : List TList) (w : World) (hR : OwnR w lo g now rs) (hT : ∀ j t, t ∈ rs.getD j [] → tokB t.2 = true) (hF : tot rs ≤ 100) :
    Calls Try.prog 57 #[.pointer (some ⟨g, 0, none⟩), .int .i64 x] w fun e w' => e = .returned (.int .i64 (atV rs.flatten x)) ∧ Below w.heap.size w w' := by
  refine (callsIn_wide (n := 6)).1 ?_
  refine callsIn_of_wp_marks Try.func57 rfl trivial ?_ rfl
  simp only [Try.ntmps57, List.size_toArray, List.length_cons, List.length_nil, Nat.reduceAdd, Nat.reduceSub, Array.replicate_succ, Array.replicate_zero, List.push_toArray, List.append_toArray, List.nil_append, List.cons_append]
  gi_wp2_with (refine ⟨trivial, ?_⟩; gi_at_call 58; refine (timers_in Fence.wide _ trivial rfl _ _).mono ?_; rintro e w' ⟨rfl, rfl⟩)
  have c0 := box1_new w (.int .i64 x) 3
  have c1 := box1_new (w.alloc (.cells #[.int .i64 x] 3)) (.int .i64 0) 3
  have c2 := box1_new ((w.alloc (.cells #[.int .i64 x] 3)).alloc (.cells #[.int .i64 0] 3)) (.pointer (some ⟨g, 0, none⟩)) 84
  simp only [World.size_alloc] at c1 c2
  have hB0 : Below w.heap.size w (((w.alloc (.cells #[.int .i64 x] 3)).alloc (.cells #[.int .i64 0] 3)).alloc (.cells #[.pointer (some ⟨g, 0, none⟩)] 84)) := below_a3 _ _ _ _
  refine wpIn_rangeFunc_ownF rfl (by omega) (gf := 102) (lb := #[.pointer (some ⟨w.heap.size + 1 + 1, 0, none⟩)]) rfl trivial (enters_of Try.func102 (by kernel_rfl) rfl)
    (timers_stops Fence.wide _ trivial rfl (by omega) (w.heap.size + 1 + 1) w.heap.size g rs _ hT hF (by simp) (by simp; omega) c2.1 (hR.reads.keep hB0)) belowK_t (belowK_b (by simp; omega)) (Below.refl _ _) (fun _ => rfl)
    (fun pre W => ((∀ q ∈ pre, q.1 ≠ x) ∧ W.cell? ⟨w.heap.size, 0, none⟩ = some (.int .i64 x) ∧ W.cell? ⟨w.heap.size + 1, 0, none⟩ = some (.int .i64 0) ∧ W.frozen? ⟨w.heap.size + 1, 0, none⟩ = false) ∧ Below w.heap.size w W)
    (fun c pre W => (c = .ret ∧ ∃ (qs : TList) (p : Int × Int), pre = qs ++ [p] ∧ (∀ q ∈ qs, q.1 ≠ x) ∧ p.1 = x ∧ W.cell? ⟨w.heap.size + 1, 0, none⟩ = some (.int .i64 (norm p.2))) ∧ Below w.heap.size w W)
    (OwnFrom.and (Own.from (fun s A B row hs hg hr => ⟨hs.1, cell_kept hs.2.1 hg hr, cell_kept hs.2.2.1 hg hr, (frozen_kept hs.2.2.1 hg hr).trans hs.2.2.2⟩) _) (ownFrom_below (Nat.le_refl _) (by simp; omega)))
    (fun c => OwnFrom.and (Own.from (fun s A B row hs hg hr => by obtain ⟨h1, qs, p, h2, h3, h4, h5⟩ := hs; exact ⟨h1, qs, p, h2, h3, h4, cell_kept h5 hg hr⟩) _) (ownFrom_below (Nat.le_refl _) (by simp; omega)))
    ⟨⟨by simp, (box1_alloc _ (box1_alloc _ c0)).1, box1_alloc _ c1⟩, hB0⟩
    (fun p => { tmps := #[.pointer (some ⟨g, 0, none⟩), .int .i64 x, undef, .pointer (some ⟨w.heap.size, 0, none⟩), .pointer (some ⟨w.heap.size + 1, 0, none⟩), .int .i64 p.1, .int .i64 (norm p.2), .pointer (some ⟨g, 0, none⟩), .func (.func 102) #[] #[.pointer (some ⟨w.heap.size + 1 + 1, 0, none⟩)], .int .i64 p.1, .int .i64 (norm p.2), undef, undef, undef, undef], defers := [] }) ?assign ?body ?done ?stop
  case assign =>
    intro l p W K hK
    simp only [encs]
    gi_wp2
    simpa [encs] using hK
  case body =>
    rintro l pre p W ⟨⟨hp, hcw, hcr, hfr⟩, hB⟩ hlen
    cases hx : (p.1 == x)
    · gi_wp2
      exact ⟨KeepsOthers.refl _, Below.refl _ _, ⟨fun y hy => (List.mem_append.1 hy).elim (hp y) (fun e e' => by simp at e; subst e; rw [e'] at hx; simp at hx), hcw, hcr, hfr⟩, hB⟩
    · have hx' : p.1 = x := eq_of_beq hx
      have HX := Lib.hid hx'
      clear hx'
      gi_wp2
      exact ⟨KeepsOthers.setCell _ _ _, ⟨rfl, pre, p, rfl, hp, HX.out, World.cell?_setCell_same' _ _ _ (by rw [hcr]; rfl)⟩, hB.setCell (p := ⟨w.heap.size + 1, 0, none⟩) (by show _ ≤ w.heap.size + 1; omega) _⟩
  case done =>
    rintro D ys W hD rfl ⟨⟨hne, _, hcr, hfr⟩, hB⟩ hK
    have HNE := Lib.hid (atV_none hne)
    clear hne
    gi_wp2
    have hK' := (KeepsOthers.setCell W ⟨w.heap.size + 1, 0, none⟩ (.int .i64 (-1))).same D _ hK rfl
    refine ⟨by simp, .inl ⟨_, _, rfl, run_takeDeferred hK', ?_⟩⟩
    have hc5 := cell_kept (World.cell?_setCell_same' W ⟨w.heap.size + 1, 0, none⟩ (.int .i64 (-1)) (by rw [hcr]; rfl)) (grownBy_putObj' _ D (.deferred none)) (fun r e => by cases e; exact ⟨_, hK', rfl⟩)
    refine ⟨.int .i64 (-1), ?_, by rw [HNE.out], ?_⟩
    · simp [results, Try.f57, go_sem, hc5]
    · exact (hB.setCell (p := ⟨w.heap.size + 1, 0, none⟩) (by show _ ≤ w.heap.size + 1; omega) _).trans (belowK_b (w := w) (Nat.le_refl _) _ D _ _ (by simp at hD; omega) hK' rfl rfl)
  case stop =>
    rintro D c pre W hD hpre ⟨⟨rfl, qs, p, rfl, hq, rfl, hcr⟩, hB⟩ hK
    have hin : p ∈ rs.flatten := hpre.subset (by simp)
    obtain ⟨j, hj⟩ := mem_getD hin
    have hnm : norm p.2 = p.2 := norm_of (hT j p hj)
    have HA := Lib.hid (atV_hit hpre hq)
    have HN := Lib.hid hnm
    clear hnm
    gi_wp2
    refine ⟨by simp, .inl ⟨_, _, rfl, run_takeDeferred hK, ?_⟩⟩
    have hc5 := cell_kept hcr (grownBy_putObj' _ D (.deferred none)) (fun r e => by cases e; exact ⟨_, hK, rfl⟩)
    refine ⟨.int .i64 (norm p.2), ?_, by rw [HA.out, HN.out], hB.trans (belowK_b (w := w) (Nat.le_refl _) W D _ _ (by simp at hD; omega) hK rfl rfl)⟩
    simp [results, Try.f57, go_sem, hc5]
end Go.Proofs.Ytpghccbknlokcaa.Ring
