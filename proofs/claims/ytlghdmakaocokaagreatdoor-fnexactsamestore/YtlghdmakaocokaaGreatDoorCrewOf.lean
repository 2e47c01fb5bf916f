/-
  THE PROGRAM'S crewOf over this seat's translation: a crew just of a fleet that is ok; and slices.Equal and slices.Clone at pods.
-/
import Derived.Test.YtlghdmakaocokaaGreatDoorCrew
import Derived.Laws.StructEq
import Derived.StillTailTactics
import Derived.Deep.RegionHeld3
namespace Go.Proofs.YtlghdmakaocokaaGreatDoor.Crew
open Go.ChangeShapes Go.WideShapes Go.ChangeAt Go.RowKit Go.Maps Go.Sort Go.Shelf
open Go.Proofs.YtlghdmakaocokaaGreatDoor.LK Go.Proofs.YtlghdmakaocokaaGreatDoor.Pods Go.Proofs.YtlghdmakaocokaaGreatDoor.FleetV Go.Proofs.YtlghdmakaocokaaGreatDoor.Has Go.Proofs.YtlghdmakaocokaaGreatDoor.Ints
open Go.Proofs.YtlghdmakaocokaaGreatDoor.Tick (inB in_t in_f tokB tok_t tok_f tickOk_any)
set_option linter.unusedVariables false

def eqb (x y : Pd) : Bool := x.1 == y.1 && x.2.1 == y.2.1 && x.2.2.1 == y.2.2.1 && x.2.2.2.1 == y.2.2.2.1 && x.2.2.2.2 == y.2.2.2.2
theorem eqb_iff (x y : Pd) : eqb x y = true ↔ x = y := by
  obtain ⟨a, b, c, d, e⟩ := x
  obtain ⟨a', b', c', d', e'⟩ := y
  simp [eqb]
  grind
set_option maxHeartbeats 1600000 in
theorem neqP : NeqAt Tryz.prog 51 (fun x => .agg (cells5 x).toArray) eqb := by
  refine ⟨fun x y w => ?_, GuardAt.agg _ (by kernel_rfl)⟩
  have u3 := Tryz.underlying3
  have a3 := Tryz.isAgg3
  have z3 := Tryz.sizeOf3
  have hS : Tryz.prog.underlying 51 = some (.struct (Tryz.prog.fieldsOf 51)) := by kernel_rfl
  have hp : Tryz.prog.stoodInHeld 51 = false := by kernel_rfl
  obtain ⟨a, b, c, d, e⟩ := x
  obtain ⟨a', b', c', d', e'⟩ := y
  simp only [cells5]
  rw [run_neq_struct, show (10000 : Nat) = 9999 + 1 from rfl, run_equalIn_agg w 9999 51 _ _ hS hp]
  simp only [Program.fieldsOf, Tryz.underlying51]
  go_simp
  by_cases h1 : a = a' <;> by_cases h2 : b = b' <;> by_cases h3 : c = c' <;> by_cases h4 : d = d' <;> by_cases h5 : e = e' <;> simp [eqb, h1, h2, h3, h4, h5]
theorem allEq_iff (xs ys : PList) : Lib.allEq eqb xs ys = true ↔ xs = ys := by
  induction xs generalizing ys with
  | nil => cases ys <;> simp [Lib.allEq]
  | cons x l ih => cases ys with
    | nil => simp [Lib.allEq]
    | cons y m => simp [Lib.allEq, ih, eqb_iff]
theorem pods_cells {w : World} {B n b off : Nat} {ps : PList} (h : IsPods w B (some ⟨b, off, none⟩) n ps) (hn : 0 < n) : ∀ j, j < ps.length → ∀ i v, (cells5 ps[j]!)[i]? = some v → w.cell? ⟨b, off + j * 5 + i, none⟩ = some v := by
  intro j hj i v hi
  obtain ⟨b', off', e, _, hc⟩ := h.2 hn
  injection e with e
  injection e with e1 e2
  subst e1 e2
  have h5 := hc j (by have := h.1; omega)
  have e : ps.getD j z5 = ps[j]! := by simp [List.getD, hj]
  rw [e] at h5
  clear e
  generalize ps[j]! = p at hi h5
  obtain ⟨h0, h1, h2, h3, h4⟩ := h5
  match i, hi with
  | 0, hi => simp [cells5] at hi; subst hi; simpa using h0
  | 1, hi => simp [cells5] at hi; subst hi; exact h1
  | 2, hi => simp [cells5] at hi; subst hi; exact h2
  | 3, hi => simp [cells5] at hi; subst hi; exact h3
  | 4, hi => simp [cells5] at hi; subst hi; exact h4
  | i + 5, hi => simp [cells5] at hi
set_option maxHeartbeats 1600000 in
theorem equal_any (A C : Option Addr) (n c m d : Nat) (xs ys : PList) (B B' : Nat) (w : World) (hx : IsPods w B A n xs) (hy : IsPods w B' C m ys) (hn : n ≤ 1048576) (hm : m ≤ 1048576) :
    Calls Tryz.prog 31 #[.slice A n c, .slice C m d] w fun e w' => e = .returned (.bool (decide (xs = ys))) ∧ ∃ q, w' = w.drewN q := by
  by_cases hnm : n = m
  · subst hnm
    by_cases h0 : 0 < n
    · obtain ⟨b, off, rfl, _⟩ := hx.2 h0
      obtain ⟨b', off', rfl, _⟩ := hy.2 h0
      have h := AnyQ.slices_Equal Tryz.equalP 5 Tryz.isAgg51 Tryz.sizeOf51 cells5 (fun _ => rfl) eqb neqP b off n c b' off' n d xs ys w (by rw [hx.1]; exact Nat.le_refl _) (by rw [hy.1]; exact Nat.le_refl _) (by omega) (by omega) (pods_cells hx h0) (pods_cells hy h0)
      change Calls Tryz.prog 31 _ _ _ at h
      refine h.mono ?_
      rintro e w' ⟨rfl, hq⟩
      refine ⟨?_, hq⟩
      rw [List.take_of_length_le (by rw [hx.1]; exact Nat.le_refl _), List.take_of_length_le (by rw [hy.1]; exact Nat.le_refl _)]
      congr 2
      rw [Bool.eq_iff_iff, allEq_iff]
      simp
    · have hx0 : xs = [] := List.eq_nil_of_length_eq_zero (by rw [hx.1]; omega)
      have hy0 : ys = [] := List.eq_nil_of_length_eq_zero (by rw [hy.1]; omega)
      subst hx0 hy0
      have hn0 : n = 0 := by omega
      subst hn0
      clear hx hy
      go_enter Tryz.func31, Tryz.ntmps31
      go_wp2_with fail
      go_loop [13] (fun i => i = .int .i64 (0 : Int)) (fun _ => 0)
      case atStart => rfl
      case round =>
        subst hrel
        go_wp2
        go_ret
        exact ⟨rfl, 0, rfl⟩
  · have hne : decide (xs = ys) = false := by
      simp only [decide_eq_false_iff_not]
      intro e
      exact hnm (hx.1.symm.trans (by rw [e]; exact hy.1))
    rw [hne]
    clear hx hy hne
    go_enter Tryz.func31, Tryz.ntmps31
    go_wp2
    go_ret
    exact ⟨rfl, 0, rfl⟩

theorem made_of {w w2 w3 : World} {lo : Nat} {S : Nat → Prop} {A : Option Addr} {n c : Nat} {ps : PList} {x : Int} (hb : Below w.heap.size w w2) (hO : OwnP w2 lo A n c ps) (hlo : w.heap.size ≤ lo) (hS : ∀ k, S k → w.heap.size ≤ k ∧ k < lo) (ht : Turned S w2 w3) :
    Made FleetTy.fty (ps, x) w (.returned (.agg #[.slice A n c, .int .i64 x])) w3 := by
  have hz := ht.size
  have hl := hO.1
  subst hl
  refine ⟨_, fun k => w.heap.size ≤ k ∧ k < w3.heap.size, rfl, ⟨⟨A, c, rfl, hO.zero.same fun k hk => ht.block k (hO.lt k hk).2 (fun e => by have := hO.lt k hk; have := hS k e; omega), fun k hk => ?_⟩, fun k hk => hk, Nat.le_refl _⟩, Turned.low hb ht (fun k hk => (hS k hk).1) hb.size⟩
  have := hO.lt k hk
  exact ⟨by omega, by omega⟩
end Go.Proofs.YtlghdmakaocokaaGreatDoor.Crew
