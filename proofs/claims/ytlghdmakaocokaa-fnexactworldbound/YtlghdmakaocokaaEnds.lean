/-
  THE WAY OF A PLAN on numbers: from Replicas old pods, a plan done at a time, to the end; how many steps it takes, for every spec's three numbers.
-/
import Derived.Test.YtlghdmakaocokaaCnt
namespace Go.Proofs.Ytlghdmakaocokaa.Ends
open Go.Proofs.Ytlghdmakaocokaa.Sp Go.Proofs.Ytlghdmakaocokaa.Cnt
open Go.Proofs.Ytlghdmakaocokaa.Tick (inB in_t)
set_option linter.unusedVariables false
def isOver (r : Int) (q : Int × Int) : Bool := decide (q.1 = r) && decide (q.2 = 0)
def nextQ (r s u : Int) (q : Int × Int) : Int × Int := (q.1 + crV r s q.1 q.2 0 r, q.2 - drV r q.2 q.2 r - daV r u q.1 q.2 q.2 r)
def fine (q : Int × Int) : Bool := inB q.1 0 30 && inB q.2 0 30
def goes (r s u : Int) (q : Int × Int) : Bool := !decide (crV r s q.1 q.2 0 r + drV r q.2 q.2 r + daV r u q.1 q.2 q.2 r = 0)
/-- n steps lead from q to the end, and each of them does something, ahead of the end. -/
def Way (r s u : Int) : Nat → Int × Int → Prop
  | 0, q => isOver r q = true ∧ fine q = true
  | n + 1, q => isOver r q = false ∧ fine q = true ∧ goes r s u q = true ∧ Way r s u n (nextQ r s u q)
def chk (r s u : Int) : Nat → Int × Int → Bool
  | 0, q => isOver r q && fine q
  | m + 1, q => fine q && (isOver r q || (goes r s u q && chk r s u m (nextQ r s u q)))
def steps (r s u : Int) : Nat → Int × Int → Nat
  | 0, _ => 0
  | m + 1, q => if isOver r q then 0 else steps r s u m (nextQ r s u q) + 1
theorem chk_way (r s u : Int) : ∀ m q, chk r s u m q = true → Way r s u (steps r s u m q) q ∧ steps r s u m q ≤ m := by
  intro m
  induction m with
  | zero => intro q h; simp only [chk, Bool.and_eq_true] at h; exact ⟨h, Nat.le_refl _⟩
  | succ m ih =>
    intro q h
    simp only [chk, Bool.and_eq_true, Bool.or_eq_true] at h
    obtain ⟨hf, h⟩ := h
    simp only [steps]
    by_cases ho : isOver r q = true
    · rw [if_pos ho]; exact ⟨⟨ho, hf⟩, Nat.zero_le _⟩
    · rw [if_neg ho]
      rcases h with h | ⟨hg, hc⟩
      · exact absurd h ho
      · obtain ⟨h1, h2⟩ := ih _ hc
        exact ⟨⟨by simpa using ho, hf, hg, h1⟩, by omega⟩
def okAll : Bool := (List.range 13).all fun r => (List.range 13).all fun s => (List.range 13).all fun u => !(decide (1 ≤ r) && decide (s ≤ r) && decide (u ≤ r) && decide (0 < s + u)) || chk (r : Int) (s : Int) (u : Int) (2 * r + 1) (0, (r : Int))
theorem okAll_is : okAll = true := by kernel_rfl
theorem chk_all {r s u : Nat} (h1 : 1 ≤ r) (h12 : r ≤ 12) (hs : s ≤ r) (hu : u ≤ r) (hp : 0 < s + u) : chk (r : Int) (s : Int) (u : Int) (2 * r + 1) (0, (r : Int)) = true := by
  have h := okAll_is
  unfold okAll at h
  rw [List.all_eq_true] at h
  have h2 := h r (List.mem_range.2 (by omega))
  rw [List.all_eq_true] at h2
  have h3 := h2 s (List.mem_range.2 (by omega))
  rw [List.all_eq_true] at h3
  have h4 := h3 u (List.mem_range.2 (by omega))
  simpa [h1, hs, hu, hp] using h4
def stepN (r s u : Int) : Nat := steps r s u (2 * r + 1).toNat (0, r)
theorem way_all {x0 x1 x2 x3 x4 x5 x6 x7 x8 x9 x10 : Int} (h : specB x0 x1 x2 x3 x4 x5 x6 x7 x8 x9 x10 = true) : Way x0 x1 x2 (stepN x0 x1 x2) (0, x0) ∧ (stepN x0 x1 x2 : Int) ≤ 2 * x0 + 1 := by
  have hb := specB_t h
  obtain ⟨r, rfl⟩ : ∃ r : Nat, x0 = (r : Int) := ⟨x0.toNat, by omega⟩
  obtain ⟨s, rfl⟩ : ∃ r : Nat, x1 = (r : Int) := ⟨x1.toNat, by omega⟩
  obtain ⟨u, rfl⟩ : ∃ r : Nat, x2 = (r : Int) := ⟨x2.toNat, by omega⟩
  have h1 := chk_way (r : Int) (s : Int) (u : Int) (2 * r + 1) (0, (r : Int)) (chk_all (by omega) (by omega) (by omega) (by omega) (by omega))
  have he : (2 * (r : Int) + 1).toNat = 2 * r + 1 := by omega
  unfold stepN
  rw [he]
  exact ⟨h1.1, by omega⟩
def stepsV (x0 x1 x2 x3 x4 x5 x6 x7 x8 x9 x10 : Int) : Int := if specB x0 x1 x2 x3 x4 x5 x6 x7 x8 x9 x10 then (stepN x0 x1 x2 : Int) else -1
end Go.Proofs.Ytlghdmakaocokaa.Ends
