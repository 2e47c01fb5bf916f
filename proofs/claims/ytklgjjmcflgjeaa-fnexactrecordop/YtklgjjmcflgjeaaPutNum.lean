/-
  CONTRACTS of PutNum, the program's and the model's, over this seat's translation: the same bytes, in memory of one's own.
-/
import Derived.Test.YtklgjjmcflgjeaaTick
import Derived.Test.YtklgjjmcflgjeaaBytes
namespace Go.Proofs.Ytklgjjmcflgjeaa.Bytes
open Go.ChangeShapes Go.WideShapes Go.ChangeAt Go.RowKit
open Go.Proofs.Ytklgjjmcflgjeaa.Tick (inB in_t in_f l01In_any)
set_option linter.unusedVariables false

def numB (x : Int) : Bool := inB x 0 1099511627775
theorem num_t {x : Int} (h : numB x = true) : 0 ≤ x ∧ x ≤ 1099511627775 := in_t h
theorem num_f {x : Int} (h : numB x = false) : x < 0 ∨ 1099511627775 < x := in_f h
theorem num_of {x : Int} (h0 : 0 ≤ x) (h1 : x ≤ 1099511627775) : numB x = true := by simp [numB, inB, h0, h1]

/-- The groups of 7 bits, the lowest first. -/
def putN (x : Nat) : List Int := if x < 128 then [(x : Int)] else (((x % 128 : Nat) : Int) + 128) :: putN (x / 128)
termination_by x
theorem putN_lo {x : Nat} (h : x < 128) : putN x = [(x : Int)] := by rw [putN, if_pos h]
theorem putN_hi {x : Nat} (h : 128 ≤ x) : putN x = (((x % 128 : Nat) : Int) + 128) :: putN (x / 128) := by rw [putN, if_neg (by omega)]
theorem putN_in (x : Nat) : ∀ y ∈ putN x, 0 ≤ y ∧ y < 256 := by
  induction x using Nat.strongRecOn with
  | _ x ih =>
    intro y hy
    by_cases h : x < 128
    · rw [putN_lo h] at hy
      simp at hy
      omega
    · rw [putN_hi (by omega)] at hy
      rcases List.mem_cons.mp hy with h1 | h1
      · omega
      · exact ih (x / 128) (by omega) y h1
theorem putN_len (k : Nat) : ∀ x : Nat, x < 128 ^ (k + 1) → (putN x).length ≤ k + 1 := by
  induction k with
  | zero => intro x h; rw [putN_lo (by simpa using h)]; simp
  | succ k ih =>
    intro x h
    by_cases h1 : x < 128
    · rw [putN_lo h1]; simp
    · rw [putN_hi (by omega), List.length_cons]
      have := ih (x / 128) (by rw [Nat.div_lt_iff_lt_mul (by omega)]; rw [← Nat.pow_succ]; exact h)
      omega
theorem putN_len6 {x : Nat} (h : (x : Int) ≤ 1099511627775) : (putN x).length ≤ 6 := putN_len 5 x (by omega)
theorem putN_pos (x : Nat) : 0 < (putN x).length := by
  by_cases h1 : x < 128
  · rw [putN_lo h1]; simp
  · rw [putN_hi (by omega)]; simp
def putV (x : Int) : List Int := if numB x then putN x.toNat else []
theorem putV_t {x : Int} (h : numB x = true) : putV x = putN x.toNat := by simp [putV, h]
theorem putV_f {x : Int} (h : numB x = false) : putV x = [] := by simp [putV, h]
theorem putV_len (x : Int) : (putV x).length ≤ 6 := by
  cases h : numB x
  · rw [putV_f h]; simp
  · rw [putV_t h]; have := num_t h; exact putN_len6 (by omega)
theorem putV_in (x : Int) : ∀ y ∈ putV x, 0 ≤ y ∧ y < 256 := by
  cases h : numB x
  · rw [putV_f h]; intro y hy; simp at hy
  · rw [putV_t h]; exact putN_in _

/-- What a maker of bytes leaves: bytes of one's own; nothing older has turned. -/
def AnsB (w : World) (bs : List Int) (e : Ending) (w' : World) : Prop :=
  ∃ A n c, e = .returned (.slice A n c) ∧ OwnB w' w.heap.size A n c bs ∧ Below w.heap.size w w'

theorem lit_news {w : World} {ad : Addr} {x : Value} (h : w.cell? ad = some x) : ∀ j u, [x][j]? = some u → w.cell? (ad.add j) = some u := by
  intro j u hu
  cases j with
  | zero =>
    have hx : x = u := by simpa using hu
    subst hx
    simpa [Addr.add] using h
  | succ j => simp at hu

theorem numberOk_any (x : Int) (w : World) :
    Calls Try.prog 53 #[.int .i64 x] w fun e w' => e = .returned (.bool (numB x)) ∧ w = w' := by
  unfold numB inB
  by_cases h0 : 0 ≤ x
  · by_cases h1 : x ≤ 1099511627775
    · go_enter Try.func53, Try.ntmps53
      go_wp2
      go_ret
      exact ⟨by simp [h0, h1], rfl⟩
    · go_enter Try.func53, Try.ntmps53
      go_wp2
      go_ret
      exact ⟨by simp [h1], rfl⟩
  · go_enter Try.func53, Try.ntmps53
    go_wp2
    go_ret
    exact ⟨by simp; omega, rfl⟩

theorem l03Number_any (x : Int) (w : World) :
    Calls Try.prog 51 #[.int .i64 x] w fun e w' => e = .returned (.bool (numB x)) ∧ w = w' := by
  go_enter Try.func51, Try.ntmps51
  go_wp2_with (go_at_call 32; refine (l01In_any _ _ _ _).mono ?_; rintro e w' ⟨rfl, rfl⟩)
  go_ret
  exact ⟨rfl, rfl⟩

theorem own_nil (w : World) (base : Nat) : OwnB w base none 0 0 [] := ⟨rfl, by simp, by refine ⟨rfl, .inl ⟨rfl, rfl⟩⟩⟩
theorem own_empty (w : World) : OwnB (w.alloc (.cells #[] 5)) w.heap.size (some ⟨w.heap.size, 0, none⟩) 0 0 [] :=
  ⟨rfl, by simp, World.ownsRow_lit w #[] 0 (Nat.le_refl _) (by unfold maxLen; omega) rfl⟩
theorem below_a1 (w : World) (o : Obj) : Below w.heap.size w (w.alloc o) := (Below.refl _ _).alloc (Nat.le_refl _) _


end Go.Proofs.Ytklgjjmcflgjeaa.Bytes
