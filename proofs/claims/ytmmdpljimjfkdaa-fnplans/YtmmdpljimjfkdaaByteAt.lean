/-
  THE CONTRACTS of the laws' big and at over this seat's translation: at answers some number from 0 to 255.
-/
import Derived.Test.YtmmdpljimjfkdaaInts
import Derived.Laws.BitsLemmas
import Derived.Lib.Hide
namespace Go.Proofs.Ytmmdpljimjfkdaa.Ints
open Go.ChangeShapes Go.WideShapes Go.ChangeAt Go.RowKit
set_option linter.unusedVariables false

/-- The slice at A of length n holds bytes, in a block below B. -/
def IsB (w : World) (B : Nat) (A : Option Addr) (n : Nat) : Prop := 0 < n → ∃ b off, A = some ⟨b, off, none⟩ ∧ b < B ∧ ∀ j, j < n → ∃ v : Int, w.cell? ⟨b, off + j, none⟩ = some (.int .u8 v) ∧ 0 ≤ v ∧ v < 256
theorem IsB.below {w w' : World} {B C : Nat} {A : Option Addr} {n : Nat} (h : IsB w B A n) (hb : Below C w w') (hC : B ≤ C) : IsB w' B A n := fun hn => by
  obtain ⟨b, off, e, hlt, hc⟩ := h hn
  refine ⟨b, off, e, hlt, fun j hj => ?_⟩
  obtain ⟨v, h1, h2⟩ := hc j hj
  exact ⟨v, (hb.cell (p := ⟨b, off + j, none⟩) (by show b < C; omega)).trans h1, h2⟩

theorem big_any (A : Option Addr) (n c : Nat) (w : World) :
    Calls Try.prog 14 #[.slice A n c] w fun e w' => e = .returned (.bool (decide ((1048576 : Int) < n))) ∧ w = w' := by
  go_enter Try.func14, Try.ntmps14
  go_wp2
  go_ret
  exact ⟨rfl, rfl⟩

end Go.Proofs.Ytmmdpljimjfkdaa.Ints
