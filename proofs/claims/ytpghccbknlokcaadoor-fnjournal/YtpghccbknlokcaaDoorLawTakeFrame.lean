/-
  THE WALK of laws.FnExactTakeFrame over this seat's translation: it answers true and turns nothing that was there.
-/
import Derived.Test.YtpghccbknlokcaaDoorSpecFrame
namespace Go.Proofs.YtpghccbknlokcaaDoor.Rd
open Go.ChangeShapes Go.WideShapes Go.ChangeAt Go.RowKit
open Go.Proofs.YtpghccbknlokcaaDoor.Ints (below_drewN IsInts)
open Go.Proofs.YtpghccbknlokcaaDoor.Has (OwnI)
open Go.Proofs.YtpghccbknlokcaaDoor.Bytes (IsBytes OwnB toByteS_any eqByteS_same markByteS_any)
set_option linter.unusedVariables false
set_option linter.unusedSimpArgs false

theorem numsA_len {bs : List Int} {zs : List Int} {q : Nat} : ∀ (m p : Nat) (acc : List Int), numsA bs m p acc = .ok zs q → zs.length = acc.length + m
  | 0, p, acc, h => by
    rw [numsA] at h
    injection h with h1 h2
    rw [← h1]; rfl
  | m + 1, p, acc, h => by
    generalize hnr : numR bs p = nr
    cases nr with
    | ok x r =>
      rw [numsA_ok hnr] at h
      have := numsA_len m r _ h
      rw [this, List.length_append]
      simp
      omega
    | torn => rw [numsA_torn hnr] at h; cases h
    | bent => rw [numsA_bent hnr] at h; cases h
theorem recR_len {bs : List Int} {p q : Nat} {kd : Int} {zs : List Int} (h : recR bs p = .ok kd zs q) : zs.length ≤ 12 := by
  unfold recR at h
  split at h
  · cases h
  · split at h
    · cases h
    · split at h
      · cases h
      · split at h
        · cases h
        · next h12 =>
          generalize hna : numsA bs (bs.getD (p + 1) 0).toNat (p + 2) [] = na at h
          cases na with
          | ok acc r =>
            have hl := numsA_len _ _ _ hna
            have : zs = acc := by
              have h' : tailR bs p r (bs.getD p 0) acc = .ok kd zs q := h
              clear h
              have h := h'
              clear h'
              unfold tailR at h
              split at h
              · cases h
              · split at h
                · cases h
                · split at h
                  · cases h
                  · split at h
                    · cases h
                    · injection h with _ h _; exact h.symm
            rw [this, hl, List.length_nil]
            omega
          | torn => cases h
          | bent => cases h
theorem frZ_len (bs : List Int) (a : Int) : (frZ bs a).length ≤ 12 := by
  generalize hf : frR bs a = f
  cases f with
  | ok kd zs q =>
    rw [(fr_ok hf).2.1]
    unfold frR at hf
    split at hf
    · exact recR_len hf
    · cases hf
  | torn => rw [(fr_no (.inl hf)).2.1]; simp
  | bent => rw [(fr_no (.inr hf)).2.1]; simp

theorem errs_up {w : World} {B C : Nat} {aT aB aO : Addr} (h : Errs B w aT aB aO) (hC : B ≤ C) : Errs C w aT aB aO := ⟨⟨Nat.lt_of_lt_of_le h.lt.1 hC, Nat.lt_of_lt_of_le h.lt.2.1 hC, Nat.lt_of_lt_of_le h.lt.2.2 hC⟩, h.cT, h.cB, h.cO⟩

end Go.Proofs.YtpghccbknlokcaaDoor.Rd
