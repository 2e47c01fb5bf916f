/-
  THE CONTRACT of the program's TakeFrame over this seat's translation.
-/
import Derived.Test.YtpghccbknlokcaaDoorRecord
import Derived.Deep.RegionWith
namespace Go.Proofs.YtpghccbknlokcaaDoor.Rd
open Go.ChangeShapes Go.WideShapes Go.ChangeAt Go.RowKit
open Go.Proofs.YtpghccbknlokcaaDoor.Ints (below_drewN)
open Go.Proofs.YtpghccbknlokcaaDoor.Has (OwnI)
open Go.Proofs.YtpghccbknlokcaaDoor.Bytes (IsBytes)
open Go.Proofs.YtpghccbknlokcaaDoor.Rec (grown_set below_a1 blk2 ownI_base Box below_alloc1)
set_option linter.unusedVariables false
set_option linter.unusedSimpArgs false

def frR (bs : List Int) (a : Int) : RecR := if 0 ≤ a ∧ a ≤ bs.length then recR bs a.toNat else .bent
def frK (bs : List Int) (a : Int) : Int := match frR bs a with | .ok kd _ _ => kd | _ => 0
def frZ (bs : List Int) (a : Int) : List Int := match frR bs a with | .ok _ zs _ => zs | _ => []
def frP (bs : List Int) (a : Int) : Int := match frR bs a with | .ok _ _ q => (q : Int) | _ => -1
theorem fr_in {bs : List Int} {p : Nat} (h : p ≤ bs.length) : frR bs p = recR bs p := by rw [frR, if_pos (by omega), Int.toNat_natCast]
theorem fr_out {bs : List Int} {a : Int} (h : a < 0 ∨ bs.length < a) : frR bs a = .bent := by rw [frR, if_neg (by omega)]
theorem fr_ok {bs : List Int} {a : Int} {kd : Int} {zs : List Int} {q : Nat} (h : frR bs a = .ok kd zs q) : frK bs a = kd ∧ frZ bs a = zs ∧ frP bs a = q := by
  unfold frK frZ frP; rw [h]; exact ⟨rfl, rfl, rfl⟩
theorem fr_no {bs : List Int} {a : Int} (h : frR bs a = .torn ∨ frR bs a = .bent) : frK bs a = 0 ∧ frZ bs a = [] ∧ frP bs a = -1 := by
  unfold frK frZ frP; rcases h with h | h <;> rw [h] <;> exact ⟨rfl, rfl, rfl⟩

/-- What a function that answers a record and a place leaves. -/
def AnsR (w : World) (kd : Int) (zs : List Int) (q : Int) (e : Ending) (w' : World) : Prop :=
  ∃ A c, e = .returned (.tuple #[.agg #[.int .i64 kd, .slice A zs.length c], .int .i64 q]) ∧ OwnI w' w.heap.size A zs.length c zs ∧ Below w.heap.size w w'

theorem ownI_nil (w : World) (b : Nat) : OwnI w b none 0 0 [] := ⟨rfl, by refine ⟨rfl, .inl ⟨rfl, rfl⟩⟩⟩

end Go.Proofs.YtpghccbknlokcaaDoor.Rd
