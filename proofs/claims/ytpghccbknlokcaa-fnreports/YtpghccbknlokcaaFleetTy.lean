/-
  FLEETS (a list of pods and a number) as a kind of data: the contracts of the laws' toFleet, szFleet, eqFleet, markFleet, heldFleet over this seat's translation; and how a fleet comes in as an argument of a law.
-/
import Derived.Test.YtpghccbknlokcaaPods
import Derived.Test.YtpghccbknlokcaaRec
import Derived.Test.YtpghccbknlokcaaFlatOpen
namespace Go.Proofs.Ytpghccbknlokcaa.FleetTy
open Go.ChangeShapes Go.WideShapes Go.ChangeAt Go.RowKit Go.Joins Go.Deep
open Go.Proofs.Ytpghccbknlokcaa.LK Go.Proofs.Ytpghccbknlokcaa.Pods
set_option linter.unusedVariables false

/-- Pods, Next. -/
abbrev FD := PList × Int
def FRd (w : World) (B : Nat) (v : Value) (d : FD) : Prop := ∃ A c, v = .agg #[.slice A d.1.length c, .int .i64 d.2] ∧ IsPods w B A d.1.length d.1
def FOwn (w : World) (S : Nat → Prop) (v : Value) (d : FD) : Prop := ∃ A c, v = .agg #[.slice A d.1.length c, .int .i64 d.2] ∧ OwnP w 0 A d.1.length c d.1 ∧ (∀ k, (Value.slice A d.1.length c).ownBlock = some k → S k)
def fty : Ty where
  D := FD
  Rd := FRd
  Own := FOwn
  Few := fun d => d.1.length ≤ 1048576
  cnt := fun d => 5 * d.1.length
  mark := fun k d => (marksP k d.1.length, d.2)
  rd_below := by
    rintro w w' B C v d ⟨A, c, rfl, h1⟩ hb hC
    exact ⟨A, c, rfl, h1.below hb hC⟩
  own_rd := by
    rintro w S v d B ⟨A, c, rfl, h1, s1⟩ hB
    exact ⟨A, c, rfl, h1.pods (fun k hk => hB k (s1 k hk))⟩
  own_same := by
    rintro w w' S v d ⟨A, c, rfl, h1, s1⟩ hs
    exact ⟨A, c, rfl, h1.same (fun k hk => hs k (s1 k hk)), s1⟩
  few_cnt := by intro d h; omega
theorem shape {w : World} {lo hi : Nat} {S : Nat → Prop} {v : Value} {d : FD} (h : Has fty w lo hi S v d) : ∃ A n c x, v = .agg #[.slice A n c, .int .i64 x] := by
  obtain ⟨A, c, e, _⟩ := h.own
  exact ⟨_, _, _, _, e⟩
/-- An own list in new memory, and a number: a fleet of one's own. -/
theorem has_of {w w' : World} {lo : Nat} {A : Option Addr} {c : Nat} {ps : PList} {x : Int} (h : OwnP w' lo A ps.length c ps) (hlo : lo ≤ w'.heap.size) : Has fty w' lo w'.heap.size (fun k => lo ≤ k ∧ k < w'.heap.size) (.agg #[.slice A ps.length c, .int .i64 x]) (ps, x) :=
  ⟨⟨A, c, rfl, h.zero, fun k hk => h.lt k hk⟩, fun k hk => hk, Nat.le_refl _⟩
theorem made_of {w w2 w3 : World} {lo : Nat} {S : Nat → Prop} {A : Option Addr} {n c : Nat} {ps : PList} {x : Int} (hb : Below w.heap.size w w2) (hO : OwnP w2 lo A n c ps) (hlo : w.heap.size ≤ lo) (hS : ∀ k, S k → w.heap.size ≤ k ∧ k < lo) (ht : Turned S w2 w3) :
    Made fty (ps, x) w (.returned (.agg #[.slice A n c, .int .i64 x])) w3 := by
  have hz := ht.size
  have hl := hO.1
  subst hl
  refine ⟨_, fun k => w.heap.size ≤ k ∧ k < w3.heap.size, rfl, ⟨⟨A, c, rfl, hO.zero.same fun k hk => ht.block k (hO.lt k hk).2 (fun e => by have := hO.lt k hk; have := hS k e; omega), fun k hk => ?_⟩, fun k hk => hk, Nat.le_refl _⟩, Turned.low hb ht (fun k hk => (hS k hk).1) hb.size⟩
  have := hO.lt k hk
  exact ⟨by omega, by omega⟩
theorem own_app {w' : World} {base n : Nat} {v' : Value} {ps : PList} {p : Pd} (hl : ps.length = n) (h : w'.ownsRow base 52 5 v' (n + 1) (flat ps ++ cells5 p)) : ∃ A c, v' = .slice A (n + 1) c ∧ OwnP w' base A (n + 1) c (ps ++ [p]) := by
  obtain ⟨g, cap, rfl, _⟩ := h.form (by omega)
  exact ⟨_, _, rfl, by simp [hl], by rw [flat_app, flat_one]; exact h⟩
end Go.Proofs.Ytpghccbknlokcaa.FleetTy
