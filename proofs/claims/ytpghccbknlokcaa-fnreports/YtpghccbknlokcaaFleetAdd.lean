/-
  AddPod, the model's and the program's, over this seat's translation.
-/
import Derived.Test.YtpghccbknlokcaaFleetTop
import Derived.Test.YtpghccbknlokcaaFleetSpec2
namespace Go.Proofs.Ytpghccbknlokcaa.Crew
open Go.ChangeShapes Go.WideShapes Go.ChangeAt Go.RowKit Go.Maps Go.Sort Go.Shelf
open Go.Proofs.Ytpghccbknlokcaa.LK Go.Proofs.Ytpghccbknlokcaa.Pods Go.Proofs.Ytpghccbknlokcaa.FleetV Go.Proofs.Ytpghccbknlokcaa.Has Go.Proofs.Ytpghccbknlokcaa.Ints
open Go.Proofs.Ytpghccbknlokcaa.Tick (inB in_t in_f tokB tok_t tok_f tickOk_any)
set_option linter.unusedVariables false

theorem made_own {ps : PList} {x : Int} {W w' : World} {e : Ending} (h : Made FleetTy.fty (ps, x) W e w') : ∃ A c, e = .returned (.agg #[.slice A ps.length c, .int .i64 x]) ∧ OwnP w' W.heap.size A ps.length c ps ∧ Below W.heap.size W w' := by
  obtain ⟨v', S, rfl, ⟨⟨A, c, rfl, hO, hS⟩, hin, _⟩, hb⟩ := h
  exact ⟨A, c, rfl, hO.base (fun k hk => (hin k (hS k hk)).1), hb⟩
theorem made1_of {w w2 w3 : World} {lo : Nat} {S : Nat → Prop} {A : Option Addr} {n c : Nat} {ps : PList} {x : Int} {y : Value} (hb : Below w.heap.size w w2) (hO : OwnP w2 lo A n c ps) (hlo : w.heap.size ≤ lo) (hS : ∀ k, S k → w.heap.size ≤ k ∧ k < lo) (ht : Turned S w2 w3) :
    Made1 FleetTy.fty (ps, x) y w (.returned (.tuple #[.agg #[.slice A n c, .int .i64 x], y])) w3 := by
  obtain ⟨v', S', e, H, hb'⟩ := FleetTy.made_of (x := x) hb hO hlo hS ht
  injection e with e
  subst e
  exact ⟨_, S', rfl, H, hb'⟩

def AddOk (ps : PList) (nx rev now : Int) : Prop := FGood ps nx ∧ (1 ≤ rev ∧ rev ≤ 1000) ∧ (0 ≤ now ∧ now ≤ 1000000000) ∧ ps.length < 30 ∧ nx < 1000000000
instance (ps : PList) (nx rev now : Int) : Decidable (AddOk ps nx rev now) := by unfold AddOk; infer_instance
def addD (d : PList × Int) (rev now : Int) : PList × Int := if AddOk d.1 d.2 rev now then (d.1 ++ [(d.2, rev, 0, 0, now)], d.2 + 1) else d
def addV (d : PList × Int) (rev now : Int) : Int := if AddOk d.1 d.2 rev now then d.2 else 0
theorem add_yes {ps : PList} {nx rev now : Int} (h : AddOk ps nx rev now) : addD (ps, nx) rev now = (ps ++ [(nx, rev, 0, 0, now)], nx + 1) ∧ addV (ps, nx) rev now = nx := ⟨if_pos h, if_pos h⟩
theorem add_no {ps : PList} {nx rev now : Int} (h : ¬ AddOk ps nx rev now) : addD (ps, nx) rev now = (ps, nx) ∧ addV (ps, nx) rev now = 0 := ⟨if_neg h, if_neg h⟩
theorem few_add {d : PList × Int} (rev now : Int) (h : FleetTy.fty.Few d) : FleetTy.fty.Few (addD d rev now) := by
  obtain ⟨ps, nx⟩ := d
  by_cases hA : AddOk ps nx rev now
  · rw [(add_yes hA).1]
    have := hA.2.2.2.1
    show (ps ++ [_]).length ≤ 1048576
    simp
    omega
  · rw [(add_no hA).1]; exact h
theorem good_app {ps : PList} {nx rev now : Int} (h : FGood ps nx) : FGood (ps ++ [(nx, rev, 0, 0, now)]) (nx + 1) ↔ AddOk ps nx rev now := by
  constructor
  · intro g
    have h1 := g.1
    have h2 := g.2.1
    obtain ⟨⟨_, h4, _, _, h5⟩, _⟩ := g.2.2.1 (nx, rev, 0, 0, now) (by simp)
    simp at h1 h4 h5
    exact ⟨h, h4, h5, by omega, by omega⟩
  · intro a
    obtain ⟨_, h1, h2, h3, h4⟩ := a
    refine ⟨by simp; omega, by have := h.2.1; omega, fun p hp => ?_, ?_⟩
    · rcases List.mem_append.1 hp with hp | hp
      · have := h.2.2.1 p hp
        exact ⟨this.1, by omega⟩
      · obtain rfl : p = (nx, rev, 0, 0, now) := by simpa using hp
        have := h.2.1
        exact ⟨⟨⟨by show 1 ≤ nx; omega, by show nx ≤ _; omega⟩, h1, ⟨by show (0 : Int) ≤ 0; omega, by show (0 : Int) ≤ 4; omega⟩, ⟨by show (0 : Int) ≤ 0; omega, by show (0 : Int) ≤ 1000000000; omega⟩, h2⟩, by show nx < nx + 1; omega⟩
    · refine List.pairwise_append.2 ⟨h.2.2.2, by simp, fun a ha b hb => ?_⟩
      obtain rfl : b = (nx, rev, 0, 0, now) := by simpa using hb
      exact (h.2.2.1 a ha).2

end Go.Proofs.Ytpghccbknlokcaa.Crew
