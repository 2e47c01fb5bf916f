/-
  FLEETS (a list of pods and a number) as a kind of data: the contracts of the laws' toFleet, szFleet, eqFleet, markFleet, heldFleet over this seat's translation; and how a fleet comes in as an argument of a law.
-/
import Derived.Test.YtklgjjmcflgjeaaPods
import Derived.Test.YtklgjjmcflgjeaaRec
import Derived.Test.YtklgjjmcflgjeaaFlatOpen
namespace Go.Proofs.Ytklgjjmcflgjeaa.FleetTy
open Go.ChangeShapes Go.WideShapes Go.ChangeAt Go.RowKit Go.Joins Go.Deep
open Go.Proofs.Ytklgjjmcflgjeaa.LK Go.Proofs.Ytklgjjmcflgjeaa.Pods
set_option linter.unusedVariables false

/-- Pods, Next. -/
abbrev FD := PList × Int
def FRd (w : World) (B : Nat) (v : Value) (d : FD) : Prop := ∃ A c, v = .agg #[.slice A d.1.length c, .int .i64 d.2] ∧ IsPods w B A d.1.length d.1
def FOwn (w : World) (S : Nat → Prop) (v : Value) (d : FD) : Prop := ∃ A c, v = .agg #[.slice A d.1.length c, .int .i64 d.2] ∧ OwnP w 0 A d.1.length c d.1 ∧ (∀ k, (Value.slice A d.1.length c).ownBlock = some k → S k)
def fty : Ty where
  D := FD
  Rd := FRd
  Own := FOwn
  Few := fun d => d.1.length ≤ 1048576
  cnt := fun d => 5 * d.1.length
  mark := fun k d => (marksP k d.1.length, d.2)
  rd_below := by
    rintro w w' B C v d ⟨A, c, rfl, h1⟩ hb hC
    exact ⟨A, c, rfl, h1.below hb hC⟩
  own_rd := by
    rintro w S v d B ⟨A, c, rfl, h1, s1⟩ hB
    exact ⟨A, c, rfl, h1.pods (fun k hk => hB k (s1 k hk))⟩
  own_same := by
    rintro w w' S v d ⟨A, c, rfl, h1, s1⟩ hs
    exact ⟨A, c, rfl, h1.same (fun k hk => hs k (s1 k hk)), s1⟩
  few_cnt := by intro d h; omega
theorem shape {w : World} {lo hi : Nat} {S : Nat → Prop} {v : Value} {d : FD} (h : Has fty w lo hi S v d) : ∃ A n c x, v = .agg #[.slice A n c, .int .i64 x] := by
  obtain ⟨A, c, e, _⟩ := h.own
  exact ⟨_, _, _, _, e⟩
/-- An own list in new memory, and a number: a fleet of one's own. -/
theorem has_of {w w' : World} {lo : Nat} {A : Option Addr} {c : Nat} {ps : PList} {x : Int} (h : OwnP w' lo A ps.length c ps) (hlo : lo ≤ w'.heap.size) : Has fty w' lo w'.heap.size (fun k => lo ≤ k ∧ k < w'.heap.size) (.agg #[.slice A ps.length c, .int .i64 x]) (ps, x) :=
  ⟨⟨A, c, rfl, h.zero, fun k hk => h.lt k hk⟩, fun k hk => hk, Nat.le_refl _⟩
theorem made_of {w w2 w3 : World} {lo : Nat} {S : Nat → Prop} {A : Option Addr} {n c : Nat} {ps : PList} {x : Int} (hb : Below w.heap.size w w2) (hO : OwnP w2 lo A n c ps) (hlo : w.heap.size ≤ lo) (hS : ∀ k, S k → w.heap.size ≤ k ∧ k < lo) (ht : Turned S w2 w3) :
    Made fty (ps, x) w (.returned (.agg #[.slice A n c, .int .i64 x])) w3 := by
  have hz := ht.size
  have hl := hO.1
  subst hl
  refine ⟨_, fun k => w.heap.size ≤ k ∧ k < w3.heap.size, rfl, ⟨⟨A, c, rfl, hO.zero.same fun k hk => ht.block k (hO.lt k hk).2 (fun e => by have := hO.lt k hk; have := hS k e; omega), fun k hk => ?_⟩, fun k hk => hk, Nat.le_refl _⟩, Turned.low hb ht (fun k hk => (hS k hk).1) hb.size⟩
  have := hO.lt k hk
  exact ⟨by omega, by omega⟩
theorem own_app {w' : World} {base n : Nat} {v' : Value} {ps : PList} {p : Pd} (hl : ps.length = n) (h : w'.ownsRow base 84 5 v' (n + 1) (flat ps ++ cells5 p)) : ∃ A c, v' = .slice A (n + 1) c ∧ OwnP w' base A (n + 1) c (ps ++ [p]) := by
  obtain ⟨g, cap, rfl, _⟩ := h.form (by omega)
  exact ⟨_, _, rfl, by simp [hl], by rw [flat_app, flat_one]; exact h⟩
set_option maxHeartbeats 800000 in
theorem eqFleet_any : EqC 46 fty := by
  rintro w B B' v v' ⟨ps, x⟩ ⟨A, c, rfl, h1⟩ ⟨C, e, rfl, g1⟩ hB hB' hf
  have hf : ps.length ≤ 1048576 := hf
  obtain ⟨n, hn⟩ : ∃ n, n = ps.length := ⟨_, rfl⟩
  simp only [← hn] at h1 g1 hf ⊢
  have H1 := Lib.hid h1
  have G1 := Lib.hid g1
  clear h1 g1 hn
  go_enter Try.func46, Try.ntmps46
  go_wp2_with fail
  refine (eqPodS_same A C n c e ps B B' _ (H1.out.below (bel2 _ _ _) hB) (G1.out.below (bel2 _ _ _) hB') (by simp; omega) (by simp; omega) hf).mono ?_
  rintro e2 w2 ⟨rfl, hb2⟩
  have hbw : Below w.heap.size w w2 := (bel2 w _ _).trans (hb2.mono (by simp; omega))
  have m0 := cell_keep hb2 (show World.cell? _ ⟨w.heap.size, 1, none⟩ = some (.int .i64 x) from by simp)
  have m1 := cell_keep hb2 (show World.cell? _ ⟨w.heap.size + 1, 1, none⟩ = some (.int .i64 x) from by simp)
  have HB := Lib.hid hbw
  clear hb2 hbw
  go_wp2
  go_ret
  exact ⟨rfl, HB.out⟩
set_option maxHeartbeats 800000 in
theorem markFleet_any : MarkC 48 fty := by
  rintro w lo hi S v ⟨ps, x⟩ k ⟨⟨A, c, rfl, h1, s1⟩, hin, hhi⟩ hf hk0 hk1
  have hf : ps.length ≤ 1048576 := hf
  obtain ⟨n, hn⟩ : ∃ n, n = ps.length := ⟨_, rfl⟩
  simp only [← hn] at h1 s1 hf ⊢
  have HN := Lib.hid hn
  have H1 := Lib.hid (h1.below (bel1 w (.cells #[.slice A n c, .int .i64 x] 30)))
  have S1 := Lib.hid s1
  have HI := Lib.hid hin
  have HHI := Lib.hid hhi
  clear h1 hn s1 hin hhi
  go_enter Try.func48, Try.ntmps48
  go_wp2_with fail
  refine (markPodS_any A n c ps 0 k _ H1.out hf hk0 (by omega)).mono ?_
  rintro e w2 ⟨rfl, hO2, hg2⟩
  have ht2 : Turned S w w2 := (Turned.of_below (bel1 w _)).trans (Turned.of_grown hg2 (fun q hq => S1.out q hq))
  have HO := Lib.hid hO2
  have HT := Lib.hid ht2
  clear hO2 hg2 ht2
  go_wp2
  go_ret
  have e1 := HN.out
  refine ⟨?_, ⟨⟨A, c, ?_, ?_, ?_⟩, HI.out, Nat.le_trans HHI.out HT.out.size⟩, HT.out⟩
  · show Ending.returned (.int .i64 (k + 5 * n)) = Ending.returned (.int .i64 (k + ((5 * ps.length : Nat) : Int)))
    rw [e1]; congr 2
  · show _ = Value.agg #[.slice A (marksP k ps.length).length c, .int .i64 x]
    rw [marksP_len, ← e1]
  · show OwnP w2 0 A (marksP k ps.length).length c (marksP k ps.length)
    rw [marksP_len, ← e1]; exact HO.out
  · show ∀ q, (Value.slice A (marksP k ps.length).length c).ownBlock = some q → S q
    rw [marksP_len, ← e1]; exact S1.out
set_option maxHeartbeats 800000 in
theorem heldFleet_any : HeldC 50 fty := by
  rintro w B v ⟨ps, x⟩ k ⟨A, c, rfl, h1⟩ hB hf hk0 hk1
  have hf : ps.length ≤ 1048576 := hf
  have h1 : IsPods w B A (marksP k ps.length).length (marksP k ps.length) := h1
  show Calls Try.prog 50 #[.agg #[.slice A (marksP k ps.length).length c, .int .i64 x], .int .i64 k] w (Says (.int .i64 (k + ((5 * ps.length : Nat) : Int))) w)
  rw [marksP_len] at h1 ⊢
  obtain ⟨n, hn⟩ : ∃ n, n = ps.length := ⟨_, rfl⟩
  simp only [← hn] at h1 hf ⊢
  have H1 := Lib.hid h1
  obtain ⟨q, hq⟩ : ∃ q : Int, q = k + 5 * n := ⟨_, rfl⟩
  have hq4 : k + ((5 * n : Nat) : Int) = q := by omega
  have hd : decide (q < 0) = false := by simp; omega
  rw [hq4]
  have HQ := Lib.hid hq
  clear h1 hn hq hq4
  go_enter Try.func50, Try.ntmps50
  go_wp2_with fail
  refine (heldPodS_any A n c k B _ (H1.out.below (bel1 _ _) hB) hf hk0 (by omega)).mono ?_
  rintro e w2 ⟨rfl, rfl⟩
  rw [← HQ.out]
  go_wp2
  go_ret
  exact ⟨rfl, bel1 _ _⟩
end Go.Proofs.Ytklgjjmcflgjeaa.FleetTy
