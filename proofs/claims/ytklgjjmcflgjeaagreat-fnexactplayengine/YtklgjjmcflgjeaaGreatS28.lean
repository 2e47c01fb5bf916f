import Derived.Test.YtklgjjmcflgjeaaGreatS00
import Derived.Test.YtklgjjmcflgjeaaGreatS05
import Derived.Test.YtklgjjmcflgjeaaGreatS26
import Derived.Test.YtklgjjmcflgjeaaGreatS27
set_option linter.unusedVariables false
set_option linter.unusedSimpArgs false
namespace Go.Proofs.YtklgjjmcflgjeaaGreat.IntTy
open Go.ChangeShapes Go.WideShapes Go.ChangeAt Go.RowKit
open LK Ints Has Rec
abbrev ID := List Int
def IRd (w : World) (B : Nat) (v : Value) (d : ID) : Prop := ∃ A c, v = .slice A d.length c ∧ IsInts w B A d.length d
def IOwn (w : World) (S : Nat → Prop) (v : Value) (d : ID) : Prop := ∃ A c, v = .slice A d.length c ∧ OwnI w 0 A d.length c d ∧ (∀ k, (Value.slice A d.length c).ownBlock = some k → S k)
theorem ownI_zero {w : World} {b : Nat} {A : Option Addr} {n c : Nat} {zs : List Int} (h : OwnI w b A n c zs) : OwnI w 0 A n c zs := ownI_base h (Nat.zero_le _)
theorem ownI_same {w w' : World} {b : Nat} {A : Option Addr} {n c : Nat} {zs : List Int} (h : OwnI w b A n c zs) (hs : ∀ k, (Value.slice A n c).ownBlock = some k → w'.heap[k]? = w.heap[k]?) : OwnI w' b A n c zs := by
  refine ⟨h.1, h.2.1, ?_⟩
  rcases h.2.2 with h2 | ⟨g, cap, cur, h3, h4, h5, h6⟩
  · exact .inl h2
  · refine .inr ⟨g, cap, cur, h3, h4, ?_, h6⟩
    rw [hs g (by rw [h3]; rfl)]; exact h5
theorem ownI_ints {w : World} {b B : Nat} {A : Option Addr} {n c : Nat} {zs : List Int} (h : OwnI w b A n c zs) (hs : ∀ k, (Value.slice A n c).ownBlock = some k → k < B) : IsInts w B A n zs := by
  obtain ⟨h1, h3⟩ := h.ints
  refine ⟨h1, fun hn => ?_⟩
  obtain ⟨g, off, e, _, h4⟩ := h3 hn
  exact ⟨g, off, e, hs g (by rw [e]; rfl), h4⟩
def ity : Ty where
  D := ID
  Rd := IRd
  Own := IOwn
  Few := fun d => d.length ≤ 1048576
  cnt := fun d => d.length
  mark := fun k d => marksI k d.length
  rd_below := by
    rintro w w' B C v d ⟨A, c, rfl, h1⟩ hb hC
    exact ⟨A, c, rfl, h1.below hb hC⟩
  own_rd := by
    rintro w S v d B ⟨A, c, rfl, h1, s1⟩ hB
    exact ⟨A, c, rfl, ownI_ints h1 (fun k hk => hB k (s1 k hk))⟩
  own_same := by
    rintro w w' S v d ⟨A, c, rfl, h1, s1⟩ hs
    exact ⟨A, c, rfl, ownI_same h1 (fun k hk => hs k (s1 k hk)), s1⟩
  few_cnt := by intro d h; omega
theorem made_of {w w' : World} {lo : Nat} {A : Option Addr} {n c : Nat} {zs : List Int} (hb : Below w.heap.size w w') (hO : OwnI w' lo A n c zs) (hlo : w.heap.size ≤ lo) : Made ity zs w (.returned (.slice A n c)) w' := by
  have hl := hO.1
  subst hl
  exact ⟨_, fun k => w.heap.size ≤ k ∧ k < w'.heap.size, rfl, ⟨⟨A, c, rfl, ownI_zero hO, fun k hk => by have := hO.lt k hk; exact ⟨by omega, this.2⟩⟩, fun k hk => hk, Nat.le_refl _⟩, hb⟩
theorem eqIntS_any : EqC 26 ity := by
  rintro w B B' v v' zs ⟨A, c, rfl, h1⟩ ⟨C, e, rfl, h2⟩ hB hB' hf
  refine (eqIntS_same A C zs.length c e zs B B' w h1 h2 hf).mono ?_
  rintro e w' ⟨rfl, m, rfl⟩
  exact ⟨rfl, below_drewN (Below.refl _ _) _⟩
theorem markIntS_any : MarkC 29 ity := by
  rintro w lo hi S v zs k ⟨⟨A, c, rfl, h1, s1⟩, hin, hhi⟩ hf hk0 hk1
  refine (Rec.markIntS_any A zs.length c zs k 0 w h1 hf hk0 (by omega)).mono ?_
  rintro e w' ⟨rfl, h2, hg⟩
  have hl : (marksI k zs.length).length = zs.length := marksI_len _ _
  have hT : Turned S w w' := Turned.of_grown hg s1
  refine ⟨rfl, ⟨⟨A, c, ?_, ?_, ?_⟩, hin, Nat.le_trans hhi hT.size⟩, hT⟩
  · show _ = Value.slice A (marksI k zs.length).length c
    rw [hl]
  · show OwnI w' 0 A (marksI k zs.length).length c (marksI k zs.length)
    rw [hl]; exact h2
  · show ∀ q, (Value.slice A (marksI k zs.length).length c).ownBlock = some q → S q
    rw [hl]; exact s1
theorem heldIntS_any : HeldC 32 ity := by
  rintro w B v zs k ⟨A, c, rfl, h1⟩ hB hf hk0 hk1
  have h1 : IsInts w B A (marksI k zs.length).length (marksI k zs.length) := h1
  show Calls Tryz.prog 32 #[.slice A (marksI k zs.length).length c, .int .i64 k] w _
  rw [marksI_len] at h1 ⊢
  refine (Rec.heldIntS_any A zs.length c k B w h1 hf hk0 (by omega)).mono ?_
  rintro e w' ⟨rfl, rfl⟩
  exact ⟨rfl, Below.refl _ _⟩
end Go.Proofs.YtklgjjmcflgjeaaGreat.IntTy
namespace Go.Proofs.YtklgjjmcflgjeaaGreat.Play
open Go.ChangeShapes Go.WideShapes Go.ChangeAt Go.RowKit
open LK Pods EngV EngTy Eng EngInv
open Tick (inB in_t tokB)
def run0 (s : Spc) (rev : Int) : Run := { e := newE s rev, ev := [] }
theorem gd_run0 {s : Spc} {rev : Int} (h : newB s rev = true) : Gd (run0 s rev) (run0 s rev).e.sp.x4 := by
  simp only [newB, Bool.and_eq_true] at h
  have hr := in_t h.2
  have hs := sp4 h.1
  exact ⟨h.1, ⟨Nat.zero_le _, ⟨show (1 : Int) ≤ 1 by decide, show (1 : Int) ≤ 1000000000 by decide⟩, (fun p hp => absurd hp (List.not_mem_nil (a := p))), (show FleetV.Asc [] by decide)⟩, (show tokB 0 = true from rfl), (show tokB 0 = true from rfl), (show tokB 0 = true from rfl), by show (0 : Int) ≤ 0 ∧ (0 : Int) ≤ 3; omega, hr, hr, by show (0 : Int) ≤ 0 ∧ (0 : Int) ≤ 200; omega, fun _ => by show (0 : Int) ≤ _; exact hs.1⟩
theorem play_snoc (l : List Op4) (o : Op4) (r : Run) : r.play (l ++ [o]) = (((r.play l).1.step o).1, (r.play l).2 ++ [((r.play l).1.step o).2]) := by
  induction l generalizing r with
  | nil => rfl
  | cons x l ih => simp only [List.cons_append, Run.play, ih]
theorem play_keep (l : List Op4) (r : Run) (h : Gd r r.e.sp.x4) (hn : r.ev.length + 1400 * l.length ≤ 600000) : Gd (r.play l).1 (r.play l).1.e.sp.x4 ∧ (r.play l).1.ev.length ≤ r.ev.length + 1400 * l.length ∧ (r.play l).2.length = l.length := by
  induction l generalizing r with
  | nil => exact ⟨h, Nat.le_refl _, rfl⟩
  | cons o l ih =>
    simp only [List.length_cons] at hn
    obtain ⟨g, k⟩ := step_all h (by omega) o
    obtain ⟨h1, h2, h3⟩ := ih (r.step o).1 g (by omega)
    refine ⟨h1, ?_, ?_⟩
    · show ((r.step o).1.play l).1.ev.length ≤ _
      simp only [List.length_cons]
      omega
    · show (((r.step o).1.play l).2).length + 1 = _
      rw [h3]; rfl
theorem take_get {l : List Op4} {k : Nat} (h : k < l.length) : l.take (k + 1) = l.take k ++ [l.getD k Ops.z] := by
  rw [List.take_succ_eq_append_getElem h]; simp [List.getD, h]
def runK (s : Spc) (rev : Int) (ops : Ops.L) (k : Nat) : Run := ((run0 s rev).play (ops.take k)).1
def codeK (s : Spc) (rev : Int) (ops : Ops.L) (k : Nat) : List Int := ((run0 s rev).play (ops.take k)).2
section
variable {s : Spc} {rev : Int} {ops : Ops.L} {k : Nat}
theorem runK_zero : runK s rev ops 0 = run0 s rev := by simp [runK, Run.play]
theorem codeK_zero : codeK s rev ops 0 = [] := by simp [codeK, Run.play]
theorem runK_succ (h : k < ops.length) : runK s rev ops (k + 1) = ((runK s rev ops k).step (ops.getD k Ops.z)).1 := by
  unfold runK; rw [take_get h, play_snoc]
theorem codeK_succ (h : k < ops.length) : codeK s rev ops (k + 1) = codeK s rev ops k ++ [((runK s rev ops k).step (ops.getD k Ops.z)).2] := by
  unfold codeK runK; rw [take_get h, play_snoc]
theorem runK_keep (hb : newB s rev = true) (hk : k ≤ 200) (hl : k ≤ ops.length) : Gd (runK s rev ops k) (runK s rev ops k).e.sp.x4 ∧ (runK s rev ops k).ev.length ≤ 280000 ∧ (codeK s rev ops k).length = k := by
  have ht : (ops.take k).length = k := by rw [List.length_take]; omega
  obtain ⟨a, b, c⟩ := play_keep (ops.take k) (run0 s rev) (gd_run0 hb) (by rw [ht]; show 0 + _ ≤ _; omega)
  rw [ht] at b c
  exact ⟨a, by show ((run0 s rev).play (ops.take k)).1.ev.length ≤ _; have : (run0 s rev).ev.length = 0 := rfl; omega, c⟩
end
def okP (s : Spc) (rev : Int) (ops : Ops.L) : Bool := newB s rev && decide (ops.length ≤ 200)
def engP (s : Spc) (rev : Int) (ops : Ops.L) : Eng := if okP s rev ops then (runK s rev ops ops.length).e else zeroE
def evsP (s : Spc) (rev : Int) (ops : Ops.L) : Evs.L := if okP s rev ops then (runK s rev ops ops.length).ev else []
def codP (s : Spc) (rev : Int) (ops : Ops.L) : List Int := if okP s rev ops then codeK s rev ops ops.length else []
theorem few (s : Spc) (rev : Int) (ops : Ops.L) : ety.Few (engP s rev ops) ∧ Evs.lty.Few (evsP s rev ops) ∧ IntTy.ity.Few (codP s rev ops) := by
  by_cases h : okP s rev ops = true
  · have h' := h
    simp only [okP, Bool.and_eq_true, decide_eq_true_eq] at h'
    obtain ⟨a, b, c⟩ := runK_keep (k := ops.length) h'.1 h'.2 (Nat.le_refl _)
    refine ⟨?_, ?_, ?_⟩
    · show (engP s rev ops).ps.length ≤ 1048576
      rw [engP, if_pos h]
      have := a.fl.1
      omega
    · show (evsP s rev ops).length ≤ 1048576
      rw [evsP, if_pos h]
      omega
    · show (codP s rev ops).length ≤ 1048576
      rw [codP, if_pos h]
      omega
  · refine ⟨?_, ?_, ?_⟩
    · show (engP s rev ops).ps.length ≤ 1048576
      rw [engP, if_neg h]; decide
    · show (evsP s rev ops).length ≤ 1048576
      rw [evsP, if_neg h]; decide
    · show (codP s rev ops).length ≤ 1048576
      rw [codP, if_neg h]; decide
def Made3 (T0 T1 T2 : Ty) (d0 : T0.D) (d1 : T1.D) (d2 : T2.D) (x : Value) (w : World) (e : Ending) (w' : World) : Prop :=
  ∃ v0 v1 v2 S0 S1 S2, e = .returned (.tuple #[v0, v1, v2, x]) ∧ Has T0 w' w.heap.size w'.heap.size S0 v0 d0 ∧ Has T1 w' w.heap.size w'.heap.size S1 v1 d1 ∧ Has T2 w' w.heap.size w'.heap.size S2 v2 d2 ∧ (∀ k, S0 k → ¬ S1 k) ∧ (∀ k, S0 k → ¬ S2 k) ∧ (∀ k, S1 k → ¬ S2 k) ∧ Below w.heap.size w w'
theorem rows_apart {w : World} {lo lo' n n' z z' : Nat} {v v' : Value} {xs xs' : List Value} {e e' : TypeId} (h : w.ownsRow lo e z v n xs) (h' : w.ownsRow lo' e' z' v' n' xs') (hne : e ≠ e') (k : Nat) (hk : v.ownBlock = some k) : v'.ownBlock ≠ some k := by
  intro hk'
  rcases h'.2 with ⟨rfl, _⟩ | ⟨g, cap, cur, rfl, hb, hg, _⟩
  · cases hk'
  · have e0 : g = k := by simpa [Value.ownBlock] using hk'
    subst e0
    exact Mach.own_ne h hg (Ne.symm hne) _ hk rfl
theorem made3_of {w w' : World} {A : Option Addr} {n c : Nat} {E : Option Addr} {m k : Nat} {C : Option Addr} {l g : Nat} {d : Eng} {ev : Evs.L} {cs : List Int} {x : Value} (hb : Below w.heap.size w w') (hp : OwnP w' w.heap.size A n c d.ps) (he : Evs.OwnL w' w.heap.size E m k ev) (hc : Has.OwnI w' w.heap.size C l g cs) :
    Made3 ety Evs.lty IntTy.ity d ev cs x w (.returned (.tuple #[.agg (enL d A n c).toArray, .slice E m k, .slice C l g, x])) w' := by
  have h0 := hp.1
  have h1 := he.1
  have h2 := hc.1
  subst h0 h1 h2
  refine ⟨_, _, _, fun q => (Value.slice A d.ps.length c).ownBlock = some q, fun q => (Value.slice E ev.length k).ownBlock = some q, fun q => (Value.slice C cs.length g).ownBlock = some q, rfl, ⟨⟨A, c, rfl, hp.zero, fun q hq => hq⟩, fun q hq => hp.lt q hq, Nat.le_refl _⟩, ⟨⟨E, k, rfl, he.zero, fun q hq => hq⟩, fun q hq => he.lt q hq, Nat.le_refl _⟩, ⟨?_, (fun q hq => hc.2.lt q hq), Nat.le_refl _⟩, fun q hq hq' => ?_, fun q hq hq' => ?_, fun q hq hq' => ?_, hb⟩
  · exact ⟨C, g, rfl, IntTy.ownI_zero hc, fun q hq => hq⟩
  · exact rows_apart hp.2 he.2 (by decide) q hq hq'
  · exact rows_apart hp.2 hc.2 (by decide) q hq hq'
  · exact rows_apart he.2 hc.2 (by decide) q hq hq'
end Go.Proofs.YtklgjjmcflgjeaaGreat.Play
