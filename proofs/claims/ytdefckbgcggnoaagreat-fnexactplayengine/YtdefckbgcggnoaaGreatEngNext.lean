/-
  NextEngine, as a value: the ticks at which something may happen of itself; the program's list and the model's have the same least one.
-/
import Derived.Test.YtdefckbgcggnoaaGreatEngCnt
import Derived.Test.YtdefckbgcggnoaaGreatTickList
namespace Go.Proofs.YtdefckbgcggnoaaGreat.EngNext
open Go.Proofs.YtdefckbgcggnoaaGreat.Tick (inB tokB sinceV in_t tok_t)
open Go.Proofs.YtdefckbgcggnoaaGreat.Pods Go.Proofs.YtdefckbgcggnoaaGreat.EngV Go.Proofs.YtdefckbgcggnoaaGreat.EngCnt
open Go.Proofs.YtdefckbgcggnoaaGreat.FleetV hiding goodB
open Go.Proofs.YtdefckbgcggnoaaGreat.Hl (cutV nextV)
set_option linter.unusedVariables false
set_option linter.unusedSimpArgs false

/-- The least of those that are asked for, or -1. -/
def Least (P : Int → Prop) (r : Int) : Prop := (r = -1 ∧ ∀ t, ¬ P t) ∨ (P r ∧ ∀ t, P t → r ≤ t)
theorem Least.eq {P Q : Int → Prop} {r q : Int} (h : Least P r) (k : Least Q q) (e : ∀ t, P t ↔ Q t) : r = q := by
  rcases h with ⟨h1, h2⟩ | ⟨h1, h2⟩ <;> rcases k with ⟨k1, k2⟩ | ⟨k1, k2⟩
  · rw [h1, k1]
  · exact absurd ((e q).2 k1) (h2 q)
  · exact absurd ((e r).1 h1) (k2 r)
  · have a := h2 q ((e q).2 k1)
    have b := k2 r ((e r).1 h1)
    omega
def pick (b : Int → Bool) (acc t : Int) : Int := if b t && (decide (acc < 0) || decide (t < acc)) then t else acc
theorem pick_least (b : Int → Bool) (hb : ∀ t, b t = true → 0 ≤ t) : ∀ (zs : List Int) (acc : Int), -1 ≤ acc → Least (fun t => (t = acc ∧ 0 ≤ acc) ∨ (t ∈ zs ∧ b t = true)) (zs.foldl (pick b) acc)
  | [], acc, ha => by
    rw [List.foldl_nil]
    by_cases h : acc = -1
    · exact .inl ⟨h, fun t ht => by rcases ht with ⟨_, h2⟩ | ⟨h2, _⟩; omega; cases h2⟩
    · exact .inr ⟨.inl ⟨rfl, by omega⟩, fun t ht => by rcases ht with ⟨h1, _⟩ | ⟨h2, _⟩; omega; cases h2⟩
  | z :: zs, acc, ha => by
    have hp : pick b acc z = z ∧ b z = true ∧ (acc < 0 ∨ z < acc) ∨ pick b acc z = acc ∧ (b z = true → 0 ≤ acc ∧ acc ≤ z) := by
      unfold pick
      cases hz : b z
      · right; simp
      · by_cases h1 : acc < 0 ∨ z < acc
        · left
          have : (decide (acc < 0) || decide (z < acc)) = true := by simpa using h1
          simp [this, h1]
        · right
          have : (decide (acc < 0) || decide (z < acc)) = false := by simpa using h1
          simp [this]; omega
    have hq : -1 ≤ pick b acc z := by rcases hp with ⟨h1, h2, _⟩ | ⟨h1, _⟩; have := hb z h2; omega; omega
    have ih := pick_least b hb zs (pick b acc z) hq
    rw [List.foldl_cons]
    rcases ih with ⟨h1, h2⟩ | ⟨h1, h2⟩
    · refine .inl ⟨h1, fun t ht => ?_⟩
      have hn : ¬ 0 ≤ pick b acc z := fun h => h2 _ (.inl ⟨rfl, h⟩)
      rcases ht with ⟨h3, h4⟩ | ⟨h3, h4⟩
      · rcases hp with ⟨p1, p2, _⟩ | ⟨p1, _⟩
        · have := hb z p2; omega
        · omega
      · rcases List.mem_cons.1 h3 with rfl | h5
        · have h6 := hb t h4
          rcases hp with ⟨p1, _, _⟩ | ⟨p1, p2⟩
          · omega
          · have := p2 h4; omega
        · exact h2 t (.inr ⟨h5, h4⟩)
    · refine .inr ⟨?_, fun t ht => ?_⟩
      · rcases h1 with ⟨h3, h4⟩ | ⟨h3, h4⟩
        · rcases hp with ⟨p1, p2, _⟩ | ⟨p1, _⟩
          · exact .inr ⟨by rw [h3, p1]; exact List.mem_cons_self, by rw [h3, p1]; exact p2⟩
          · exact .inl ⟨by rw [h3, p1], by omega⟩
        · exact .inr ⟨List.mem_cons_of_mem _ h3, h4⟩
      · rcases ht with ⟨h3, h4⟩ | ⟨h3, h4⟩
        · rcases hp with ⟨p1, p2, p3⟩ | ⟨p1, _⟩
          · have h5 := hb z p2
            have h6 := h2 z (.inl ⟨p1.symm, by omega⟩)
            omega
          · exact h2 t (.inl ⟨by rw [h3, p1], by omega⟩)
        · rcases List.mem_cons.1 h3 with rfl | h5
          · have h6 := hb t h4
            rcases hp with ⟨p1, p2, p3⟩ | ⟨p1, p2⟩
            · exact h2 t (.inl ⟨p1.symm, by omega⟩)
            · have h7 := p2 h4
              have h8 := h2 acc (.inl ⟨p1.symm, by omega⟩)
              omega
          · exact h2 t (.inr ⟨h5, h4⟩)
theorem fold_least (b : Int → Bool) (hb : ∀ t, b t = true → 0 ≤ t) (zs : List Int) : Least (fun t => t ∈ zs ∧ b t = true) (zs.foldl (pick b) (-1)) := by
  rcases pick_least b hb zs (-1) (by omega) with ⟨h1, h2⟩ | ⟨h1, h2⟩
  · exact .inl ⟨h1, fun t ht => h2 t (.inr ht)⟩
  · refine .inr ⟨?_, fun t ht => h2 t (.inr ht)⟩
    rcases h1 with ⟨_, h3⟩ | h1
    · omega
    · exact h1

def bakeB (e : Eng) (p : Pd) : Bool := decide (p.2.2.1 = 2) && decide (p.2.1 = e.tg)
def bakeL (e : Eng) (ps : PList) : List Int := (ps.filter (bakeB e)).map fun p => cutV (p.2.2.2.2 + (e.sp.x3 + e.sp.x10))
def podT (e : Eng) (p : Pd) : Int := if p.2.2.1 = 4 then cutV (p.2.2.2.2 + e.sp.x7) else nxP e.sp p
def podL (e : Eng) (ps : PList) : List Int := ps.map (podT e)
/-- The program's list. -/
def turnL (e : Eng) : List Int := ((if e.ph = 1 then bakeL e e.ps else []) ++ (if mvB e.ph then [cutV (e.st + e.sp.x8)] else [])) ++ (if e.ph = 3 then [] else [e.wt] ++ podL e e.ps)
def modP (e : Eng) (p : Pd) : List Int := (nxP e.sp p :: (if p.2.2.1 = 4 then [p.2.2.2.2 + e.sp.x7] else [])) ++ (if bakeB e p && decide (e.ph = 1) then [p.2.2.2.2 + e.sp.x3 + e.sp.x10] else [])
/-- The model's list. -/
def specL (e : Eng) : List Int := (e.wt :: e.ps.flatMap (modP e)) ++ (if mvB e.ph then [e.st + e.sp.x8] else [])
def aheadB (now t : Int) : Bool := decide (now < t) && tokB t
def nextE (e : Eng) : Int := if e.okB then TickList.soonF ((turnL e).filter fun t => !decide (t ≤ e.now)) else -1
theorem soonF_pick (zs : List Int) : TickList.soonF zs = zs.foldl (pick tokB) (-1) := rfl
theorem cut_iff {now a : Int} (h0 : 0 ≤ now) (h1 : 0 ≤ a) : (now < cutV a ∧ tokB (cutV a) = true) ↔ (now < a ∧ tokB a = true) := by
  unfold cutV tokB
  by_cases h : 1000000000 < a
  · simp [h]
    try omega
  · simp [h]
theorem mem_opt {c : Prop} [Decidable c] {t x : Int} : (t ∈ if c then [x] else []) ↔ c ∧ t = x := by
  by_cases h : c <;> simp [h]
theorem mem_optB {c : Bool} {t x : Int} : (t ∈ if c = true then [x] else []) ↔ c = true ∧ t = x := mem_opt
theorem bake_mem {e : Eng} {t : Int} : t ∈ bakeL e e.ps ↔ ∃ p ∈ e.ps, bakeB e p = true ∧ t = cutV (p.2.2.2.2 + (e.sp.x3 + e.sp.x10)) := by
  simp only [bakeL, List.mem_map, List.mem_filter]
  constructor
  · rintro ⟨p, ⟨h1, h2⟩, rfl⟩; exact ⟨p, h1, h2, rfl⟩
  · rintro ⟨p, h1, h2, rfl⟩; exact ⟨p, ⟨h1, h2⟩, rfl⟩
theorem nx_four {s : Spc} {p : Pd} (h : p.2.2.1 = 4) : nxP s p = -1 := by
  simp [nxP, nextV, h]
theorem next_eq {e : Eng} (h : e.okB = true) (h3 : e.ph ≠ 3) : (specL e).foldl (pick (aheadB e.now)) (-1) = TickList.soonF ((turnL e).filter fun t => !decide (t ≤ e.now)) := by
  rw [soonF_pick]
  refine (fold_least (aheadB e.now) (fun t ht => ?_) _).eq (fold_least tokB (fun t ht => (tok_t ht).1) _) fun t => ?_
  · simp only [aheadB, Bool.and_eq_true] at ht
    exact (tok_t ht.2).1
  obtain ⟨hs, hg, hnow, hst, hwt, hph, _⟩ := okB_t h
  have hsp := Sp.specB_t (show Sp.specB e.sp.x0 e.sp.x1 e.sp.x2 e.sp.x3 e.sp.x4 e.sp.x5 e.sp.x6 e.sp.x7 e.sp.x8 e.sp.x9 e.sp.x10 = true from hs)
  have hn0 := tok_t hnow
  have hs0 := tok_t hst
  have hpod : ∀ p ∈ e.ps, 0 ≤ p.2.2.2.2 := fun p hp => (hg.2.2.1 p hp).1.2.2.2.2.1
  have hl : (t ∈ (turnL e).filter (fun t => !decide (t ≤ e.now)) ∧ tokB t = true) ↔ (t ∈ turnL e ∧ (e.now < t ∧ tokB t = true)) := by
    rw [List.mem_filter]
    constructor
    · rintro ⟨⟨h1, h2⟩, h4⟩; simp at h2; exact ⟨h1, h2, h4⟩
    · rintro ⟨h1, h2, h4⟩; exact ⟨⟨h1, by simpa using h2⟩, h4⟩
  have hr : (t ∈ specL e ∧ aheadB e.now t = true) ↔ (t ∈ specL e ∧ (e.now < t ∧ tokB t = true)) := by simp [aheadB]
  rw [hl, hr]
  have e1 : ∀ a : Int, 0 ≤ a → ((t = a ∧ (e.now < t ∧ tokB t = true)) ↔ (t = cutV a ∧ (e.now < t ∧ tokB t = true))) := by
    intro a ha
    constructor
    · rintro ⟨rfl, h1, h2⟩
      have hc : cutV t = t := by have := tok_t h2; unfold cutV; rw [if_neg (by omega)]
      exact ⟨hc.symm, h1, h2⟩
    · rintro ⟨h0, h1, h2⟩
      have hc := (cut_iff (a := a) hn0.1 ha).1 ⟨by rw [← h0]; exact h1, by rw [← h0]; exact h2⟩
      have : cutV a = a := by have := tok_t hc.2; unfold cutV; rw [if_neg (by omega)]
      exact ⟨by rw [h0, this], h1, h2⟩
  constructor
  · rintro ⟨hm, hh⟩
    refine ⟨?_, hh⟩
    simp only [specL, List.mem_append, List.mem_cons, List.mem_flatMap, mem_optB] at hm
    simp only [turnL, List.mem_append, if_neg h3, List.mem_singleton, podL, List.mem_map, mem_optB]
    rcases hm with (rfl | ⟨p, hp, hm⟩) | ⟨hm, rfl⟩
    · exact .inr (.inl rfl)
    · simp only [modP, List.mem_append, List.mem_cons, mem_opt, mem_optB, Bool.and_eq_true, decide_eq_true_eq] at hm
      by_cases h4 : p.2.2.1 = 4
      · rcases hm with (hm | ⟨_, hm⟩) | ⟨⟨hm, _⟩, _⟩
        · rw [nx_four h4] at hm; omega
        · exact .inr (.inr ⟨p, hp, by rw [podT, if_pos h4]; exact ((e1 _ (by have := hpod p hp; omega)).1 ⟨hm, hh⟩).1.symm⟩)
        · simp [bakeB, h4] at hm
      · rcases hm with (hm | ⟨hm, _⟩) | ⟨⟨hm, hm1⟩, hm2⟩
        · exact .inr (.inr ⟨p, hp, by rw [podT, if_neg h4]; exact hm.symm⟩)
        · exact absurd hm h4
        · refine .inl (.inl ?_)
          rw [if_pos hm1]
          exact bake_mem.2 ⟨p, hp, hm, ((e1 (p.2.2.2.2 + (e.sp.x3 + e.sp.x10)) (by have := hpod p hp; omega)).1 ⟨by omega, hh⟩).1⟩
    · exact .inl (.inr ⟨hm, ((e1 _ (by omega)).1 ⟨rfl, hh⟩).1⟩)
  · rintro ⟨hm, hh⟩
    refine ⟨?_, hh⟩
    simp only [turnL, List.mem_append, if_neg h3, List.mem_singleton, podL, List.mem_map, mem_optB] at hm
    simp only [specL, List.mem_append, List.mem_cons, List.mem_flatMap, mem_optB]
    rcases hm with (hm | ⟨hm, hm2⟩) | (rfl | ⟨p, hp, hm⟩)
    · by_cases h1 : e.ph = 1
      · rw [if_pos h1] at hm
        obtain ⟨p, hp, hb, hm⟩ := bake_mem.1 hm
        have h5 := ((e1 (p.2.2.2.2 + (e.sp.x3 + e.sp.x10)) (by have := hpod p hp; omega)).2 ⟨hm, hh⟩).1
        refine .inl (.inr ⟨p, hp, ?_⟩)
        have h6 : t = p.2.2.2.2 + e.sp.x3 + e.sp.x10 := by omega
        simp [modP, hb, h1, h6]
      · rw [if_neg h1] at hm; cases hm
    · exact .inr ⟨hm, ((e1 _ (by omega)).2 ⟨hm2, hh⟩).1⟩
    · exact .inl (.inl rfl)
    · refine .inl (.inr ⟨p, hp, ?_⟩)
      simp only [modP, List.mem_append, List.mem_cons, mem_opt]
      by_cases h4 : p.2.2.1 = 4
      · rw [podT, if_pos h4] at hm
        exact .inl (.inr ⟨h4, ((e1 _ (by have := hpod p hp; omega)).2 ⟨hm.symm, hh⟩).1⟩)
      · rw [podT, if_neg h4] at hm
        exact .inl (.inl hm.symm)
end Go.Proofs.YtdefckbgcggnoaaGreat.EngNext
