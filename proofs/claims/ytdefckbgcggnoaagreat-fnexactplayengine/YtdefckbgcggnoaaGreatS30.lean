import Derived.Test.YtdefckbgcggnoaaGreatS00
import Derived.Test.YtdefckbgcggnoaaGreatS05
set_option linter.unusedVariables false
set_option linter.unusedSimpArgs false
namespace Go.Proofs.YtdefckbgcggnoaaGreat.IntTy
open Go.ChangeShapes Go.WideShapes Go.ChangeAt Go.RowKit
open LK Ints Has Rec
abbrev ID := List Int
def IRd (w : World) (B : Nat) (v : Value) (d : ID) : Prop := ∃ A c, v = .slice A d.length c ∧ IsInts w B A d.length d
def IOwn (w : World) (S : Nat → Prop) (v : Value) (d : ID) : Prop := ∃ A c, v = .slice A d.length c ∧ OwnI w 0 A d.length c d ∧ (∀ k, (Value.slice A d.length c).ownBlock = some k → S k)
theorem ownI_zero {w : World} {b : Nat} {A : Option Addr} {n c : Nat} {zs : List Int} (h : OwnI w b A n c zs) : OwnI w 0 A n c zs := ownI_base h (Nat.zero_le _)
theorem ownI_same {w w' : World} {b : Nat} {A : Option Addr} {n c : Nat} {zs : List Int} (h : OwnI w b A n c zs) (hs : ∀ k, (Value.slice A n c).ownBlock = some k → w'.heap[k]? = w.heap[k]?) : OwnI w' b A n c zs := by
  refine ⟨h.1, h.2.1, ?_⟩
  rcases h.2.2 with h2 | ⟨g, cap, cur, h3, h4, h5, h6⟩
  · exact .inl h2
  · refine .inr ⟨g, cap, cur, h3, h4, ?_, h6⟩
    rw [hs g (by rw [h3]; rfl)]; exact h5
theorem ownI_ints {w : World} {b B : Nat} {A : Option Addr} {n c : Nat} {zs : List Int} (h : OwnI w b A n c zs) (hs : ∀ k, (Value.slice A n c).ownBlock = some k → k < B) : IsInts w B A n zs := by
  obtain ⟨h1, h3⟩ := h.ints
  refine ⟨h1, fun hn => ?_⟩
  obtain ⟨g, off, e, _, h4⟩ := h3 hn
  exact ⟨g, off, e, hs g (by rw [e]; rfl), h4⟩
def ity : Ty where
  D := ID
  Rd := IRd
  Own := IOwn
  Few := fun d => d.length ≤ 1048576
  cnt := fun d => d.length
  mark := fun k d => marksI k d.length
  rd_below := by
    rintro w w' B C v d ⟨A, c, rfl, h1⟩ hb hC
    exact ⟨A, c, rfl, h1.below hb hC⟩
  own_rd := by
    rintro w S v d B ⟨A, c, rfl, h1, s1⟩ hB
    exact ⟨A, c, rfl, ownI_ints h1 (fun k hk => hB k (s1 k hk))⟩
  own_same := by
    rintro w w' S v d ⟨A, c, rfl, h1, s1⟩ hs
    exact ⟨A, c, rfl, ownI_same h1 (fun k hk => hs k (s1 k hk)), s1⟩
  few_cnt := by intro d h; omega
theorem made_of {w w' : World} {lo : Nat} {A : Option Addr} {n c : Nat} {zs : List Int} (hb : Below w.heap.size w w') (hO : OwnI w' lo A n c zs) (hlo : w.heap.size ≤ lo) : Made ity zs w (.returned (.slice A n c)) w' := by
  have hl := hO.1
  subst hl
  exact ⟨_, fun k => w.heap.size ≤ k ∧ k < w'.heap.size, rfl, ⟨⟨A, c, rfl, ownI_zero hO, fun k hk => by have := hO.lt k hk; exact ⟨by omega, this.2⟩⟩, fun k hk => hk, Nat.le_refl _⟩, hb⟩
theorem eqIntS_any : EqC 18 ity := by
  rintro w B B' v v' zs ⟨A, c, rfl, h1⟩ ⟨C, e, rfl, h2⟩ hB hB' hf
  refine (eqIntS_same A C zs.length c e zs B B' w h1 h2 hf).mono ?_
  rintro e w' ⟨rfl, m, rfl⟩
  exact ⟨rfl, below_drewN (Below.refl _ _) _⟩
theorem markIntS_any : MarkC 23 ity := by
  rintro w lo hi S v zs k ⟨⟨A, c, rfl, h1, s1⟩, hin, hhi⟩ hf hk0 hk1
  refine (Rec.markIntS_any A zs.length c zs k 0 w h1 hf hk0 (by omega)).mono ?_
  rintro e w' ⟨rfl, h2, hg⟩
  have hl : (marksI k zs.length).length = zs.length := marksI_len _ _
  have hT : Turned S w w' := Turned.of_grown hg s1
  refine ⟨rfl, ⟨⟨A, c, ?_, ?_, ?_⟩, hin, Nat.le_trans hhi hT.size⟩, hT⟩
  · show _ = Value.slice A (marksI k zs.length).length c
    rw [hl]
  · show OwnI w' 0 A (marksI k zs.length).length c (marksI k zs.length)
    rw [hl]; exact h2
  · show ∀ q, (Value.slice A (marksI k zs.length).length c).ownBlock = some q → S q
    rw [hl]; exact s1
theorem heldIntS_any : HeldC 26 ity := by
  rintro w B v zs k ⟨A, c, rfl, h1⟩ hB hf hk0 hk1
  have h1 : IsInts w B A (marksI k zs.length).length (marksI k zs.length) := h1
  show Calls Tryz.prog 26 #[.slice A (marksI k zs.length).length c, .int .i64 k] w _
  rw [marksI_len] at h1 ⊢
  refine (Rec.heldIntS_any A zs.length c k B w h1 hf hk0 (by omega)).mono ?_
  rintro e w' ⟨rfl, rfl⟩
  exact ⟨rfl, Below.refl _ _⟩
end Go.Proofs.YtdefckbgcggnoaaGreat.IntTy
