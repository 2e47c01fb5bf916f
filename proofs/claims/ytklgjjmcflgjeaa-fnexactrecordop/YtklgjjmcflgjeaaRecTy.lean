/-
  RECORDS as a kind of data for the walks of exact laws.
-/
import Derived.Test.YtklgjjmcflgjeaaLawKit
import Derived.Test.YtklgjjmcflgjeaaRecBox
namespace Go.Proofs.Ytklgjjmcflgjeaa.RecTy
open Go.ChangeShapes Go.WideShapes Go.ChangeAt Go.RowKit
open Go.Proofs.Ytklgjjmcflgjeaa.LK Go.Proofs.Ytklgjjmcflgjeaa.Ints Go.Proofs.Ytklgjjmcflgjeaa.Has Go.Proofs.Ytklgjjmcflgjeaa.Rec
set_option linter.unusedVariables false

/-- Kind, Nums. -/
abbrev RD := Int × List Int
def RRd (w : World) (B : Nat) (v : Value) (d : RD) : Prop := ∃ A c, v = .agg #[.int .i64 d.1, .slice A d.2.length c] ∧ IsInts w B A d.2.length d.2
def ROwn (w : World) (S : Nat → Prop) (v : Value) (d : RD) : Prop := ∃ A c, v = .agg #[.int .i64 d.1, .slice A d.2.length c] ∧ OwnI w 0 A d.2.length c d.2 ∧ (∀ k, (Value.slice A d.2.length c).ownBlock = some k → S k)
theorem ownI_zero {w : World} {b : Nat} {A : Option Addr} {n c : Nat} {zs : List Int} (h : OwnI w b A n c zs) : OwnI w 0 A n c zs := ownI_base h (Nat.zero_le _)
theorem ownI_same {w w' : World} {b : Nat} {A : Option Addr} {n c : Nat} {zs : List Int} (h : OwnI w b A n c zs) (hs : ∀ k, (Value.slice A n c).ownBlock = some k → w'.heap[k]? = w.heap[k]?) : OwnI w' b A n c zs := by
  refine ⟨h.1, h.2.1, ?_⟩
  rcases h.2.2 with h2 | ⟨g, cap, cur, h3, h4, h5, h6⟩
  · exact .inl h2
  · refine .inr ⟨g, cap, cur, h3, h4, ?_, h6⟩
    rw [hs g (by rw [h3]; rfl)]; exact h5
theorem ownI_ints {w : World} {b B : Nat} {A : Option Addr} {n c : Nat} {zs : List Int} (h : OwnI w b A n c zs) (hs : ∀ k, (Value.slice A n c).ownBlock = some k → k < B) : IsInts w B A n zs := by
  obtain ⟨h1, h3⟩ := h.ints
  refine ⟨h1, fun hn => ?_⟩
  obtain ⟨g, off, e, _, h4⟩ := h3 hn
  exact ⟨g, off, e, hs g (by rw [e]; rfl), h4⟩
def rty : Ty where
  D := RD
  Rd := RRd
  Own := ROwn
  Few := fun d => d.2.length ≤ 1048576
  cnt := fun d => d.2.length
  mark := fun k d => (d.1, marksI k d.2.length)
  rd_below := by
    rintro w w' B C v d ⟨A, c, rfl, h1⟩ hb hC
    exact ⟨A, c, rfl, h1.below hb hC⟩
  own_rd := by
    rintro w S v d B ⟨A, c, rfl, h1, s1⟩ hB
    exact ⟨A, c, rfl, ownI_ints h1 (fun k hk => hB k (s1 k hk))⟩
  own_same := by
    rintro w w' S v d ⟨A, c, rfl, h1, s1⟩ hs
    exact ⟨A, c, rfl, ownI_same h1 (fun k hk => hs k (s1 k hk)), s1⟩
  few_cnt := by intro d h; omega
theorem shape {w : World} {lo hi : Nat} {S : Nat → Prop} {v : Value} {d : RD} (h : Has rty w lo hi S v d) : ∃ x A n c, v = .agg #[.int .i64 x, .slice A n c] := by
  obtain ⟨A, c, e, _⟩ := h.own
  exact ⟨_, _, _, _, e⟩
theorem toRecord_any : ToC 20 rty := by
  rintro w B v ⟨x, zs⟩ ⟨A, c, rfl, h1⟩ hB hf
  refine (Rec.toRecord_any x A zs.length c zs B w h1 hB hf).mono ?_
  rintro e w' ⟨A', c', rfl, hO, hb⟩
  exact ⟨_, fun k => w.heap.size ≤ k ∧ k < w'.heap.size, rfl, ⟨⟨A', c', rfl, ownI_zero hO, fun k hk => hO.lt k hk⟩, fun k hk => hk, Nat.le_refl _⟩, hb⟩
theorem eqRecord_any : EqC 15 rty := by
  rintro w B B' v v' ⟨x, zs⟩ ⟨A, c, rfl, h1⟩ ⟨C, e, rfl, h2⟩ hB hB' hf
  exact Rec.eqRecord_same x A C zs.length c e zs B B' w h1 h2 hB hB' hf
theorem markRecord_any : MarkC 16 rty := by
  rintro w lo hi S v ⟨x, zs⟩ k ⟨⟨A, c, rfl, h1, s1⟩, hin, hhi⟩ hf hk0 hk1
  refine (Rec.markRecord_any x A zs.length c zs k 0 w h1 hf hk0 (by omega)).mono ?_
  rintro e w' ⟨rfl, h2, hg⟩
  have hl : (marksI k zs.length).length = zs.length := marksI_len _ _
  have hT : Turned S w w' := Turned.of_grown hg s1
  refine ⟨rfl, ⟨⟨A, c, ?_, ?_, ?_⟩, hin, Nat.le_trans hhi hT.size⟩, hT⟩
  · show _ = Value.agg #[.int .i64 x, .slice A (marksI k zs.length).length c]
    rw [hl]
  · show OwnI w' 0 A (marksI k zs.length).length c (marksI k zs.length)
    rw [hl]; exact h2
  · show ∀ q, (Value.slice A (marksI k zs.length).length c).ownBlock = some q → S q
    rw [hl]; exact s1
theorem heldRecord_any : HeldC 17 rty := by
  rintro w B v ⟨x, zs⟩ k ⟨A, c, rfl, h1⟩ hB hf hk0 hk1
  have h1 : IsInts w B A (marksI k zs.length).length (marksI k zs.length) := h1
  show Calls Try.prog 17 #[.agg #[.int .i64 x, .slice A (marksI k zs.length).length c], .int .i64 k] w _
  rw [marksI_len] at h1 ⊢
  exact Rec.heldRecord_any x A zs.length c k B w h1 hB hf hk0 (by omega)
theorem szRecord_any (x : Int) (A : Option Addr) (c : Nat) (zs : List Int) (w : World) (h : zs.length ≤ maxLen) : SzC 18 rty (.agg #[.int .i64 x, .slice A zs.length c]) (x, zs) w := by
  intro W k _ hk0 hk1
  refine (Rec.szRecord_any x A zs.length c k W h hk0 hk1).mono ?_
  rintro e w' ⟨r, rfl, hb, hr⟩
  refine ⟨r, rfl, hb, ?_⟩
  rcases hr with hr | ⟨h0, h1⟩
  · exact .inl hr
  · exact .inr ⟨h0, by omega, by show zs.length ≤ 1048576; omega⟩
end Go.Proofs.Ytklgjjmcflgjeaa.RecTy
