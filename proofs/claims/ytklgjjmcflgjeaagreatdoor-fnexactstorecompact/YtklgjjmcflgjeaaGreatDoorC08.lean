import Derived.Test.YtklgjjmcflgjeaaGreatDoorC04
import Derived.Test.YtklgjjmcflgjeaaGreatDoorC07
set_option linter.unusedVariables false
set_option linter.unusedSimpArgs false
namespace Go.Proofs.YtklgjjmcflgjeaaGreatDoor.Rd
open Bytes (sumV)
open Rec (RList endR endR_app)
theorem numsA_ge {bs : List Int} (hb : ∀ x ∈ bs, 0 ≤ x ∧ x < 256) {zs : List Int} {q : Nat} : ∀ (m p : Nat) (acc : List Int), p ≤ bs.length → numsA bs m p acc = .ok zs q → p + m ≤ q ∧ q ≤ bs.length
  | 0, p, acc, hp, h => by
    rw [numsA] at h
    injection h with h1 h2
    omega
  | m + 1, p, acc, hp, h => by
    generalize hnr : numR bs p = nr
    cases nr with
    | ok x r =>
      rw [numsA_ok hnr] at h
      have h1 := numR_in hb hnr
      have := numsA_ge hb m r _ h1.2.2 h
      omega
    | torn => rw [numsA_torn hnr] at h; cases h
    | bent => rw [numsA_bent hnr] at h; cases h
theorem tailR_ok {bs : List Int} {p q r : Nat} {kd kd' : Int} {zs zs' : List Int} (h : tailR bs p q kd zs = .ok kd' zs' r) : kd' = kd ∧ zs' = zs ∧ r = q + 2 ∧ q + 2 ≤ bs.length := by
  unfold tailR at h
  split at h
  · cases h
  · split at h
    · cases h
    · split at h
      · cases h
      · split at h
        · cases h
        · injection h with h1 h2 h3
          exact ⟨h1.symm, h2.symm, h3.symm, by omega⟩
theorem recR_ok {bs : List Int} (hb : ∀ x ∈ bs, 0 ≤ x ∧ x < 256) {p r : Nat} {kd : Int} {zs : List Int} (h : recR bs p = .ok kd zs r) : p + 4 + zs.length ≤ r ∧ r ≤ bs.length ∧ zs.length ≤ 12 := by
  have h12 := recR_len h
  unfold recR at h
  split at h
  · cases h
  · split at h
    · cases h
    · split at h
      · cases h
      · split at h
        · cases h
        · generalize hna : numsA bs (bs.getD (p + 1) 0).toNat (p + 2) [] = na at h
          cases na with
          | ok acc q =>
            have h' : tailR bs p q (bs.getD p 0) acc = .ok kd zs r := h
            obtain ⟨_, e2, e3, e4⟩ := tailR_ok h'
            have h1 := numsA_ge hb _ _ _ (by omega) hna
            have h2 := numsA_len _ _ _ hna
            rw [List.length_nil] at h2
            rw [e2]
            refine ⟨?_, by omega, by rw [← e2]; exact h12⟩
            omega
          | torn => cases h
          | bent => cases h
def scanG (bs : List Int) : Nat → Nat → RList → RList × Nat × Int
  | 0, p, acc => (acc, p, 0)
  | k + 1, p, acc => if bs.length ≤ p then (acc, p, 0) else match recR bs p with
    | .ok kd zs q => scanG bs k q (acc ++ [(kd, zs)])
    | .torn => (acc, p, 1)
    | .bent => (acc, p, 2)
def scanV (bs : List Int) : RList × Nat × Int := scanG bs (bs.length + 1) 0 []
theorem scanG_end {bs : List Int} {k p : Nat} {acc : RList} (h : bs.length ≤ p) : scanG bs k p acc = (acc, p, 0) := by
  cases k with
  | zero => rfl
  | succ k => rw [scanG, if_pos h]
theorem scanG_ok {bs : List Int} {k p q : Nat} {acc : RList} {kd : Int} {zs : List Int} (h : p < bs.length) (hr : recR bs p = .ok kd zs q) : scanG bs (k + 1) p acc = scanG bs k q (acc ++ [(kd, zs)]) := by rw [scanG, if_neg (by omega), hr]
theorem scanG_torn {bs : List Int} {k p : Nat} {acc : RList} (h : p < bs.length) (hr : recR bs p = .torn) : scanG bs (k + 1) p acc = (acc, p, 1) := by rw [scanG, if_neg (by omega), hr]
theorem scanG_bent {bs : List Int} {k p : Nat} {acc : RList} (h : p < bs.length) (hr : recR bs p = .bent) : scanG bs (k + 1) p acc = (acc, p, 2) := by rw [scanG, if_neg (by omega), hr]
def Amid (bs : List Int) (p : Nat) (acc : RList) : Prop := ∃ k, bs.length - p < k ∧ scanV bs = scanG bs k p acc ∧ p ≤ bs.length ∧ endR 1 acc + 3 * (acc.length : Int) ≤ 1 + (p : Int) ∧ ∀ r ∈ acc, r.2.length ≤ 12
theorem amid_start (bs : List Int) : Amid bs 0 [] := ⟨bs.length + 1, by omega, rfl, by omega, by simp [endR], by simp⟩
theorem amid_next {bs : List Int} (hb : ∀ x ∈ bs, 0 ≤ x ∧ x < 256) {p q : Nat} {acc : RList} {kd : Int} {zs : List Int} (h : Amid bs p acc) (hp : p < bs.length) (hr : recR bs p = .ok kd zs q) : Amid bs q (acc ++ [(kd, zs)]) ∧ p < q ∧ q ≤ bs.length := by
  obtain ⟨k, hk, hs, hpl, he, hl⟩ := h
  have h1 := recR_ok hb hr
  cases k with
  | zero => omega
  | succ k =>
    refine ⟨⟨k, by omega, by rw [hs, scanG_ok hp hr], by omega, ?_, ?_⟩, by omega, by omega⟩
    · rw [endR_app]
      simp only [endR, List.length_append, List.length_cons, List.length_nil]
      omega
    · intro r hr'
      rcases List.mem_append.mp hr' with h | h
      · exact hl r h
      · have : r = (kd, zs) := by simpa using h
        rw [this]; exact h1.2.2
theorem amid_end {bs : List Int} {p : Nat} {acc : RList} (h : Amid bs p acc) (hp : bs.length ≤ p) : scanV bs = (acc, p, 0) := by
  obtain ⟨k, hk, hs, _⟩ := h
  rw [hs, scanG_end hp]
theorem amid_torn {bs : List Int} {p : Nat} {acc : RList} (h : Amid bs p acc) (hp : p < bs.length) (hr : recR bs p = .torn) : scanV bs = (acc, p, 1) := by
  obtain ⟨k, hk, hs, _⟩ := h
  cases k with
  | zero => omega
  | succ k => rw [hs, scanG_torn hp hr]
theorem amid_bent {bs : List Int} {p : Nat} {acc : RList} (h : Amid bs p acc) (hp : p < bs.length) (hr : recR bs p = .bent) : scanV bs = (acc, p, 2) := by
  obtain ⟨k, hk, hs, _⟩ := h
  cases k with
  | zero => omega
  | succ k => rw [hs, scanG_bent hp hr]
theorem numG_torn_iff {bs : List Int} : ∀ (k p i : Nat) (x u : Int), p ≤ bs.length → (numG bs k p i x u = .torn ↔ (bs.length < p + k ∧ ∀ j, p ≤ j → j < bs.length → 128 ≤ bs.getD j 0))
  | 0, p, i, x, u, hp => by
    constructor
    · intro h; cases h
    · intro h; omega
  | k + 1, p, i, x, u, hp => by
    by_cases h1 : bs.length ≤ p
    · rw [numG_torn h1]
      refine ⟨fun _ => ⟨by omega, fun j hj hj2 => by omega⟩, fun _ => rfl⟩
    · by_cases h2 : 128 ≤ bs.getD p 0
      · rw [numG_on (by omega) h2, numG_torn_iff k (p + 1) (i + 1) _ _ (by omega)]
        constructor
        · rintro ⟨h3, h4⟩
          refine ⟨by omega, fun j hj hj2 => ?_⟩
          by_cases e : j = p
          · subst e; exact h2
          · exact h4 j (by omega) hj2
        · rintro ⟨h3, h4⟩
          exact ⟨by omega, fun j hj hj2 => h4 j (by omega) hj2⟩
      · constructor
        · intro h
          by_cases h3 : (bs.getD p 0 = 0 ∧ 0 < i) ∨ 1099511627775 < x + bs.getD p 0 % 128 * u
          · rw [numG_bent (by omega) (by omega) h3] at h; cases h
          · rw [numG_ok (by omega) (by omega) h3] at h; cases h
        · rintro ⟨_, h4⟩
          exact absurd (h4 p (by omega) (by omega)) h2
theorem numR_torn_iff {bs : List Int} {p : Nat} (hp : p ≤ bs.length) : numR bs p = .torn ↔ (bs.length - p ≤ 5 ∧ ∀ j, p ≤ j → j < bs.length → 128 ≤ bs.getD j 0) := by
  rw [numR, numG_torn_iff 6 p 0 0 1 hp]
  constructor
  · rintro ⟨h1, h2⟩; exact ⟨by omega, h2⟩
  · rintro ⟨h1, h2⟩; exact ⟨by omega, h2⟩
theorem getD_drop (bs : List Int) (a j : Nat) : (bs.drop a).getD j 0 = bs.getD (a + j) 0 := by simp [List.getD]
def NumR.up (a : Nat) : NumR → NumR
  | .ok x q => .ok x (a + q)
  | .torn => .torn
  | .bent => .bent
theorem numG_drop (bs : List Int) (a : Nat) (ha : a ≤ bs.length) : ∀ (k p i : Nat) (x u : Int), numG bs k (a + p) i x u = (numG (bs.drop a) k p i x u).up a
  | 0, p, i, x, u => rfl
  | k + 1, p, i, x, u => by
    have hl : (bs.drop a).length = bs.length - a := by simp
    rw [numG, numG, getD_drop]
    by_cases h1 : bs.length ≤ a + p
    · rw [if_pos h1, if_pos (show (bs.drop a).length ≤ p by omega)]; rfl
    · rw [if_neg h1, if_neg (show ¬ (bs.drop a).length ≤ p by omega)]
      split
      · rw [Nat.add_assoc]; exact numG_drop bs a ha k (p + 1) (i + 1) _ _
      · split
        · rfl
        · rfl
theorem numR_drop (bs : List Int) (a p : Nat) (ha : a ≤ bs.length) : numR bs (a + p) = (numR (bs.drop a) p).up a := numG_drop bs a ha 6 p 0 0 1
def NumsR.up (a : Nat) : NumsR → NumsR
  | .ok zs q => .ok zs (a + q)
  | .torn => .torn
  | .bent => .bent
theorem numsA_drop (bs : List Int) (a : Nat) (ha : a ≤ bs.length) : ∀ (m p : Nat) (acc : List Int), numsA bs m (a + p) acc = (numsA (bs.drop a) m p acc).up a
  | 0, p, acc => rfl
  | m + 1, p, acc => by
    rw [numsA, numsA, numR_drop bs a p ha]
    cases numR (bs.drop a) p with
    | ok x q => exact numsA_drop bs a ha m q _
    | torn => rfl
    | bent => rfl
def RecR.up (a : Nat) : RecR → RecR
  | .ok kd zs q => .ok kd zs (a + q)
  | .torn => .torn
  | .bent => .bent
theorem take_drop_drop (bs : List Int) (a q : Nat) : ((bs.drop a).take q).drop 0 = (bs.take (a + q)).drop a := by
  rw [List.drop_zero, List.drop_take]
  congr 1
  omega
theorem recR_drop (bs : List Int) (a : Nat) (ha : a ≤ bs.length) : recR bs a = (recR (bs.drop a) 0).up a := by
  have hl : (bs.drop a).length = bs.length - a := by simp
  unfold recR
  simp only [getD_drop, Nat.add_zero, Nat.zero_add]
  by_cases h1 : bs.length ≤ a
  · rw [if_pos h1, if_pos (show (bs.drop a).length ≤ 0 by omega)]; rfl
  · rw [if_neg h1, if_neg (show ¬ (bs.drop a).length ≤ 0 by omega)]
    split
    · rfl
    · by_cases h2 : bs.length ≤ a + 1
      · rw [if_pos h2, if_pos (show (bs.drop a).length ≤ 1 by omega)]; rfl
      · rw [if_neg h2, if_neg (show ¬ (bs.drop a).length ≤ 1 by omega)]
        split
        · rfl
        · have hn := numsA_drop bs a ha (bs.getD (a + 1) 0).toNat 2 []
          rw [hn]
          cases numsA (bs.drop a) (bs.getD (a + 1) 0).toNat 2 [] with
          | torn => rfl
          | bent => rfl
          | ok zs q =>
            show tailR bs a (a + q) _ zs = (tailR (bs.drop a) 0 q _ zs).up a
            unfold tailR
            rw [getD_drop, getD_drop, take_drop_drop, ← Nat.add_assoc]
            by_cases h3 : bs.length ≤ a + q
            · rw [if_pos h3, if_pos (show (bs.drop a).length ≤ q by omega)]; rfl
            · rw [if_neg h3, if_neg (show ¬ (bs.drop a).length ≤ q by omega)]
              split
              · rfl
              · by_cases h4 : bs.length ≤ a + q + 1
                · rw [if_pos h4, if_pos (show (bs.drop a).length ≤ q + 1 by omega)]; rfl
                · rw [if_neg h4, if_neg (show ¬ (bs.drop a).length ≤ q + 1 by omega)]
                  split
                  · rfl
                  · rfl
end Go.Proofs.YtklgjjmcflgjeaaGreatDoor.Rd
namespace Go.Proofs.YtklgjjmcflgjeaaGreatDoor.JourC
open Go.ChangeShapes Go.WideShapes Go.ChangeAt Go.RowKit Go.Joins Go.Deep
open Bytes LK Jour
def CRd (w : World) (B : Nat) (v : Value) (d : JD) : Prop := ∃ A1 c1 A2 c2, v = .agg #[.slice A1 d.1.length c1, .slice A2 d.2.1.length c2, .int .i64 d.2.2] ∧ IsBytes w B A1 d.1.length d.1 ∧ IsBytes w B A2 d.2.1.length d.2.1 ∧ d.1.length ≤ c1 ∧ d.2.1.length ≤ c2
theorem CRd.rd {w : World} {B : Nat} {v : Value} {d : JD} (h : CRd w B v d) : JRd w B v d := by
  obtain ⟨A1, c1, A2, c2, e, h1, h2, _⟩ := h
  exact ⟨A1, c1, A2, c2, e, h1, h2⟩
theorem own_room {w : World} {b : Nat} {A : Option Addr} {n c : Nat} {zs : List Int} (h : OwnB w b A n c zs) : n ≤ c := by
  rcases h.2.2.2 with ⟨e, hn⟩ | ⟨g, cap, cur, e, _, _, h7, _⟩
  · omega
  · injection e with _ _ e3
    omega
def cty : Ty where
  D := JD
  Rd := CRd
  Own := JOwn
  Few := jty.Few
  cnt := jty.cnt
  mark := jty.mark
  rd_below := by
    rintro w w' B C v d ⟨A1, c1, A2, c2, rfl, h1, h2, h3, h4⟩ hb hC
    exact ⟨A1, c1, A2, c2, rfl, h1.below hb hC, h2.below hb hC, h3, h4⟩
  own_rd := by
    rintro w S v d B ⟨A1, c1, A2, c2, rfl, h1, h2, s1, s2, _⟩ hB
    exact ⟨A1, c1, A2, c2, rfl, own_bytes h1 (fun k hk => hB k (s1 k hk)), own_bytes h2 (fun k hk => hB k (s2 k hk)), own_room h1, own_room h2⟩
  own_same := jty.own_same
  few_cnt := jty.few_cnt
theorem toC {w : World} {lo hi : Nat} {S : Nat → Prop} {v : Value} {d : JD} (h : Has jty w lo hi S v d) : Has cty w lo hi S v d := ⟨h.own, h.inn, h.hi⟩
theorem ofC {w : World} {lo hi : Nat} {S : Nat → Prop} {v : Value} {d : JD} (h : Has cty w lo hi S v d) : Has jty w lo hi S v d := ⟨h.own, h.inn, h.hi⟩
theorem shape {w : World} {lo hi : Nat} {S : Nat → Prop} {v : Value} {d : JD} (h : Has cty w lo hi S v d) : ∃ A m c A' n c' s, v = .agg #[.slice A m c, .slice A' n c', .int .i64 s] := Jour.shape (ofC h)
theorem toJournal_any : ToC 31 cty := fun w B v d hr hB hf => (Jour.toJournal_any w B v d hr.rd hB hf).mono (by rintro e w' ⟨v', S, e1, h1, h2⟩; exact ⟨v', S, e1, toC h1, h2⟩)
theorem eqJournal_any : EqC 32 cty := fun w B B' v v' d hr hr' hB hB' hf => Jour.eqJournal_any w B B' v v' d hr.rd hr'.rd hB hB' hf
theorem markJournal_any : MarkC 33 cty := fun w lo hi S v d k h hf h0 h1 => (Jour.markJournal_any w lo hi S v d k (ofC h) hf h0 h1).mono (by rintro e w' ⟨e1, h2, h3⟩; exact ⟨e1, toC h2, h3⟩)
theorem heldJournal_any : HeldC 68 cty := fun w B v d k hr hB hf h0 h1 => Jour.heldJournal_any w B v d k hr.rd hB hf h0 h1
section
variable {H : Type} {enc : TypeId × Value → H} {w : World} {base : Nat} {spare : Nat → Bool} {held : Bool}
theorem bytes_room {fuel : Nat} {v : Value} {x : DataW H × List MemPlace} (h : DataW.trod enc Tryz.prog w base spare held fuel 22 [v] = some x) : ∃ A n c, v = .slice A n c ∧ n ≤ c := by
  rcases open_ints Tryz.underlying22 Tryz.underlying5 (by kernel_rfl) h with ⟨hcs, _⟩ | ⟨x, l, c, zs, hcs, _, hl, hm, hz, _, hcell, hwz⟩
  · injection hcs with hcs
    exact ⟨none, 0, 0, hcs, Nat.le_refl _⟩
  · injection hcs with hcs
    exact ⟨_, _, _, hcs, hl⟩
end
open Rd Rec in
theorem scan_end {bs : List Int} (hb : ∀ x ∈ bs, 0 ≤ x ∧ x < 256) : ∀ (d p : Nat) (acc : RList), bs.length - p ≤ d → Amid bs p acc → ∃ q acc' t, scanV bs = (acc', q, t) ∧ Amid bs q acc' := by
  intro d
  induction d with
  | zero =>
    intro p acc h1 h2
    exact ⟨p, acc, 0, amid_end h2 (by omega), h2⟩
  | succ d ih =>
    intro p acc h1 h2
    by_cases hp : p < bs.length
    · cases hr : recR bs p with
      | torn => exact ⟨p, acc, 1, amid_torn h2 hp hr, h2⟩
      | bent => exact ⟨p, acc, 2, amid_bent h2 hp hr, h2⟩
      | ok kd zs q =>
        obtain ⟨h3, h4, h5⟩ := amid_next hb h2 hp hr
        exact ih q _ (by omega) h3
    · exact ⟨p, acc, 0, amid_end h2 (by omega), h2⟩
open Rd Rec in
theorem scan_in {bs : List Int} (hb : ∀ x ∈ bs, 0 ≤ x ∧ x < 256) : (scanV bs).2.1 ≤ bs.length ∧ endR 1 (scanV bs).1 + 3 * ((scanV bs).1.length : Int) ≤ 1 + (bs.length : Int) ∧ ∀ r ∈ (scanV bs).1, r.2.length ≤ 12 := by
  obtain ⟨q, acc, t, hs, k, _, _, h1, h2, h3⟩ := scan_end hb bs.length 0 [] (by omega) (amid_start bs)
  rw [hs]
  exact ⟨h1, by show endR 1 acc + 3 * (acc.length : Int) ≤ _; omega, h3⟩
end Go.Proofs.YtklgjjmcflgjeaaGreatDoor.JourC
