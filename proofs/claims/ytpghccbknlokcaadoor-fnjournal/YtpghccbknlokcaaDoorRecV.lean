/-
  WHAT IS READ OF A RECORD, on lists; and the reader's upTo, exactly and number, whole or faulted, in one contract each, over this seat's translation.
-/
import Derived.Test.YtpghccbknlokcaaDoorReader2
import Derived.Test.YtpghccbknlokcaaDoorSumOf
namespace Go.Proofs.YtpghccbknlokcaaDoor.Rd
open Go.ChangeShapes Go.WideShapes Go.ChangeAt Go.RowKit
open Go.Proofs.YtpghccbknlokcaaDoor.Ints (below_drewN)
open Go.Proofs.YtpghccbknlokcaaDoor.Bytes (IsBytes sumV sumV_in)
set_option linter.unusedVariables false
set_option linter.unusedSimpArgs false

inductive Flt where
  | no
  | torn
  | bent
  | out
def fv (aT aB aO : Addr) : Flt → Value
  | .no => .nilIface
  | .torn => .iface 111 (.pointer (some aT))
  | .bent => .iface 111 (.pointer (some aB))
  | .out => .iface 111 (.pointer (some aO))
theorem fv_dead (aT aB aO : Addr) {f : Flt} (h : f ≠ .no) : ∃ u x, fv aT aB aO f = .iface u x := by
  cases f
  · exact absurd rfl h
  · exact ⟨_, _, rfl⟩
  · exact ⟨_, _, rfl⟩
  · exact ⟨_, _, rfl⟩

inductive NumsR where
  | ok (zs : List Int) (p : Nat)
  | torn
  | bent
/-- m numbers more from place p on, behind acc. -/
def numsA (bs : List Int) : Nat → Nat → List Int → NumsR
  | 0, p, acc => .ok acc p
  | m + 1, p, acc => match numR bs p with
    | .ok x q => numsA bs m q (acc ++ [x])
    | .torn => .torn
    | .bent => .bent
theorem numsA_ok {bs : List Int} {m p q : Nat} {x : Int} {acc : List Int} (h : numR bs p = .ok x q) : numsA bs (m + 1) p acc = numsA bs m q (acc ++ [x]) := by rw [numsA, h]
theorem numsA_torn {bs : List Int} {m p : Nat} {acc : List Int} (h : numR bs p = .torn) : numsA bs (m + 1) p acc = .torn := by rw [numsA, h]
theorem numsA_bent {bs : List Int} {m p : Nat} {acc : List Int} (h : numR bs p = .bent) : numsA bs (m + 1) p acc = .bent := by rw [numsA, h]

inductive RecR where
  | ok (kd : Int) (zs : List Int) (p : Nat)
  | torn
  | bent
def tailR (bs : List Int) (p q : Nat) (kd : Int) (zs : List Int) : RecR :=
  if bs.length ≤ q then .torn
  else if bs.getD q 0 ≠ sumV ((bs.take q).drop p) / 256 then .bent
  else if bs.length ≤ q + 1 then .torn
  else if bs.getD (q + 1) 0 ≠ sumV ((bs.take q).drop p) % 256 then .bent
  else .ok kd zs (q + 2)
def bodyR (bs : List Int) (p : Nat) (kd : Int) : NumsR → RecR
  | .ok zs q => tailR bs p q kd zs
  | .torn => .torn
  | .bent => .bent
def recR (bs : List Int) (p : Nat) : RecR :=
  if bs.length ≤ p then .torn
  else if 99 < bs.getD p 0 then .bent
  else if bs.length ≤ p + 1 then .torn
  else if 12 < bs.getD (p + 1) 0 then .bent
  else bodyR bs p (bs.getD p 0) (numsA bs (bs.getD (p + 1) 0).toNat (p + 2) [])

/-- upTo(m) from (p, f): r, and then (p', f'). -/
def UpR (bs : List Int) (m : Int) (p : Nat) (f : Flt) (r : Int) (p' : Nat) (f' : Flt) : Prop :=
  (f ≠ .no ∧ r = 0 ∧ p' = p ∧ f' = f) ∨ (f = .no ∧ bs.length ≤ p ∧ r = 0 ∧ f' = .torn) ∨ (f = .no ∧ p < bs.length ∧ bs.getD p 0 ≤ m ∧ r = bs.getD p 0 ∧ p' = p + 1 ∧ f' = .no) ∨ (f = .no ∧ p < bs.length ∧ m < bs.getD p 0 ∧ r = 0 ∧ f' = .bent)
def ExR (bs : List Int) (m : Int) (p : Nat) (f : Flt) (p' : Nat) (f' : Flt) : Prop :=
  (f ≠ .no ∧ p' = p ∧ f' = f) ∨ (f = .no ∧ bs.length ≤ p ∧ f' = .torn) ∨ (f = .no ∧ p < bs.length ∧ bs.getD p 0 = m ∧ p' = p + 1 ∧ f' = .no) ∨ (f = .no ∧ p < bs.length ∧ bs.getD p 0 ≠ m ∧ f' = .bent)
def NuR (bs : List Int) (p : Nat) (f : Flt) (r : Int) (p' : Nat) (f' : Flt) : Prop :=
  (f ≠ .no ∧ r = 0 ∧ p' = p ∧ f' = f) ∨ (f = .no ∧ ((numR bs p = .ok r p' ∧ f' = .no) ∨ (numR bs p = .torn ∧ f' = .torn) ∨ (numR bs p = .bent ∧ f' = .bent)))

section
variable {w : World} {R : Nat} {A : Option Addr} {n c p : Nat} {bs : List Int} {B : Nat} {aT aB aO : Addr} {f : Flt}
theorem upTo_c (m : Int) (hm : 0 ≤ m) (hE : Errs B w aT aB aO) (hB : IsBytes w B A n bs) (hBR : B ≤ R) (hn : n ≤ 1048576) (h : Rd w R A n c p (fv aT aB aO f)) (hp : p ≤ n) :
    Calls Tryd.prog 55 #[.pointer (some ⟨R, 0, none⟩), .int .i64 m] w fun e w' => ∃ (r : Nat) (p' : Nat) (f' : Flt), Left w R A n c (.int .i64 r) p' (fv aT aB aO f') e w' ∧ p ≤ p' ∧ p' ≤ n ∧ (r : Int) ≤ m ∧ UpR bs m p f r p' f' := by
  have HL := hB.1
  by_cases hf : f = .no
  · subst hf
    by_cases hpn : p < n
    · have hb := hB.2.1 (bs.getD p 0) (by simp [List.getD, show p < bs.length by omega])
      by_cases hle : bs.getD p 0 ≤ m
      · refine (upTo_in w R A n c p bs m B hB hBR hn h hpn hle).mono ?_
        rintro e w' hL
        refine ⟨(bs.getD p 0).toNat, p + 1, .no, ?_, by omega, by omega, by omega, .inr (.inr (.inl ⟨rfl, by omega, hle, by omega, rfl, rfl⟩))⟩
        rw [Int.toNat_of_nonneg hb.1]
        exact hL
      · refine (upTo_over w R A n c p bs m B aT aB aO hE hB hBR hn h hpn (by omega)).mono ?_
        rintro e w' hL
        exact ⟨0, p + 1, .bent, hL, by omega, by omega, hm, .inr (.inr (.inr ⟨rfl, by omega, by omega, rfl, rfl⟩))⟩
    · obtain rfl : p = n := by omega
      refine (upTo_end w R A p c m hm B aT aB aO hE h).mono ?_
      rintro e w' hL
      exact ⟨0, p, .torn, hL, by omega, by omega, hm, .inr (.inl ⟨rfl, by omega, rfl, rfl⟩)⟩
  · obtain ⟨u, x, e0⟩ := fv_dead aT aB aO hf
    rw [e0] at h
    refine (upTo_dead w R A n c p u x m hm h).mono ?_
    rintro e w' hL
    exact ⟨0, p, f, by rw [e0]; exact hL, by omega, hp, hm, .inl ⟨hf, rfl, rfl, rfl⟩⟩
theorem exactly_c (m : Int) (hE : Errs B w aT aB aO) (hB : IsBytes w B A n bs) (hBR : B ≤ R) (hn : n ≤ 1048576) (h : Rd w R A n c p (fv aT aB aO f)) (hp : p ≤ n) :
    Calls Tryd.prog 57 #[.pointer (some ⟨R, 0, none⟩), .int .i64 m] w fun e w' => ∃ (p' : Nat) (f' : Flt), Left w R A n c (.tuple #[]) p' (fv aT aB aO f') e w' ∧ p ≤ p' ∧ p' ≤ n ∧ ExR bs m p f p' f' := by
  have HL := hB.1
  by_cases hf : f = .no
  · subst hf
    by_cases hpn : p < n
    · by_cases hle : bs.getD p 0 = m
      · refine (exactly_in w R A n c p bs m B hB hBR hn h hpn hle).mono ?_
        rintro e w' hL
        exact ⟨p + 1, .no, hL, by omega, by omega, .inr (.inr (.inl ⟨rfl, by omega, hle, rfl, rfl⟩))⟩
      · refine (exactly_not w R A n c p bs m B aT aB aO hE hB hBR hn h hpn hle).mono ?_
        rintro e w' hL
        exact ⟨p + 1, .bent, hL, by omega, by omega, .inr (.inr (.inr ⟨rfl, by omega, hle, rfl⟩))⟩
    · obtain rfl : p = n := by omega
      refine (exactly_end w R A p c m B aT aB aO hE hBR h).mono ?_
      rintro e w' hL
      exact ⟨p, .torn, hL, by omega, by omega, .inr (.inl ⟨rfl, by omega, rfl⟩)⟩
  · obtain ⟨u, x, e0⟩ := fv_dead aT aB aO hf
    rw [e0] at h
    refine (exactly_dead w R A n c p u x m B aT aB aO hE hBR h).mono ?_
    rintro e w' hL
    exact ⟨p, f, by rw [e0]; exact hL, by omega, hp, .inl ⟨hf, rfl, rfl⟩⟩
theorem number_c (hE : Errs B w aT aB aO) (hB : IsBytes w B A n bs) (hBR : B ≤ R) (hn : n ≤ 1048576) (h : Rd w R A n c p (fv aT aB aO f)) (hp : p ≤ n) :
    Calls Tryd.prog 56 #[.pointer (some ⟨R, 0, none⟩)] w fun e w' => ∃ (r : Int) (p' : Nat) (f' : Flt), Left w R A n c (.int .i64 r) p' (fv aT aB aO f') e w' ∧ p ≤ p' ∧ p' ≤ n ∧ NuR bs p f r p' f' := by
  by_cases hf : f = .no
  · subst hf
    refine (number_live w R A n c p bs B aT aB aO hE hB hBR hn h hp).mono ?_
    rintro e w' ⟨r, p', f', hL, hN⟩
    generalize hnr : numR bs p = nr at hN
    cases nr with
    | ok x q =>
      obtain ⟨rfl, rfl, h1, h2, rfl⟩ := hN
      exact ⟨r, q, .no, hL, h1, h2, .inr ⟨rfl, .inl ⟨hnr, rfl⟩⟩⟩
    | torn =>
      obtain ⟨rfl, ⟨q, rfl, h1, h2⟩, rfl⟩ := hN
      exact ⟨0, q, .torn, hL, h1, h2, .inr ⟨rfl, .inr (.inl ⟨hnr, rfl⟩)⟩⟩
    | bent =>
      obtain ⟨rfl, ⟨q, rfl, h1, h2⟩, rfl⟩ := hN
      exact ⟨0, q, .bent, hL, h1, h2, .inr ⟨rfl, .inr (.inr ⟨hnr, rfl⟩)⟩⟩
  · obtain ⟨u, x, e0⟩ := fv_dead aT aB aO hf
    rw [e0] at h
    refine (number_dead w R A n c p u x h).mono ?_
    rintro e w' hL
    exact ⟨0, p, f, by rw [e0]; exact hL, by omega, hp, .inl ⟨hf, rfl, rfl, rfl⟩⟩
end

/-- Where the reader stands amid m numbers from (p, f): k are read. -/
def NSt (bs : List Int) (m p : Nat) (f : Flt) (k : Nat) (acc : List Int) (p' : Nat) (f' : Flt) : Prop :=
  (f ≠ .no ∧ f' = f) ∨ (f = .no ∧ ((f' = .no ∧ numsA bs m p [] = numsA bs (m - k) p' acc) ∨ (f' = .torn ∧ numsA bs m p [] = .torn) ∨ (f' = .bent ∧ numsA bs m p [] = .bent)))
theorem NSt.start (bs : List Int) (m p : Nat) (f : Flt) : NSt bs m p f 0 [] p f := by
  by_cases h : f = .no
  · exact .inr ⟨h, .inl ⟨h, rfl⟩⟩
  · exact .inl ⟨h, rfl⟩
theorem NSt.step {bs : List Int} {m p : Nat} {f : Flt} {k : Nat} {acc : List Int} {p1 p2 : Nat} {f1 f2 : Flt} {r : Int} (h : NSt bs m p f k acc p1 f1) (hk : k < m) (hN : NuR bs p1 f1 r p2 f2) : NSt bs m p f (k + 1) (acc ++ [r]) p2 f2 := by
  obtain ⟨j, hj⟩ : ∃ j, m - k = j + 1 := ⟨m - k - 1, by omega⟩
  have hj2 : m - (k + 1) = j := by omega
  rcases h with ⟨h0, rfl⟩ | ⟨h0, ⟨rfl, h1⟩ | ⟨rfl, h1⟩ | ⟨rfl, h1⟩⟩
  · rcases hN with ⟨_, _, _, h3⟩ | ⟨h3, _⟩
    · exact .inl ⟨h0, h3⟩
    · exact absurd h3 h0
  · rcases hN with ⟨h2, _⟩ | ⟨_, ⟨h2, rfl⟩ | ⟨h2, rfl⟩ | ⟨h2, rfl⟩⟩
    · exact absurd rfl h2
    · exact .inr ⟨h0, .inl ⟨rfl, by rw [h1, hj, hj2, numsA_ok h2]⟩⟩
    · exact .inr ⟨h0, .inr (.inl ⟨rfl, by rw [h1, hj, numsA_torn h2]⟩)⟩
    · exact .inr ⟨h0, .inr (.inr ⟨rfl, by rw [h1, hj, numsA_bent h2]⟩)⟩
  · rcases hN with ⟨_, _, _, h3⟩ | ⟨h2, _⟩
    · exact .inr ⟨h0, .inr (.inl ⟨h3, h1⟩)⟩
    · cases h2
  · rcases hN with ⟨_, _, _, h3⟩ | ⟨h2, _⟩
    · exact .inr ⟨h0, .inr (.inr ⟨h3, h1⟩)⟩
    · cases h2

/-- What a record's reading comes to, from (p, f) on. -/
def RecSt (bs : List Int) (p : Nat) (f : Flt) (kd : Int) (zs : List Int) (p' : Nat) (f' : Flt) : Prop :=
  (f ≠ .no ∧ f' = f) ∨ (f = .no ∧ ((f' = .no ∧ recR bs p = .ok kd zs p') ∨ (f' = .torn ∧ recR bs p = .torn) ∨ (f' = .bent ∧ recR bs p = .bent)))
theorem recSt_of {bs : List Int} {p : Nat} {f : Flt} {r1 m p1 p2 p3 p4 p5 : Nat} {f1 f2 f3 f4 f5 : Flt} {acc : List Int} {s : Int}
    (h1 : UpR bs 99 p f r1 p1 f1) (h2 : UpR bs 12 p1 f1 m p2 f2) (h3 : NSt bs m p2 f2 m acc p3 f3) (hs : f3 = .no → s = sumV ((bs.take p3).drop p)) (h4 : ExR bs (s / 256) p3 f3 p4 f4) (h5 : ExR bs (s % 256) p4 f4 p5 f5) : RecSt bs p f r1 acc p5 f5 := by
  rcases h1 with ⟨a1, a2, a3, rfl⟩ | ⟨a1, a2, a3, rfl⟩ | ⟨rfl, a2, a3, a4, rfl, rfl⟩ | ⟨a1, a2, a3, a4, rfl⟩
  · have e2 : f2 = f1 := by rcases h2 with ⟨_, _, _, h⟩ | ⟨h, _⟩ | ⟨h, _⟩ | ⟨h, _⟩; exact h; all_goals exact absurd h a1
    subst e2
    have e3 : f3 = f2 := by rcases h3 with ⟨_, h⟩ | ⟨h, _⟩; exact h; exact absurd h a1
    subst e3
    have e4 : f4 = f3 := by rcases h4 with ⟨_, _, h⟩ | ⟨h, _⟩ | ⟨h, _⟩ | ⟨h, _⟩; exact h; all_goals exact absurd h a1
    subst e4
    have e5 : f5 = f4 := by rcases h5 with ⟨_, _, h⟩ | ⟨h, _⟩ | ⟨h, _⟩ | ⟨h, _⟩; exact h; all_goals exact absurd h a1
    exact .inl ⟨a1, e5⟩
  · have e2 : f2 = .torn := by rcases h2 with ⟨_, _, _, h⟩ | ⟨h, _⟩ | ⟨h, _⟩ | ⟨h, _⟩; exact h; all_goals cases h
    subst e2
    have e3 : f3 = .torn := by rcases h3 with ⟨_, h⟩ | ⟨h, _⟩; exact h; cases h
    subst e3
    have e4 : f4 = .torn := by rcases h4 with ⟨_, _, h⟩ | ⟨h, _⟩ | ⟨h, _⟩ | ⟨h, _⟩; exact h; all_goals cases h
    subst e4
    have e5 : f5 = .torn := by rcases h5 with ⟨_, _, h⟩ | ⟨h, _⟩ | ⟨h, _⟩ | ⟨h, _⟩; exact h; all_goals cases h
    exact .inr ⟨a1, .inr (.inl ⟨e5, by rw [recR, if_pos a2]⟩)⟩
  · have hr : ∀ X, (bs.length ≤ p + 1 → X = .torn) → (p + 1 < bs.length → 12 < bs.getD (p + 1) 0 → X = .bent) → (p + 1 < bs.length → bs.getD (p + 1) 0 ≤ 12 → X = bodyR bs p (bs.getD p 0) (numsA bs (bs.getD (p + 1) 0).toNat (p + 2) [])) → recR bs p = X := by
      intro X x1 x2 x3
      rw [recR, if_neg (by omega), if_neg (by omega)]
      split
      · next h => exact (x1 h).symm
      · next h =>
        split
        · next h' => exact (x2 (by omega) h').symm
        · next h' => exact (x3 (by omega) (by omega)).symm
    rcases h2 with ⟨b1, _⟩ | ⟨_, b2, b3, rfl⟩ | ⟨_, b2, b3, b4, rfl, rfl⟩ | ⟨_, b2, b3, b4, rfl⟩
    · exact absurd rfl b1
    · have e3 : f3 = .torn := by rcases h3 with ⟨_, h⟩ | ⟨h, _⟩; exact h; cases h
      subst e3
      have e4 : f4 = .torn := by rcases h4 with ⟨_, _, h⟩ | ⟨h, _⟩ | ⟨h, _⟩ | ⟨h, _⟩; exact h; all_goals cases h
      subst e4
      have e5 : f5 = .torn := by rcases h5 with ⟨_, _, h⟩ | ⟨h, _⟩ | ⟨h, _⟩ | ⟨h, _⟩; exact h; all_goals cases h
      exact .inr ⟨rfl, .inr (.inl ⟨e5, hr _ (fun _ => rfl) (fun h => by omega) (fun h => by omega)⟩)⟩
    · have hm : (bs.getD (p + 1) 0).toNat = m := by rw [← b4]; omega
      rcases h3 with ⟨c1, _⟩ | ⟨_, ⟨rfl, c2⟩ | ⟨rfl, c2⟩ | ⟨rfl, c2⟩⟩
      · exact absurd rfl c1
      · rw [Nat.sub_self] at c2
        have hrr : recR bs p = tailR bs p p3 (bs.getD p 0) acc := hr _ (fun h => by omega) (fun _ h => by omega) (fun _ _ => by rw [hm, c2]; rfl)
        have hs' := hs rfl
        rw [a4]
        rcases h4 with ⟨d1, _⟩ | ⟨_, d2, rfl⟩ | ⟨_, d2, d3, rfl, rfl⟩ | ⟨_, d2, d3, rfl⟩
        · exact absurd rfl d1
        · have e5 : f5 = .torn := by rcases h5 with ⟨_, _, h⟩ | ⟨h, _⟩ | ⟨h, _⟩ | ⟨h, _⟩; exact h; all_goals cases h
          exact .inr ⟨rfl, .inr (.inl ⟨e5, by rw [hrr, tailR, if_pos d2]⟩)⟩
        · rcases h5 with ⟨g1, _⟩ | ⟨_, g2, rfl⟩ | ⟨_, g2, g3, rfl, rfl⟩ | ⟨_, g2, g3, rfl⟩
          · exact absurd rfl g1
          · exact .inr ⟨rfl, .inr (.inl ⟨rfl, by rw [hrr, tailR, if_neg (by omega), if_neg (by rw [d3, hs']; simp), if_pos g2]⟩)⟩
          · exact .inr ⟨rfl, .inl ⟨rfl, by rw [hrr, tailR, if_neg (by omega), if_neg (by rw [d3, hs']; simp), if_neg (by omega), if_neg (by rw [g3, hs']; simp)]⟩⟩
          · exact .inr ⟨rfl, .inr (.inr ⟨rfl, by rw [hrr, tailR, if_neg (by omega), if_neg (by rw [d3, hs']; simp), if_neg (by omega), if_pos (by rw [← hs']; exact g3)]⟩)⟩
        · have e5 : f5 = .bent := by rcases h5 with ⟨_, _, h⟩ | ⟨h, _⟩ | ⟨h, _⟩ | ⟨h, _⟩; exact h; all_goals cases h
          exact .inr ⟨rfl, .inr (.inr ⟨e5, by rw [hrr, tailR, if_neg (by omega), if_pos (by rw [← hs']; exact d3)]⟩)⟩
      · have hrr : recR bs p = .torn := hr _ (fun h => by omega) (fun _ h => by omega) (fun _ _ => by rw [hm, c2]; rfl)
        have e4 : f4 = .torn := by rcases h4 with ⟨_, _, h⟩ | ⟨h, _⟩ | ⟨h, _⟩ | ⟨h, _⟩; exact h; all_goals cases h
        subst e4
        have e5 : f5 = .torn := by rcases h5 with ⟨_, _, h⟩ | ⟨h, _⟩ | ⟨h, _⟩ | ⟨h, _⟩; exact h; all_goals cases h
        exact .inr ⟨rfl, .inr (.inl ⟨e5, hrr⟩)⟩
      · have hrr : recR bs p = .bent := hr _ (fun h => by omega) (fun _ h => by omega) (fun _ _ => by rw [hm, c2]; rfl)
        have e4 : f4 = .bent := by rcases h4 with ⟨_, _, h⟩ | ⟨h, _⟩ | ⟨h, _⟩ | ⟨h, _⟩; exact h; all_goals cases h
        subst e4
        have e5 : f5 = .bent := by rcases h5 with ⟨_, _, h⟩ | ⟨h, _⟩ | ⟨h, _⟩ | ⟨h, _⟩; exact h; all_goals cases h
        exact .inr ⟨rfl, .inr (.inr ⟨e5, hrr⟩)⟩
    · have e3 : f3 = .bent := by rcases h3 with ⟨_, h⟩ | ⟨h, _⟩; exact h; cases h
      subst e3
      have e4 : f4 = .bent := by rcases h4 with ⟨_, _, h⟩ | ⟨h, _⟩ | ⟨h, _⟩ | ⟨h, _⟩; exact h; all_goals cases h
      subst e4
      have e5 : f5 = .bent := by rcases h5 with ⟨_, _, h⟩ | ⟨h, _⟩ | ⟨h, _⟩ | ⟨h, _⟩; exact h; all_goals cases h
      exact .inr ⟨rfl, .inr (.inr ⟨e5, hr _ (fun h => by omega) (fun _ _ => rfl) (fun _ h => by omega)⟩)⟩
  · have e2 : f2 = .bent := by rcases h2 with ⟨_, _, _, h⟩ | ⟨h, _⟩ | ⟨h, _⟩ | ⟨h, _⟩; exact h; all_goals cases h
    subst e2
    have e3 : f3 = .bent := by rcases h3 with ⟨_, h⟩ | ⟨h, _⟩; exact h; cases h
    subst e3
    have e4 : f4 = .bent := by rcases h4 with ⟨_, _, h⟩ | ⟨h, _⟩ | ⟨h, _⟩ | ⟨h, _⟩; exact h; all_goals cases h
    subst e4
    have e5 : f5 = .bent := by rcases h5 with ⟨_, _, h⟩ | ⟨h, _⟩ | ⟨h, _⟩ | ⟨h, _⟩; exact h; all_goals cases h
    exact .inr ⟨a1, .inr (.inr ⟨e5, by rw [recR, if_neg (by omega), if_pos a3]⟩)⟩
end Go.Proofs.YtpghccbknlokcaaDoor.Rd
