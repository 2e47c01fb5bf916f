import Derived.Deep.RegionWith
import Derived.Test.YtklgjjmcflgjeaaGreatDoorC00
import Derived.Test.YtklgjjmcflgjeaaGreatDoorC04
set_option linter.unusedVariables false
set_option linter.unusedSimpArgs false
namespace Go.Proofs.YtklgjjmcflgjeaaGreatDoor.Bytes
open Go.ChangeShapes Go.WideShapes Go.ChangeAt Go.RowKit
def sumV (bs : List Int) : Int := bs.foldl (fun s x => (s * 131 + x + 1) % 65521) 1
theorem sumV_snoc (bs : List Int) (x : Int) : sumV (bs ++ [x]) = (sumV bs * 131 + x + 1) % 65521 := by simp [sumV]
theorem sumV_step (bs : List Int) (k : Nat) (h : k < bs.length) : sumV (bs.take (k + 1)) = (sumV (bs.take k) * 131 + bs.getD k 0 + 1) % 65521 := by
  rw [List.take_succ_eq_append_getElem h, sumV_snoc]
  simp [List.getD, h]
theorem sumV_in (bs : List Int) : 0 ≤ sumV bs ∧ sumV bs < 65521 := by
  rcases List.eq_nil_or_concat bs with rfl | ⟨l, x, rfl⟩
  · simp [sumV]
  · rw [List.concat_eq_append, sumV_snoc]; omega
set_option maxHeartbeats 800000 in
theorem sumOf_any (A : Option Addr) (n c : Nat) (bs : List Int) (B : Nat) (w : World) (hr : IsBytes w B A n bs) (hn : n ≤ 1048576) :
    Calls Tryz.prog 185 #[.slice A n c] w fun e w' => e = .returned (.int .i64 (sumV bs)) ∧ w = w' := by
  have HL : Hid (bs.length = n) := hr.1
  have HR := Lib.hid hr
  clear hr
  go_enter Tryz.func185, Tryz.ntmps185
  go_wp2_with fail
  go_loop [3, 8] (fun a i => ∃ (k : Nat) (s : Int), k ≤ n ∧ i = .int .i64 k ∧ a = .int .i64 s ∧ Hid (s = sumV (bs.take k)) ∧ 0 ≤ s ∧ s < 65521) (fun _ i => n - (RowKit.intOf i).toNat)
  case atStart => exact ⟨0, 1, Nat.zero_le _, rfl, rfl, by show _ = _; simp [sumV], by omega, by omega⟩
  case round =>
    obtain ⟨k, s, hk, rfl, rfl, HS, hs0, hs1⟩ := hrel
    by_cases hlt : k < n
    · obtain ⟨b, off, z, rfl, hbB, hz, hc, hz0, hz1⟩ := HR.out.at_ hlt
      have HZ : Hid ((s * 131 + z + 1) % 65521 = sumV (bs.take (k + 1))) := by show _ = _; rw [sumV_step bs k (by rw [HL.out]; exact hlt), HS.out, hz]
      clear hz
      go_wp2
      go_round
      case rel => exact ⟨k + 1, (s * 131 + z + 1) % 65521, by omega, by go_num, by go_num, HZ, by omega, by omega⟩
      case measure => simp [RowKit.intOf]; omega
    · have HK : Hid (s = sumV bs) := by
        have h1 := HS.out
        rw [List.take_of_length_le (by rw [HL.out]; omega)] at h1
        exact h1
      go_wp2
      go_ret
      rw [HK.out]
      exact ⟨rfl, rfl⟩
set_option maxHeartbeats 800000 in
theorem specSumOf_any (A : Option Addr) (n c : Nat) (bs : List Int) (B : Nat) (w : World) (hr : IsBytes w B A n bs) (hn : n ≤ 1048576) :
    Calls Tryz.prog 170 #[.slice A n c] w fun e w' => e = .returned (.int .i64 (sumV bs)) ∧ w = w' := by
  have HL : Hid (bs.length = n) := hr.1
  have HR := Lib.hid hr
  clear hr
  go_enter Tryz.func170, Tryz.ntmps170
  go_wp2_with fail
  go_loop [3, 4] (fun a i => ∃ (k : Nat) (s : Int), k ≤ n ∧ i = .int .i64 k ∧ a = .int .i64 s ∧ Hid (s = sumV (bs.take k)) ∧ 0 ≤ s ∧ s < 65521) (fun _ i => n - (RowKit.intOf i).toNat)
  case atStart => exact ⟨0, 1, Nat.zero_le _, rfl, rfl, by show _ = _; simp [sumV], by omega, by omega⟩
  case round =>
    obtain ⟨k, s, hk, rfl, rfl, HS, hs0, hs1⟩ := hrel
    by_cases hlt : k < n
    · obtain ⟨b, off, z, rfl, hbB, hz, hc, hz0, hz1⟩ := HR.out.at_ hlt
      have HZ : Hid ((131 * s + z + 1) % 65521 = sumV (bs.take (k + 1))) := by show _ = _; rw [sumV_step bs k (by rw [HL.out]; exact hlt), HS.out, hz, Int.mul_comm]
      clear hz
      go_wp2
      go_round
      case rel => exact ⟨k + 1, (131 * s + z + 1) % 65521, by omega, by go_num, by go_num, HZ, by omega, by omega⟩
      case measure => simp [RowKit.intOf]; omega
    · have HK : Hid (s = sumV bs) := by
        have h1 := HS.out
        rw [List.take_of_length_le (by rw [HL.out]; omega)] at h1
        exact h1
      go_wp2
      go_ret
      rw [HK.out]
      exact ⟨rfl, rfl⟩
end Go.Proofs.YtklgjjmcflgjeaaGreatDoor.Bytes
namespace Go.Proofs.YtklgjjmcflgjeaaGreatDoor.Rd
open Go.ChangeShapes Go.WideShapes Go.ChangeAt Go.RowKit
open Ints (below_drewN)
open Bytes (IsBytes sumV sumV_in)
inductive Flt where
  | no
  | torn
  | bent
  | out
def fv (aT aB aO : Addr) : Flt → Value
  | .no => .nilIface
  | .torn => .iface 408 (.pointer (some aT))
  | .bent => .iface 408 (.pointer (some aB))
  | .out => .iface 408 (.pointer (some aO))
theorem fv_dead (aT aB aO : Addr) {f : Flt} (h : f ≠ .no) : ∃ u x, fv aT aB aO f = .iface u x := by
  cases f
  · exact absurd rfl h
  · exact ⟨_, _, rfl⟩
  · exact ⟨_, _, rfl⟩
  · exact ⟨_, _, rfl⟩
inductive NumsR where
  | ok (zs : List Int) (p : Nat)
  | torn
  | bent
def numsA (bs : List Int) : Nat → Nat → List Int → NumsR
  | 0, p, acc => .ok acc p
  | m + 1, p, acc => match numR bs p with
    | .ok x q => numsA bs m q (acc ++ [x])
    | .torn => .torn
    | .bent => .bent
theorem numsA_ok {bs : List Int} {m p q : Nat} {x : Int} {acc : List Int} (h : numR bs p = .ok x q) : numsA bs (m + 1) p acc = numsA bs m q (acc ++ [x]) := by rw [numsA, h]
theorem numsA_torn {bs : List Int} {m p : Nat} {acc : List Int} (h : numR bs p = .torn) : numsA bs (m + 1) p acc = .torn := by rw [numsA, h]
theorem numsA_bent {bs : List Int} {m p : Nat} {acc : List Int} (h : numR bs p = .bent) : numsA bs (m + 1) p acc = .bent := by rw [numsA, h]
inductive RecR where
  | ok (kd : Int) (zs : List Int) (p : Nat)
  | torn
  | bent
def tailR (bs : List Int) (p q : Nat) (kd : Int) (zs : List Int) : RecR :=
  if bs.length ≤ q then .torn
  else if bs.getD q 0 ≠ sumV ((bs.take q).drop p) / 256 then .bent
  else if bs.length ≤ q + 1 then .torn
  else if bs.getD (q + 1) 0 ≠ sumV ((bs.take q).drop p) % 256 then .bent
  else .ok kd zs (q + 2)
def bodyR (bs : List Int) (p : Nat) (kd : Int) : NumsR → RecR
  | .ok zs q => tailR bs p q kd zs
  | .torn => .torn
  | .bent => .bent
def recR (bs : List Int) (p : Nat) : RecR :=
  if bs.length ≤ p then .torn
  else if 99 < bs.getD p 0 then .bent
  else if bs.length ≤ p + 1 then .torn
  else if 12 < bs.getD (p + 1) 0 then .bent
  else bodyR bs p (bs.getD p 0) (numsA bs (bs.getD (p + 1) 0).toNat (p + 2) [])
def UpR (bs : List Int) (m : Int) (p : Nat) (f : Flt) (r : Int) (p' : Nat) (f' : Flt) : Prop :=
  (f ≠ .no ∧ r = 0 ∧ p' = p ∧ f' = f) ∨ (f = .no ∧ bs.length ≤ p ∧ r = 0 ∧ f' = .torn) ∨ (f = .no ∧ p < bs.length ∧ bs.getD p 0 ≤ m ∧ r = bs.getD p 0 ∧ p' = p + 1 ∧ f' = .no) ∨ (f = .no ∧ p < bs.length ∧ m < bs.getD p 0 ∧ r = 0 ∧ f' = .bent)
def ExR (bs : List Int) (m : Int) (p : Nat) (f : Flt) (p' : Nat) (f' : Flt) : Prop :=
  (f ≠ .no ∧ p' = p ∧ f' = f) ∨ (f = .no ∧ bs.length ≤ p ∧ f' = .torn) ∨ (f = .no ∧ p < bs.length ∧ bs.getD p 0 = m ∧ p' = p + 1 ∧ f' = .no) ∨ (f = .no ∧ p < bs.length ∧ bs.getD p 0 ≠ m ∧ f' = .bent)
def NuR (bs : List Int) (p : Nat) (f : Flt) (r : Int) (p' : Nat) (f' : Flt) : Prop :=
  (f ≠ .no ∧ r = 0 ∧ p' = p ∧ f' = f) ∨ (f = .no ∧ ((numR bs p = .ok r p' ∧ f' = .no) ∨ (numR bs p = .torn ∧ f' = .torn) ∨ (numR bs p = .bent ∧ f' = .bent)))
section
variable {w : World} {R : Nat} {A : Option Addr} {n c p : Nat} {bs : List Int} {B : Nat} {aT aB aO : Addr} {f : Flt}
theorem upTo_c (m : Int) (hm : 0 ≤ m) (hE : Errs B w aT aB aO) (hB : IsBytes w B A n bs) (hBR : B ≤ R) (hn : n ≤ 1048576) (h : Rd w R A n c p (fv aT aB aO f)) (hp : p ≤ n) :
    Calls Tryz.prog 205 #[.pointer (some ⟨R, 0, none⟩), .int .i64 m] w fun e w' => ∃ (r : Nat) (p' : Nat) (f' : Flt), Left w R A n c (.int .i64 r) p' (fv aT aB aO f') e w' ∧ p ≤ p' ∧ p' ≤ n ∧ (r : Int) ≤ m ∧ UpR bs m p f r p' f' := by
  have HL := hB.1
  by_cases hf : f = .no
  · subst hf
    by_cases hpn : p < n
    · have hb := hB.2.1 (bs.getD p 0) (by simp [List.getD, show p < bs.length by omega])
      by_cases hle : bs.getD p 0 ≤ m
      · refine (upTo_in w R A n c p bs m B hB hBR hn h hpn hle).mono ?_
        rintro e w' hL
        refine ⟨(bs.getD p 0).toNat, p + 1, .no, ?_, by omega, by omega, by omega, .inr (.inr (.inl ⟨rfl, by omega, hle, by omega, rfl, rfl⟩))⟩
        rw [Int.toNat_of_nonneg hb.1]
        exact hL
      · refine (upTo_over w R A n c p bs m B aT aB aO hE hB hBR hn h hpn (by omega)).mono ?_
        rintro e w' hL
        exact ⟨0, p + 1, .bent, hL, by omega, by omega, hm, .inr (.inr (.inr ⟨rfl, by omega, by omega, rfl, rfl⟩))⟩
    · obtain rfl : p = n := by omega
      refine (upTo_end w R A p c m hm B aT aB aO hE h).mono ?_
      rintro e w' hL
      exact ⟨0, p, .torn, hL, by omega, by omega, hm, .inr (.inl ⟨rfl, by omega, rfl, rfl⟩)⟩
  · obtain ⟨u, x, e0⟩ := fv_dead aT aB aO hf
    rw [e0] at h
    refine (upTo_dead w R A n c p u x m hm h).mono ?_
    rintro e w' hL
    exact ⟨0, p, f, by rw [e0]; exact hL, by omega, hp, hm, .inl ⟨hf, rfl, rfl, rfl⟩⟩
theorem exactly_c (m : Int) (hE : Errs B w aT aB aO) (hB : IsBytes w B A n bs) (hBR : B ≤ R) (hn : n ≤ 1048576) (h : Rd w R A n c p (fv aT aB aO f)) (hp : p ≤ n) :
    Calls Tryz.prog 207 #[.pointer (some ⟨R, 0, none⟩), .int .i64 m] w fun e w' => ∃ (p' : Nat) (f' : Flt), Left w R A n c (.tuple #[]) p' (fv aT aB aO f') e w' ∧ p ≤ p' ∧ p' ≤ n ∧ ExR bs m p f p' f' := by
  have HL := hB.1
  by_cases hf : f = .no
  · subst hf
    by_cases hpn : p < n
    · by_cases hle : bs.getD p 0 = m
      · refine (exactly_in w R A n c p bs m B hB hBR hn h hpn hle).mono ?_
        rintro e w' hL
        exact ⟨p + 1, .no, hL, by omega, by omega, .inr (.inr (.inl ⟨rfl, by omega, hle, rfl, rfl⟩))⟩
      · refine (exactly_not w R A n c p bs m B aT aB aO hE hB hBR hn h hpn hle).mono ?_
        rintro e w' hL
        exact ⟨p + 1, .bent, hL, by omega, by omega, .inr (.inr (.inr ⟨rfl, by omega, hle, rfl⟩))⟩
    · obtain rfl : p = n := by omega
      refine (exactly_end w R A p c m B aT aB aO hE hBR h).mono ?_
      rintro e w' hL
      exact ⟨p, .torn, hL, by omega, by omega, .inr (.inl ⟨rfl, by omega, rfl⟩)⟩
  · obtain ⟨u, x, e0⟩ := fv_dead aT aB aO hf
    rw [e0] at h
    refine (exactly_dead w R A n c p u x m B aT aB aO hE hBR h).mono ?_
    rintro e w' hL
    exact ⟨p, f, by rw [e0]; exact hL, by omega, hp, .inl ⟨hf, rfl, rfl⟩⟩
theorem number_c (hE : Errs B w aT aB aO) (hB : IsBytes w B A n bs) (hBR : B ≤ R) (hn : n ≤ 1048576) (h : Rd w R A n c p (fv aT aB aO f)) (hp : p ≤ n) :
    Calls Tryz.prog 206 #[.pointer (some ⟨R, 0, none⟩)] w fun e w' => ∃ (r : Int) (p' : Nat) (f' : Flt), Left w R A n c (.int .i64 r) p' (fv aT aB aO f') e w' ∧ p ≤ p' ∧ p' ≤ n ∧ NuR bs p f r p' f' := by
  by_cases hf : f = .no
  · subst hf
    refine (number_live w R A n c p bs B aT aB aO hE hB hBR hn h hp).mono ?_
    rintro e w' ⟨r, p', f', hL, hN⟩
    generalize hnr : numR bs p = nr at hN
    cases nr with
    | ok x q =>
      obtain ⟨rfl, rfl, h1, h2, rfl⟩ := hN
      exact ⟨r, q, .no, hL, h1, h2, .inr ⟨rfl, .inl ⟨hnr, rfl⟩⟩⟩
    | torn =>
      obtain ⟨rfl, ⟨q, rfl, h1, h2⟩, rfl⟩ := hN
      exact ⟨0, q, .torn, hL, h1, h2, .inr ⟨rfl, .inr (.inl ⟨hnr, rfl⟩)⟩⟩
    | bent =>
      obtain ⟨rfl, ⟨q, rfl, h1, h2⟩, rfl⟩ := hN
      exact ⟨0, q, .bent, hL, h1, h2, .inr ⟨rfl, .inr (.inr ⟨hnr, rfl⟩)⟩⟩
  · obtain ⟨u, x, e0⟩ := fv_dead aT aB aO hf
    rw [e0] at h
    refine (number_dead w R A n c p u x h).mono ?_
    rintro e w' hL
    exact ⟨0, p, f, by rw [e0]; exact hL, by omega, hp, .inl ⟨hf, rfl, rfl, rfl⟩⟩
end
def NSt (bs : List Int) (m p : Nat) (f : Flt) (k : Nat) (acc : List Int) (p' : Nat) (f' : Flt) : Prop :=
  (f ≠ .no ∧ f' = f) ∨ (f = .no ∧ ((f' = .no ∧ numsA bs m p [] = numsA bs (m - k) p' acc) ∨ (f' = .torn ∧ numsA bs m p [] = .torn) ∨ (f' = .bent ∧ numsA bs m p [] = .bent)))
theorem NSt.start (bs : List Int) (m p : Nat) (f : Flt) : NSt bs m p f 0 [] p f := by
  by_cases h : f = .no
  · exact .inr ⟨h, .inl ⟨h, rfl⟩⟩
  · exact .inl ⟨h, rfl⟩
theorem NSt.step {bs : List Int} {m p : Nat} {f : Flt} {k : Nat} {acc : List Int} {p1 p2 : Nat} {f1 f2 : Flt} {r : Int} (h : NSt bs m p f k acc p1 f1) (hk : k < m) (hN : NuR bs p1 f1 r p2 f2) : NSt bs m p f (k + 1) (acc ++ [r]) p2 f2 := by
  obtain ⟨j, hj⟩ : ∃ j, m - k = j + 1 := ⟨m - k - 1, by omega⟩
  have hj2 : m - (k + 1) = j := by omega
  rcases h with ⟨h0, rfl⟩ | ⟨h0, ⟨rfl, h1⟩ | ⟨rfl, h1⟩ | ⟨rfl, h1⟩⟩
  · rcases hN with ⟨_, _, _, h3⟩ | ⟨h3, _⟩
    · exact .inl ⟨h0, h3⟩
    · exact absurd h3 h0
  · rcases hN with ⟨h2, _⟩ | ⟨_, ⟨h2, rfl⟩ | ⟨h2, rfl⟩ | ⟨h2, rfl⟩⟩
    · exact absurd rfl h2
    · exact .inr ⟨h0, .inl ⟨rfl, by rw [h1, hj, hj2, numsA_ok h2]⟩⟩
    · exact .inr ⟨h0, .inr (.inl ⟨rfl, by rw [h1, hj, numsA_torn h2]⟩)⟩
    · exact .inr ⟨h0, .inr (.inr ⟨rfl, by rw [h1, hj, numsA_bent h2]⟩)⟩
  · rcases hN with ⟨_, _, _, h3⟩ | ⟨h2, _⟩
    · exact .inr ⟨h0, .inr (.inl ⟨h3, h1⟩)⟩
    · cases h2
  · rcases hN with ⟨_, _, _, h3⟩ | ⟨h2, _⟩
    · exact .inr ⟨h0, .inr (.inr ⟨h3, h1⟩)⟩
    · cases h2
def RecSt (bs : List Int) (p : Nat) (f : Flt) (kd : Int) (zs : List Int) (p' : Nat) (f' : Flt) : Prop :=
  (f ≠ .no ∧ f' = f) ∨ (f = .no ∧ ((f' = .no ∧ recR bs p = .ok kd zs p') ∨ (f' = .torn ∧ recR bs p = .torn) ∨ (f' = .bent ∧ recR bs p = .bent)))
theorem recSt_of {bs : List Int} {p : Nat} {f : Flt} {r1 m p1 p2 p3 p4 p5 : Nat} {f1 f2 f3 f4 f5 : Flt} {acc : List Int} {s : Int}
    (h1 : UpR bs 99 p f r1 p1 f1) (h2 : UpR bs 12 p1 f1 m p2 f2) (h3 : NSt bs m p2 f2 m acc p3 f3) (hs : f3 = .no → s = sumV ((bs.take p3).drop p)) (h4 : ExR bs (s / 256) p3 f3 p4 f4) (h5 : ExR bs (s % 256) p4 f4 p5 f5) : RecSt bs p f r1 acc p5 f5 := by
  rcases h1 with ⟨a1, a2, a3, rfl⟩ | ⟨a1, a2, a3, rfl⟩ | ⟨rfl, a2, a3, a4, rfl, rfl⟩ | ⟨a1, a2, a3, a4, rfl⟩
  · have e2 : f2 = f1 := by rcases h2 with ⟨_, _, _, h⟩ | ⟨h, _⟩ | ⟨h, _⟩ | ⟨h, _⟩; exact h; all_goals exact absurd h a1
    subst e2
    have e3 : f3 = f2 := by rcases h3 with ⟨_, h⟩ | ⟨h, _⟩; exact h; exact absurd h a1
    subst e3
    have e4 : f4 = f3 := by rcases h4 with ⟨_, _, h⟩ | ⟨h, _⟩ | ⟨h, _⟩ | ⟨h, _⟩; exact h; all_goals exact absurd h a1
    subst e4
    have e5 : f5 = f4 := by rcases h5 with ⟨_, _, h⟩ | ⟨h, _⟩ | ⟨h, _⟩ | ⟨h, _⟩; exact h; all_goals exact absurd h a1
    exact .inl ⟨a1, e5⟩
  · have e2 : f2 = .torn := by rcases h2 with ⟨_, _, _, h⟩ | ⟨h, _⟩ | ⟨h, _⟩ | ⟨h, _⟩; exact h; all_goals cases h
    subst e2
    have e3 : f3 = .torn := by rcases h3 with ⟨_, h⟩ | ⟨h, _⟩; exact h; cases h
    subst e3
    have e4 : f4 = .torn := by rcases h4 with ⟨_, _, h⟩ | ⟨h, _⟩ | ⟨h, _⟩ | ⟨h, _⟩; exact h; all_goals cases h
    subst e4
    have e5 : f5 = .torn := by rcases h5 with ⟨_, _, h⟩ | ⟨h, _⟩ | ⟨h, _⟩ | ⟨h, _⟩; exact h; all_goals cases h
    exact .inr ⟨a1, .inr (.inl ⟨e5, by rw [recR, if_pos a2]⟩)⟩
  · have hr : ∀ X, (bs.length ≤ p + 1 → X = .torn) → (p + 1 < bs.length → 12 < bs.getD (p + 1) 0 → X = .bent) → (p + 1 < bs.length → bs.getD (p + 1) 0 ≤ 12 → X = bodyR bs p (bs.getD p 0) (numsA bs (bs.getD (p + 1) 0).toNat (p + 2) [])) → recR bs p = X := by
      intro X x1 x2 x3
      rw [recR, if_neg (by omega), if_neg (by omega)]
      split
      · next h => exact (x1 h).symm
      · next h =>
        split
        · next h' => exact (x2 (by omega) h').symm
        · next h' => exact (x3 (by omega) (by omega)).symm
    rcases h2 with ⟨b1, _⟩ | ⟨_, b2, b3, rfl⟩ | ⟨_, b2, b3, b4, rfl, rfl⟩ | ⟨_, b2, b3, b4, rfl⟩
    · exact absurd rfl b1
    · have e3 : f3 = .torn := by rcases h3 with ⟨_, h⟩ | ⟨h, _⟩; exact h; cases h
      subst e3
      have e4 : f4 = .torn := by rcases h4 with ⟨_, _, h⟩ | ⟨h, _⟩ | ⟨h, _⟩ | ⟨h, _⟩; exact h; all_goals cases h
      subst e4
      have e5 : f5 = .torn := by rcases h5 with ⟨_, _, h⟩ | ⟨h, _⟩ | ⟨h, _⟩ | ⟨h, _⟩; exact h; all_goals cases h
      exact .inr ⟨rfl, .inr (.inl ⟨e5, hr _ (fun _ => rfl) (fun h => by omega) (fun h => by omega)⟩)⟩
    · have hm : (bs.getD (p + 1) 0).toNat = m := by rw [← b4]; omega
      rcases h3 with ⟨c1, _⟩ | ⟨_, ⟨rfl, c2⟩ | ⟨rfl, c2⟩ | ⟨rfl, c2⟩⟩
      · exact absurd rfl c1
      · rw [Nat.sub_self] at c2
        have hrr : recR bs p = tailR bs p p3 (bs.getD p 0) acc := hr _ (fun h => by omega) (fun _ h => by omega) (fun _ _ => by rw [hm, c2]; rfl)
        have hs' := hs rfl
        rw [a4]
        rcases h4 with ⟨d1, _⟩ | ⟨_, d2, rfl⟩ | ⟨_, d2, d3, rfl, rfl⟩ | ⟨_, d2, d3, rfl⟩
        · exact absurd rfl d1
        · have e5 : f5 = .torn := by rcases h5 with ⟨_, _, h⟩ | ⟨h, _⟩ | ⟨h, _⟩ | ⟨h, _⟩; exact h; all_goals cases h
          exact .inr ⟨rfl, .inr (.inl ⟨e5, by rw [hrr, tailR, if_pos d2]⟩)⟩
        · rcases h5 with ⟨g1, _⟩ | ⟨_, g2, rfl⟩ | ⟨_, g2, g3, rfl, rfl⟩ | ⟨_, g2, g3, rfl⟩
          · exact absurd rfl g1
          · exact .inr ⟨rfl, .inr (.inl ⟨rfl, by rw [hrr, tailR, if_neg (by omega), if_neg (by rw [d3, hs']; simp), if_pos g2]⟩)⟩
          · exact .inr ⟨rfl, .inl ⟨rfl, by rw [hrr, tailR, if_neg (by omega), if_neg (by rw [d3, hs']; simp), if_neg (by omega), if_neg (by rw [g3, hs']; simp)]⟩⟩
          · exact .inr ⟨rfl, .inr (.inr ⟨rfl, by rw [hrr, tailR, if_neg (by omega), if_neg (by rw [d3, hs']; simp), if_neg (by omega), if_pos (by rw [← hs']; exact g3)]⟩)⟩
        · have e5 : f5 = .bent := by rcases h5 with ⟨_, _, h⟩ | ⟨h, _⟩ | ⟨h, _⟩ | ⟨h, _⟩; exact h; all_goals cases h
          exact .inr ⟨rfl, .inr (.inr ⟨e5, by rw [hrr, tailR, if_neg (by omega), if_pos (by rw [← hs']; exact d3)]⟩)⟩
      · have hrr : recR bs p = .torn := hr _ (fun h => by omega) (fun _ h => by omega) (fun _ _ => by rw [hm, c2]; rfl)
        have e4 : f4 = .torn := by rcases h4 with ⟨_, _, h⟩ | ⟨h, _⟩ | ⟨h, _⟩ | ⟨h, _⟩; exact h; all_goals cases h
        subst e4
        have e5 : f5 = .torn := by rcases h5 with ⟨_, _, h⟩ | ⟨h, _⟩ | ⟨h, _⟩ | ⟨h, _⟩; exact h; all_goals cases h
        exact .inr ⟨rfl, .inr (.inl ⟨e5, hrr⟩)⟩
      · have hrr : recR bs p = .bent := hr _ (fun h => by omega) (fun _ h => by omega) (fun _ _ => by rw [hm, c2]; rfl)
        have e4 : f4 = .bent := by rcases h4 with ⟨_, _, h⟩ | ⟨h, _⟩ | ⟨h, _⟩ | ⟨h, _⟩; exact h; all_goals cases h
        subst e4
        have e5 : f5 = .bent := by rcases h5 with ⟨_, _, h⟩ | ⟨h, _⟩ | ⟨h, _⟩ | ⟨h, _⟩; exact h; all_goals cases h
        exact .inr ⟨rfl, .inr (.inr ⟨e5, hrr⟩)⟩
    · have e3 : f3 = .bent := by rcases h3 with ⟨_, h⟩ | ⟨h, _⟩; exact h; cases h
      subst e3
      have e4 : f4 = .bent := by rcases h4 with ⟨_, _, h⟩ | ⟨h, _⟩ | ⟨h, _⟩ | ⟨h, _⟩; exact h; all_goals cases h
      subst e4
      have e5 : f5 = .bent := by rcases h5 with ⟨_, _, h⟩ | ⟨h, _⟩ | ⟨h, _⟩ | ⟨h, _⟩; exact h; all_goals cases h
      exact .inr ⟨rfl, .inr (.inr ⟨e5, hr _ (fun h => by omega) (fun _ _ => rfl) (fun _ h => by omega)⟩)⟩
  · have e2 : f2 = .bent := by rcases h2 with ⟨_, _, _, h⟩ | ⟨h, _⟩ | ⟨h, _⟩ | ⟨h, _⟩; exact h; all_goals cases h
    subst e2
    have e3 : f3 = .bent := by rcases h3 with ⟨_, h⟩ | ⟨h, _⟩; exact h; cases h
    subst e3
    have e4 : f4 = .bent := by rcases h4 with ⟨_, _, h⟩ | ⟨h, _⟩ | ⟨h, _⟩ | ⟨h, _⟩; exact h; all_goals cases h
    subst e4
    have e5 : f5 = .bent := by rcases h5 with ⟨_, _, h⟩ | ⟨h, _⟩ | ⟨h, _⟩ | ⟨h, _⟩; exact h; all_goals cases h
    exact .inr ⟨a1, .inr (.inr ⟨e5, by rw [recR, if_neg (by omega), if_pos a3]⟩)⟩
end Go.Proofs.YtklgjjmcflgjeaaGreatDoor.Rd
namespace Go.Proofs.YtklgjjmcflgjeaaGreatDoor.Rd
open Go.ChangeShapes Go.WideShapes Go.ChangeAt Go.RowKit
open Ints (below_drewN info3 own_lt)
open Has (OwnI)
open Bytes (IsBytes sumV sumV_in sumOf_any)
open Rec (grown_set below_a1 blk2 ownI_base)
def cutA (A : Option Addr) (p q : Nat) : Option Addr := if q = p then A else A.map (·.add (p * 1))
theorem cut3 (A : Option Addr) (n c p q : Nat) (h1 : p ≤ q) (h2 : q ≤ c) (W : World) :
    (Instr.slice 22 (.slice A n c) (some (.int .i64 p)) (some (.int .i64 q)) (some (.int .i64 q))).run Tryz.prog W = .ok (.slice (cutA A p q) (q - p) (q - p)) W := by
  obtain ⟨i0, hi, hz0, hz1, hz2⟩ := info_parts Bytes.infoByte
  rw [run_slice_lhm W 22 A n c (by kernel_rfl) .i64 .i64 .i64 p q q (by omega) (by omega) (by omega) (by omega)]
  have hs : (sizeOf (Tryz.prog.elem 22)).run Tryz.prog W = .ok 1 W := by
    have he : Tryz.prog.elem 22 = 5 := by kernel_rfl
    rw [he]
    simp [sizeOf, typeInfo, hi, hz1]
  rw [hs]
  simp [Result.andThen, sliced, cutA]
theorem bytes_cut {w : World} {B : Nat} {A : Option Addr} {n p q : Nat} {bs : List Int} (h : IsBytes w B A n bs) (h1 : p ≤ q) (h2 : q ≤ n) : IsBytes w B (cutA A p q) (q - p) ((bs.take q).drop p) := by
  have hl := h.1
  refine ⟨by simp; omega, fun x hx => h.2.1 x (List.mem_of_mem_take (List.mem_of_mem_drop hx)), fun hp => ?_⟩
  obtain ⟨b, off, rfl, hb, hc⟩ := h.2.2 (by omega)
  refine ⟨b, off + p, ?_, hb, fun j hj => ?_⟩
  · rw [cutA, if_neg (by omega)]
    simp only [Option.map_some, Nat.mul_one, Option.some.injEq]
    unfold Addr.add
    split
    · subst_vars; rfl
    · rfl
  · rw [Nat.add_assoc, hc (p + j) (by omega)]
    congr 2
    simp [List.getD, List.getElem?_drop, List.getElem?_take, show p + j < q by omega]
theorem rep_set (acc : List Int) (m k : Nat) (r : Int) (hk : k < m) (hl : acc.length = k) : (acc ++ List.replicate (m - k) (0 : Int)).set k r = (acc ++ [r]) ++ List.replicate (m - (k + 1)) 0 := by
  rw [List.set_append_right _ _ (by omega), hl, Nat.sub_self, show m - k = (m - (k + 1)) + 1 by omega, List.replicate_succ, List.set_cons_zero, List.append_assoc]
  rfl
def RecLeft (bs : List Int) (w : World) (R : Nat) (A : Option Addr) (n c p : Nat) (f : Flt) (aT aB aO : Addr) (e : Ending) (w' : World) : Prop :=
  ∃ (kd : Int) (zs : List Int) (p' : Nat) (f' : Flt) (v : Value), e = .returned v ∧ Rd w' R A n c p' (fv aT aB aO f') ∧ w.grownBy w' (some R) ∧ p ≤ p' ∧ p' ≤ n ∧ RecSt bs p f kd zs p' f' ∧
    (f' = .no → ∃ A' c', v = .agg #[.int .i64 kd, .slice A' zs.length c'] ∧ OwnI w' w.heap.size A' zs.length c' zs) ∧ (f' ≠ .no → v = .agg #[.int .i64 0, .slice none 0 0])
theorem grown_new {w w0 w' : World} {R : Nat} (h0 : Below w.heap.size w w0) (h : w0.grownBy w' (some R)) : w.grownBy w' (some R) :=
  (show w.grownBy w0 (some R) from ⟨h0.os, h0.tape, h0.output, h0.size, fun i hi _ => h0.block i hi⟩).andThen h (fun j hj => .inr hj)
set_option maxRecDepth 100000 in
set_option maxHeartbeats 6400000 in
theorem record_any (w : World) (R : Nat) (A : Option Addr) (n c p : Nat) (f : Flt) (bs : List Int) (B : Nat) (aT aB aO : Addr) (hE : Errs B w aT aB aO) (hB : IsBytes w B A n bs) (hBR : B ≤ R) (hn : n ≤ 1048576) (hc : n ≤ c) (h : Rd w R A n c p (fv aT aB aO f)) (hp : p ≤ n) :
    Calls Tryz.prog 161 #[.pointer (some ⟨R, 0, none⟩)] w (RecLeft bs w R A n c p f aT aB aO) := by
  obtain ⟨i0, hi, hz0, hz1, hz2⟩ := info_parts info3
  have hRw := h.lt
  have hb0 : Below w.heap.size w (w.alloc (.cells #[.int .i64 0, .slice none 0 0] 116)) := below_a1 _ _
  have HNEW : Hid ((w.alloc (.cells #[.int .i64 0, .slice none 0 0] 116)).heap[w.heap.size]? = some (.cells #[.int .i64 0, .slice none 0 0] 116 (0, 0))) := heap_alloc_new _ _
  have hR0 := h.below hb0
  have HR0 := Lib.hid hR0
  have HB0 := Lib.hid (hB.below hb0 (by omega))
  have HE0 := Lib.hid (hE.below hb0 (by omega))
  obtain ⟨k0, k1, k2, _, _⟩ := hR0
  clear hB hE h
  go_enter Tryz.func161, Tryz.ntmps161
  go_wp2_with fail
  refine (upTo_c (bs := bs) 99 (by omega) HE0.out HB0.out hBR hn HR0.out hp).mono ?_
  rintro e w1 ⟨r1, p1, f1, ⟨rfl, hR1, hg1⟩, hp1, hp1n, hr1, hU1⟩
  obtain ⟨w0, hw0⟩ : ∃ w0, w0 = w.alloc (.cells #[.int .i64 0, .slice none 0 0] 116) := ⟨_, rfl⟩
  rw [← hw0] at hg1 hb0 HNEW HB0 HE0
  have hs0 : w.heap.size + 1 = w0.heap.size := by rw [hw0]; simp
  have HS0 := Lib.hid hs0
  have hR0lt : R < w0.heap.size := by omega
  have HR1 := Lib.hid hR1
  have HB1 := Lib.hid (bytes_on HB0.out hg1 hBR hR0lt)
  have HE1 := Lib.hid (errs_on HE0.out hg1 hBR hR0lt)
  have G1 := Lib.hid hg1
  have HU1 := Lib.hid hU1
  have hs1 : w0.heap.size ≤ w1.heap.size := hg1.size
  clear hw0 hs0 hR1 hg1 hU1 HR0 k0 k1 k2
  go_wp2_with fail
  refine (upTo_c (bs := bs) 12 (by omega) HE1.out HB1.out hBR hn HR1.out hp1n).mono ?_
  rintro e w2 ⟨m, p2, f2, ⟨rfl, hR2, hg2⟩, hp2, hp2n, hr2, hU2⟩
  have hm12 : m ≤ 12 := by omega
  have HR2 := Lib.hid hR2
  have HB2 := Lib.hid (bytes_on HB1.out hg2 hBR (by omega))
  have HE2 := Lib.hid (errs_on HE1.out hg2 hBR (by omega))
  have G2 := Lib.hid (grown_trans G1.out hg2)
  have HU2 := Lib.hid hU2
  have hs2 : w0.heap.size ≤ w2.heap.size := Nat.le_trans hs1 hg2.size
  clear hR2 hg2 hU2 HR1 HB1 HE1 G1 hr2
  go_wp2_with (at_make; refine wpList_make_full _ rfl _ _ 40 rfl w2.heap.size 3 i0 (.int .i64 0) 1 Tryz.underlying40 hi hz0 hz1 _ _ _ _ m rfl rfl rfl rfl ?b1 ?b2 ?b3 ?_)
  case b1 => rw [hz2]; omega
  case b2 => unfold maxLen; omega
  case b3 => exact Nat.le_refl _
  intro w3 hown hgrow
  have hb23 : Below w2.heap.size w2 w3 := (Below.refl _ _).grown hgrow (Nat.le_refl _) (by intro k h; cases h)
  rw [toList_madeCells_one] at hown
  have hsz : w2.heap.size < w3.heap.size := own_lt hown
  have HO3 : Hid (OwnI w3 w2.heap.size (some ⟨w2.heap.size, 0, none⟩) m m ([] ++ List.replicate (m - 0) (0 : Int))) := ⟨by simp, by simpa using hown⟩
  have HR3 := Lib.hid (HR2.out.below hb23)
  have G3 := Lib.hid (G2.out.andThen (show w2.grownBy w3 (some R) from ⟨hb23.os, hb23.tape, hb23.output, hb23.size, fun i hi _ => hb23.block i hi⟩) (fun j hj => .inr hj))
  clear hgrow hi hz0 hz1 hz2 hown hb23 HR2 G2
  generalize hgb : w2.heap.size = g at HO3 hsz hs2 ⊢
  clear hgb
  have hRg : R < g := by omega
  go_wp2_with fail
  go_loopw [19] (fun i wr => ∃ (k q : Nat) (f3 : Flt) (acc : List Int), k ≤ m ∧ p2 ≤ q ∧ q ≤ n ∧ i = .int .i64 k ∧ Hid (acc.length = k) ∧ Hid (NSt bs m p2 f2 k acc q f3) ∧ Hid (Rd wr R A n c q (fv aT aB aO f3)) ∧ Hid (OwnI wr g (some ⟨g, 0, none⟩) m m (acc ++ List.replicate (m - k) (0 : Int))) ∧ Hid (w0.grownBy wr (some R)) ∧ g < wr.heap.size) (fun i _ => m - (RowKit.intOf i).toNat)
  case atStart => exact ⟨0, p2, f2, [], Nat.zero_le _, Nat.le_refl _, hp2n, rfl, rfl, NSt.start _ _ _ _, HR3, HO3, G3, hsz⟩
  case round =>
    obtain ⟨k, q, f3, acc, hk, hq, hqn, rfl, HAL, HN, HR, HO, HG, hgr⟩ := hrel
    have HBr := Lib.hid (bytes_on HB0.out HG.out hBR hR0lt)
    have HEr := Lib.hid (errs_on HE0.out HG.out hBR hR0lt)
    have hRr : R < wr.heap.size := by omega
    by_cases hlt : k < m
    · go_wp2_with fail
      refine (number_c (bs := bs) HEr.out HBr.out hBR hn HR.out hqn).mono ?_
      rintro e w4 ⟨r, q4, f4, ⟨rfl, hR4, hg4⟩, hq4, hq4n, hN4⟩
      have hO4 : OwnI w4 g (some ⟨g, 0, none⟩) m m (acc ++ List.replicate (m - k) (0 : Int)) := HO.out.grown hg4 (.inr (by simp [Value.ownBlock]; omega))
      have hcell : ∃ u, w4.cell? ⟨g, k, none⟩ = some u := by
        have h5 := hO4.2.1
        exact ⟨_, (hO4.2.cellAt k (by omega)).trans (List.getElem?_eq_getElem (by omega))⟩
      obtain ⟨u, hu⟩ := hcell
      have hfz := hO4.2.frozenAt k
      obtain ⟨hs1', hs2'⟩ := hO4.2.stored k (.int .i64 r)
      have HO5 : Hid (OwnI (w4.setCell ⟨g, k, none⟩ (.int .i64 r)) g (some ⟨g, 0, none⟩) m m ((acc ++ [r]) ++ List.replicate (m - (k + 1)) (0 : Int))) := by
        rw [← rep_set acc m k r hlt HAL.out]
        refine ⟨by rw [List.length_set]; exact hO4.1, ?_⟩
        rw [List.map_set]
        exact hs1'
      have HR5 : Hid (Rd (w4.setCell ⟨g, k, none⟩ (.int .i64 r)) R A n c q4 (fv aT aB aO f4)) := hR4.grown (grown_set _ _ _) (by simp; omega)
      have HG5 : Hid (w0.grownBy (w4.setCell ⟨g, k, none⟩ (.int .i64 r)) (some R)) := (grown_trans HG.out hg4).andThen (grown_set w4 ⟨g, k, none⟩ (.int .i64 r)) (fun j hj => .inl (by cases hj; show w0.heap.size ≤ g; omega))
      have HN5 := Lib.hid (NSt.step HN.out hlt hN4)
      have hs5 : g < (w4.setCell ⟨g, k, none⟩ (.int .i64 r)).heap.size := by have := hg4.size; simp [World.setCell]; omega
      clear hs1' hs2' hR4 hg4 hO4 hN4
      go_wp2
      go_roundw
      case rel => exact ⟨k + 1, q4, f4, acc ++ [r], by omega, by omega, hq4n, by go_num, by show _ = _; rw [List.length_append, HAL.out]; rfl, HN5, HR5, HO5, HG5, hs5⟩
      case measure => simp [RowKit.intOf]; omega
    · have HK : Hid (k = m) := (by omega : k = m)
      have HNm : Hid (NSt bs m p2 f2 m acc q f3) := by have h1 := HN.out; rw [HK.out] at h1; exact h1
      have HOm : Hid (OwnI wr g (some ⟨g, 0, none⟩) m m acc) := by have h1 := HO.out; rw [HK.out, Nat.sub_self] at h1; show OwnI _ _ _ _ _ _; simpa using h1
      have hcut := cut3 A n c p q (by omega) (by omega)
      have HBC := Lib.hid (bytes_cut (p := p) (q := q) HBr.out (by omega) hqn)
      obtain ⟨s, hs⟩ : ∃ s, s = sumV ((bs.take q).drop p) := ⟨_, rfl⟩
      have hsb := sumV_in ((bs.take q).drop p)
      rw [← hs] at hsb
      have HSV := Lib.hid hs
      obtain ⟨c0, c1, c2, _, _⟩ := HR.out
      have HSUM : Hid (∀ nn, Calls Tryz.prog 185 #[.slice (cutA A p q) (q - p) (q - p)] (wr.drewN nn) fun e w' => e = .returned (.int .i64 s) ∧ w' = wr.drewN nn) := fun nn => by
        rw [hs]
        refine (sumOf_any (cutA A p q) (q - p) (q - p) _ B (wr.drewN nn) HBC.out (by omega)).mono ?_
        rintro e w' ⟨rfl, rfl⟩
        exact ⟨rfl, rfl⟩
      clear hs HN HO
      go_wp2_with fail
      go_quiet (first | (go_at_call 185; exact Calls.quiet_of_same (HSUM.out _)))
      have HRq := Lib.hid (HR.out.drewN nq)
      have HGq := Lib.hid (grown_todrew HG.out nq)
      have HBq : Hid (IsBytes (wr.drewN nq) B A n bs) := HBr.out
      have HEq := Lib.hid (errs_on HE0.out HGq.out hBR hR0lt)
      have HOq : Hid (OwnI (wr.drewN nq) g (some ⟨g, 0, none⟩) m m acc) := HOm.out
      have hgq : g < (wr.drewN nq).heap.size := hgr
      generalize wr.drewN nq = wq at HRq HGq HBq HEq HOq hgq ⊢
      clear c0 c1 c2 HSUM hcut HR HG HBr HEr HOm
      go_wp2_with fail
      refine (exactly_c (bs := bs) (s / 256) HEq.out HBq.out hBR hn HRq.out hqn).mono ?_
      rintro e w5 ⟨q5, f5, ⟨rfl, hR5, hg5⟩, hq5, hq5n, hX5⟩
      have HR5 := Lib.hid hR5
      have HX5 := Lib.hid hX5
      have HG5 := Lib.hid (grown_trans HGq.out hg5)
      have HB5 := Lib.hid (bytes_on HB0.out HG5.out hBR hR0lt)
      have HE5 := Lib.hid (errs_on HE0.out HG5.out hBR hR0lt)
      have HO5 : Hid (OwnI w5 g (some ⟨g, 0, none⟩) m m acc) := HOq.out.grown hg5 (.inr (by simp [Value.ownBlock]; omega))
      clear hR5 hX5 hg5 HRq HGq HBq HEq HOq
      go_wp2_with fail
      refine (exactly_c (bs := bs) (s % 256) HE5.out HB5.out hBR hn HR5.out hq5n).mono ?_
      rintro e w6 ⟨q6, f6, ⟨rfl, hR6, hg6⟩, hq6, hq6n, hX6⟩
      have HR6 := Lib.hid hR6
      have HG6 := Lib.hid (grown_trans HG5.out hg6)
      have HO6 : Hid (OwnI w6 g (some ⟨g, 0, none⟩) m m acc) := HO5.out.grown hg6 (.inr (by simp [Value.ownBlock]; omega))
      have HST := Lib.hid (recSt_of HU1.out HU2.out HNm.out (fun _ => HSV.out) HX5.out hX6)
      have hblk : w6.heap[w.heap.size]? = some (.cells #[.int .i64 0, .slice none 0 0] 116 (0, 0)) := by
        rw [HG6.out.block w.heap.size (by have := HS0.out; omega) (by simp; omega)]
        exact HNEW.out
      obtain ⟨b0, b1, z0, z1⟩ := blk2 hblk
      have HMA : Hid (acc.length = m) := HO6.out.1
      obtain ⟨c0, c1, c2, _, _⟩ := hR6
      have e1 := neNil
      have e2 := neIf
      clear hg6 hX6 hblk HG5 HB5 HE5 HO5 HX5
      have hwr : ∀ (u v : Value), Rd ((w6.setCell ⟨w.heap.size, 0, none⟩ u).setCell ⟨w.heap.size, 1, none⟩ v) R A n c q6 (fv aT aB aO f6) ∧ w.grownBy ((w6.setCell ⟨w.heap.size, 0, none⟩ u).setCell ⟨w.heap.size, 1, none⟩ v) (some R) := fun u v => by
        have hne : some w.heap.size ≠ some R := by simp; omega
        have g1 := grown_set w6 ⟨w.heap.size, 0, none⟩ u
        have g2 := grown_set (w6.setCell ⟨w.heap.size, 0, none⟩ u) ⟨w.heap.size, 1, none⟩ v
        refine ⟨(HR6.out.grown g1 hne).grown g2 hne, ?_⟩
        refine ((grown_new hb0 HG6.out).andThen g1 (fun j hj => .inl ?_)).andThen g2 (fun j hj => .inl ?_)
        · cases hj; exact Nat.le_refl _
        · cases hj; exact Nat.le_refl _
      have HWR := Lib.hid hwr
      clear hwr
      by_cases hf : f6 = .no
      · subst hf
        have c2' : w6.cell? ⟨R, 2, none⟩ = some .nilIface := c2
        clear c2
        go_wp2
        refine bodyPost_ret (v := .agg #[.int .i64 r1, .slice (some ⟨g, 0, none⟩) m m]) (by simp [results, Tryz.results161, go_sem, b0, b1]) rfl ⟨r1, acc, q6, .no, _, rfl, (HWR.out _ _).1, (HWR.out _ _).2, by omega, hq6n, HST.out, fun _ => ⟨some ⟨g, 0, none⟩, m, by rw [HMA.out], ?_⟩, fun h => absurd rfl h⟩
        rw [HMA.out]
        have g1 := Rec.ownI_setLow (Rec.ownI_setLow HO6.out (p := ⟨w.heap.size, 0, none⟩) (by show w.heap.size < g; have := HS0.out; omega) (.int .i64 (r1 : Int))) (p := ⟨w.heap.size, 1, none⟩) (by show w.heap.size < g; have := HS0.out; omega) (.slice (some ⟨g, 0, none⟩) m m)
        exact ownI_base g1 (by have := HS0.out; omega)
      · obtain ⟨u, x, e0⟩ := fv_dead aT aB aO hf
        have c2' : w6.cell? ⟨R, 2, none⟩ = some (.iface u x) := by rw [← e0]; exact c2
        clear c2 e0
        go_wp2
        refine bodyPost_ret (v := .agg #[.int .i64 0, .slice none 0 0]) (by simp [results, Tryz.results161, go_sem, b0, b1]) rfl ⟨r1, acc, q6, f6, _, rfl, (HWR.out _ _).1, (HWR.out _ _).2, by omega, hq6n, HST.out, fun h => absurd h hf, fun _ => rfl⟩
end Go.Proofs.YtklgjjmcflgjeaaGreatDoor.Rd
namespace Go.Proofs.YtklgjjmcflgjeaaGreatDoor.Rd
open Go.ChangeShapes Go.WideShapes Go.ChangeAt Go.RowKit
open Ints (below_drewN)
open Has (OwnI)
open Bytes (IsBytes)
open Rec (grown_set below_a1 blk2 ownI_base Box below_alloc1)
def frR (bs : List Int) (a : Int) : RecR := if 0 ≤ a ∧ a ≤ bs.length then recR bs a.toNat else .bent
def frK (bs : List Int) (a : Int) : Int := match frR bs a with | .ok kd _ _ => kd | _ => 0
def frZ (bs : List Int) (a : Int) : List Int := match frR bs a with | .ok _ zs _ => zs | _ => []
def frP (bs : List Int) (a : Int) : Int := match frR bs a with | .ok _ _ q => (q : Int) | _ => -1
theorem fr_in {bs : List Int} {p : Nat} (h : p ≤ bs.length) : frR bs p = recR bs p := by rw [frR, if_pos (by omega), Int.toNat_natCast]
theorem fr_ok {bs : List Int} {a : Int} {kd : Int} {zs : List Int} {q : Nat} (h : frR bs a = .ok kd zs q) : frK bs a = kd ∧ frZ bs a = zs ∧ frP bs a = q := by
  unfold frK frZ frP; rw [h]; exact ⟨rfl, rfl, rfl⟩
theorem fr_no {bs : List Int} {a : Int} (h : frR bs a = .torn ∨ frR bs a = .bent) : frK bs a = 0 ∧ frZ bs a = [] ∧ frP bs a = -1 := by
  unfold frK frZ frP; rcases h with h | h <;> rw [h] <;> exact ⟨rfl, rfl, rfl⟩
def AnsR (w : World) (kd : Int) (zs : List Int) (q : Int) (e : Ending) (w' : World) : Prop :=
  ∃ A c, e = .returned (.tuple #[.agg #[.int .i64 kd, .slice A zs.length c], .int .i64 q]) ∧ OwnI w' w.heap.size A zs.length c zs ∧ Below w.heap.size w w'
theorem ownI_nil (w : World) (b : Nat) : OwnI w b none 0 0 [] := ⟨rfl, by refine ⟨rfl, .inl ⟨rfl, rfl⟩⟩⟩
end Go.Proofs.YtklgjjmcflgjeaaGreatDoor.Rd
