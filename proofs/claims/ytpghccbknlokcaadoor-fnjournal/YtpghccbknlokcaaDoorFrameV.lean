/-
  FRAMES ARE READ AS THEY WERE MADE, on lists: what is read of a record's frame is the record; cut shorter it is torn.
-/
import Derived.Test.YtpghccbknlokcaaDoorScanV
import Derived.Test.YtpghccbknlokcaaDoorFrame
namespace Go.Proofs.YtpghccbknlokcaaDoor.Rd
open Go.Proofs.YtpghccbknlokcaaDoor.Bytes (sumV sumV_in numB num_t putN putN_lo putN_hi putV putV_t putN_pos)
open Go.Proofs.YtpghccbknlokcaaDoor.Rec (recB rec_t bodyV frameT frameV frame_t flat_in)
set_option linter.unusedVariables false

theorem getD_of_drop {bs : List Int} {p : Nat} {v : Int} {l : List Int} (h : bs.drop p = v :: l) : bs.getD p 0 = v ∧ p < bs.length ∧ bs.drop (p + 1) = l := by
  have h1 : p < bs.length := by
    rcases Nat.lt_or_ge p bs.length with h1 | h1
    · exact h1
    · rw [List.drop_eq_nil_of_le h1] at h; cases h
  rw [List.drop_eq_getElem_cons h1] at h
  injection h with e1 e2
  exact ⟨by simp [List.getD, h1, e1], h1, e2⟩

theorem numG_put {bs post : List Int} : ∀ (k x p i : Nat) (acc u : Int), bs.drop p = putN x ++ post → (putN x).length ≤ k → 0 ≤ acc → 1 ≤ u → acc + (x : Int) * u ≤ 1099511627775 → (0 < i → 0 < x) → numG bs k p i acc u = .ok (acc + (x : Int) * u) (p + (putN x).length)
  | 0, x, p, i, acc, u, h, hk, _, _, _, _ => by have := putN_pos x; omega
  | k + 1, x, p, i, acc, u, h, hk, ha, hu, hm, hi => by
    by_cases hx : x < 128
    · rw [putN_lo hx] at h ⊢
      obtain ⟨e1, e2, _⟩ := getD_of_drop h
      have e3 : (x : Int) % 128 = (x : Int) := by omega
      rw [numG_ok e2 (by rw [e1]; omega) (by
        rw [e1, e3]
        rintro (⟨h1, h2⟩ | h1)
        · have := hi h2; omega
        · omega), e1, e3]
      simp
    · rw [putN_hi (by omega)] at h hk ⊢
      obtain ⟨e1, e2, e4⟩ := getD_of_drop h
      have e3 : (((x % 128 : Nat) : Int) + 128) % 128 = ((x % 128 : Nat) : Int) := by omega
      have hq : (x : Int) = ((x % 128 : Nat) : Int) + ((x / 128 : Nat) : Int) * 128 := by omega
      have hs : acc + ((x % 128 : Nat) : Int) * u + ((x / 128 : Nat) : Int) * (u * 128) = acc + (x : Int) * u := by
        have h1 : (x : Int) * u = ((x % 128 : Nat) : Int) * u + ((x / 128 : Nat) : Int) * 128 * u := by
          rw [← Int.add_mul, ← hq]
        rw [h1, Int.mul_comm u 128, ← Int.mul_assoc, Int.add_assoc]
      have h0 : 0 ≤ ((x % 128 : Nat) : Int) * u := Int.mul_nonneg (by omega) (by omega)
      simp only [List.length_cons] at hk ⊢
      rw [numG_on e2 (by rw [e1]; omega), e1, e3, numG_put k (x / 128) (p + 1) (i + 1) _ _ e4 (by omega) (by omega) (by omega) (by rw [hs]; exact hm) (fun _ => by omega), hs]
      congr 1
      omega
theorem numR_put {bs post : List Int} {x : Int} {p : Nat} (hx : numB x = true) (h : bs.drop p = putV x ++ post) : numR bs p = .ok x (p + (putV x).length) := by
  have hb := num_t hx
  have h6 := Bytes.putV_len x
  rw [putV_t hx] at h h6 ⊢
  have hn : ((x.toNat : Nat) : Int) = x := by omega
  have := numG_put 6 x.toNat p 0 0 1 h h6 (by omega) (by omega) (by omega) (fun h => by omega)
  rw [numR, this]
  simp only [Int.mul_one, Int.zero_add, hn]
theorem numsA_put {bs post : List Int} : ∀ (zs : List Int) (p : Nat) (acc : List Int), (∀ x ∈ zs, numB x = true) → bs.drop p = zs.flatMap putV ++ post → numsA bs zs.length p acc = .ok (acc ++ zs) (p + (zs.flatMap putV).length)
  | [], p, acc, _, _ => by simp [numsA]
  | x :: zs, p, acc, hz, h => by
    rw [List.flatMap_cons, List.append_assoc] at h
    have h1 := numR_put (hz x (by simp)) h
    have h2 : bs.drop (p + (putV x).length) = zs.flatMap putV ++ post := by
      rw [← List.drop_drop, h]
      simp
    rw [List.length_cons, numsA_ok h1, numsA_put zs _ _ (fun y hy => hz y (by simp [hy])) h2]
    simp only [List.flatMap_cons, List.length_append, List.append_assoc, List.cons_append, List.nil_append]
    congr 1
    omega

theorem recR_frame {kd : Int} {zs post : List Int} (h : recB kd zs = true) : recR (frameT kd zs ++ post) 0 = .ok kd zs (frameT kd zs).length := by
  have hr := rec_t h
  obtain ⟨bs, hbs⟩ : ∃ bs, bs = frameT kd zs ++ post := ⟨_, rfl⟩
  obtain ⟨s, hs⟩ : ∃ s, s = sumV (bodyV kd zs) := ⟨_, rfl⟩
  have hcons : bs = kd :: (zs.length : Int) :: (zs.flatMap putV ++ (s / 256 :: s % 256 :: post)) := by rw [hbs, hs]; simp [frameT, bodyV]
  have hd0 : bs.drop 0 = kd :: ((zs.length : Int) :: (zs.flatMap putV ++ (s / 256 :: s % 256 :: post))) := by rw [List.drop_zero]; exact hcons
  obtain ⟨e1, e2, e3⟩ := getD_of_drop hd0
  obtain ⟨e4, e5, e6⟩ := getD_of_drop e3
  have hn := numsA_put zs 2 [] hr.2.2 e6
  have hL : (bodyV kd zs).length = 2 + (zs.flatMap putV).length := by simp [bodyV]; omega
  have hd2 : bs.drop (2 + (zs.flatMap putV).length) = s / 256 :: s % 256 :: post := by
    rw [← List.drop_drop, e6]
    simp
  obtain ⟨e7, e8, e9⟩ := getD_of_drop hd2
  obtain ⟨e10, e11, _⟩ := getD_of_drop e9
  have htk : (bs.take (2 + (zs.flatMap putV).length)).drop 0 = bodyV kd zs := by
    rw [List.drop_zero, hbs, frameT, List.append_assoc, ← hL, List.take_left]
  have hlen : (frameT kd zs).length = 2 + (zs.flatMap putV).length + 2 := by rw [frameT, List.length_append, hL]; rfl
  rw [← hbs, hlen, recR, if_neg (by omega), if_neg (by rw [e1]; omega), if_neg (by omega), if_neg (by rw [e4]; omega), e1, e4]
  rw [show (0 + 2 : Nat) = 2 from rfl, show ((zs.length : Int)).toNat = zs.length by omega, hn]
  show tailR bs 0 (2 + (zs.flatMap putV).length) kd ([] ++ zs) = _
  rw [tailR, if_neg (by omega), htk, ← hs, if_neg (by rw [e7]; simp), if_neg (by omega), if_neg (by rw [e10]; simp)]
  rfl

/-! Cut shorter. -/
theorem getD_take {bs : List Int} {c p : Nat} (h : p < c) : (bs.take c).getD p 0 = bs.getD p 0 := by simp [List.getD, h]
theorem numG_take {bs : List Int} {c q : Nat} {y : Int} (hc : c ≤ bs.length) : ∀ (k p i : Nat) (x u : Int), p ≤ c → numG bs k p i x u = .ok y q → numG (bs.take c) k p i x u = if q ≤ c then .ok y q else .torn
  | 0, p, i, x, u, _, h => by cases h
  | k + 1, p, i, x, u, hp, h => by
    have hl : (bs.take c).length = c := by simp; omega
    by_cases h1 : bs.length ≤ p
    · rw [numG_torn h1] at h; cases h
    · by_cases hpc : p = c
      · have hq : ¬ q ≤ c := by
          intro hq
          have hge : ∀ (k p i : Nat) (x u : Int), numG bs k p i x u = .ok y q → p < q := by
            intro k
            induction k with
            | zero => intro p i x u h; cases h
            | succ k ih =>
              intro p i x u h
              by_cases g1 : bs.length ≤ p
              · rw [numG_torn g1] at h; cases h
              · by_cases g2 : 128 ≤ bs.getD p 0
                · rw [numG_on (by omega) g2] at h
                  have := ih _ _ _ _ h
                  omega
                · by_cases g3 : (bs.getD p 0 = 0 ∧ 0 < i) ∨ 1099511627775 < x + bs.getD p 0 % 128 * u
                  · rw [numG_bent (by omega) (by omega) g3] at h; cases h
                  · rw [numG_ok (by omega) (by omega) g3] at h
                    injection h with _ h
                    omega
          have := hge _ _ _ _ _ h
          omega
        rw [numG_torn (by omega), if_neg hq]
      · have hp2 : p < c := by omega
        by_cases h2 : 128 ≤ bs.getD p 0
        · rw [numG_on (by omega) h2] at h
          rw [numG_on (by omega) (by rw [getD_take hp2]; exact h2), getD_take hp2]
          exact numG_take hc k (p + 1) (i + 1) _ _ (by omega) h
        · by_cases h3 : (bs.getD p 0 = 0 ∧ 0 < i) ∨ 1099511627775 < x + bs.getD p 0 % 128 * u
          · rw [numG_bent (by omega) (by omega) h3] at h; cases h
          · rw [numG_ok (by omega) (by omega) h3] at h
            rw [numG_ok (by omega) (by rw [getD_take hp2]; omega) (by rw [getD_take hp2]; exact h3), getD_take hp2, h]
            injection h with _ h
            rw [if_pos (by omega)]
theorem numsA_take {bs : List Int} (hb : ∀ x ∈ bs, 0 ≤ x ∧ x < 256) {c q : Nat} {zs : List Int} (hc : c ≤ bs.length) : ∀ (m p : Nat) (acc : List Int), p ≤ c → numsA bs m p acc = .ok zs q → numsA (bs.take c) m p acc = if q ≤ c then .ok zs q else .torn
  | 0, p, acc, hp, h => by
    rw [numsA] at h
    injection h with h1 h2
    subst h1 h2
    rw [numsA, if_pos hp]
  | m + 1, p, acc, hp, h => by
    cases hnr : numR bs p with
    | ok x r =>
      rw [numsA_ok hnr] at h
      have hin := numR_in hb hnr
      have hge := numsA_ge hb _ _ _ hin.2.2 h
      have ht := numG_take hc 6 p 0 0 1 hp hnr
      by_cases hrc : r ≤ c
      · rw [if_pos hrc] at ht
        rw [numsA_ok ht]
        exact numsA_take hb hc m r _ hrc h
      · rw [if_neg hrc] at ht
        rw [numsA_torn ht, if_neg (by omega)]
    | torn => rw [numsA_torn hnr] at h; cases h
    | bent => rw [numsA_bent hnr] at h; cases h
/-- A record's frame, cut shorter, is torn. -/
theorem recR_take {bs : List Int} (hb : ∀ x ∈ bs, 0 ≤ x ∧ x < 256) {c q : Nat} {kd : Int} {zs : List Int} (h : recR bs 0 = .ok kd zs q) (hc : c < q) : recR (bs.take c) 0 = .torn := by
  have hq := (recR_ok hb h).2.1
  have hl : (bs.take c).length = c := by simp; omega
  unfold recR at h ⊢
  rw [hl]
  by_cases h1 : c ≤ 0
  · rw [if_pos h1]
  · rw [if_neg h1, getD_take (by omega)]
    split at h
    · cases h
    · split at h
      · cases h
      · next g1 =>
        rw [if_neg g1]
        by_cases h2 : c ≤ 0 + 1
        · rw [if_pos h2]
        · rw [if_neg h2, getD_take (by omega)]
          split at h
          · cases h
          · split at h
            · cases h
            · next g2 =>
              rw [if_neg g2]
              cases hna : numsA bs (bs.getD (0 + 1) 0).toNat (0 + 2) [] with
              | torn => rw [hna] at h; cases h
              | bent => rw [hna] at h; cases h
              | ok acc r =>
                rw [hna] at h
                have h' : tailR bs 0 r (bs.getD 0 0) acc = .ok kd zs q := h
                obtain ⟨_, _, hr, _⟩ := tailR_ok h'
                rw [numsA_take hb (by omega) _ _ _ (by omega) hna]
                by_cases hrc : r ≤ c
                · rw [if_pos hrc]
                  show tailR (bs.take c) 0 r _ acc = .torn
                  have htt : ((bs.take c).take r).drop 0 = (bs.take r).drop 0 := by rw [List.take_take, Nat.min_eq_left hrc]
                  unfold tailR at h' ⊢
                  rw [hl, htt]
                  by_cases h3 : c ≤ r
                  · rw [if_pos h3]
                  · rw [if_neg h3, getD_take (by omega)]
                    split at h'
                    · cases h'
                    · split at h'
                      · cases h'
                      · next g3 => rw [if_neg g3, if_pos (by omega)]
                · rw [if_neg hrc]
                  rfl
end Go.Proofs.YtpghccbknlokcaaDoor.Rd
