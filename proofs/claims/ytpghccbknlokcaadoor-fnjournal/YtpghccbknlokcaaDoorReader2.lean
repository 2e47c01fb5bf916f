/-
  THE READER's upTo, exactly and number over this seat's translation: what each answers, and where the reader then stands.
-/
import Derived.Test.YtpghccbknlokcaaDoorReader
namespace Go.Proofs.YtpghccbknlokcaaDoor.Rd
open Go.ChangeShapes Go.WideShapes Go.ChangeAt Go.RowKit
open Go.Proofs.YtpghccbknlokcaaDoor.Ints (below_drewN)
open Go.Proofs.YtpghccbknlokcaaDoor.Bytes (IsBytes)
open Go.Proofs.YtpghccbknlokcaaDoor.Rec (grown_set below_a1)
set_option linter.unusedVariables false
set_option linter.unusedSimpArgs false

theorem bytes_on {w w' : World} {R B : Nat} {A : Option Addr} {n : Nat} {bs : List Int} (h : IsBytes w B A n bs) (hg : w.grownBy w' (some R)) (hB : B ≤ R) (hR : R < w.heap.size) : IsBytes w' B A n bs :=
  h.below (below_of hg hB (by omega)) (Nat.le_refl _)
theorem errs_on {w w' : World} {R B : Nat} {aT aB aO : Addr} (h : Errs B w aT aB aO) (hg : w.grownBy w' (some R)) (hB : B ≤ R) (hR : R < w.heap.size) : Errs B w' aT aB aO :=
  h.below (below_of hg hB (by omega)) (Nat.le_refl _)
theorem grown_trans {a b c : World} {R : Nat} (h : a.grownBy b (some R)) (k : b.grownBy c (some R)) : a.grownBy c (some R) :=
  h.andThen k (fun j hj => .inr hj)

set_option maxHeartbeats 800000 in
theorem upTo_dead (w : World) (R : Nat) (A : Option Addr) (n c : Nat) (p : Int) (u : TypeId) (x : Value) (m : Int) (hm : 0 ≤ m) (h : Rd w R A n c p (.iface u x)) :
    Calls Tryd.prog 55 #[.pointer (some ⟨R, 0, none⟩), .int .i64 m] w (Left w R A n c (.int .i64 0) p (.iface u x)) := by
  have hd : decide (m < 0) = false := by simp; omega
  go_enter Tryd.func55, Tryd.ntmps55
  go_wp2_with fail
  refine (next_dead w R A n c p u x h).mono ?_
  rintro e w1 ⟨rfl, hR1, hg1⟩
  have H1 := Lib.hid hR1
  have G1 := Lib.hid hg1
  clear hR1 hg1
  go_wp2
  go_ret
  exact ⟨rfl, H1.out, G1.out⟩
set_option maxHeartbeats 800000 in
theorem upTo_end (w : World) (R : Nat) (A : Option Addr) (n c : Nat) (m : Int) (hm : 0 ≤ m) (B : Nat) (aT aB aO : Addr) (hE : Errs B w aT aB aO) (h : Rd w R A n c n .nilIface) :
    Calls Tryd.prog 55 #[.pointer (some ⟨R, 0, none⟩), .int .i64 m] w (Left w R A n c (.int .i64 0) n (.iface 111 (.pointer (some aT)))) := by
  have hd : decide (m < 0) = false := by simp; omega
  go_enter Tryd.func55, Tryd.ntmps55
  go_wp2_with fail
  refine (next_end w R A n c B aT aB aO hE h).mono ?_
  rintro e w1 ⟨rfl, hR1, hg1⟩
  have H1 := Lib.hid hR1
  have G1 := Lib.hid hg1
  clear hR1 hg1
  go_wp2
  go_ret
  exact ⟨rfl, H1.out, G1.out⟩
set_option maxHeartbeats 800000 in
theorem upTo_in (w : World) (R : Nat) (A : Option Addr) (n c : Nat) (p : Nat) (bs : List Int) (m : Int) (B : Nat) (hB : IsBytes w B A n bs) (hBR : B ≤ R) (hn : n ≤ 1048576) (h : Rd w R A n c p .nilIface) (hp : p < n) (hle : bs.getD p 0 ≤ m) :
    Calls Tryd.prog 55 #[.pointer (some ⟨R, 0, none⟩), .int .i64 m] w (Left w R A n c (.int .i64 (bs.getD p 0)) ((p + 1 : Nat) : Int) .nilIface) := by
  have HB := Lib.hid hB
  clear hB
  generalize hz : bs.getD p 0 = z at hle ⊢
  have HZ := Lib.hid hz
  clear hz
  have hd : decide (m < z) = false := by simp; omega
  go_enter Tryd.func55, Tryd.ntmps55
  go_wp2_with fail
  refine (next_live w R A n c p bs B HB.out hBR hn h hp).mono ?_
  rintro e w1 ⟨rfl, hR1, hg1⟩
  have H1 := Lib.hid hR1
  have G1 := Lib.hid hg1
  clear hR1 hg1
  rw [HZ.out]
  go_wp2
  go_ret
  exact ⟨rfl, H1.out, G1.out⟩
set_option maxHeartbeats 800000 in
theorem upTo_over (w : World) (R : Nat) (A : Option Addr) (n c : Nat) (p : Nat) (bs : List Int) (m : Int) (B : Nat) (aT aB aO : Addr) (hE : Errs B w aT aB aO) (hB : IsBytes w B A n bs) (hBR : B ≤ R) (hn : n ≤ 1048576) (h : Rd w R A n c p .nilIface) (hp : p < n) (hle : m < bs.getD p 0) :
    Calls Tryd.prog 55 #[.pointer (some ⟨R, 0, none⟩), .int .i64 m] w (Left w R A n c (.int .i64 0) ((p + 1 : Nat) : Int) (.iface 111 (.pointer (some aB)))) := by
  have HB := Lib.hid hB
  clear hB
  have hlt := h.lt
  generalize hz : bs.getD p 0 = z at hle
  have HZ := Lib.hid hz
  clear hz
  have hd : decide (m < z) = true := by simp; omega
  go_enter Tryd.func55, Tryd.ntmps55
  go_wp2_with fail
  refine (next_live w R A n c p bs B HB.out hBR hn h hp).mono ?_
  rintro e w1 ⟨rfl, hR1, hg1⟩
  have H1 := Lib.hid hR1
  have G1 := Lib.hid hg1
  obtain ⟨_, cT, cB, cO⟩ := errs_on hE hg1 hBR hlt
  clear hR1 hg1 hE
  rw [HZ.out]
  go_wp2_with (go_at_call 63; refine (fail_live _ R A n c _ aB H1.out).mono ?_; rintro e w' ⟨rfl, rfl⟩)
  go_ret
  exact ⟨rfl, H1.out.set2 _, grown_trans G1.out (grown_set _ _ _)⟩

set_option maxHeartbeats 800000 in
theorem exactly_dead (w : World) (R : Nat) (A : Option Addr) (n c : Nat) (p : Int) (u : TypeId) (x : Value) (m : Int) (B : Nat) (aT aB aO : Addr) (hE : Errs B w aT aB aO) (hBR : B ≤ R) (h : Rd w R A n c p (.iface u x)) :
    Calls Tryd.prog 57 #[.pointer (some ⟨R, 0, none⟩), .int .i64 m] w (Left w R A n c (.tuple #[]) p (.iface u x)) := by
  have hlt := h.lt
  by_cases hm : 0 = m
  · subst hm
    go_enter Tryd.func57, Tryd.ntmps57
    go_wp2_with fail
    refine (next_dead w R A n c p u x h).mono ?_
    rintro e w1 ⟨rfl, hR1, hg1⟩
    have H1 := Lib.hid hR1
    have G1 := Lib.hid hg1
    clear hR1 hg1
    go_wp2
    go_end0
    exact ⟨rfl, H1.out, G1.out⟩
  · have hne : ((0 : Int) != m) = true := by simp; omega
    go_enter Tryd.func57, Tryd.ntmps57
    go_wp2_with fail
    refine (next_dead w R A n c p u x h).mono ?_
    rintro e w1 ⟨rfl, hR1, hg1⟩
    have H1 := Lib.hid hR1
    have G1 := Lib.hid hg1
    obtain ⟨_, cT, cB, cO⟩ := errs_on hE hg1 hBR hlt
    clear hR1 hg1 hE
    go_wp2_with (go_at_call 63; refine (fail_dead _ R A n c _ _ u x H1.out).mono ?_; rintro e w' ⟨rfl, rfl⟩)
    go_end0
    exact ⟨rfl, H1.out, G1.out⟩
set_option maxHeartbeats 800000 in
theorem exactly_end (w : World) (R : Nat) (A : Option Addr) (n c : Nat) (m : Int) (B : Nat) (aT aB aO : Addr) (hE : Errs B w aT aB aO) (hBR : B ≤ R) (h : Rd w R A n c n .nilIface) :
    Calls Tryd.prog 57 #[.pointer (some ⟨R, 0, none⟩), .int .i64 m] w (Left w R A n c (.tuple #[]) n (.iface 111 (.pointer (some aT)))) := by
  have hlt := h.lt
  have HE := Lib.hid hE
  clear hE
  by_cases hm : 0 = m
  · subst hm
    go_enter Tryd.func57, Tryd.ntmps57
    go_wp2_with fail
    refine (next_end w R A n c B aT aB aO HE.out h).mono ?_
    rintro e w1 ⟨rfl, hR1, hg1⟩
    have H1 := Lib.hid hR1
    have G1 := Lib.hid hg1
    clear hR1 hg1
    go_wp2
    go_end0
    exact ⟨rfl, H1.out, G1.out⟩
  · have hne : ((0 : Int) != m) = true := by simp; omega
    go_enter Tryd.func57, Tryd.ntmps57
    go_wp2_with fail
    refine (next_end w R A n c B aT aB aO HE.out h).mono ?_
    rintro e w1 ⟨rfl, hR1, hg1⟩
    have H1 := Lib.hid hR1
    have G1 := Lib.hid hg1
    obtain ⟨_, cT, cB, cO⟩ := errs_on HE.out hg1 hBR hlt
    clear hR1 hg1
    go_wp2_with (go_at_call 63; refine (fail_dead _ R A n c _ _ _ _ H1.out).mono ?_; rintro e w' ⟨rfl, rfl⟩)
    go_end0
    exact ⟨rfl, H1.out, G1.out⟩
set_option maxHeartbeats 800000 in
theorem exactly_in (w : World) (R : Nat) (A : Option Addr) (n c : Nat) (p : Nat) (bs : List Int) (m : Int) (B : Nat) (hB : IsBytes w B A n bs) (hBR : B ≤ R) (hn : n ≤ 1048576) (h : Rd w R A n c p .nilIface) (hp : p < n) (hle : bs.getD p 0 = m) :
    Calls Tryd.prog 57 #[.pointer (some ⟨R, 0, none⟩), .int .i64 m] w (Left w R A n c (.tuple #[]) ((p + 1 : Nat) : Int) .nilIface) := by
  have HB := Lib.hid hB
  have HZ := Lib.hid hle
  clear hB hle
  have hne : (m != m) = false := by simp
  go_enter Tryd.func57, Tryd.ntmps57
  go_wp2_with fail
  refine (next_live w R A n c p bs B HB.out hBR hn h hp).mono ?_
  rintro e w1 ⟨rfl, hR1, hg1⟩
  have H1 := Lib.hid hR1
  have G1 := Lib.hid hg1
  clear hR1 hg1
  rw [HZ.out]
  go_wp2
  go_end0
  exact ⟨rfl, H1.out, G1.out⟩
set_option maxHeartbeats 800000 in
theorem exactly_not (w : World) (R : Nat) (A : Option Addr) (n c : Nat) (p : Nat) (bs : List Int) (m : Int) (B : Nat) (aT aB aO : Addr) (hE : Errs B w aT aB aO) (hB : IsBytes w B A n bs) (hBR : B ≤ R) (hn : n ≤ 1048576) (h : Rd w R A n c p .nilIface) (hp : p < n) (hle : bs.getD p 0 ≠ m) :
    Calls Tryd.prog 57 #[.pointer (some ⟨R, 0, none⟩), .int .i64 m] w (Left w R A n c (.tuple #[]) ((p + 1 : Nat) : Int) (.iface 111 (.pointer (some aB)))) := by
  have HB := Lib.hid hB
  clear hB
  have hlt := h.lt
  generalize hz : bs.getD p 0 = z at hle
  have HZ := Lib.hid hz
  clear hz
  have hne : (z != m) = true := by simp [hle]
  go_enter Tryd.func57, Tryd.ntmps57
  go_wp2_with fail
  refine (next_live w R A n c p bs B HB.out hBR hn h hp).mono ?_
  rintro e w1 ⟨rfl, hR1, hg1⟩
  have H1 := Lib.hid hR1
  have G1 := Lib.hid hg1
  obtain ⟨_, cT, cB, cO⟩ := errs_on hE hg1 hBR hlt
  clear hR1 hg1 hE
  rw [HZ.out]
  go_wp2_with (go_at_call 63; refine (fail_live _ R A n c _ aB H1.out).mono ?_; rintro e w' ⟨rfl, rfl⟩)
  go_end0
  exact ⟨rfl, H1.out.set2 _, grown_trans G1.out (grown_set _ _ _)⟩

/-- What is read of a number. -/
inductive NumR where
  | ok (x : Int) (p : Nat)
  | torn
  | bent
/-- k groups at most from place p on, behind i groups that add up to x; the next counts u. -/
def numG (bs : List Int) : Nat → Nat → Nat → Int → Int → NumR
  | 0, _, _, _, _ => .bent
  | k + 1, p, i, x, u =>
    if bs.length ≤ p then .torn
    else if 128 ≤ bs.getD p 0 then numG bs k (p + 1) (i + 1) (x + bs.getD p 0 % 128 * u) (u * 128)
    else if (bs.getD p 0 = 0 ∧ 0 < i) ∨ 1099511627775 < x + bs.getD p 0 % 128 * u then .bent
    else .ok (x + bs.getD p 0 % 128 * u) (p + 1)
def numR (bs : List Int) (p : Nat) : NumR := numG bs 6 p 0 0 1
theorem numG_torn {bs : List Int} {k p i : Nat} {x u : Int} (h : bs.length ≤ p) : numG bs (k + 1) p i x u = .torn := by rw [numG, if_pos h]
theorem numG_on {bs : List Int} {k p i : Nat} {x u : Int} (h : p < bs.length) (h1 : 128 ≤ bs.getD p 0) : numG bs (k + 1) p i x u = numG bs k (p + 1) (i + 1) (x + bs.getD p 0 % 128 * u) (u * 128) := by rw [numG, if_neg (by omega), if_pos h1]
theorem numG_bent {bs : List Int} {k p i : Nat} {x u : Int} (h : p < bs.length) (h1 : bs.getD p 0 < 128) (h2 : (bs.getD p 0 = 0 ∧ 0 < i) ∨ 1099511627775 < x + bs.getD p 0 % 128 * u) : numG bs (k + 1) p i x u = .bent := by rw [numG, if_neg (by omega), if_neg (by omega), if_pos h2]
theorem numG_ok {bs : List Int} {k p i : Nat} {x u : Int} (h : p < bs.length) (h1 : bs.getD p 0 < 128) (h2 : ¬ ((bs.getD p 0 = 0 ∧ 0 < i) ∨ 1099511627775 < x + bs.getD p 0 % 128 * u)) : numG bs (k + 1) p i x u = .ok (x + bs.getD p 0 % 128 * u) (p + 1) := by rw [numG, if_neg (by omega), if_neg (by omega), if_neg h2]
theorem pow5 (i : Nat) (h : i < 6) : 1 ≤ (128 : Int) ^ i ∧ (128 : Int) ^ i ≤ 34359738368 := by
  have h6 : i = 0 ∨ i = 1 ∨ i = 2 ∨ i = 3 ∨ i = 4 ∨ i = 5 := by omega
  rcases h6 with rfl | rfl | rfl | rfl | rfl | rfl <;> decide
theorem mul_bd (z u : Int) (hz : 0 ≤ z) (hu : 1 ≤ u) : 0 ≤ z % 128 * u ∧ z % 128 * u ≤ 127 * u := by
  have h0 : 0 ≤ z % 128 := by omega
  have h1 : z % 128 ≤ 127 := by omega
  exact ⟨Int.mul_nonneg h0 (by omega), Int.mul_le_mul_of_nonneg_right h1 (by omega)⟩

/-- Where a reader stands behind a number. -/
def NumAt (aT aB : Addr) (p n : Nat) : NumR → Int → Int → Value → Prop
  | .ok x q, r, p', f' => r = x ∧ p' = (q : Int) ∧ p ≤ q ∧ q ≤ n ∧ f' = .nilIface
  | .torn, r, p', f' => r = 0 ∧ (∃ q : Nat, p' = (q : Int) ∧ p ≤ q ∧ q ≤ n) ∧ f' = .iface 111 (.pointer (some aT))
  | .bent, r, p', f' => r = 0 ∧ (∃ q : Nat, p' = (q : Int) ∧ p ≤ q ∧ q ≤ n) ∧ f' = .iface 111 (.pointer (some aB))

set_option maxHeartbeats 800000 in
theorem number_dead (w : World) (R : Nat) (A : Option Addr) (n c : Nat) (p : Int) (u : TypeId) (x : Value) (h : Rd w R A n c p (.iface u x)) :
    Calls Tryd.prog 56 #[.pointer (some ⟨R, 0, none⟩)] w (Left w R A n c (.int .i64 0) p (.iface u x)) := by
  have H := Lib.hid h
  clear h
  go_enter Tryd.func56, Tryd.ntmps56
  go_wp2_with fail
  go_loopw [3, 4, 7] (fun a b i wr => a = .int .i64 (0 : Int) ∧ b = .int .i64 (1 : Int) ∧ i = .int .i64 (0 : Int) ∧ wr = w) (fun _ _ _ _ => 0)
  case atStart => exact ⟨rfl, rfl, rfl, rfl⟩
  case round =>
    obtain ⟨rfl, rfl, rfl, rfl⟩ := hrel
    go_wp2_with fail
    refine (next_dead wr R A n c p u x H.out).mono ?_
    rintro e w1 ⟨rfl, hR1, hg1⟩
    have H1 := Lib.hid hR1
    have G1 := Lib.hid hg1
    clear hR1 hg1
    go_wp2
    go_ret
    exact ⟨rfl, H1.out, G1.out⟩

set_option maxHeartbeats 3200000 in
theorem number_live (w : World) (R : Nat) (A : Option Addr) (n c : Nat) (p : Nat) (bs : List Int) (B : Nat) (aT aB aO : Addr) (hE : Errs B w aT aB aO) (hB : IsBytes w B A n bs) (hBR : B ≤ R) (hn : n ≤ 1048576) (h : Rd w R A n c p .nilIface) (hp : p ≤ n) :
    Calls Tryd.prog 56 #[.pointer (some ⟨R, 0, none⟩)] w fun e w' => ∃ (r p' : Int) (f' : Value), Left w R A n c (.int .i64 r) p' f' e w' ∧ NumAt aT aB p n (numR bs p) r p' f' := by
  have HL : Hid (bs.length = n) := hB.1
  have HB := Lib.hid hB
  have HE := Lib.hid hE
  have H := Lib.hid h
  have hlt := h.lt
  clear hB hE h
  go_enter Tryd.func56, Tryd.ntmps56
  go_wp2_with fail
  go_loopw [3, 4, 7] (fun a b i wr => ∃ (k q : Nat) (x u : Int), k ≤ 6 ∧ p ≤ q ∧ q ≤ n ∧ a = .int .i64 x ∧ b = .int .i64 u ∧ i = .int .i64 k ∧ 0 ≤ x ∧ x < u ∧ Hid (u = 128 ^ k) ∧ Hid (numR bs p = numG bs (6 - k) q k x u) ∧ Hid (Rd wr R A n c q .nilIface) ∧ Hid (w.grownBy wr (some R))) (fun _ _ i _ => 6 - (intOf i).toNat)
  case atStart => exact ⟨0, p, 0, 1, by omega, Nat.le_refl _, hp, rfl, rfl, rfl, by omega, by omega, rfl, rfl, H, World.grownBy.refl _ _⟩
  case round =>
    obtain ⟨k, q, x, u, hk, hpq, hqn, rfl, rfl, rfl, hx0, hxu, HU, HV, HR, HG⟩ := hrel
    have HBr := Lib.hid (bytes_on HB.out HG.out hBR hlt)
    have HEr := Lib.hid (errs_on HE.out HG.out hBR hlt)
    have hltr : R < wr.heap.size := HR.out.lt
    by_cases hk6 : k < 6
    · have hd6 : decide ((k : Int) < 6) = true := by simp; omega
      obtain ⟨k', hk'⟩ : ∃ k', 6 - k = k' + 1 := ⟨5 - k, by omega⟩
      have HK := Lib.hid hk'
      clear hk'
      have hu1 : 1 ≤ u ∧ u ≤ 34359738368 := by rw [HU.out]; exact pow5 k hk6
      by_cases hq : q < n
      · have hql : q < bs.length := by rw [HL.out]; exact hq
        obtain ⟨z, hz⟩ : ∃ z, z = bs.getD q 0 := ⟨_, rfl⟩
        have hzb : 0 ≤ z ∧ z < 256 := by rw [hz]; exact HBr.out.2.1 _ (by simp [List.getD, hql])
        obtain ⟨d, hd⟩ : ∃ d, d = z % 128 * u := ⟨_, rfl⟩
        have hdb : 0 ≤ d ∧ d ≤ 127 * u := by rw [hd]; exact mul_bd z u hzb.1 hu1.1
        have hwd : IntKind.i64.wrap (z % 128 * u) = d := by rw [← hd, IntKind.wrap_i64]; omega
        have HZ := Lib.hid hz
        have HD := Lib.hid hd
        clear hz hd
        by_cases h128 : 128 ≤ z
        · have hdz : decide (128 ≤ z) = true := by simp [h128]
          have HV2 : Hid (numR bs p = numG bs (6 - (k + 1)) (q + 1) (k + 1) (x + d) (u * 128)) := by
            show _ = _
            rw [HV.out, HK.out, numG_on hql (by rw [← HZ.out]; exact h128), ← HZ.out, ← HD.out, show 6 - (k + 1) = k' by have := HK.out; omega]
          have HU2 : Hid (u * 128 = 128 ^ (k + 1)) := by show _ = _; rw [HU.out, Int.pow_succ]
          go_wp2_with fail
          refine (next_live wr R A n c q bs B HBr.out hBR hn HR.out hq).mono ?_
          rintro e w1 ⟨rfl, hR1, hg1⟩
          rw [← HZ.out]
          have H1 := Lib.hid hR1
          have G1 := Lib.hid (grown_trans HG.out hg1)
          clear hR1 hg1
          go_wp2
          go_roundw
          case rel => exact ⟨k + 1, q + 1, x + d, u * 128, by omega, by omega, by omega, by go_num, by go_num, by go_num, by omega, by omega, HU2, HV2, H1, G1⟩
          case measure => simp [intOf]; omega
        · have hdz : decide (128 ≤ z) = false := by simp; omega
          by_cases hbad : (z = 0 ∧ 0 < k) ∨ 1099511627775 < x + d
          · have HV2 : Hid (numR bs p = .bent) := by
              show _ = _
              rw [HV.out, HK.out, numG_bent hql (by rw [← HZ.out]; omega) (by rw [← HZ.out, ← HD.out]; exact hbad)]
            go_wp2_with fail
            refine (next_live wr R A n c q bs B HBr.out hBR hn HR.out hq).mono ?_
            rintro e w1 ⟨rfl, hR1, hg1⟩
            rw [← HZ.out]
            have H1 := Lib.hid hR1
            have G1 := Lib.hid (grown_trans HG.out hg1)
            obtain ⟨_, cT, cB, cO⟩ := errs_on HEr.out hg1 hBR hltr
            clear hR1 hg1
            by_cases hz0 : z = 0 ∧ 0 < k
            · have hz1 : (z == 0) = true := by simp [hz0.1]
              have hz2 : decide ((0 : Int) < (k : Int)) = true := by simp; omega
              have hz4 : decide (0 < k) = true := by simp; omega
              clear hbad hz0
              go_wp2_with (go_at_call 63; refine (fail_live _ R A n c _ aB H1.out).mono ?_; rintro e w' ⟨rfl, rfl⟩)
              go_ret
              refine ⟨0, _, _, ⟨rfl, H1.out.set2 _, grown_trans G1.out (grown_set _ _ _)⟩, ?_⟩
              rw [HV2.out]
              exact ⟨rfl, ⟨q + 1, rfl, by omega, by omega⟩, rfl⟩
            · have hx1 : decide (1099511627775 < x + d) = true := by simp; omega
              by_cases hz3 : z = 0
              · have hz1 : (z == 0) = true := by simp [hz3]
                have hz2 : decide ((0 : Int) < (k : Int)) = false := by simp; omega
                have hz4 : decide (0 < k) = false := by simp; omega
                clear hbad hz0 hz3
                go_wp2_with (go_at_call 63; refine (fail_live _ R A n c _ aB H1.out).mono ?_; rintro e w' ⟨rfl, rfl⟩)
                go_ret
                refine ⟨0, _, _, ⟨rfl, H1.out.set2 _, grown_trans G1.out (grown_set _ _ _)⟩, ?_⟩
                rw [HV2.out]
                exact ⟨rfl, ⟨q + 1, rfl, by omega, by omega⟩, rfl⟩
              · have hz1 : (z == 0) = false := by simp [hz3]
                clear hbad hz0 hz3
                go_wp2_with (go_at_call 63; refine (fail_live _ R A n c _ aB H1.out).mono ?_; rintro e w' ⟨rfl, rfl⟩)
                go_ret
                refine ⟨0, _, _, ⟨rfl, H1.out.set2 _, grown_trans G1.out (grown_set _ _ _)⟩, ?_⟩
                rw [HV2.out]
                exact ⟨rfl, ⟨q + 1, rfl, by omega, by omega⟩, rfl⟩
          · have HV2 : Hid (numR bs p = .ok (x + d) (q + 1)) := by
              show _ = _
              rw [HV.out, HK.out, numG_ok hql (by rw [← HZ.out]; omega) (by rw [← HZ.out, ← HD.out]; exact hbad), ← HZ.out, ← HD.out]
            have hx1 : decide (1099511627775 < x + d) = false := by simp; omega
            go_wp2_with fail
            refine (next_live wr R A n c q bs B HBr.out hBR hn HR.out hq).mono ?_
            rintro e w1 ⟨rfl, hR1, hg1⟩
            rw [← HZ.out]
            have H1 := Lib.hid hR1
            have G1 := Lib.hid (grown_trans HG.out hg1)
            clear hR1 hg1
            by_cases hz3 : z = 0
            · have hz1 : (z == 0) = true := by simp [hz3]
              have hz2 : decide ((0 : Int) < (k : Int)) = false := by simp; omega
              have hz4 : decide (0 < k) = false := by simp; omega
              clear hbad hz3
              go_wp2
              go_ret
              refine ⟨x + d, _, _, ⟨rfl, H1.out, G1.out⟩, ?_⟩
              rw [HV2.out]
              exact ⟨rfl, rfl, by omega, by omega, rfl⟩
            · have hz1 : (z == 0) = false := by simp [hz3]
              clear hbad hz3
              go_wp2
              go_ret
              refine ⟨x + d, _, _, ⟨rfl, H1.out, G1.out⟩, ?_⟩
              rw [HV2.out]
              exact ⟨rfl, rfl, by omega, by omega, rfl⟩
      · have hqn' : q = n := by omega
        subst hqn'
        have HV2 : Hid (numR bs p = .torn) := by
          show _ = _
          rw [HV.out, HK.out, numG_torn (by rw [HL.out]; omega)]
        go_wp2_with fail
        refine (next_end wr R A q c B aT aB aO HEr.out HR.out).mono ?_
        rintro e w1 ⟨rfl, hR1, hg1⟩
        have H1 := Lib.hid hR1
        have G1 := Lib.hid (grown_trans HG.out hg1)
        obtain ⟨_, cT, cB, cO⟩ := errs_on HEr.out hg1 hBR hltr
        clear hR1 hg1
        by_cases hk0 : 0 < k
        · have hz2 : decide ((0 : Int) < (k : Int)) = true := by simp; omega
          have hz4 : decide (0 < k) = true := by simp; omega
          go_wp2_with (go_at_call 63; refine (fail_dead _ R A q c _ _ _ _ H1.out).mono ?_; rintro e w' ⟨rfl, rfl⟩)
          go_ret
          refine ⟨0, _, _, ⟨rfl, H1.out, G1.out⟩, ?_⟩
          rw [HV2.out]
          exact ⟨rfl, ⟨q, rfl, by omega, by omega⟩, rfl⟩
        · have hz2 : decide ((0 : Int) < (k : Int)) = false := by simp; omega
          have hz4 : decide (0 < k) = false := by simp; omega
          have hu : u = 1 := by rw [HU.out, show k = 0 by omega]; rfl
          have hx : x = 0 := by omega
          subst hx
          clear hu
          go_wp2
          go_ret
          refine ⟨0, _, _, ⟨rfl, H1.out, G1.out⟩, ?_⟩
          rw [HV2.out]
          exact ⟨rfl, ⟨q, rfl, by omega, by omega⟩, rfl⟩
    · have hd6 : decide ((k : Int) < 6) = false := by simp; omega
      have HV2 : Hid (numR bs p = .bent) := by
        show _ = _
        rw [HV.out, show 6 - k = 0 by omega]
        rfl
      obtain ⟨_, cT, cB, cO⟩ := HEr.out
      go_wp2_with (go_at_call 63; refine (fail_live _ R A n c _ aB HR.out).mono ?_; rintro e w' ⟨rfl, rfl⟩)
      go_ret
      refine ⟨0, _, _, ⟨rfl, HR.out.set2 _, grown_trans HG.out (grown_set _ _ _)⟩, ?_⟩
      rw [HV2.out]
      exact ⟨rfl, ⟨q, rfl, by omega, by omega⟩, rfl⟩
end Go.Proofs.YtpghccbknlokcaaDoor.Rd
