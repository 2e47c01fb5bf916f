/-
  CONTRACTS of the model's l01Read (a word as the number that it writes) over this seat's translation.
-/
import Derived.Test.YtfabioccnaooeaaDoorTick
import Derived.Test.YtfabioccnaooeaaDoorNum
namespace Go.Proofs.YtfabioccnaooeaaDoor.Read
open Go.ChangeShapes Go.WideShapes Go.ChangeAt Go.RowKit
open Go.Proofs.YtfabioccnaooeaaDoor.Tick Go.Proofs.YtfabioccnaooeaaDoor.Num Go.Proofs.YtfabioccnaooeaaDoor.Str
set_option linter.unusedVariables false

def digB (c : UInt8) : Bool := decide (48 ≤ c.toNat) && decide (c.toNat ≤ 57)
def dvS (a : Nat) (c : UInt8) : Nat := 10 * a + (c.toNat - 48)
def dv (ds : List UInt8) : Nat := ds.foldl dvS 0
def bodyOf (bs : List UInt8) : List UInt8 := if bs.head? = some 45 then bs.tail else bs
def readN (bs : List UInt8) : Int := if (bodyOf bs).length < bs.length then -(dv (bodyOf bs) : Int) else (dv (bodyOf bs) : Int)
def readB (bs : List UInt8) : Bool := decide (1 ≤ (bodyOf bs).length) && decide ((bodyOf bs).length ≤ 10) && (bodyOf bs).all digB
/-- What l01Read answers: the number and whether the word is the number's own numeral. -/
def readV (bs : List UInt8) : Int × Bool := if readB bs then (readN bs, decide (Lib.itoa (readN bs) = bs)) else (0, false)

theorem dv_take (ds : List UInt8) (k : Nat) (c : UInt8) (h : ds[k]? = some c) : dv (ds.take (k + 1)) = dvS (dv (ds.take k)) c := by
  obtain ⟨hk, hc⟩ := List.getElem?_eq_some_iff.1 h
  unfold dv
  rw [List.take_succ_eq_append_getElem hk, List.foldl_append, hc]; rfl
theorem dv_lt : ∀ (ds : List UInt8), ds.all digB = true → dv ds < 10 ^ ds.length := by
  intro ds
  suffices h : ∀ (l : List UInt8) (a k : Nat), l.all digB = true → a < 10 ^ k → l.foldl dvS a < 10 ^ (k + l.length) by
    intro hd; have := h ds 0 0 hd (by simp); rw [Nat.zero_add] at this; exact this
  intro l
  induction l with
  | nil => intro a k _ h; simpa using h
  | cons c l ih =>
    intro a k hd ha
    simp only [List.all_cons, Bool.and_eq_true] at hd
    have hc := hd.1
    simp only [digB, Bool.and_eq_true, decide_eq_true_eq] at hc
    have := ih (dvS a c) (k + 1) hd.2 (by unfold dvS; rw [Nat.pow_succ]; omega)
    simpa [Nat.add_assoc, Nat.add_comm 1] using this
theorem all_take {ds : List UInt8} {k : Nat} {c : UInt8} (h : ds[k]? = some c) (ha : (ds.take k).all digB = true) (hc : digB c = true) : (ds.take (k + 1)).all digB = true := by
  obtain ⟨hk, he⟩ := List.getElem?_eq_some_iff.1 h
  rw [List.take_succ_eq_append_getElem hk, List.all_append, he]; simp [ha, hc]
theorem all_stop {ds : List UInt8} {k : Nat} {c : UInt8} (h : ds[k]? = some c) (hc : digB c = false) : ds.all digB = false := by
  obtain ⟨hk, he⟩ := List.getElem?_eq_some_iff.1 h
  rw [← Bool.not_eq_true, List.all_eq_true]
  intro hh
  have := hh c (by rw [← he]; exact List.getElem_mem hk)
  rw [hc] at this; cases this
theorem dig_t {c : UInt8} (h : digB c = true) : 48 ≤ (c.toNat : Int) ∧ (c.toNat : Int) ≤ 57 := by
  simp only [digB, Bool.and_eq_true, decide_eq_true_eq] at h; omega
theorem dig_f {c : UInt8} (h : digB c = false) : (c.toNat : Int) < 48 ∨ 57 < (c.toNat : Int) := by
  rcases Decidable.em ((c.toNat : Int) < 48) with h1 | h1
  · exact .inl h1
  · right
    rcases Decidable.em (57 < (c.toNat : Int)) with h2 | h2
    · exact h2
    · exfalso
      have : digB c = true := by simp only [digB, Bool.and_eq_true, decide_eq_true_eq]; omega
      rw [h] at this; cases this

def ReadSaid (bs : List UInt8) (w : World) (e : Ending) (w' : World) : Prop :=
  e = .returned (.tuple #[.int .i64 (readV bs).1, .bool (readV bs).2]) ∧ Below w.heap.size w w'

theorem ret_two {k : IntKind} {a b : Int} {p q : Bool} (h : a = b) (h2 : p = q) : Ending.returned (.tuple #[.int k a, .bool p]) = .returned (.tuple #[.int k b, .bool q]) := by rw [h, h2]
theorem beq_dec (a b : List UInt8) : (a == b) = decide (a = b) := by rw [Bool.eq_iff_iff]; simp
theorem readV_no {bs : List UInt8} (h : readB bs = false) : readV bs = (0, false) := by simp [readV, h]
theorem readV_yes {bs : List UInt8} (h : readB bs = true) : readV bs = (readN bs, decide (Lib.itoa (readN bs) = bs)) := by simp [readV, h]

set_option maxHeartbeats 400000 in
theorem read_empty (w : World) : Calls Tryd.prog 30 #[.string (bstr [])] w (ReadSaid [] w) := by
  have hsz : (bstr []).size = 0 := rfl
  have hin : inB 0 1 10 = false := rfl
  go_enter Tryd.func30, Tryd.ntmps30
  go_wp2_with (first | (go_at_call 24; refine (l01In_any _ _ _ _).mono ?_; rintro e w' ⟨rfl, rfl⟩))
  go_ret2
  exact ⟨rfl, Below.refl _ _⟩

set_option maxHeartbeats 1600000 in
theorem read_some (c : UInt8) (r : List UInt8) (w : World) (hmax : r.length ≤ 2000000) : Calls Tryd.prog 30 #[.string (bstr (c :: r))] w (ReadSaid (c :: r) w) := by
  obtain ⟨bs, hbs⟩ : ∃ bs, bs = c :: r := ⟨_, rfl⟩
  have hix := idx0 (P := Tryd.prog) 9 Tryd.underlying9 bs c (by rw [hbs]; rfl)
  have hcf := cutFrom1 (P := Tryd.prog) 9 Tryd.underlying9 bs (by rw [hbs]; simp)
  have hlb : bs.length ≤ 2000001 := by rw [hbs]; simp; omega
  have hl0 : 0 < bs.length := by rw [hbs]; simp
  have hszb := bstr_size bs
  have hcase : (((c.toNat : Int) == 45) = true ∧ bs.drop 1 = bodyOf bs ∧ (bodyOf bs).length + 1 = bs.length) ∨ (((c.toNat : Int) == 45) = false ∧ bodyOf bs = bs) := by
    by_cases h : c = 45
    · left; subst h; rw [hbs]; exact ⟨rfl, rfl, rfl⟩
    · right
      refine ⟨?_, by rw [hbs]; unfold bodyOf; rw [if_neg]; simpa using h⟩
      rw [beq_eq_false_iff_ne]
      intro h'
      exact h (UInt8.toNat_inj.1 (by have : c.toNat = 45 := by omega
                                     rw [this]; rfl))
  rw [← hbs]
  clear hbs
  rcases hcase with ⟨hc, hd, hll⟩ | ⟨hc, hd⟩
  · rw [hd] at hcf
    clear hd
    obtain ⟨ds, hds⟩ : ∃ ds, ds = bodyOf bs := ⟨_, rfl⟩
    have HN : Hid (readN bs = -(dv ds : Int)) := (by unfold readN; rw [if_pos (by omega), hds] : readN bs = -(dv ds : Int))
    have HB : Hid (readB bs = (decide (1 ≤ ds.length) && decide (ds.length ≤ 10) && ds.all digB)) := (by rw [hds]; rfl : readB bs = _)
    rw [← hds] at hcf hll
    clear hds
    have hlt : ds.length < bs.length := by omega
    have hld : ds.length ≤ 2000000 := by omega
    clear hll
    have hszd := bstr_size ds
    cases hin : inB (ds.length : Int) 1 10
    · go_enter Tryd.func30, Tryd.ntmps30
      go_wp2_with (first | (go_at_call 24; refine (l01In_any _ _ _ _).mono ?_; rintro e w' ⟨rfl, rfl⟩))
      go_ret2
      have := in_f hin
      have hb : readB bs = false := by rw [HB.out, Bool.and_assoc, ← Bool.and_assoc]; rcases this with h | h <;> simp <;> omega
      rw [ReadSaid, readV_no hb]
      exact ⟨rfl, Below.refl _ _⟩
    · have hi := in_t hin
      go_enter Tryd.func30, Tryd.ntmps30
      go_wp2_with (first | (go_at_call 24; refine (l01In_any _ _ _ _).mono ?_; rintro e w' ⟨rfl, rfl⟩))
      go_loop [5, 6] (fun x i => ∃ (k a : Nat), k ≤ ds.length ∧ i = .int .i64 k ∧ x = .int .i64 a ∧ a ≤ 10000000000 ∧ Hid (a = dv (ds.take k)) ∧ Hid ((ds.take k).all digB = true)) (fun _ i => ds.length - (intOf i).toNat)
      case atStart => exact ⟨0, 0, Nat.zero_le _, rfl, rfl, by omega, rfl, rfl⟩
      case round =>
        obtain ⟨k, a, hk, rfl, rfl, ha, HA, HD⟩ := hrel
        by_cases hkl : k < ds.length
        · obtain ⟨z, hz⟩ : ∃ z, ds[k]? = some z := ⟨_, List.getElem?_eq_getElem hkl⟩
          have hixk := idx (P := Tryd.prog) 9 Tryd.underlying9 ds k z hz
          have HZ : Hid (ds[k]? = some z) := hz
          clear hz
          cases hdg : digB z
          · have hdf := dig_f hdg
            have HW : Hid (readB bs = false) := (by rw [HB.out, all_stop HZ.out hdg]; simp : readB bs = false)
            rcases hdf with h1 | h1
            · go_wp2
              go_ret2
              rw [ReadSaid, readV_no HW.out]
              exact ⟨rfl, Below.refl _ _⟩
            · have h2 : ¬ (z.toNat : Int) < 48 := by omega
              go_wp2
              go_ret2
              rw [ReadSaid, readV_no HW.out]
              exact ⟨rfl, Below.refl _ _⟩
          · have hdt := dig_t hdg
            have HX : Hid (dv (ds.take (k + 1)) = 10 * a + (z.toNat - 48)) := (by rw [dv_take ds k z HZ.out, ← HA.out]; rfl : dv (ds.take (k + 1)) = 10 * a + (z.toNat - 48))
            have HY : Hid ((ds.take (k + 1)).all digB = true) := all_take HZ.out HD.out hdg
            have hbd : dv (ds.take (k + 1)) < 10 ^ 10 := Nat.lt_of_lt_of_le (dv_lt _ HY.out) (Nat.pow_le_pow_right (by omega) (by simp; omega))
            have hb2 : 10 * a + (z.toNat - 48) ≤ 10000000000 := by rw [HX.out] at hbd; omega
            clear hbd
            go_wp2
            go_round
            case rel => exact ⟨k + 1, 10 * a + (z.toNat - 48), by omega, by go_num, by go_num, hb2, HX.out.symm, HY⟩
            case measure => simp [intOf]; omega
        · have hke : k = ds.length := by omega
          have HK : Hid (k = ds.length) := hke
          clear hke
          have HAF : Hid (a = dv ds) := (by rw [HA.out, HK.out, List.take_length] : a = dv ds)
          have HDF : Hid (ds.all digB = true) := (by have := HD.out; rw [HK.out, List.take_length] at this; exact this : ds.all digB = true)
          have HW : Hid (readB bs = true) := (by rw [HB.out, HDF.out]; simp; omega : readB bs = true)
          go_wp2_with (go_at_call 28; refine (l01Num_any _ (by omega) (by omega) _).mono ?_; rintro e w1 ⟨rfl, hb1⟩)
          go_ret2
          rw [ReadSaid, readV_yes HW.out, HN.out, ← HAF.out]
          exact ⟨ret_two rfl (by rw [bstr_toList, bstr_toList]; exact beq_dec _ _), hb1⟩
  · obtain ⟨ds, hds⟩ : ∃ ds, ds = bodyOf bs := ⟨_, rfl⟩
    have HN : Hid (readN bs = (dv bs : Int)) := (by unfold readN; rw [hd, if_neg (by omega)] : readN bs = (dv bs : Int))
    have HB : Hid (readB bs = (decide (1 ≤ bs.length) && decide (bs.length ≤ 10) && bs.all digB)) := (by unfold readB; rw [hd] : readB bs = _)
    clear hds hd ds
    cases hin : inB (bs.length : Int) 1 10
    · go_enter Tryd.func30, Tryd.ntmps30
      go_wp2_with (first | (go_at_call 24; refine (l01In_any _ _ _ _).mono ?_; rintro e w' ⟨rfl, rfl⟩))
      go_ret2
      have := in_f hin
      have hb : readB bs = false := by rw [HB.out, Bool.and_assoc, ← Bool.and_assoc]; rcases this with h | h <;> simp <;> omega
      rw [ReadSaid, readV_no hb]
      exact ⟨rfl, Below.refl _ _⟩
    · have hi := in_t hin
      go_enter Tryd.func30, Tryd.ntmps30
      go_wp2_with (first | (go_at_call 24; refine (l01In_any _ _ _ _).mono ?_; rintro e w' ⟨rfl, rfl⟩))
      go_loop [5, 6] (fun x i => ∃ (k a : Nat), k ≤ bs.length ∧ i = .int .i64 k ∧ x = .int .i64 a ∧ a ≤ 10000000000 ∧ Hid (a = dv (bs.take k)) ∧ Hid ((bs.take k).all digB = true)) (fun _ i => bs.length - (intOf i).toNat)
      case atStart => exact ⟨0, 0, Nat.zero_le _, rfl, rfl, by omega, rfl, rfl⟩
      case round =>
        obtain ⟨k, a, hk, rfl, rfl, ha, HA, HD⟩ := hrel
        by_cases hkl : k < bs.length
        · obtain ⟨z, hz⟩ : ∃ z, bs[k]? = some z := ⟨_, List.getElem?_eq_getElem hkl⟩
          have hixk := idx (P := Tryd.prog) 9 Tryd.underlying9 bs k z hz
          have HZ : Hid (bs[k]? = some z) := hz
          clear hz
          cases hdg : digB z
          · have hdf := dig_f hdg
            have HW : Hid (readB bs = false) := (by rw [HB.out, all_stop HZ.out hdg]; simp : readB bs = false)
            rcases hdf with h1 | h1
            · go_wp2
              go_ret2
              rw [ReadSaid, readV_no HW.out]
              exact ⟨rfl, Below.refl _ _⟩
            · have h2 : ¬ (z.toNat : Int) < 48 := by omega
              go_wp2
              go_ret2
              rw [ReadSaid, readV_no HW.out]
              exact ⟨rfl, Below.refl _ _⟩
          · have hdt := dig_t hdg
            have HX : Hid (dv (bs.take (k + 1)) = 10 * a + (z.toNat - 48)) := (by rw [dv_take bs k z HZ.out, ← HA.out]; rfl : dv (bs.take (k + 1)) = 10 * a + (z.toNat - 48))
            have HY : Hid ((bs.take (k + 1)).all digB = true) := all_take HZ.out HD.out hdg
            have hbd : dv (bs.take (k + 1)) < 10 ^ 10 := Nat.lt_of_lt_of_le (dv_lt _ HY.out) (Nat.pow_le_pow_right (by omega) (by simp; omega))
            have hb2 : 10 * a + (z.toNat - 48) ≤ 10000000000 := by rw [HX.out] at hbd; omega
            clear hbd
            go_wp2
            go_round
            case rel => exact ⟨k + 1, 10 * a + (z.toNat - 48), by omega, by go_num, by go_num, hb2, HX.out.symm, HY⟩
            case measure => simp [intOf]; omega
        · have hke : k = bs.length := by omega
          have HK : Hid (k = bs.length) := hke
          clear hke
          have HAF : Hid (a = dv bs) := (by rw [HA.out, HK.out, List.take_length] : a = dv bs)
          have HDF : Hid (bs.all digB = true) := (by have := HD.out; rw [HK.out, List.take_length] at this; exact this : bs.all digB = true)
          have HW : Hid (readB bs = true) := (by rw [HB.out, HDF.out]; simp; omega : readB bs = true)
          go_wp2_with (go_at_call 28; refine (l01Num_any _ (by omega) (by omega) _).mono ?_; rintro e w1 ⟨rfl, hb1⟩)
          go_ret2
          rw [ReadSaid, readV_yes HW.out, HN.out, ← HAF.out]
          exact ⟨ret_two rfl (by rw [bstr_toList, bstr_toList]; exact beq_dec _ _), hb1⟩

theorem read_any (bs : List UInt8) (w : World) (hmax : bs.length ≤ 2000000) : Calls Tryd.prog 30 #[.string (bstr bs)] w (ReadSaid bs w) := by
  cases bs with
  | nil => exact read_empty w
  | cons c r => exact read_some c r w (by simp at hmax; omega)
end Go.Proofs.YtfabioccnaooeaaDoor.Read
