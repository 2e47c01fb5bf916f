/-
  THE CONTRACT of the model's ParseTick over this seat's translation, and what it answers: the tick whose text it is.
-/
import Derived.Test.YtddomgankmkggaaDoorTickText
import Derived.Test.YtddomgankmkggaaDoorRead
import Derived.Test.YtddomgankmkggaaDoorParts
namespace Go.Proofs.YtddomgankmkggaaDoor.SpecParse
open Go.ChangeShapes Go.WideShapes Go.ChangeAt Go.RowKit
open Go.Proofs.YtddomgankmkggaaDoor.Tick Go.Proofs.YtddomgankmkggaaDoor.Num Go.Proofs.YtddomgankmkggaaDoor.Str Go.Proofs.YtddomgankmkggaaDoor.Read Go.Proofs.YtddomgankmkggaaDoor.Parts Go.Proofs.YtddomgankmkggaaDoor.TickText
set_option linter.unusedVariables false

def parse2 (l a b : List UInt8) : Int × Bool :=
  if decide (b.length = 3) && (readV a).2 && b.all digB && decide (textV (1000 * (readV a).1 + dv b) = l) then (1000 * (readV a).1 + dv b, true) else (0, false)
def parseF (l : List UInt8) : Int × Bool :=
  if 12 < l.length then (0, false) else
  match partsF 46 l with
  | [a, b] => parse2 l a b
  | _ => (0, false)

def ParseSaid (v : Int × Bool) (w : World) (e : Ending) (w' : World) : Prop := e = .returned (.tuple #[.int .i64 v.1, .bool v.2]) ∧ Below w.heap.size w w'
theorem ParseSaid.mk {v : Int × Bool} {w w' : World} {x : Int} {b : Bool} (h : v = (x, b)) (hb : Below w.heap.size w w') : ParseSaid v w (.returned (.tuple #[.int .i64 x, .bool b])) w' := by
  subst h; exact ⟨rfl, hb⟩

theorem readV_bd (a : List UInt8) : -10000000000 ≤ (readV a).1 ∧ (readV a).1 ≤ 10000000000 := by
  unfold readV
  split
  · rename_i h
    simp only [readB, Bool.and_eq_true, decide_eq_true_eq] at h
    have h1 := dv_lt (bodyOf a) h.2
    have h2 : 10 ^ (bodyOf a).length ≤ 10 ^ 10 := Nat.pow_le_pow_right (by omega) h.1.2
    have h3 : dv (bodyOf a) ≤ 10000000000 := by omega
    simp only [readN]
    split <;> omega
  · simp

theorem parse2_no3 {l a b : List UInt8} (h : ¬ b.length = 3) : parse2 l a b = (0, false) := by simp [parse2, h]
theorem parse2_noread {l a b : List UInt8} (h : (readV a).2 = false) : parse2 l a b = (0, false) := by simp [parse2, h]
theorem parse2_nodig {l a b : List UInt8} (h : b.all digB = false) : parse2 l a b = (0, false) := by simp only [parse2, h]; simp
theorem parse2_no {l a b : List UInt8} (h : ¬ textV (1000 * (readV a).1 + dv b) = l) : parse2 l a b = (0, false) := by simp [parse2, h]
theorem parse2_yes {l a b : List UInt8} (h3 : b.length = 3) (hr : (readV a).2 = true) (hd : b.all digB = true) (h : textV (1000 * (readV a).1 + dv b) = l) : parse2 l a b = (1000 * (readV a).1 + dv b, true) := by
  unfold parse2; rw [if_pos]; simp only [h3, hr, hd, h]; rfl

set_option maxHeartbeats 1600000 in
/-- From the two sides on. -/
theorem specParse_any (l : List UInt8) (w : World) (hl : l.length ≤ 2000000) : Calls Tryd.prog 20 #[.string (bstr l)] w (ParseSaid (parseF l) w) := by
  have hsz := bstr_size l
  by_cases h12 : 12 < l.length
  · go_enter Tryd.func20, Tryd.ntmps20
    go_wp2_with fail
    go_ret2
    exact ParseSaid.mk (by unfold parseF; rw [if_pos h12]) (Below.refl _ _)
  · have HF : Hid (parseF l = match partsF 46 l with | [a, b] => parse2 l a b | _ => (0, false)) := (by unfold parseF; rw [if_neg h12] : parseF l = _)
    go_enter Tryd.func20, Tryd.ntmps20
    go_wp2_with fail
    refine (parts_any 46 l _ hl).mono ?_
    rintro e w1 ⟨g, cap, rfl, hg, hcl, hb1⟩
    rcases hps : partsF 46 l with _ | ⟨a, _ | ⟨b, _ | ⟨c, r⟩⟩⟩
    · exact absurd (split_len 46 l []).2 (by rw [show splitG 46 [] l = [] from hps]; simp)
    · have HE : Hid (parseF l = (0, false)) := (by rw [HF.out, hps] : parseF l = (0, false))
      clear hcl hps HF
      go_wp2
      go_ret2
      exact ParseSaid.mk HE.out hb1
    · have HE : Hid (parseF l = parse2 l a b) := (by rw [HF.out, hps] : parseF l = parse2 l a b)
      have hc0 : w1.cell? ⟨g, 0, none⟩ = some (.string (bstr a)) := hcl 0 a (by rw [hps]; rfl)
      have hc1 : w1.cell? ⟨g, 1, none⟩ = some (.string (bstr b)) := hcl 1 b (by rw [hps]; rfl)
      have hal : a.length ≤ 2000000 := by have := split_part 46 l [] a (by rw [show splitG 46 [] l = [a, b] from hps]; simp); simp at this; omega
      clear hcl hps HF
      have hsb := bstr_size b
      by_cases h3 : b.length = 3
      · have hb3 : ((b.length : Int) != 3) = false := by rw [h3]; rfl
        have H3 : Hid (b.length = 3) := h3
        clear h3
        go_wp2_with fail
        refine (read_any a _ hal).mono ?_
        rintro e w2 ⟨rfl, hb2⟩
        have hgl : g < w1.heap.size := World.block_lt_of_cell? w1 _ hc1
        have hd1 : w2.cell? ⟨g, 1, none⟩ = some (.string (bstr b)) := (hb2.cell (p := ⟨g, 1, none⟩) hgl).trans hc1
        have hb12 : Below w.heap.size w w2 := hb1.trans (hb2.mono hb1.size)
        clear hc0 hc1 hb1 hb2
        have hrb := readV_bd a
        obtain ⟨hi, hhi⟩ : ∃ hi, hi = (readV a).1 := ⟨_, rfl⟩
        have HHI : Hid (hi = (readV a).1) := hhi
        rw [← hhi] at hrb ⊢
        clear hhi
        cases hok : (readV a).2
        · have HH : Hid (parse2 l a b = (0, false)) := parse2_noread hok
          clear hok
          go_wp2_with fail
          go_ret2
          exact ParseSaid.mk (by rw [HE.out, HH.out]) hb12
        · have HOK : Hid ((readV a).2 = true) := hok
          clear hok
          go_wp2_with fail
          go_loop [7, 8] (fun x i => ∃ (k m : Nat), k ≤ 3 ∧ i = .int .i64 k ∧ x = .int .i64 m ∧ m ≤ 10000 ∧ Hid (m = dv (b.take k)) ∧ Hid ((b.take k).all digB = true)) (fun _ i => 3 - (intOf i).toNat)
          case atStart => exact ⟨0, 0, Nat.zero_le _, rfl, rfl, by omega, rfl, rfl⟩
          case round =>
            obtain ⟨k, m, hk, rfl, rfl, hm, HM, HD⟩ := hrel
            by_cases hk3 : k < 3
            · obtain ⟨z, hz⟩ : ∃ z, b[k]? = some z := ⟨_, List.getElem?_eq_getElem (by rw [H3.out]; exact hk3)⟩
              have hixk := idx (P := Tryd.prog) 9 Tryd.underlying9 b k z hz
              have HZ : Hid (b[k]? = some z) := hz
              clear hz
              cases hdg : digB z
              · have HW : Hid (parse2 l a b = (0, false)) := parse2_nodig (all_stop HZ.out hdg)
                rcases dig_f hdg with h1 | h1
                · go_wp2
                  go_ret2
                  exact ParseSaid.mk (by rw [HE.out, HW.out]) hb12
                · have h2 : ¬ (z.toNat : Int) < 48 := by omega
                  go_wp2
                  go_ret2
                  exact ParseSaid.mk (by rw [HE.out, HW.out]) hb12
              · have hdt := dig_t hdg
                have HX : Hid (dv (b.take (k + 1)) = 10 * m + (z.toNat - 48)) := (by rw [dv_take b k z HZ.out, ← HM.out]; rfl : dv (b.take (k + 1)) = 10 * m + (z.toNat - 48))
                have HY : Hid ((b.take (k + 1)).all digB = true) := all_take HZ.out HD.out hdg
                have hbd : dv (b.take (k + 1)) < 10 ^ 3 := Nat.lt_of_lt_of_le (dv_lt _ HY.out) (Nat.pow_le_pow_right (by omega) (by simp; omega))
                have hb2 : 10 * m + (z.toNat - 48) ≤ 10000 := by rw [HX.out] at hbd; omega
                clear hbd
                go_wp2
                go_round
                case rel => exact ⟨k + 1, 10 * m + (z.toNat - 48), by omega, by go_num, by go_num, hb2, HX.out.symm, HY⟩
                case measure => simp [intOf]; omega
            · have hke : k = b.length := by rw [H3.out]; omega
              have HK : Hid (k = b.length) := hke
              clear hke
              have HAF : Hid (m = dv b) := (by rw [HM.out, HK.out, List.take_length] : m = dv b)
              have HDF : Hid (b.all digB = true) := (by have := HD.out; rw [HK.out, List.take_length] at this; exact this : b.all digB = true)
              go_wp2_with fail
              refine (specText_any _ _).mono ?_
              rintro e w3 ⟨rfl, hb3'⟩
              have hbf : Below w.heap.size w w3 := hb12.trans (hb3'.mono hb12.size)
              have HV : Hid (1000 * (readV a).1 + (dv b : Int) = 1000 * hi + (m : Int)) := (by rw [HHI.out, HAF.out] : 1000 * (readV a).1 + (dv b : Int) = 1000 * hi + (m : Int))
              have htl1 := bstr_toList (textV (1000 * hi + (m : Int)))
              have htl2 := bstr_toList l
              by_cases heq : textV (1000 * hi + (m : Int)) = l
              · have hne : (textV (1000 * hi + (m : Int)) == l) = true := by rw [heq]; simp
                have HF2 : Hid (parse2 l a b = (1000 * hi + (m : Int), true)) := (by rw [parse2_yes H3.out HOK.out HDF.out (by rw [HV.out]; exact heq), HV.out] : parse2 l a b = (1000 * hi + (m : Int), true))
                clear heq
                go_wp2
                go_ret2
                exact ParseSaid.mk (by rw [HE.out, HF2.out]) hbf
              · have hne : (textV (1000 * hi + (m : Int)) == l) = false := by rw [beq_eq_false_iff_ne]; exact heq
                have HF2 : Hid (parse2 l a b = (0, false)) := parse2_no (by rw [HV.out]; exact heq)
                clear heq
                go_wp2
                go_ret2
                exact ParseSaid.mk (by rw [HE.out, HF2.out]) hbf
      · have hb3 : ((b.length : Int) != 3) = true := by rw [bne_iff_ne]; omega
        have HH : Hid (parse2 l a b = (0, false)) := parse2_no3 h3
        clear h3
        go_wp2_with fail
        go_ret2
        exact ParseSaid.mk (by rw [HE.out, HH.out]) hb1
    · have HE : Hid (parseF l = (0, false)) := (by rw [HF.out, hps] : parseF l = (0, false))
      have hn : (((a :: b :: c :: r).length : Int) != 2) = true := by rw [bne_iff_ne]; simp; omega
      obtain ⟨n, hnn⟩ : ∃ n, n = (a :: b :: c :: r).length := ⟨_, rfl⟩
      rw [← hnn] at hn ⊢
      clear hcl hps HF hnn
      go_wp2
      go_ret2
      exact ParseSaid.mk HE.out hb1
end Go.Proofs.YtddomgankmkggaaDoor.SpecParse
