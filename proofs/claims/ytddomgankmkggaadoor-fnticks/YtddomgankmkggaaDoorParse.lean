/-
  THE CONTRACT of the program's ParseTick over this seat's translation, and that the model's answers the same.
-/
import Derived.Test.YtddomgankmkggaaDoorSpecParse
import Derived.Test.YtddomgankmkggaaDoorEnv
import Derived.Lib.IndexBytes
import Derived.Lib.AtoiTie
import Derived.Lib.AtoiAllCases
import Derived.Lib.CutLaws
namespace Go.Proofs.YtddomgankmkggaaDoor.Parse
open Go.ChangeShapes Go.WideShapes Go.ChangeAt Go.RowKit
open Go.Proofs.YtddomgankmkggaaDoor.Env Go.Proofs.YtddomgankmkggaaDoor.Tick Go.Proofs.YtddomgankmkggaaDoor.Num Go.Proofs.YtddomgankmkggaaDoor.Str Go.Proofs.YtddomgankmkggaaDoor.Read Go.Proofs.YtddomgankmkggaaDoor.Parts Go.Proofs.YtddomgankmkggaaDoor.TickText Go.Proofs.YtddomgankmkggaaDoor.SpecParse
set_option linter.unusedVariables false

/-- What both answer: the tick and true where it is a tick's text. -/
def IsText (l : List UInt8) (t : Nat) : Prop := t ≤ 1000000000 ∧ l = tickT t

theorem isDig (n : Nat) (h : n ≤ 9) : digB (UInt8.ofNat (48 + n)) = true := by
  have : (UInt8.ofNat (48 + n)).toNat = 48 + n := by simp; omega
  simp only [digB, this, Bool.and_eq_true, decide_eq_true_eq]; omega
theorem dv_snoc (l : List UInt8) (n : Nat) (h : n ≤ 9) : dv (l ++ [UInt8.ofNat (48 + n)]) = 10 * dv l + n := by
  unfold dv
  rw [List.foldl_append]
  have : (UInt8.ofNat (48 + n)).toNat = 48 + n := by simp; omega
  simp only [List.foldl_cons, List.foldl_nil, dvS, this]; omega
theorem dec_dv (u : Nat) : dv (Lib.decDigits u) = u ∧ (Lib.decDigits u).all digB = true := by
  induction u using Nat.strongRecOn with
  | ind u ih =>
    rw [Lib.decDigits]
    split
    · rename_i h
      exact ⟨by have := dv_snoc [] u (by omega); simpa [dv] using this, by simp only [List.all_cons, List.all_nil, isDig u (by omega), Bool.and_true]⟩
    · rename_i h
      obtain ⟨h1, h2⟩ := ih (u / 10) (by omega)
      exact ⟨by rw [dv_snoc _ _ (by omega), h1]; omega, by rw [List.all_append, h2]; simp only [List.all_cons, List.all_nil, isDig (u % 10) (by omega), Bool.and_true]⟩
theorem d3_dv (r : Nat) (h : r ≤ 999) (a : List UInt8) : dv (a ++ d3 r) = 1000 * dv a + r ∧ (d3 r).all digB = true ∧ (d3 r).length = 3 := by
  refine ⟨?_, by simp only [d3, List.all_cons, List.all_nil, isDig (r / 100) (by omega), isDig (r / 10 % 10) (by omega), isDig (r % 10) (by omega), Bool.and_true], rfl⟩
  rw [show a ++ d3 r = ((a ++ [UInt8.ofNat (48 + r / 100)]) ++ [UInt8.ofNat (48 + r / 10 % 10)]) ++ [UInt8.ofNat (48 + r % 10)] by simp [d3]]
  rw [dv_snoc _ _ (by omega), dv_snoc _ _ (by omega), dv_snoc _ _ (by omega)]
  omega
theorem dig_ne46 {c : UInt8} (h : digB c = true) : ¬ c = 46 := by
  intro e; subst e; simp [digB] at h
theorem split_none : ∀ (r cur : List UInt8), r.all digB = true → splitG 46 cur r = [cur ++ r] := by
  intro r
  induction r with
  | nil => intro cur _; simp [splitG]
  | cons c r ih =>
    intro cur h
    simp only [List.all_cons, Bool.and_eq_true] at h
    rw [splitG, if_neg (dig_ne46 h.1), ih _ h.2]; simp
theorem split_one : ∀ (a cur b : List UInt8), a.all digB = true → b.all digB = true → splitG 46 cur (a ++ 46 :: b) = [cur ++ a, b] := by
  intro a
  induction a with
  | nil => intro cur b _ hb; simp [splitG, split_none b [] hb]
  | cons c r ih =>
    intro cur b h hb
    simp only [List.all_cons, Bool.and_eq_true] at h
    rw [List.cons_append, splitG, if_neg (dig_ne46 h.1), ih _ b h.2 hb]; simp

theorem head_dec (u : Nat) : (Lib.decDigits u).head? ≠ some 45 := by
  intro h
  have h2 := (dec_dv u).2
  cases hd : Lib.decDigits u with
  | nil => rw [hd] at h; simp at h
  | cons c r =>
    rw [hd] at h h2
    simp at h; subst h
    simp [digB] at h2
theorem dec_ne (u : Nat) : 1 ≤ (Lib.decDigits u).length := by rw [Lib.decDigits_length]; exact Lib.nDigits_pos u
theorem dec_short (u : Nat) (h : u ≤ 1000000) : (Lib.decDigits u).length ≤ 7 := by
  rw [Lib.decDigits_length]
  rcases Nat.lt_or_ge u 10 with h1 | h1
  · rw [Lib.nDigits_small h1]; omega
  · suffices hh : ∀ k, ∀ u, u < 10 ^ (k + 1) → Lib.nDigits u ≤ k + 1 by exact Nat.le_trans (hh 6 u (by omega)) (by omega)
    intro k
    induction k with
    | zero => intro u hu; rw [Lib.nDigits_small (by omega)]; omega
    | succ k ih =>
      intro u hu
      rcases Nat.lt_or_ge u 10 with h2 | h2
      · rw [Lib.nDigits_small h2]; omega
      · rw [Lib.nDigits_big (by omega)]
        have := ih (u / 10) (by rw [Nat.pow_succ] at hu; omega)
        omega
theorem read_dec (u : Nat) (h : u ≤ 1000000) : readV (Lib.decDigits u) = ((u : Int), true) := by
  have hb : bodyOf (Lib.decDigits u) = Lib.decDigits u := by unfold bodyOf; rw [if_neg (head_dec u)]
  have h7 := dec_short u h
  have h1 := dec_ne u
  have hB : readB (Lib.decDigits u) = true := by unfold readB; rw [hb, (dec_dv u).2]; simp; omega
  have hN : readN (Lib.decDigits u) = (u : Int) := by unfold readN; rw [hb, if_neg (by omega), (dec_dv u).1]
  rw [readV_yes hB, hN]
  simp [itoa_nat]

theorem textV_nat {t : Nat} (h : t ≤ 1000000000) : textV (t : Int) = tickT t := by
  have ht : tokB (t : Int) = true := by simp [tokB]; omega
  simp [textV, ht]
/-- The model's, at a tick's text. -/
theorem parseF_yes {l : List UInt8} {t : Nat} (h : IsText l t) : parseF l = ((t : Int), true) := by
  obtain ⟨ht, hl⟩ := h
  have hq : t / 1000 ≤ 1000000 := by omega
  have h7 := dec_short (t / 1000) hq
  have hd3 := d3_dv (t % 1000) (by omega) []
  have hp : partsF 46 l = [Lib.decDigits (t / 1000), d3 (t % 1000)] := by
    rw [hl, tickT, partsF, split_one _ _ _ (dec_dv _).2 hd3.2.1]; simp
  have hlen : ¬ 12 < l.length := by rw [hl, tickT]; simp [hd3.2.2]; omega
  have hdv : dv (d3 (t % 1000)) = t % 1000 := by have := hd3.1; simpa [dv] using this
  have hv : 1000 * (readV (Lib.decDigits (t / 1000))).1 + (dv (d3 (t % 1000)) : Int) = (t : Int) := by
    rw [read_dec _ hq, hdv]; show 1000 * ((t / 1000 : Nat) : Int) + ((t % 1000 : Nat) : Int) = (t : Int); omega
  have h2 := parse2_yes (l := l) (a := Lib.decDigits (t / 1000)) (b := d3 (t % 1000)) hd3.2.2 (by rw [read_dec _ hq]) hd3.2.1 (by rw [hv, textV_nat ht]; exact hl.symm)
  rw [hv] at h2
  unfold parseF
  rw [if_neg hlen, hp]
  exact h2
theorem parseF_no {l : List UInt8} (h : ∀ t, ¬ IsText l t) : parseF l = (0, false) := by
  unfold parseF
  split
  · rfl
  · split
    · rename_i a b hp
      refine parse2_no fun he => ?_
      cases hk : tokB (1000 * (readV a).1 + (dv b : Int))
      · have hnil : l = [] := by rw [← he]; simp [textV, hk]
        rw [hnil] at hp
        simp [partsF, splitG] at hp
      · have hb := tok_t hk
        refine h (1000 * (readV a).1 + (dv b : Int)).toNat ⟨by omega, ?_⟩
        rw [← he]
        simp [textV, hk]
    · rfl

/-- What the program's answers. -/
def impF (l : List UInt8) : Int × Bool :=
  match atoiV ((cutV l [46]).1 ++ (cutV l [46]).2.1) with
  | some v => if textV v = l then (v, true) else (0, false)
  | none => (0, false)

theorem cut_len (l : List UInt8) : ((cutV l [46]).1 ++ (cutV l [46]).2.1).length ≤ l.length := by
  unfold cutV Lib.cut
  split
  · simp; omega
  · simp
theorem impF_no {l : List UInt8} (h : ∀ t, ¬ IsText l t) : impF l = (0, false) := by
  unfold impF
  split
  · rename_i v hv
    rw [if_neg]
    intro he
    cases hk : tokB v
    · have hnil : l = [] := by rw [← he]; simp [textV, hk]
      subst hnil
      have : atoiV ((cutV [] [46]).1 ++ (cutV [] [46]).2.1) = none := rfl
      rw [this] at hv; cases hv
    · have hb := tok_t hk
      exact h v.toNat ⟨by omega, by rw [← he]; simp [textV, hk]⟩
  · rfl
theorem indexByte_dig : ∀ (a b : List UInt8), a.all digB = true → Lib.indexByte (a ++ 46 :: b) 46 = a.length := by
  intro a
  induction a with
  | nil => intro b _; simp [Lib.indexByte]
  | cons c r ih =>
    intro b h
    simp only [List.all_cons, Bool.and_eq_true] at h
    have hi := ih b h.2
    rw [List.cons_append, Lib.indexByte, hi]
    have hc : (c == 46) = false := by rw [beq_eq_false_iff_ne]; exact dig_ne46 h.1
    rw [hc]
    have hn : ((r.length : Int) == -1) = false := by rw [beq_eq_false_iff_ne]; omega
    rw [hn]
    simp
theorem cut_text (a b : List UInt8) (ha : a.all digB = true) : cutV (a ++ 46 :: b) [46] = (a, b, true) := by
  unfold cutV Lib.cut
  rw [Lib.index_one, indexByte_dig a b ha, if_pos (by omega)]
  simp only [Int.toNat_natCast]
  rw [List.take_left', List.drop_append]
  · simp
  · rfl
theorem decFrom_dv : ∀ (l : List UInt8) (acc : Nat), l.all digB = true → Lib.decFrom acc l = some (l.foldl dvS acc) := by
  intro l
  induction l with
  | nil => intro acc _; rfl
  | cons c r ih =>
    intro acc h
    simp only [List.all_cons, Bool.and_eq_true] at h
    have hc := h.1
    simp only [digB, Bool.and_eq_true, decide_eq_true_eq] at hc
    rw [Lib.decFrom]
    have hd : Lib.digitVal c = some (c.toNat - 48) := by unfold Lib.digitVal; rw [if_pos hc]
    rw [hd]
    show Lib.decFrom (acc * 10 + (c.toNat - 48)) r = _
    rw [ih _ h.2, List.foldl_cons, dvS, Nat.mul_comm]
theorem atoi_dig (c : UInt8) (r : List UInt8) (h : (c :: r).all digB = true) (hl : (c :: r).length ≤ 18) : atoiV (c :: r) = some (dv (c :: r) : Int) := by
  have hc : digB c = true := by simp only [List.all_cons, Bool.and_eq_true] at h; exact h.1
  have hct := dig_t hc
  have h43 : ¬ (c == 43) = true := by intro e; rw [beq_iff_eq] at e; subst e; simp [digB] at hc
  have h45 : ¬ (c == 45) = true := by intro e; rw [beq_iff_eq] at e; subst e; simp [digB] at hc
  unfold atoiV
  rw [Lib.atoiAll_short _ hl, Lib.atoi, if_neg h45, if_neg h43, Lib.decNat, if_neg (by simp), decFrom_dv _ 0 h]
  rfl
theorem impF_yes {l : List UInt8} {t : Nat} (h : IsText l t) : impF l = ((t : Int), true) := by
  obtain ⟨ht, hl⟩ := h
  have hq : t / 1000 ≤ 1000000 := by omega
  have h7 := dec_short (t / 1000) hq
  have hd3 := d3_dv (t % 1000) (by omega) (Lib.decDigits (t / 1000))
  have hall : (Lib.decDigits (t / 1000) ++ d3 (t % 1000)).all digB = true := by rw [List.all_append, (dec_dv _).2, hd3.2.1]; rfl
  have hdv : dv (Lib.decDigits (t / 1000) ++ d3 (t % 1000)) = t := by rw [hd3.1, (dec_dv _).1]; omega
  have ha : atoiV (Lib.decDigits (t / 1000) ++ d3 (t % 1000)) = some (t : Int) := by
    rcases hs : Lib.decDigits (t / 1000) ++ d3 (t % 1000) with _ | ⟨c, r⟩
    · have := congrArg List.length hs; simp [hd3.2.2] at this
    · have hlen : (c :: r).length ≤ 18 := by rw [← hs]; simp [hd3.2.2]; omega
      rw [hs] at hall hdv
      rw [atoi_dig c r hall hlen, hdv]
  unfold impF
  rw [show cutV l [46] = (Lib.decDigits (t / 1000), d3 (t % 1000), true) by rw [hl, tickT]; exact cut_text _ _ (dec_dv _).2]
  show (match atoiV (Lib.decDigits (t / 1000) ++ d3 (t % 1000)) with | some v => if textV v = l then (v, true) else (0, false) | none => (0, false)) = _
  rw [ha]
  show (if textV (t : Int) = l then ((t : Int), true) else (0, false)) = _
  rw [if_pos (by rw [textV_nat ht]; exact hl.symm)]
theorem imp_eq (l : List UInt8) : impF l = parseF l := by
  by_cases h : ∃ t, IsText l t
  · obtain ⟨t, ht⟩ := h
    rw [impF_yes ht, parseF_yes ht]
  · have h' : ∀ t, ¬ IsText l t := fun t ht => h ⟨t, ht⟩
    rw [impF_no h', parseF_no h']

set_option maxHeartbeats 1600000 in
theorem parse_any (l : List UInt8) (B : Nat) (w : World) (hE : Lib3 B w) (hl : l.length ≤ 2000000) : Calls Tryd.prog 14 #[.string (bstr l)] w (ParseSaid (parseF l) w) := by
  rw [← imp_eq]
  have HE : Hid (Lib3 B w) := hE
  clear hE
  go_enter Tryd.func14, Tryd.ntmps14
  go_wp2_with fail
  refine (cut_any l [46] B _ HE.out (by omega)).mono ?_
  rintro e w' ⟨rfl, n, rfl⟩
  obtain ⟨a, b, c, hc⟩ : ∃ a b c, cutV l [46] = (a, b, c) := ⟨_, _, _, rfl⟩
  have hcl := cut_len l
  have HI : Hid (impF l = match atoiV (a ++ b) with | some v => if textV v = l then (v, true) else (0, false) | none => (0, false)) := (by unfold impF; rw [hc] : impF l = _)
  rw [hc] at hcl ⊢
  clear hc
  have hal : (a ++ b).length ≤ 2000000 := Nat.le_trans hcl hl
  clear hcl
  have hla : (bstr a).size ≤ 2000000 := by rw [bstr_size]; simp at hal; omega
  have hlb : (bstr b).size ≤ 2000000 := by rw [bstr_size]; simp at hal; omega
  have hbn : Below w.heap.size w (w.drewN n) := ⟨rfl, rfl, rfl, Nat.le_refl _, fun _ _ => rfl⟩
  have HE1 : Hid (Lib3 B (w.drewN n)) := HE.out.on (hbn.mono HE.out.size)
  go_wp2_with fail
  rw [bstr_append]
  rcases hv : atoiV (a ++ b) with _ | v
  · have HR : Hid (impF l = (0, false)) := (by rw [HI.out, hv] : impF l = (0, false))
    clear HI
    refine (atoi_none _ hv B _ HE1.out (by omega)).mono ?_
    clear hv
    rintro e w1 ⟨x, T, N, rfl, hb1⟩
    go_wp2
    go_ret2
    exact ParseSaid.mk HR.out (hbn.trans hb1)
  · have HR : Hid (impF l = if textV v = l then (v, true) else (0, false)) := (by rw [HI.out, hv] : impF l = _)
    clear HI
    refine (atoi_some _ v hv _ (by omega)).mono ?_
    clear hv
    rintro e w1 ⟨rfl, hb1⟩
    have hb1' : Below w.heap.size w w1 := hbn.trans hb1
    have HE2 : Hid (Lib3 B w1) := HE.out.on (hb1'.mono HE.out.size)
    go_wp2_with fail
    refine (text_any v B _ HE2.out.size HE2.out.tab).mono ?_
    rintro e w2 ⟨rfl, hb2⟩
    have hbf : Below w.heap.size w w2 := hb1'.trans (hb2.mono hb1'.size)
    have htl1 := bstr_toList (textV v)
    have htl2 := bstr_toList l
    by_cases heq : textV v = l
    · have hne : (textV v == l) = true := by rw [heq]; simp
      have HF : Hid (impF l = (v, true)) := (by rw [HR.out, if_pos heq] : impF l = (v, true))
      clear heq
      go_wp2
      go_ret2
      exact ParseSaid.mk HF.out hbf
    · have hne : (textV v == l) = false := by rw [beq_eq_false_iff_ne]; exact heq
      have HF : Hid (impF l = (0, false)) := (by rw [HR.out, if_neg heq] : impF l = (0, false))
      clear heq
      go_wp2
      go_ret2
      exact ParseSaid.mk HF.out hbf
end Go.Proofs.YtddomgankmkggaaDoor.Parse
