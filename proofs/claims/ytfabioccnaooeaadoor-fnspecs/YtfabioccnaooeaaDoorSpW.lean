/-
  THE VALUES of ParseSpec over this seat's translation: which text is a spec's, and that there is but one; no walk.
-/
import Derived.Test.YtfabioccnaooeaaDoorSpT
import Derived.Test.YtfabioccnaooeaaDoorRead
import Derived.Test.YtfabioccnaooeaaDoorEnv
import Derived.Lib.IndexBytes
import Derived.Lib.AtoiTie
import Derived.Lib.AtoiAllCases
import Derived.Lib.SplitLaws
namespace Go.Proofs.YtfabioccnaooeaaDoor.SpW
open Go.ChangeShapes Go.WideShapes Go.ChangeAt Go.RowKit
open Go.Proofs.YtfabioccnaooeaaDoor.Env Go.Proofs.YtfabioccnaooeaaDoor.Num Go.Proofs.YtfabioccnaooeaaDoor.Str Go.Proofs.YtfabioccnaooeaaDoor.Read Go.Proofs.YtfabioccnaooeaaDoor.Parts Go.Proofs.YtfabioccnaooeaaDoor.SpT Go.Proofs.YtfabioccnaooeaaDoor.Sp
set_option linter.unusedVariables false
set_option linter.unusedSimpArgs false
theorem isDig (n : Nat) (h : n ≤ 9) : digB (UInt8.ofNat (48 + n)) = true := by
  have : (UInt8.ofNat (48 + n)).toNat = 48 + n := by simp; omega
  simp only [digB, this, Bool.and_eq_true, decide_eq_true_eq]; omega
theorem dv_snoc (l : List UInt8) (n : Nat) (h : n ≤ 9) : dv (l ++ [UInt8.ofNat (48 + n)]) = 10 * dv l + n := by
  unfold dv
  rw [List.foldl_append]
  have : (UInt8.ofNat (48 + n)).toNat = 48 + n := by simp; omega
  simp only [List.foldl_cons, List.foldl_nil, dvS, this]; omega
theorem dec_dv (u : Nat) : dv (Lib.decDigits u) = u ∧ (Lib.decDigits u).all digB = true := by
  induction u using Nat.strongRecOn with
  | ind u ih =>
    rw [Lib.decDigits]
    split
    · rename_i h
      exact ⟨by have := dv_snoc [] u (by omega); simpa [dv] using this, by simp only [List.all_cons, List.all_nil, isDig u (by omega), Bool.and_true]⟩
    · rename_i h
      obtain ⟨h1, h2⟩ := ih (u / 10) (by omega)
      exact ⟨by rw [dv_snoc _ _ (by omega), h1]; omega, by rw [List.all_append, h2]; simp only [List.all_cons, List.all_nil, isDig (u % 10) (by omega), Bool.and_true]⟩
theorem head_dec (u : Nat) : (Lib.decDigits u).head? ≠ some 45 := by
  intro h
  have h2 := (dec_dv u).2
  cases hd : Lib.decDigits u with
  | nil => rw [hd] at h; simp at h
  | cons c r =>
    rw [hd] at h h2
    simp at h; subst h
    simp [digB] at h2
theorem dec_ne (u : Nat) : 1 ≤ (Lib.decDigits u).length := by rw [Lib.decDigits_length]; exact Lib.nDigits_pos u
theorem dec_short (u : Nat) (h : u ≤ 1000000) : (Lib.decDigits u).length ≤ 7 := by
  rw [Lib.decDigits_length]
  rcases Nat.lt_or_ge u 10 with h1 | h1
  · rw [Lib.nDigits_small h1]; omega
  · suffices hh : ∀ k, ∀ u, u < 10 ^ (k + 1) → Lib.nDigits u ≤ k + 1 by exact Nat.le_trans (hh 6 u (by omega)) (by omega)
    intro k
    induction k with
    | zero => intro u hu; rw [Lib.nDigits_small (by omega)]; omega
    | succ k ih =>
      intro u hu
      rcases Nat.lt_or_ge u 10 with h2 | h2
      · rw [Lib.nDigits_small h2]; omega
      · rw [Lib.nDigits_big (by omega)]
        have := ih (u / 10) (by rw [Nat.pow_succ] at hu; omega)
        omega
theorem decFrom_dv : ∀ (l : List UInt8) (acc : Nat), l.all digB = true → Lib.decFrom acc l = some (l.foldl dvS acc) := by
  intro l
  induction l with
  | nil => intro acc _; rfl
  | cons c r ih =>
    intro acc h
    simp only [List.all_cons, Bool.and_eq_true] at h
    have hc := h.1
    simp only [digB, Bool.and_eq_true, decide_eq_true_eq] at hc
    rw [Lib.decFrom]
    have hd : Lib.digitVal c = some (c.toNat - 48) := by unfold Lib.digitVal; rw [if_pos hc]
    rw [hd]
    show Lib.decFrom (acc * 10 + (c.toNat - 48)) r = _
    rw [ih _ h.2, List.foldl_cons, dvS, Nat.mul_comm]
theorem atoi_dig (c : UInt8) (r : List UInt8) (h : (c :: r).all digB = true) (hl : (c :: r).length ≤ 18) : atoiV (c :: r) = some (dv (c :: r) : Int) := by
  have hc : digB c = true := by simp only [List.all_cons, Bool.and_eq_true] at h; exact h.1
  have hct := dig_t hc
  have h43 : ¬ (c == 43) = true := by intro e; rw [beq_iff_eq] at e; subst e; simp [digB] at hc
  have h45 : ¬ (c == 45) = true := by intro e; rw [beq_iff_eq] at e; subst e; simp [digB] at hc
  unfold atoiV
  rw [Lib.atoiAll_short _ hl, Lib.atoi, if_neg h45, if_neg h43, Lib.decNat, if_neg (by simp), decFrom_dv _ 0 h]
  rfl
theorem itoa_nat (n : Nat) : Lib.itoa (n : Int) = Lib.decDigits n := by
  simp [Lib.itoa]
theorem read_dec (u : Nat) (h : u ≤ 1000000) : readV (Lib.decDigits u) = ((u : Int), true) := by
  have hb : bodyOf (Lib.decDigits u) = Lib.decDigits u := by unfold bodyOf; rw [if_neg (head_dec u)]
  have h7 := dec_short u h
  have h1 := dec_ne u
  have hB : readB (Lib.decDigits u) = true := by unfold readB; rw [hb, (dec_dv u).2]; simp; omega
  have hN : readN (Lib.decDigits u) = (u : Int) := by unfold readN; rw [hb, if_neg (by omega), (dec_dv u).1]
  rw [readV_yes hB, hN]
  simp [itoa_nat]
theorem dec_six (u : Nat) (h : u ≤ 100000) : (Lib.decDigits u).length ≤ 6 := by
  rw [Lib.decDigits_length]
  suffices hh : ∀ k, ∀ u, u < 10 ^ (k + 1) → Lib.nDigits u ≤ k + 1 by exact Nat.le_trans (hh 5 u (by omega)) (by omega)
  intro k
  induction k with
  | zero => intro u hu; rw [Lib.nDigits_small (by omega)]; omega
  | succ k ih =>
    intro u hu
    rcases Nat.lt_or_ge u 10 with h2 | h2
    · rw [Lib.nDigits_small h2]; omega
    · rw [Lib.nDigits_big (by omega)]
      have := ih (u / 10) (by rw [Nat.pow_succ] at hu; omega)
      omega
/-- Its numbers are small and none is below 0. -/
def Small (L : List Int) : Prop := ∀ x ∈ L, 0 ≤ x ∧ x ≤ 100000
theorem num_dig {x : Int} (h : 0 ≤ x ∧ x ≤ 100000) : (Lib.itoa x).all digB = true ∧ (Lib.itoa x).length ≤ 6 ∧ 1 ≤ (Lib.itoa x).length := by
  obtain ⟨n, rfl⟩ := Int.eq_ofNat_of_zero_le h.1
  rw [itoa_nat]
  exact ⟨(dec_dv n).2, dec_six n (by omega), dec_ne n⟩
theorem num_read {x : Int} (h : 0 ≤ x ∧ x ≤ 100000) : readV (Lib.itoa x) = (x, true) := by
  obtain ⟨n, rfl⟩ := Int.eq_ofNat_of_zero_le h.1
  rw [itoa_nat]
  exact read_dec n (by omega)
theorem num_atoi {x : Int} (h : 0 ≤ x ∧ x ≤ 100000) : atoiV (Lib.itoa x) = some x := by
  obtain ⟨n, rfl⟩ := Int.eq_ofNat_of_zero_le h.1
  rw [itoa_nat]
  have h1 := dec_dv n
  have h6 := dec_six n (by omega)
  have h0 := dec_ne n
  cases hd : Lib.decDigits n with
  | nil => rw [hd] at h0; simp at h0
  | cons c r => rw [hd] at h1 h6; rw [atoi_dig c r h1.2 (by omega), h1.1]
theorem dig_ne32 {c : UInt8} (h : digB c = true) : ¬ c = 32 := by
  intro e; subst e; simp [digB] at h
theorem all_ne32 {a : List UInt8} (h : a.all digB = true) : ∀ c ∈ a, ¬ c = 32 := fun c hc => dig_ne32 (List.all_eq_true.1 h c hc)
theorem split_no : ∀ (r cur : List UInt8), (∀ c ∈ r, ¬ c = 32) → splitG 32 cur r = [cur ++ r] := by
  intro r
  induction r with
  | nil => intro cur _; simp [splitG]
  | cons c r ih => intro cur h; rw [splitG, if_neg (h c (by simp)), ih _ (fun x hx => h x (by simp [hx]))]; simp
theorem split_at : ∀ (a cur b : List UInt8), (∀ c ∈ a, ¬ c = 32) → splitG 32 cur (a ++ 32 :: b) = (cur ++ a) :: splitG 32 [] b := by
  intro a
  induction a with
  | nil => intro cur b _; simp [splitG]
  | cons c r ih => intro cur b h; rw [List.cons_append, splitG, if_neg (h c (by simp)), ih _ b (fun x hx => h x (by simp [hx]))]; simp
/-- The words of a text of small numbers are the numbers' own. -/
theorem parts_text : ∀ (L : List Int), Small L → 0 < L.length → partsF 32 (textL L) = L.map Lib.itoa := by
  intro L
  induction L with
  | nil => intro _ h; simp at h
  | cons x r ih =>
    intro hs _
    have hx := num_dig (hs x (by simp))
    cases r with
    | nil => rw [text_one]; unfold partsF; rw [split_no _ _ (all_ne32 hx.1)]; simp
    | cons y r' =>
      have e : textL (x :: y :: r') = Lib.itoa x ++ 32 :: textL (y :: r') := by
        unfold textL
        rw [List.map_cons, Lib.join_cons, List.map_cons, Lib.join_cons]
        simp [Lib.joinTail]
      rw [e]
      unfold partsF
      rw [split_at _ _ _ (all_ne32 hx.1)]
      have := ih (fun z hz => hs z (by simp [hz])) (by simp)
      unfold partsF at this
      rw [this]
      simp
theorem join_split : ∀ (l cur : List UInt8), Lib.join (splitG 32 cur l) [32] = cur ++ l := by
  intro l
  induction l with
  | nil => intro cur; simp [splitG, Lib.join_one]
  | cons c r ih =>
    intro cur
    rw [splitG]
    split
    · rename_i h
      subst h
      have h1 := (split_len 32 r []).2
      cases hq : splitG 32 [] r with
      | nil => rw [hq] at h1; simp at h1
      | cons a q =>
        have h2 := ih []
        rw [hq, Lib.join_cons] at h2
        rw [Lib.join_cons, Lib.joinTail, List.map_cons, List.flatten_cons]
        have h3 : Lib.joinTail [32] q = (q.map ([32] ++ ·)).flatten := rfl
        rw [← h3]
        simp at h2 ⊢
        exact h2
    · rw [ih]; simp
theorem join_parts (l : List UInt8) : Lib.join (partsF 32 l) [32] = l := by rw [partsF, join_split]; simp
theorem text_short (L : List Int) (h : Small L) : (textL L).length ≤ 7 * L.length := by
  suffices hh : ∀ n, n ≤ L.length → (textL (L.take n)).length ≤ 7 * n by
    have := hh L.length (Nat.le_refl _)
    rwa [List.take_length] at this
  intro n
  induction n with
  | zero => intro _; simp [textL, Lib.join_nil]
  | succ n ih =>
    intro hn
    have hs := (num_dig (h L[n] (List.getElem_mem (by omega)))).2.1
    have e1 : L.take (n + 1) = L.take n ++ [L[n]] := List.take_succ_eq_append_getElem (by omega)
    rw [e1]
    rcases Nat.eq_zero_or_pos n with h0 | h0
    · subst h0
      simp only [List.take_zero, List.nil_append]
      rw [text_one]; omega
    · rw [text_snoc _ _ (by simp; omega)]
      have := ih (by omega)
      simp; omega
def specBL (L : List Int) : Bool := specB (L.getD 0 0) (L.getD 1 0) (L.getD 2 0) (L.getD 3 0) (L.getD 4 0) (L.getD 5 0) (L.getD 6 0) (L.getD 7 0) (L.getD 8 0) (L.getD 9 0) (L.getD 10 0)
/-- l is the text of the spec L. -/
def IsT (l : List UInt8) (L : List Int) : Prop := L.length = 11 ∧ specBL L = true ∧ textL L = l
theorem eleven {L : List Int} (h : L.length = 11) : ∃ x0 x1 x2 x3 x4 x5 x6 x7 x8 x9 x10, L = [x0, x1, x2, x3, x4, x5, x6, x7, x8, x9, x10] := by
  match L, h with
  | [x0, x1, x2, x3, x4, x5, x6, x7, x8, x9, x10], _ => exact ⟨_, _, _, _, _, _, _, _, _, _, _, rfl⟩
theorem small_of {L : List Int} (h : L.length = 11) (hs : specBL L = true) : Small L := by
  obtain ⟨x0, x1, x2, x3, x4, x5, x6, x7, x8, x9, x10, rfl⟩ := eleven h
  have h := specB_t hs
  simp only [List.getD_cons_zero, List.getD_cons_succ] at h
  intro x hx
  simp only [List.mem_cons, List.not_mem_nil, or_false] at hx
  omega
theorem isT_parts {l : List UInt8} {L : List Int} (h : IsT l L) : partsF 32 l = L.map Lib.itoa := by
  rw [← h.2.2]
  exact parts_text L (small_of h.1 h.2.1) (by rw [h.1]; omega)
theorem isT_len {l : List UInt8} {L : List Int} (h : IsT l L) : l.length ≤ 77 := by
  have := text_short L (small_of h.1 h.2.1)
  rw [h.2.2, h.1] at this
  exact this
theorem isT_word {l : List UInt8} {L : List Int} (h : IsT l L) {j : Nat} (hj : j < 11) {p : List UInt8} (hp : (partsF 32 l)[j]? = some p) : p = Lib.itoa (L.getD j 0) ∧ 0 ≤ L.getD j 0 ∧ L.getD j 0 ≤ 100000 := by
  rw [isT_parts h, List.getElem?_map] at hp
  have hjl : j < L.length := by rw [h.1]; exact hj
  rw [List.getElem?_eq_getElem hjl] at hp
  have e : L.getD j 0 = L[j] := by simp [List.getD, hjl]
  rw [e]
  have := small_of h.1 h.2.1 L[j] (List.getElem_mem hjl)
  simp at hp
  exact ⟨hp.symm, this⟩
theorem isT_one {l : List UInt8} {L M : List Int} (h : IsT l L) (k : IsT l M) : L = M := by
  have e : L.map Lib.itoa = M.map Lib.itoa := (isT_parts h).symm.trans (isT_parts k)
  apply List.ext_getElem (by rw [h.1, k.1])
  intro j h1 h2
  have e2 : (L.map Lib.itoa)[j]? = (M.map Lib.itoa)[j]? := by rw [e]
  simp [h1, h2] at e2
  have r1 := num_read (small_of h.1 h.2.1 L[j] (List.getElem_mem h1))
  have r2 := num_read (small_of k.1 k.2.1 M[j] (List.getElem_mem h2))
  rw [e2, r2] at r1
  injection r1 with r1
  exact r1.symm
/-- strings.SplitN's pieces and the words. -/
theorem index_no : ∀ (s : List UInt8), (∀ c ∈ s, ¬ c = 32) → Lib.indexByte s 32 = -1 := by
  intro s
  induction s with
  | nil => intro _; rfl
  | cons c r ih =>
    intro h
    have hi := ih (fun x hx => h x (by simp [hx]))
    have hc : (c == 32) = false := by rw [beq_eq_false_iff_ne]; exact h c (by simp)
    rw [Lib.indexByte, hi, hc]
    simp
theorem index_at : ∀ (a b : List UInt8), (∀ c ∈ a, ¬ c = 32) → Lib.indexByte (a ++ 32 :: b) 32 = a.length := by
  intro a
  induction a with
  | nil => intro b _; simp [Lib.indexByte]
  | cons c r ih =>
    intro b h
    have hi := ih b (fun x hx => h x (by simp [hx]))
    rw [List.cons_append, Lib.indexByte, hi]
    have hc : (c == 32) = false := by rw [beq_eq_false_iff_ne]; exact h c (by simp)
    rw [hc]
    have hn : ((r.length : Int) == -1) = false := by rw [beq_eq_false_iff_ne]; omega
    rw [hn]
    simp
theorem first32 : ∀ (s : List UInt8), (∀ c ∈ s, ¬ c = 32) ∨ ∃ a b, s = a ++ 32 :: b ∧ ∀ c ∈ a, ¬ c = 32 := by
  intro s
  induction s with
  | nil => exact .inl (by simp)
  | cons c r ih =>
    by_cases hc : c = 32
    · subst hc; exact .inr ⟨[], r, rfl, by simp⟩
    · rcases ih with h | ⟨a, b, rfl, h⟩
      · refine .inl fun x hx => ?_
        rcases List.mem_cons.1 hx with rfl | hx
        · exact hc
        · exact h x hx
      · refine .inr ⟨c :: a, b, rfl, fun x hx => ?_⟩
        rcases List.mem_cons.1 hx with rfl | hx
        · exact hc
        · exact h x hx
theorem splitK_all : ∀ (k : Nat) (s : List UInt8), (partsF 32 s).length ≤ k + 1 → Lib.splitK [32] 0 k s = partsF 32 s := by
  intro k
  induction k with
  | zero =>
    intro s h
    rcases first32 s with h1 | ⟨a, b, rfl, h1⟩
    · unfold partsF; rw [split_no _ _ h1]; simp [Lib.splitK]
    · unfold partsF at h; rw [split_at _ _ _ h1] at h
      have := (split_len 32 b []).2
      rw [List.length_cons] at h; omega
  | succ k ih =>
    intro s h
    rcases first32 s with h1 | ⟨a, b, rfl, h1⟩
    · unfold partsF; rw [split_no _ _ h1, Lib.splitK, Lib.index_one, index_no s h1]; simp
    · unfold partsF at h ⊢
      rw [split_at _ _ _ h1] at h ⊢
      rw [Lib.splitK, Lib.index_one, index_at a b h1, if_neg (by first | (simp; done) | (simp; omega))]
      simp only [Int.toNat_natCast, Nat.add_zero, List.length_cons, List.length_nil, List.nil_append]
      have := ih b (by unfold partsF; simp at h; omega)
      unfold partsF at this
      rw [List.take_left' rfl, show (a ++ 32 :: b).drop (a.length + (0 + 1)) = b by rw [List.drop_append]; simp, this]
theorem splitK_many : ∀ (k : Nat) (s : List UInt8), k + 1 ≤ (partsF 32 s).length → (Lib.splitK [32] 0 k s).length = k + 1 := by
  intro k
  induction k with
  | zero => intro s _; simp [Lib.splitK]
  | succ k ih =>
    intro s h
    rcases first32 s with h1 | ⟨a, b, rfl, h1⟩
    · unfold partsF at h; rw [split_no _ _ h1] at h; simp at h
    · unfold partsF at h
      rw [split_at _ _ _ h1] at h
      rw [Lib.splitK, Lib.index_one, index_at a b h1, if_neg (by first | (simp; done) | (simp; omega))]
      simp only [Int.toNat_natCast, Nat.add_zero, List.length_cons, List.length_nil]
      have := ih b (by unfold partsF; simp at h; omega)
      rw [show (a ++ 32 :: b).drop (a.length + (0 + 1)) = b by rw [List.drop_append]; simp, this]
/-- The words that SplitN cuts are eleven just where the text has eleven; then they are those. -/
theorem splitN_words (l : List UInt8) : ((Lib.splitK [32] 0 (min 12 (l.length + 1) - 1) l).length = 11 ↔ (partsF 32 l).length = 11) ∧ ((partsF 32 l).length = 11 → Lib.splitK [32] 0 (min 12 (l.length + 1) - 1) l = partsF 32 l) := by
  have h1 := (split_len 32 l []).1
  have h1' : (partsF 32 l).length ≤ l.length + 1 := h1
  rcases Nat.lt_or_ge (l.length + 1) 12 with h | h
  · have e : min 12 (l.length + 1) - 1 = l.length := by omega
    rw [e, splitK_all l.length l (by omega)]
    exact ⟨Iff.rfl, fun _ => rfl⟩
  · have e : min 12 (l.length + 1) - 1 = 11 := by omega
    rw [e]
    rcases Nat.lt_or_ge (partsF 32 l).length 12 with h2 | h2
    · rw [splitK_all 11 l (by omega)]
      exact ⟨Iff.rfl, fun _ => rfl⟩
    · have h3 := splitK_many 11 l (by omega)
      refine ⟨⟨fun h => by omega, fun h => by omega⟩, fun h => by omega⟩
end Go.Proofs.YtfabioccnaooeaaDoor.SpW
