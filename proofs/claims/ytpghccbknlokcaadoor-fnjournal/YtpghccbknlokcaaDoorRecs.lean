/-
  LISTS OF RECORDS: how a slice of records reads, and what it is to own one, whole; the contracts of the laws' eqRecordS, markRecordS, heldRecordS over this seat's translation.
-/
import Derived.Test.YtpghccbknlokcaaDoorRecBox
namespace Go.Proofs.YtpghccbknlokcaaDoor.Rec
open Go.ChangeShapes Go.WideShapes Go.ChangeAt Go.RowKit
open Go.Proofs.YtpghccbknlokcaaDoor.Ints Go.Proofs.YtpghccbknlokcaaDoor.Has
set_option linter.unusedVariables false

abbrev RList := List (Int × List Int)
abbrev Hd := Int × Option Addr × Nat × Nat
def hdV (h : Hd) : Value := .slice h.2.1 h.2.2.1 h.2.2.2
def flatH (hs : List Hd) : List Value := hs.flatMap fun h => [.int .i64 h.1, hdV h]
def hd0 : Hd := (0, none, 0, 0)
theorem flatH_len (hs : List Hd) : (flatH hs).length = hs.length * 2 := by
  induction hs with
  | nil => rfl
  | cons x l ih => simp [flatH] at ih ⊢; omega
theorem flatH_app (a b : List Hd) : flatH (a ++ b) = flatH a ++ flatH b := by simp [flatH]
theorem flatH_at (hs : List Hd) (j : Nat) (h : j < hs.length) : (flatH hs)[j * 2]? = some (.int .i64 (hs.getD j hd0).1) ∧ (flatH hs)[j * 2 + 1]? = some (hdV (hs.getD j hd0)) := by
  induction hs generalizing j with
  | nil => simp at h
  | cons x l ih =>
    cases j with
    | zero => exact ⟨rfl, rfl⟩
    | succ j =>
      have h' : j < l.length := by simpa using h
      have := ih j h'
      constructor
      · have e : (j + 1) * 2 = j * 2 + 1 + 1 := by omega
        rw [e]; simpa [flatH] using this.1
      · have e : (j + 1) * 2 + 1 = j * 2 + 1 + 1 + 1 := by omega
        rw [e]; simpa [flatH] using this.2
theorem flatH_set (hs : List Hd) (j : Nat) (k : Int) (h : j < hs.length) : (flatH hs).set (j * 2) (.int .i64 k) = flatH (hs.set j (k, (hs.getD j hd0).2)) := by
  induction hs generalizing j with
  | nil => simp at h
  | cons a l ih =>
    cases j with
    | zero => rfl
    | succ j =>
      have h' : j < l.length := by simpa using h
      have e : (j + 1) * 2 = j * 2 + 1 + 1 := by omega
      rw [e]
      simpa [flatH] using ih j h'

/-- The slice at A of length n holds the records rs, in blocks below B. -/
def IsRecs (w : World) (B : Nat) (A : Option Addr) (n : Nat) (rs : RList) : Prop :=
  rs.length = n ∧ (0 < n → ∃ b off, A = some ⟨b, off, none⟩ ∧ b < B ∧ ∀ j, j < n → ∃ A' c', w.cell? ⟨b, off + j * 2, none⟩ = some (.int .i64 (rs.getD j (0, [])).1) ∧ w.cell? ⟨b, off + j * 2 + 1, none⟩ = some (.slice A' (rs.getD j (0, [])).2.length c') ∧ IsInts w B A' (rs.getD j (0, [])).2.length (rs.getD j (0, [])).2)
theorem IsRecs.below {w w' : World} {B C : Nat} {A : Option Addr} {n : Nat} {rs : RList} (h : IsRecs w B A n rs) (hb : Below C w w') (hC : B ≤ C) : IsRecs w' B A n rs :=
  ⟨h.1, fun hn => by
    obtain ⟨b, off, e, hlt, hc⟩ := h.2 hn
    refine ⟨b, off, e, hlt, fun j hj => ?_⟩
    obtain ⟨A', c', h1, h2, h3⟩ := hc j hj
    exact ⟨A', c', (hb.cell (p := ⟨b, off + j * 2, none⟩) (by show b < C; omega)).trans h1, (hb.cell (p := ⟨b, off + j * 2 + 1, none⟩) (by show b < C; omega)).trans h2, h3.below hb hC⟩⟩
theorem IsRecs.at_ {w : World} {B : Nat} {A : Option Addr} {n k : Nat} {rs : RList} (h : IsRecs w B A n rs) (hk : k < n) :
    ∃ b off A' c' kd zs, A = some ⟨b, off, none⟩ ∧ b < B ∧ (kd, zs) = rs.getD k (0, []) ∧ w.cell? ⟨b, off + k * 2, none⟩ = some (.int .i64 kd) ∧ w.cell? ⟨b, off + k * 2 + 1, none⟩ = some (.slice A' zs.length c') ∧ IsInts w B A' zs.length zs := by
  obtain ⟨b, off, e, hlt, hc⟩ := h.2 (by omega)
  obtain ⟨A', c', h1, h2, h3⟩ := hc k hk
  exact ⟨b, off, A', c', _, _, e, hlt, rfl, h1, h2, h3⟩

/-- A list of records of one's own, from base on: the row, and each one's numbers, all apart. -/
def OwnRsH (w : World) (base : Nat) (A : Option Addr) (n c : Nat) (hs : List Hd) (rs : RList) : Prop :=
  hs.length = n ∧ rs.length = n ∧ w.ownsRow base 30 2 (.slice A n c) n (flatH hs) ∧
    (∀ j, j < n → (hs.getD j hd0).1 = (rs.getD j (0, [])).1 ∧ OwnI w base (hs.getD j hd0).2.1 (hs.getD j hd0).2.2.1 (hs.getD j hd0).2.2.2 (rs.getD j (0, [])).2) ∧
    (∀ i j, i < n → j < n → i ≠ j → ∀ q, (hdV (hs.getD i hd0)).ownBlock = some q → (hdV (hs.getD j hd0)).ownBlock ≠ some q)

def OwnRs (w : World) (base : Nat) (A : Option Addr) (n c : Nat) (rs : RList) : Prop := ∃ hs, OwnRsH w base A n c hs rs

theorem row_ne {w : World} {base base' : Nat} {e e' : TypeId} {size size' n n' : Nat} {u v : Value} {xs ys : List Value} (h : w.ownsRow base e size u n xs) (h' : w.ownsRow base' e' size' v n' ys) (hne : e ≠ e') : u.ownBlock = none ∨ u.ownBlock ≠ v.ownBlock := by
  cases hu : u.ownBlock with
  | none => exact .inl rfl
  | some g =>
    refine .inr fun e2 => ?_
    rcases h.2 with ⟨rfl, _⟩ | ⟨g1, cap1, cur1, rfl, _, k1, _⟩
    · cases hu
    · rcases h'.2 with ⟨rfl, _⟩ | ⟨g2, cap2, cur2, rfl, _, k2, _⟩
      · cases e2
      · have e1 : g1 = g := by simpa [Value.ownBlock] using hu
        have e3 : g2 = g := by simpa [Value.ownBlock] using e2.symm
        subst e1
        rw [e3, k1] at k2
        injection k2 with k2
        injection k2 with _ k3 _
        exact hne k3

section
variable {w w' : World} {base : Nat} {A : Option Addr} {n c : Nat} {rs : RList}
theorem OwnRs.len (h : OwnRs w base A n c rs) : rs.length = n := by obtain ⟨hs, _, h2, _⟩ := h; exact h2
theorem OwnRs.reads (h : OwnRs w base A n c rs) : IsRecs w w.heap.size A n rs := by
  obtain ⟨hs, hl, hr, hrow, hj, _⟩ := h
  refine ⟨hr, fun hn => ?_⟩
  obtain ⟨g, cap, hv, _, hlt⟩ := hrow.form hn
  have hA : A = some ⟨g, 0, none⟩ := by injection hv
  subst hA
  refine ⟨g, 0, rfl, hlt, fun j hjn => ?_⟩
  obtain ⟨e1, hO⟩ := hj j hjn
  have hf := flatH_at hs j (by omega)
  refine ⟨(hs.getD j hd0).2.1, (hs.getD j hd0).2.2.2, ?_, ?_, ?_⟩
  · rw [Nat.zero_add, hrow.cellAt (j * 2) (by omega), hf.1, e1]
  · rw [Nat.zero_add, hrow.cellAt (j * 2 + 1) (by omega), hf.2, hdV, ← hO.1]
  · rw [hO.1]; exact hO.ints
theorem OwnRsH.below {hs : List Hd} (h : OwnRsH w base A n c hs rs) (hb : Below w.heap.size w w') : OwnRsH w' base A n c hs rs := by
  obtain ⟨hl, hr, hrow, hj, hd⟩ := h
  refine ⟨hl, hr, hrow.kept ⟨hb.os, hb.tape, hb.output, hb.size, fun i hi _ => hb.block i hi⟩ (row := none) (by cases hv : (Value.slice A n c).ownBlock <;> simp), fun j hjn => ?_, hd⟩
  exact ⟨(hj j hjn).1, (hj j hjn).2.below hb⟩
theorem OwnRs.below (h : OwnRs w base A n c rs) (hb : Below w.heap.size w w') : OwnRs w' base A n c rs := by
  obtain ⟨hs, h⟩ := h
  exact ⟨hs, h.below hb⟩
theorem OwnRs.grown (h : OwnRs w base A n c rs) {row : Option Nat} (hg : w.grownBy w' row) (hne : ∀ q, row = some q → q < base) : OwnRs w' base A n c rs := by
  obtain ⟨hs, hl, hr, hrow, hj, hd⟩ := h
  have hx : ∀ v : Value, (∀ q, v.ownBlock = some q → base ≤ q) → v.ownBlock = none ∨ v.ownBlock ≠ row := fun v hv => by
    cases hq : v.ownBlock with
    | none => exact .inl rfl
    | some q =>
      refine .inr fun e => ?_
      have h1 := hv q hq
      have h2 := hne q e.symm
      omega
  refine ⟨hs, hl, hr, hrow.kept hg (hx _ fun q hq => (hrow.lt q hq).1), fun j hjn => ⟨(hj j hjn).1, (hj j hjn).2.grown hg (hx _ fun q hq => ((hj j hjn).2.lt q hq).1)⟩, hd⟩
theorem OwnRs.base_ (h : OwnRs w base A n c rs) {b' : Nat} (hb : b' ≤ base) : OwnRs w b' A n c rs := by
  obtain ⟨hs, hl, hr, hrow, hj, hd⟩ := h
  exact ⟨hs, hl, hr, own_base hrow hb, fun j hjn => ⟨(hj j hjn).1, ownI_base (hj j hjn).2 hb⟩, hd⟩
theorem OwnRs.empty (w : World) : OwnRs (w.alloc (.cells #[] 30)) w.heap.size (some ⟨w.heap.size, 0, none⟩) 0 0 [] :=
  ⟨[], rfl, rfl, World.ownsRow_lit w #[] 0 (Nat.le_refl _) (by unfold maxLen; omega) rfl, fun j hj => absurd hj (by omega), fun i j hi => absurd hi (by omega)⟩
theorem OwnRs.rowlt (h : OwnRs w base A n c rs) : ∀ q, (Value.slice A n c).ownBlock = some q → base ≤ q ∧ q < w.heap.size := by
  obtain ⟨hs, hl, hr, hrow, hj, hd⟩ := h
  exact hrow.lt
end

theorem getD_app_lt {α : Type} (l : List α) (x d : α) (j : Nat) (h : j < l.length) : (l ++ [x]).getD j d = l.getD j d := by simp [List.getD, List.getElem?_append, h]
theorem getD_app_eq {α : Type} (l : List α) (x d : α) : (l ++ [x]).getD l.length d = x := by simp [List.getD]

/-- Behind an append of a record that has been made since. -/
theorem OwnRsH.push {w0 w w' : World} {base : Nat} {A : Option Addr} {n c : Nat} {hs : List Hd} {rs : RList} {kd : Int} {A1 : Option Addr} {m1 c1 : Nat} {zs : List Int} {v' : Value}
    (h : OwnRsH w0 base A n c hs rs) (hb : Below w0.heap.size w0 w) (hO : OwnI w w0.heap.size A1 m1 c1 zs) (hbase : base ≤ w0.heap.size)
    (hrow' : w'.ownsRow base 30 2 v' (n + 1) (flatH hs ++ [.int .i64 kd, .slice A1 m1 c1])) (hg : w.grownBy w' (Value.slice A n c).ownBlock) :
    ∃ A' c', v' = .slice A' (n + 1) c' ∧ OwnRs w' base A' (n + 1) c' (rs ++ [(kd, zs)]) := by
  obtain ⟨hl, hr, hrow, hj, hd⟩ := h.below hb
  obtain ⟨_, _, _, hj0, _⟩ := h
  obtain ⟨g, cap, rfl, _⟩ := hrow'.form (by omega)
  refine ⟨_, _, rfl, hs ++ [(kd, A1, m1, c1)], by simp [hl], by simp [hr], by rw [flatH_app]; exact hrow', fun j hjn => ?_, fun i j hi hjn hne q hq => ?_⟩
  · by_cases h1 : j < n
    · rw [getD_app_lt hs _ _ j (by omega), getD_app_lt rs _ _ j (by omega)]
      exact ⟨(hj j h1).1, (hj j h1).2.grown hg (row_ne (hj j h1).2.2 hrow (by decide))⟩
    · obtain rfl : j = n := by omega
      have e1 : (hs ++ [(kd, A1, m1, c1)]).getD j hd0 = (kd, A1, m1, c1) := by rw [← hl]; exact getD_app_eq _ _ _
      have e2 : (rs ++ [(kd, zs)]).getD j (0, []) = (kd, zs) := by rw [← hr]; exact getD_app_eq _ _ _
      rw [e1, e2]
      exact ⟨rfl, (ownI_base hO hbase).grown hg (row_ne hO.2 hrow (by decide))⟩
  · have hnew : ∀ q, (hdV ((hs ++ [(kd, A1, m1, c1)]).getD n hd0)).ownBlock = some q → w0.heap.size ≤ q := fun q hq => by
      rw [← hl, getD_app_eq] at hq
      exact (hO.lt q hq).1
    have hold : ∀ i, i < n → ∀ q, (hdV ((hs ++ [(kd, A1, m1, c1)]).getD i hd0)).ownBlock = some q → q < w0.heap.size := fun i hi q hq => by
      rw [getD_app_lt hs _ _ i (by omega)] at hq
      exact ((hj0 i hi).2.lt q hq).2
    intro hq2
    by_cases h1 : i < n
    · by_cases h2 : j < n
      · rw [getD_app_lt hs _ _ i (by omega)] at hq
        rw [getD_app_lt hs _ _ j (by omega)] at hq2
        exact hd i j h1 h2 hne q hq hq2
      · obtain rfl : j = n := by omega
        have := hold i h1 q hq
        have := hnew q hq2
        omega
    · obtain rfl : i = n := by omega
      have := hold j (by omega) q hq2
      have := hnew q hq
      omega

/-- Each record's number, then its list's numbers, counted on from k. -/
def marksR (k : Int) : RList → RList
  | [] => []
  | r :: rs => (k, marksI (k + 1) r.2.length) :: marksR (k + 1 + (r.2.length : Int)) rs
def endR (k : Int) : RList → Int
  | [] => k
  | r :: rs => endR (k + 1 + (r.2.length : Int)) rs
theorem marksR_len (rs : RList) : ∀ k, (marksR k rs).length = rs.length := by
  induction rs with
  | nil => intro k; rfl
  | cons r rs ih => intro k; simp [marksR, ih]
theorem endR_le (rs : RList) : ∀ k, k ≤ endR k rs := by
  induction rs with
  | nil => intro k; exact Int.le_refl _
  | cons r rs ih => intro k; have := ih (k + 1 + (r.2.length : Int)); simp only [endR]; omega
theorem endR_app (a b : RList) : ∀ k, endR k (a ++ b) = endR (endR k a) b := by
  induction a with
  | nil => intro k; rfl
  | cons r rs ih => intro k; simp only [List.cons_append, endR]; exact ih _
theorem endR_take_le (rs : RList) (j : Nat) (k : Int) : endR k (rs.take j) ≤ endR k rs := by
  have h := endR_app (rs.take j) (rs.drop j) k
  rw [List.take_append_drop] at h
  rw [h]
  exact endR_le _ _
theorem endR_step (rs : RList) (j : Nat) (k : Int) (h : j < rs.length) : endR k (rs.take (j + 1)) = endR k (rs.take j) + 1 + ((rs.getD j (0, [])).2.length : Int) := by
  rw [List.take_succ_eq_append_getElem h, endR_app]
  simp [endR, List.getD, h]
theorem marksR_at (rs : RList) : ∀ (j : Nat) (k : Int), j < rs.length → (marksR k rs).getD j (0, []) = (endR k (rs.take j), marksI (endR k (rs.take j) + 1) (rs.getD j (0, [])).2.length) := by
  induction rs with
  | nil => intro j k h; simp at h
  | cons r rs ih =>
    intro j k h
    cases j with
    | zero => rfl
    | succ j =>
      have h' : j < rs.length := by simpa using h
      have := ih j (k + 1 + (r.2.length : Int)) h'
      simpa [marksR, endR] using this

set_option maxHeartbeats 1600000 in
theorem heldRecordS_any (A : Option Addr) (n c : Nat) (rs : RList) (k : Int) (B : Nat) (w : World) (hr : IsRecs w B A n (marksR k rs)) (hn : n ≤ 1048576) (hk0 : 0 ≤ k) (hk1 : endR k rs ≤ 300000000) (hm : ∀ j, (rs.getD j (0, [])).2.length ≤ 1048576) :
    Calls Tryd.prog 23 #[.slice A n c, .int .i64 k] w fun e w' => e = .returned (.int .i64 (endR k rs)) ∧ w' = w := by
  have HL : Hid (rs.length = n) := by have := hr.1; rw [marksR_len] at this; exact this
  have HR := Lib.hid hr
  have HM := Lib.hid hm
  have HK1 := Lib.hid hk1
  clear hr hm hk1
  go_enter Tryd.func23, Tryd.ntmps23
  go_wp2_with fail
  go_loop [1, 5] (fun a i => ∃ (j : Nat) (x : Int), j ≤ n ∧ a = .int .i64 x ∧ i = .int .i64 j ∧ Hid (x = endR k (rs.take j)) ∧ 0 ≤ x ∧ x ≤ 300000000) (fun _ i => n - (intOf i).toNat)
  case atStart => exact ⟨0, k, Nat.zero_le _, rfl, rfl, rfl, hk0, by have := HK1.out; have := endR_le rs k; omega⟩
  case round =>
    obtain ⟨j, x, hj, rfl, rfl, HX, hx0, hx1⟩ := hrel
    by_cases hlt : j < n
    · have hjl : j < rs.length := by rw [HL.out]; exact hlt
      obtain ⟨b, off, A', c', kd, zs, rfl, hbB, hz, hc1, hc2, hI⟩ := HR.out.at_ hlt
      rw [marksR_at rs j k hjl] at hz
      injection hz with e1 e2
      obtain rfl : kd = x := by rw [e1, HX.out]
      obtain ⟨m, hm⟩ : ∃ m, (rs.getD j (0, [])).2.length = m := ⟨_, rfl⟩
      have hmb : m ≤ 1048576 := by rw [← hm]; exact HM.out j
      rw [← e1, hm] at e2
      have hzl : zs.length = m := by rw [e2, marksI_len]
      rw [hzl] at hc2 hI
      have HI : Hid (IsInts w B A' m (marksI (kd + 1) m)) := by rw [← e2]; exact hI
      have HX2 : Hid (kd + 1 + (m : Int) = endR k (rs.take (j + 1))) := by show _ = _; rw [endR_step rs j k hjl, hm, ← HX.out]
      have hle : kd + 1 + (m : Int) ≤ 300000000 := by rw [HX2.out]; exact Int.le_trans (endR_take_le _ _ _) HK1.out
      have hd : decide (kd + 1 + (m : Int) < 0) = false := by simp; omega
      clear e1 e2 hzl hI hm
      go_wp2_with (go_at_call 43; refine (heldIntS_any A' m c' (kd + 1) B _ HI.out hmb (by omega) (by omega)).mono ?_; rintro e w' ⟨rfl, rfl⟩)
      go_round
      case rel => exact ⟨j + 1, kd + 1 + (m : Int), by omega, by go_num, by go_num, HX2, by omega, hle⟩
      case measure => simp [intOf]; omega
    · have HJ : Hid (x = endR k rs) := by have h1 := HX.out; rw [List.take_of_length_le (by rw [HL.out]; omega)] at h1; exact h1
      go_wp2
      go_ret
      exact ⟨by rw [HJ.out]; rfl, rfl⟩

set_option maxHeartbeats 1600000 in
theorem eqRecordS_same (A C : Option Addr) (n cap cap' : Nat) (rs : RList) (B B' : Nat) (w : World) (hr : IsRecs w B A n rs) (hs : IsRecs w B' C n rs) (hB : B ≤ w.heap.size) (hB' : B' ≤ w.heap.size) (hn : n ≤ 1048576) (hm : ∀ j, (rs.getD j (0, [])).2.length ≤ 1048576) :
    Calls Tryd.prog 19 #[.slice A n cap, .slice C n cap'] w (SaysTrue w) := by
  have HM := Lib.hid hm
  clear hm
  go_enter Tryd.func19, Tryd.ntmps19
  go_wp2_with fail
  go_loopw [5] (fun i wr => ∃ k : Nat, k ≤ n ∧ i = .int .i64 k ∧ Below w.heap.size w wr) (fun i _ => n - (intOf i).toNat)
  case atStart => exact ⟨0, Nat.zero_le _, rfl, Below.refl _ _⟩
  case round =>
    obtain ⟨k, hk, rfl, hbr⟩ := hrel
    by_cases hlt : k < n
    · obtain ⟨b, off, A1, c1, kd, zs, rfl, hbB, hz, hc1, hc2, hI1⟩ := (hr.below hbr hB).at_ hlt
      obtain ⟨b', off', A2, c2, kd', zs', rfl, hbB', hz', hc3, hc4, hI2⟩ := (hs.below hbr hB').at_ hlt
      have he := hz.trans hz'.symm
      injection he with he1 he2
      subst he1 he2
      have hn1 : zs.length ≤ 1048576 := by have h1 := HM.out k; rw [← hz] at h1; exact h1
      have H1 := Lib.hid hI1
      have H2 := Lib.hid hI2
      generalize zs.length = m at hn1 hc2 hc4 H1 H2
      clear hI1 hI2 hr hs hz hz'
      go_wp2_with fail
      go_region_held3 (fun w' => w'.cell? ⟨b, off + k * 2, none⟩ = some (.int .i64 kd) ∧ w'.cell? ⟨b, off + k * 2 + 1, none⟩ = some (.slice A1 m c1) ∧ w'.cell? ⟨b', off' + k * 2, none⟩ = some (.int .i64 kd) ∧ w'.cell? ⟨b', off' + k * 2 + 1, none⟩ = some (.slice A2 m c2)) (first | go_keep | (refine ⟨below_keep hb2 ?_, below_keep hb2 ?_, below_keep hb2 ?_, below_keep hb2 ?_⟩ <;> simp only [*]))
        (first | (go_at_call 39; refine (eqRecord_same kd A1 A2 m c1 c2 zs B B' _ (by exact H1.out) (by exact H2.out) (by exact Nat.le_trans hB hbr.size) (by exact Nat.le_trans hB' hbr.size) hn1).mono ?_; rintro e w2 ⟨rfl, hb2⟩))
      have hbr2 : Below w.heap.size w w2 := hbr.drew.trans (hb2.mono hbr.size)
      go_wp2
      go_roundw
      case rel => exact ⟨k + 1, by omega, by go_num, hbr2⟩
      case measure => simp [intOf]; omega
    · go_wp2
      go_ret
      exact ⟨rfl, hbr⟩
end Go.Proofs.YtpghccbknlokcaaDoor.Rec
