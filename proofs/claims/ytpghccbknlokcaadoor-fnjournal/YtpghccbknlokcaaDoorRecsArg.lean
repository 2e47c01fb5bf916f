/-
  LISTS OF RECORDS AS ARGUMENTS: the contracts of the laws' toRecordS and szRecordS over this seat's translation; how such a list comes in.
-/
import Derived.Test.YtpghccbknlokcaaDoorRecsTy
import Derived.Lib.SmallJoins
import Derived.Deep.Slices
namespace Go.Proofs.YtpghccbknlokcaaDoor.RecsTy
open Go.ChangeShapes Go.WideShapes Go.ChangeAt Go.RowKit Go.Joins Go.Deep
open Go.Proofs.YtpghccbknlokcaaDoor.LK Go.Proofs.YtpghccbknlokcaaDoor.Ints Go.Proofs.YtpghccbknlokcaaDoor.Has Go.Proofs.YtpghccbknlokcaaDoor.Rec
set_option linter.unusedVariables false
set_option linter.unusedSimpArgs false

theorem flatH_set2 (hs : List Hd) (j : Nat) (kd : Int) (A1 : Option Addr) (m1 c1 : Nat) (h : j < hs.length) : ((flatH hs).set (j * 2) (.int .i64 kd)).set (j * 2 + 1) (.slice A1 m1 c1) = flatH (hs.set j (kd, A1, m1, c1)) := by
  induction hs generalizing j with
  | nil => simp at h
  | cons a l ih =>
    cases j with
    | zero => rfl
    | succ j =>
      have h' : j < l.length := by simpa using h
      have e : (j + 1) * 2 = j * 2 + 1 + 1 := by omega
      rw [e]
      simpa [flatH] using ih j h'
theorem ownH_setR {w0 w : World} {base g n c : Nat} {hs : List Hd} {rs : RList} {kd : Int} {A1 : Option Addr} {m1 c1 : Nat} {zs : List Int} (h : OwnRsH w0 base (some ⟨g, 0, none⟩) n c hs rs) (hb : Below w0.heap.size w0 w) (hO : OwnI w w0.heap.size A1 m1 c1 zs) (hbase : base ≤ w0.heap.size) (j : Nat) (hj : j < n) :
    OwnRsH ((w.setCell ⟨g, j * 2, none⟩ (.int .i64 kd)).setCell ⟨g, j * 2 + 1, none⟩ (.slice A1 m1 c1)) base (some ⟨g, 0, none⟩) n c (hs.set j (kd, A1, m1, c1)) (rs.set j (kd, zs)) := by
  obtain ⟨hl, hr, hrow, hjj, hd⟩ := h.below hb
  obtain ⟨_, _, _, hj0, _⟩ := h
  obtain ⟨hs1, hs2⟩ := hrow.stored (j * 2) (.int .i64 kd)
  obtain ⟨hs3, hs4⟩ := hs1.stored (j * 2 + 1) (.slice A1 m1 c1)
  have hk : ∀ {A2 : Option Addr} {n2 c2 : Nat} {ys : List Int}, OwnI w base A2 n2 c2 ys → OwnI ((w.setCell ⟨g, j * 2, none⟩ (.int .i64 kd)).setCell ⟨g, j * 2 + 1, none⟩ (.slice A1 m1 c1)) base A2 n2 c2 ys := fun hq => by
    have h5 := hq.grown hs2 (row_ne hq.2 hrow (by decide))
    exact h5.grown hs4 (row_ne h5.2 hs1 (by decide))
  refine ⟨by simp [hl], by simp [hr], ?_, fun i hi => ?_, fun i i' hi hi' hne q hq => ?_⟩
  · rw [← flatH_set2 hs j kd A1 m1 c1 (by omega)]
    exact hs3
  · by_cases e : i = j
    · subst e
      rw [Rec.getD_set_eq _ _ _ _ (by omega), Rec.getD_set_eq _ _ _ _ (by omega)]
      exact ⟨rfl, hk (ownI_base hO hbase)⟩
    · rw [Rec.getD_set_ne _ _ _ _ _ e, Rec.getD_set_ne _ _ _ _ _ e]
      exact ⟨(hjj i hi).1, hk (hjj i hi).2⟩
  · by_cases e : i = j
    · subst e
      rw [Rec.getD_set_eq _ _ _ _ (by omega)] at hq
      rw [Rec.getD_set_ne _ _ _ _ _ (Ne.symm hne)]
      intro e2
      have h5 := (hO.lt q hq).1
      have h6 := ((hj0 i' hi').2.lt q e2).2
      omega
    · rw [Rec.getD_set_ne _ _ _ _ _ e] at hq
      by_cases e' : i' = j
      · subst e'
        rw [Rec.getD_set_eq _ _ _ _ (by omega)]
        intro e2
        have h5 := (hO.lt q e2).1
        have h6 := ((hj0 i hi).2.lt q hq).2
        omega
      · rw [Rec.getD_set_ne _ _ _ _ _ e']
        exact hd i i' hi hi' hne q hq
def partR (rs : RList) (k : Nat) : RList := rs.take k ++ List.replicate (rs.length - k) (0, [])
theorem partR_len (rs : RList) (k : Nat) (h : k ≤ rs.length) : (partR rs k).length = rs.length := by simp [partR]; omega
theorem partR_set (rs : RList) (k : Nat) (h : k < rs.length) : (partR rs k).set k (rs.getD k (0, [])) = partR rs (k + 1) := by
  unfold partR
  rw [List.set_append_right _ _ (by simp; omega)]
  have e : k - (rs.take k).length = 0 := by simp; omega
  have e2 : rs.length - k = (rs.length - (k + 1)) + 1 := by omega
  have e3 : rs.getD k (0, []) = rs[k] := by simp [List.getD, h]
  rw [e, e2, List.replicate_succ, List.set_cons_zero, List.take_succ_eq_append_getElem h, e3, List.append_assoc]
  rfl
theorem partR_zero (rs : RList) : partR rs 0 = List.replicate rs.length (0, []) := by simp [partR]
theorem partR_all (rs : RList) : partR rs rs.length = rs := by simp [partR]
theorem made_flatH (n : Nat) : (madeCells (Value.agg #[.int .i64 0, .slice none 0 0]).cells (n * 2)).toList = flatH (List.replicate n hd0) := by
  apply List.ext_getElem?
  intro j
  have hc : (Value.agg #[.int .i64 0, .slice none 0 0]).cells = #[.int .i64 0, .slice none 0 0] := rfl
  rw [hc]
  have hl : (flatH (List.replicate n hd0)).length = n * 2 := by rw [flatH_len]; simp
  by_cases hj : j < n * 2
  · have hh : j / 2 < n := by omega
    have hf := flatH_at (List.replicate n hd0) (j / 2) (by simpa using hh)
    have hg : (List.replicate n hd0).getD (j / 2) hd0 = hd0 := by simp [List.getD, hh]
    rw [hg] at hf
    rcases (by omega : j % 2 = 0 ∨ j % 2 = 1) with h0 | h0
    · have he : j / 2 * 2 = j := by omega
      rw [he] at hf
      rw [hf.1]
      simp [madeCells, hj, h0, hd0]
    · have he : j / 2 * 2 + 1 = j := by omega
      rw [he] at hf
      rw [hf.2]
      simp [madeCells, hj, h0, hd0, hdV]
  · rw [List.getElem?_eq_none (l := flatH _) (by omega), List.getElem?_eq_none]
    simp [madeCells]; omega
theorem infoR : (Tryd.prog.info? 30).map (fun i => (i.zero, i.size, i.bytes)) = some (some (.agg #[.int .i64 0, .slice none 0 0]), 2, 32) := by kernel_rfl
theorem own_zeros {w : World} {base g n : Nat} (h : w.ownsRow base 30 2 (.slice (some ⟨g, 0, none⟩) n n) n (flatH (List.replicate n hd0))) : OwnRsH w base (some ⟨g, 0, none⟩) n n (List.replicate n hd0) (List.replicate n (0, [])) := by
  have e : ∀ i, (List.replicate n hd0).getD i hd0 = hd0 := fun i => by simp [List.getD, List.getElem?_replicate]; split <;> rfl
  have e2 : ∀ i, (List.replicate n ((0 : Int), ([] : List Int))).getD i (0, []) = (0, []) := fun i => by simp [List.getD, List.getElem?_replicate]; split <;> rfl
  refine ⟨by simp, by simp, h, fun j hj => ?_, fun i j hi hj hne q hq => ?_⟩
  · rw [e, e2]
    exact ⟨rfl, rfl, World.ownsRow_nil _ _ _ _⟩
  · rw [e] at hq
    cases hq
theorem cnt_take_le (rs : RList) (j : Nat) : cntR (rs.take j) ≤ cntR rs := by
  have h := cntR_app (rs.take j) (rs.drop j)
  rw [List.take_append_drop] at h
  omega
theorem cnt_step (rs : RList) (j : Nat) (h : j < rs.length) : cntR (rs.take (j + 1)) = cntR (rs.take j) + 1 + (rs.getD j (0, [])).2.length := by
  rw [List.take_succ_eq_append_getElem h, cntR_app]
  simp [cntR, List.getD, h]; omega
end Go.Proofs.YtpghccbknlokcaaDoor.RecsTy
