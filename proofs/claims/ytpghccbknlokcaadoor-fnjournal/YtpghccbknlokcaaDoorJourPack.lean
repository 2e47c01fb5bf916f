/-
  COMPACTING: what a list of records packs to; the contract of the model's CompactTo over this seat's translation.
-/
import Derived.Test.YtpghccbknlokcaaDoorJourAdd
import Derived.Test.YtpghccbknlokcaaDoorRecsArg
namespace Go.Proofs.YtpghccbknlokcaaDoor.Jour
open Go.ChangeShapes Go.WideShapes Go.ChangeAt Go.RowKit
open Go.Proofs.YtpghccbknlokcaaDoor.Bytes Go.Proofs.YtpghccbknlokcaaDoor.LK
open Go.Proofs.YtpghccbknlokcaaDoor.Rec (RList IsRecs recB frameV frameT frame_t frame_f frame_len frame_in)
open Go.Proofs.YtpghccbknlokcaaDoor.RecsTy (sty cntR)
set_option linter.unusedVariables false
set_option linter.unusedSimpArgs false

def packV (acc : List Int) : RList → Option (List Int)
  | [] => some acc
  | r :: rs => if recB r.1 r.2 && decide (acc.length + (frameV r.1 r.2).length ≤ 3000) then packV (acc ++ frameV r.1 r.2) rs else none
def compB (d : JD) (rs : RList) : Bool := jok d && (packV [] rs).isSome
def compD (d : JD) (rs : RList) : JD := if jok d then (match packV [] rs with | some bs => (bs, [], 0) | none => d) else d
theorem comp_1 {d : JD} {rs : RList} (h : jok d = false) : compB d rs = false ∧ compD d rs = d := by simp [compB, compD, h]
theorem comp_2 {d : JD} {rs : RList} (h : packV [] rs = none) : compB d rs = false ∧ compD d rs = d := by
  refine ⟨by simp [compB, h], ?_⟩
  unfold compD
  rw [h]
  split <;> rfl
theorem comp_3 {d : JD} {rs : RList} {bs : List Int} (h : jok d = true) (h2 : packV [] rs = some bs) : compB d rs = true ∧ compD d rs = (bs, [], 0) := by
  refine ⟨by simp [compB, h, h2], ?_⟩
  unfold compD
  rw [h, h2]
  rfl
theorem pack_at {rs : RList} {j : Nat} (acc : List Int) (h : j < rs.length) {kd : Int} {zs : List Int} (e : (kd, zs) = rs.getD j (0, [])) :
    packV acc (rs.drop j) = if recB kd zs && decide (acc.length + (frameV kd zs).length ≤ 3000) then packV (acc ++ frameV kd zs) (rs.drop (j + 1)) else none := by
  have e2 : rs[j] = (kd, zs) := by rw [e]; simp [List.getD, h]
  rw [List.drop_eq_getElem_cons h, e2]
  rfl
theorem pack_len {rs : RList} : ∀ {acc bs : List Int}, packV acc rs = some bs → acc.length ≤ 3000 → bs.length ≤ 3000 := by
  induction rs with
  | nil => intro acc bs h h0; simp only [packV] at h; injection h with h; subst h; exact h0
  | cons r rs ih =>
    intro acc bs h h0
    simp only [packV] at h
    split at h
    · rename_i hc
      simp only [Bool.and_eq_true, decide_eq_true_eq] at hc
      exact ih h (by rw [List.length_append]; exact hc.2)
    · cases h
theorem few_comp {d : JD} {rs : RList} (h : jty.Few d) : jty.Few (compD d rs) := by
  cases hj : jok d
  · rw [(comp_1 hj).2]; exact h
  · cases hp : packV [] rs with
    | none => rw [(comp_2 hp).2]; exact h
    | some bs =>
      rw [(comp_3 hj hp).2]
      have := pack_len hp (by simp)
      show bs.length + ([] : List Int).length ≤ 1048576
      simp; omega

/-- The model's journal amid its making. -/
structure Pk (w wr : World) (bx : Obj) (ob tb : Nat) (A : Option Addr) (n c : Nat) (acc : List Int) : Prop where
  k0 : wr.heap[w.heap.size]? = some bx
  k1 : wr.heap[w.heap.size + 1]? = some (.cells #[.slice none 0 0, .slice none 0 0, .int .i64 0] 25)
  kb : wr.heap[ob]? = some (.cells #[.slice A n c, .slice (some ⟨tb, 0, none⟩) 0 0, .int .i64 0] 25)
  own : OwnB wr (w.heap.size + 1 + 1) A n c acc
  tl : OwnB wr (w.heap.size + 1 + 1) (some ⟨tb, 0, none⟩) 0 0 []
  ap : ∀ k, (Value.slice A n c).ownBlock = some k → k ≠ tb
  hob : w.heap.size + 1 + 1 ≤ ob
  be : Below w.heap.size w wr
theorem Pk.below {w wr w' : World} {bx : Obj} {ob tb : Nat} {A : Option Addr} {n c : Nat} {acc : List Int} (h : Pk w wr bx ob tb A n c acc) (hb : Below wr.heap.size wr w') : Pk w w' bx ob tb A n c acc :=
  ⟨box_below h.k0 hb, box_below h.k1 hb, box_below h.kb hb, h.own.below hb, h.tl.below hb, h.ap, h.hob, bel_then h.be hb h.be.size⟩
theorem Pk.push {w wr w' : World} {bx : Obj} {ob tb g cap : Nat} {A : Option Addr} {n c : Nat} {acc : List Int} {z : Int} (h : Pk w wr bx ob tb A n c acc) (hz : 0 ≤ z ∧ z < 256)
    (hown : w'.ownsRow (w.heap.size + 1 + 1) 5 1 (.slice (some ⟨g, 0, none⟩) (n + 1) cap) (n + 1) (acc.map (Value.int .u8) ++ [.int .u8 z])) (hgr : wr.grownBy w' (Value.slice A n c).ownBlock) (hat : (Value.slice A n c).ownBlock = some g ∨ g = wr.heap.size) :
    w'.heap[ob]? = some (.cells #[.slice A n c, .slice (some ⟨tb, 0, none⟩) 0 0, .int .i64 0] 25) ∧ Pk w (w'.setCell ⟨ob, 0, none⟩ (.slice (some ⟨g, 0, none⟩) (n + 1) cap)) bx ob tb (some ⟨g, 0, none⟩) (n + 1) cap (acc ++ [z]) := by
  have hq : ∀ q, (Value.slice A n c).ownBlock = some q → w.heap.size + 1 + 1 ≤ q ∧ q ≠ ob ∧ q < wr.heap.size := fun q hq => ⟨(h.own.lt q hq).1, fun e => by subst e; exact row_not h.own hq (by decide) h.kb, (h.own.lt q hq).2⟩
  have htb : tb < wr.heap.size ∧ tb ≠ ob := ⟨(h.tl.lt tb rfl).2, fun e => by subst e; exact row_not h.tl rfl (by decide) h.kb⟩
  have hol := box_lt h.kb
  have hgo : g ≠ ob := by
    rcases hat with e | e
    · exact (hq g e).2.1
    · omega
  have hbx : w'.heap[ob]? = some (.cells #[.slice A n c, .slice (some ⟨tb, 0, none⟩) 0 0, .int .i64 0] 25) := (hgr.block ob hol (fun e => (hq ob e.symm).2.1 rfl)).trans h.kb
  have hob := h.hob
  have ho5 : OwnB w' (w.heap.size + 1 + 1) (some ⟨g, 0, none⟩) (n + 1) cap (acc ++ [z]) := by
    refine ⟨by rw [List.length_append, h.own.1]; rfl, fun y hy => ?_, by rw [List.map_append]; exact hown⟩
    rcases List.mem_append.1 hy with h5 | h5
    · exact h.own.2.1 y h5
    · obtain rfl : y = z := by simpa using h5
      exact hz
  refine ⟨hbx, box_other ((hgr.block _ (box_lt h.k0) (fun e => by have := (hq _ e.symm).1; omega)).trans h.k0) _ _ (by show w.heap.size ≠ ob; omega), box_other ((hgr.block _ (box_lt h.k1) (fun e => by have := (hq _ e.symm).1; omega)).trans h.k1) _ _ (by show w.heap.size + 1 ≠ ob; omega), box_set (i := 0) hbx _, ?_, ?_, ?_, h.hob, (h.be.grown hgr h.be.size (fun q e => by have := (hq q e).1; omega)).setCell (p := ⟨ob, 0, none⟩) (by show w.heap.size ≤ ob; omega) _⟩
  · refine own_same ho5 (fun k hk => Below.heap_setCell _ _ _ _ ?_)
    have e5 : g = k := by simpa [Value.ownBlock] using hk
    subst e5
    exact hgo
  · refine own_same h.tl (fun k hk => ?_)
    have e5 : tb = k := by simpa [Value.ownBlock] using hk
    subst e5
    exact (Below.heap_setCell _ _ _ _ (by show tb ≠ ob; exact htb.2)).trans (hgr.block tb htb.1 (fun e => h.ap tb e.symm rfl))
  · intro k hk
    have e5 : g = k := by simpa [Value.ownBlock] using hk
    subst e5
    rcases hat with e | e
    · exact h.ap g e
    · omega
/-- The journal is answered. -/
theorem Pk.done {w wr : World} {bx : Obj} {ob tb : Nat} {A : Option Addr} {n c : Nat} {acc : List Int} (h : Pk w wr bx ob tb A n c acc) : Has jty wr (w.heap.size + 1 + 1) wr.heap.size (fun k => w.heap.size + 1 + 1 ≤ k ∧ k < wr.heap.size) (.agg #[.slice A n c, .slice (some ⟨tb, 0, none⟩) 0 0, .int .i64 0]) (acc, [], 0) := by
  obtain rfl : acc.length = n := h.own.1
  refine ⟨⟨A, c, some ⟨tb, 0, none⟩, 0, rfl, own_zero h.own, own_zero h.tl, fun k hk => h.own.lt k hk, fun k hk => h.tl.lt k hk, fun k hk e => ?_⟩, fun k hk => hk, Nat.le_refl _⟩
  have e5 : tb = k := by simpa [Value.ownBlock] using e
  exact h.ap k hk e5.symm
theorem news_one (w : World) (x : Value) (t : TypeId) : ∀ j u, [x][j]? = some u → (w.alloc (.cells #[x] t)).cell? ((⟨w.heap.size, 0, none⟩ : Addr).add j) = some u := lit_news (by simp [go_sem])

end Go.Proofs.YtpghccbknlokcaaDoor.Jour
