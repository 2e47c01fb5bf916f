/-
  FLEETS AS LISTS OF PODS: rising lists, putting a pod in, the list as the datum of a map by number; what is ok.
-/
import Derived.Test.YtlghdmakaocokaaGreatDoorPods
import Derived.Maps.Ext
import Derived.Lib.SlKeysI
namespace Go.Proofs.YtlghdmakaocokaaGreatDoor.FleetV
open Go.Proofs.YtlghdmakaocokaaGreatDoor.Pods
set_option linter.unusedVariables false

/-- The pods stand by Id, no two the same. -/
def Asc (ps : PList) : Prop := ps.Pairwise fun p q => p.1 < q.1
instance (ps : PList) : Decidable (Asc ps) := by unfold Asc; infer_instance
def ins (p : Pd) : PList → PList
  | [] => [p]
  | q :: r => if p.1 < q.1 then p :: q :: r else q :: ins p r
def offP (k : Int) (ps : PList) : PList := ps.filter fun q => decide (q.1 ≠ k)
def insP (p : Pd) (ps : PList) : PList := ins p (offP p.1 ps)
def buildP (ps : PList) : PList := ps.foldl (fun m p => insP p m) []
theorem asc_nil : Asc [] := List.Pairwise.nil
theorem asc_cons {p : Pd} {ps : PList} : Asc (p :: ps) ↔ (∀ q ∈ ps, p.1 < q.1) ∧ Asc ps := List.pairwise_cons
theorem mem_ins {p q : Pd} {ps : PList} : q ∈ ins p ps ↔ q = p ∨ q ∈ ps := by
  induction ps with
  | nil => simp [ins]
  | cons a l ih =>
    unfold ins
    split
    · simp
    · simp [ih]; grind
theorem mem_off {k : Int} {q : Pd} {ps : PList} : q ∈ offP k ps ↔ q ∈ ps ∧ q.1 ≠ k := by simp [offP]
theorem asc_off {k : Int} {ps : PList} (h : Asc ps) : Asc (offP k ps) := List.Pairwise.filter _ h
theorem asc_ins {p : Pd} {ps : PList} (h : Asc ps) (hp : ∀ q ∈ ps, q.1 ≠ p.1) : Asc (ins p ps) := by
  induction ps with
  | nil => simp [ins, Asc]
  | cons a l ih =>
    obtain ⟨h1, h2⟩ := asc_cons.1 h
    unfold ins
    split
    · rename_i hlt
      refine asc_cons.2 ⟨fun q hq => ?_, h⟩
      rcases List.mem_cons.1 hq with rfl | hq
      · exact hlt
      · have := h1 q hq; omega
    · rename_i hlt
      refine asc_cons.2 ⟨fun q hq => ?_, ih h2 (fun q hq => hp q (by simp [hq]))⟩
      have := hp a (by simp)
      rcases mem_ins.1 hq with rfl | hq
      · omega
      · exact h1 q hq
theorem asc_insP {p : Pd} {ps : PList} (h : Asc ps) : Asc (insP p ps) := asc_ins (asc_off h) (fun q hq => (mem_off.1 hq).2)
theorem asc_fold {ps : PList} : ∀ {m : PList}, Asc m → Asc (ps.foldl (fun m p => insP p m) m) := by
  induction ps with
  | nil => intro m h; exact h
  | cons p ps ih => intro m h; exact ih (asc_insP h)
theorem asc_build (ps : PList) : Asc (buildP ps) := asc_fold asc_nil
theorem off_id {k : Int} {ps : PList} (h : ∀ q ∈ ps, q.1 ≠ k) : offP k ps = ps := by
  unfold offP
  rw [List.filter_eq_self]
  intro q hq
  simpa using h q hq
theorem ins_last {p : Pd} {ps : PList} (h : ∀ q ∈ ps, q.1 < p.1) : ins p ps = ps ++ [p] := by
  induction ps with
  | nil => rfl
  | cons a l ih =>
    have := h a (by simp)
    unfold ins
    rw [if_neg (by omega), ih (fun q hq => h q (by simp [hq]))]
    rfl
theorem insP_last {p : Pd} {ps : PList} (h : ∀ q ∈ ps, q.1 < p.1) : insP p ps = ps ++ [p] := by
  unfold insP
  rw [off_id (fun q hq => by have := h q hq; omega), ins_last h]
theorem fold_asc {ps : PList} : ∀ {m : PList}, Asc ps → (∀ q ∈ m, ∀ p ∈ ps, q.1 < p.1) → ps.foldl (fun m p => insP p m) m = m ++ ps := by
  induction ps with
  | nil => intro m _ _; simp
  | cons p ps ih =>
    intro m h hm
    obtain ⟨h1, h2⟩ := asc_cons.1 h
    rw [List.foldl_cons, insP_last (fun q hq => hm q hq p (by simp)), ih h2 ?_]
    · simp
    · intro q hq r hr
      rcases List.mem_append.1 hq with hq | hq
      · exact hm q hq r (by simp [hr])
      · obtain rfl : q = p := by simpa using hq
        exact h1 r hr
theorem build_asc {ps : PList} (h : Asc ps) : buildP ps = ps := by
  unfold buildP
  rw [fold_asc h (by simp)]
  rfl
theorem build_iff (ps : PList) : buildP ps = ps ↔ Asc ps := ⟨fun h => h ▸ asc_build ps, build_asc⟩
theorem build_take (ps : PList) (k : Nat) (h : k < ps.length) : buildP (ps.take (k + 1)) = insP (ps.getD k z5) (buildP (ps.take k)) := by
  have e : ps.getD k z5 = ps[k] := by simp [List.getD, h]
  unfold buildP
  rw [List.take_succ_eq_append_getElem h, List.foldl_append, e]
  rfl
theorem len_ins (p : Pd) (ps : PList) : (ins p ps).length = ps.length + 1 := by
  induction ps with
  | nil => rfl
  | cons a l ih => unfold ins; split <;> simp [ih]
theorem len_off (k : Int) (ps : PList) : (offP k ps).length ≤ ps.length := List.length_filter_le _ _
theorem len_insP (p : Pd) (ps : PList) : (insP p ps).length ≤ ps.length + 1 := by
  unfold insP
  have := len_off p.1 ps
  rw [len_ins]
  omega
theorem len_build (ps : PList) (k : Nat) : (buildP (ps.take k)).length ≤ k := by
  induction k with
  | zero => simp [buildP]
  | succ k ih =>
    by_cases h : k < ps.length
    · rw [build_take ps k h]
      have := len_insP (ps.getD k z5) (buildP (ps.take k))
      omega
    · have e : ps.take (k + 1) = ps.take k := by rw [List.take_of_length_le (by omega), List.take_of_length_le (by omega)]
      rw [e]
      omega
theorem mem_build {ps : PList} {p : Pd} (h : p ∈ buildP ps) : p ∈ ps := by
  have gen : ∀ (l m : PList), p ∈ l.foldl (fun m p => insP p m) m → p ∈ m ∨ p ∈ l := by
    intro l
    induction l with
    | nil => intro m h; exact .inl h
    | cons a l ih =>
      intro m h
      rcases ih _ h with h | h
      · rcases mem_ins.1 h with rfl | h
        · exact .inr (by simp)
        · exact .inl (mem_off.1 h).1
      · exact .inr (by simp [h])
  rcases gen ps [] h with h | h
  · simp at h
  · exact h
/-- A pod is put in the place of the one of its number. -/
def setP (p : Pd) (ps : PList) : PList := ps.map fun q => if q.1 = p.1 then p else q
theorem ins_first {p : Pd} {ps : PList} (h : ∀ q ∈ ps, p.1 < q.1) : ins p ps = p :: ps := by
  cases ps with
  | nil => rfl
  | cons a l => unfold ins; rw [if_pos (h a (by simp))]
theorem setP_none {p : Pd} {ps : PList} (h : ∀ q ∈ ps, q.1 ≠ p.1) : setP p ps = ps := by
  unfold setP
  rw [List.map_congr_left (g := id) (fun q hq => by rw [if_neg (h q hq)]; rfl)]
  simp
theorem insP_set {p q : Pd} {ps : PList} (h : Asc ps) (hq : q ∈ ps) (he : q.1 = p.1) : insP p ps = setP p ps := by
  induction ps with
  | nil => simp at hq
  | cons a l ih =>
    obtain ⟨h1, h2⟩ := asc_cons.1 h
    by_cases ha : a.1 = p.1
    · have hl : ∀ q ∈ l, q.1 ≠ p.1 := fun q hq => by have := h1 q hq; omega
      have e : offP p.1 (a :: l) = l := by
        have := off_id hl
        unfold offP at this ⊢
        rw [List.filter_cons_of_neg (by simpa using ha)]
        exact this
      unfold insP
      rw [e, ins_first (fun q hq => by have := h1 q hq; omega)]
      have := setP_none hl
      unfold setP at this ⊢
      rw [List.map_cons, if_pos ha, this]
    · have hq' : q ∈ l := by
        rcases List.mem_cons.1 hq with rfl | hq
        · exact absurd he ha
        · exact hq
      have hlt := h1 q hq'
      have := ih h2 hq'
      unfold insP setP at this ⊢
      have e : offP p.1 (a :: l) = a :: offP p.1 l := by
        unfold offP
        rw [List.filter_cons_of_pos (by simpa using ha)]
      rw [e]
      have e2 : ins p (a :: offP p.1 l) = a :: ins p (offP p.1 l) := by
        conv => lhs; unfold ins
        rw [if_neg (by omega)]
      rw [e2, this, List.map_cons, if_neg ha]
theorem len_setP (p : Pd) (ps : PList) : (setP p ps).length = ps.length := by simp [setP]
theorem asc_setP {p : Pd} {ps : PList} (h : Asc ps) : Asc (setP p ps) := by
  unfold setP Asc
  rw [List.pairwise_map]
  refine h.imp ?_
  intro a b hab
  split <;> split <;> rename_i h1 h2 <;> omega
theorem mem_setP {p q : Pd} {ps : PList} (h : q ∈ setP p ps) : q = p ∨ q ∈ ps := by
  obtain ⟨r, hr, rfl⟩ := List.mem_map.1 h
  split
  · exact .inl rfl
  · exact .inr hr

/-- The pod of that number. -/
def fndP (ps : PList) (k : Int) : Option Pd := ps.find? fun p => decide (p.1 = k)
theorem fnd_mem {ps : PList} {k : Int} {p : Pd} (h : fndP ps k = some p) : p ∈ ps ∧ p.1 = k := by
  refine ⟨List.mem_of_find?_eq_some h, ?_⟩
  have := List.find?_some h
  simpa using this
theorem fnd_none {ps : PList} {k : Int} (h : fndP ps k = none) : ∀ p ∈ ps, p.1 ≠ k := by
  intro p hp
  have := List.find?_eq_none.1 h p hp
  simpa using this
theorem asc_inj {ps : PList} {p q : Pd} (h : Asc ps) (hp : p ∈ ps) (hq : q ∈ ps) (he : p.1 = q.1) : p = q := by
  induction ps with
  | nil => simp at hp
  | cons a l ih =>
    obtain ⟨h1, h2⟩ := asc_cons.1 h
    rcases List.mem_cons.1 hp with ep | hp' <;> rcases List.mem_cons.1 hq with eq | hq'
    · rw [ep, eq]
    · subst ep; have := h1 q hq'; omega
    · subst eq; have := h1 p hp'; omega
    · exact ih h2 hp' hq'
theorem fnd_of {ps : PList} {p : Pd} (h : Asc ps) (hp : p ∈ ps) : fndP ps p.1 = some p := by
  cases e : fndP ps p.1 with
  | none => exact absurd rfl (fnd_none e p hp)
  | some q =>
    obtain ⟨h1, h2⟩ := fnd_mem e
    rw [asc_inj h h1 hp h2]

/-! the list as the datum of a map -/
def ent (p : Pd) : Lit × DataW Value := (.int .i64 p.1, .held (podV p))
def mapOf (ps : PList) : DataW Value := .map (ps.map ent)
def rdP : Value → Option (DataW Value × List MemPlace) := fun v => some (.held v, [])
theorem same_int (a b : Int) : (Lit.int .i64 a).sameKey (.int .i64 b) = decide (a = b) := by simp [Lit.sameKey]
theorem ent_same (p : Pd) (k : Int) : (ent p).1.sameKey (.int .i64 k) = decide (p.1 = k) := same_int _ _
theorem map_off (ps : PList) (k : Int) : (ps.map ent).filter (fun e => !e.1.sameKey (.int .i64 k)) = (offP k ps).map ent := by
  unfold offP
  rw [List.filter_map]
  congr 1
  apply List.filter_congr
  intro p _
  simp [ent_same]
theorem map_ins (p : Pd) (ps : PList) : DataW.insert (ent p) (ps.map ent) = (ins p ps).map ent := by
  induction ps with
  | nil => rfl
  | cons a l ih =>
    rw [List.map_cons]
    unfold DataW.insert ins
    have e : (ent p).1.before (ent a).1 = decide (p.1 < a.1) := rfl
    rw [e, ih]
    by_cases h : p.1 < a.1 <;> simp [h]
theorem map_put (ps : PList) (p : Pd) : (mapOf ps).put (.int .i64 p.1) (.held (podV p)) = mapOf (insP p ps) := by
  show DataW.map (DataW.insert (ent p) ((ps.map ent).filter (fun e => !e.1.sameKey (.int .i64 p.1)))) = _
  rw [map_off, map_ins]
  rfl
theorem map_del (ps : PList) (k : Int) : (mapOf ps).del (.int .i64 k) = mapOf (offP k ps) := by
  show DataW.map ((ps.map ent).filter (fun e => !e.1.sameKey (.int .i64 k))) = _
  rw [map_off]
  rfl
theorem map_find (ps : PList) (k : Int) : (ps.map ent).find? (fun e => e.1.sameKey (.int .i64 k)) = (fndP ps k).map ent := by
  unfold fndP
  rw [List.find?_map]
  congr 1
  congr 1
  funext p
  exact ent_same p k
theorem map_at (ps : PList) (k : Int) (z : DataW Value) : (mapOf ps).atKey (.int .i64 k) z = match fndP ps k with | some p => .held (podV p) | none => z := by
  unfold DataW.atKey mapOf
  simp only [map_find]
  cases fndP ps k <;> rfl
theorem map_has (ps : PList) (k : Int) : Maps.has (mapOf ps) (.int .i64 k) = (fndP ps k).isSome := by
  show (ps.map ent).any (fun e => e.1.sameKey (.int .i64 k)) = _
  rw [Bool.eq_iff_iff]
  simp [fndP, List.find?_isSome, ent_same]
theorem map_size (ps : PList) : Maps.size (mapOf ps) = ps.length := by simp [mapOf, Maps.size]
theorem podV_inj {p q : Pd} (h : podV p = podV q) : p = q := by
  obtain ⟨a, b, c, d, e⟩ := p
  obtain ⟨a', b', c', d', e'⟩ := q
  simp [podV, cells5] at h
  obtain ⟨rfl, rfl, rfl, rfl, rfl⟩ := h
  rfl

/-! what is ok -/
def PodOk (p : Pd) : Prop := (1 ≤ p.1 ∧ p.1 ≤ 1000000000) ∧ (1 ≤ p.2.1 ∧ p.2.1 ≤ 1000) ∧ (0 ≤ p.2.2.1 ∧ p.2.2.1 ≤ 4) ∧ (0 ≤ p.2.2.2.1 ∧ p.2.2.2.1 ≤ 1000000000) ∧ 0 ≤ p.2.2.2.2 ∧ p.2.2.2.2 ≤ 1000000000
instance (p : Pd) : Decidable (PodOk p) := by unfold PodOk; infer_instance
def FGood (ps : PList) (nx : Int) : Prop := ps.length ≤ 30 ∧ (1 ≤ nx ∧ nx ≤ 1000000000) ∧ (∀ p ∈ ps, PodOk p ∧ p.1 < nx) ∧ Asc ps
instance (ps : PList) (nx : Int) : Decidable (FGood ps nx) := by unfold FGood; infer_instance
def goodB (d : PList × Int) : Bool := decide (FGood d.1 d.2)
end Go.Proofs.YtlghdmakaocokaaGreatDoor.FleetV
