/-
  THE CONTRACT of the model's l01Parts (a text parted at each byte of one kind) over this seat's translation.
-/
import Derived.Test.YtfabioccnaooeaaDoorStr
import Derived.Test.YtfabioccnaooeaaDoorInts
import Derived.Deep.AppendLies
namespace Go.Proofs.YtfabioccnaooeaaDoor.Parts
open Go.ChangeShapes Go.WideShapes Go.ChangeAt Go.RowKit
open Go.Proofs.YtfabioccnaooeaaDoor.Str Go.Proofs.YtfabioccnaooeaaDoor.Ints
set_option linter.unusedVariables false

def splitG (b : UInt8) (cur : List UInt8) : List UInt8 → List (List UInt8)
  | [] => [cur]
  | c :: r => if c = b then cur :: splitG b [] r else splitG b (cur ++ [c]) r
def partsF (b : UInt8) (l : List UInt8) : List (List UInt8) := splitG b [] l
def strs (ps : List (List UInt8)) : List Value := ps.map fun p => .string (bstr p)

theorem split_len (b : UInt8) : ∀ (l cur : List UInt8), (splitG b cur l).length ≤ l.length + 1 ∧ 1 ≤ (splitG b cur l).length := by
  intro l
  induction l with
  | nil => intro cur; simp [splitG]
  | cons c r ih =>
    intro cur
    unfold splitG
    split
    · have := ih []; simp; omega
    · have := ih (cur ++ [c]); simp; omega
theorem split_part (b : UInt8) : ∀ (l cur p : List UInt8), p ∈ splitG b cur l → p.length ≤ cur.length + l.length := by
  intro l
  induction l with
  | nil => intro cur p h; simp [splitG] at h; simp [h]
  | cons c r ih =>
    intro cur p h
    unfold splitG at h
    split at h
    · rcases List.mem_cons.1 h with h | h
      · subst h; simp
      · have := ih [] p h; simp at this ⊢; omega
    · have := ih (cur ++ [c]) p h; simp at this ⊢; omega
theorem split_hit {b : UInt8} {l : List UInt8} {a k : Nat} (ha : a ≤ k) (h : l[k]? = some b) : splitG b ((l.take k).drop a) (l.drop k) = ((l.take k).drop a) :: splitG b ((l.take (k + 1)).drop (k + 1)) (l.drop (k + 1)) := by
  obtain ⟨hk, hc⟩ := List.getElem?_eq_some_iff.1 h
  rw [List.drop_eq_getElem_cons hk, splitG, if_pos hc]
  congr 2
  rw [List.drop_eq_nil_of_le (by simp; omega)]
theorem split_miss {b c : UInt8} {l : List UInt8} {a k : Nat} (ha : a ≤ k) (h : l[k]? = some c) (hne : ¬ c = b) : splitG b ((l.take k).drop a) (l.drop k) = splitG b ((l.take (k + 1)).drop a) (l.drop (k + 1)) := by
  obtain ⟨hk, hc⟩ := List.getElem?_eq_some_iff.1 h
  rw [List.drop_eq_getElem_cons hk, splitG, if_neg (by rw [hc]; exact hne)]
  congr 1
  rw [List.take_succ_eq_append_getElem hk, List.drop_append_of_le_length (by simp; omega)]
theorem split_end {b : UInt8} {l : List UInt8} {a : Nat} : splitG b ((l.take l.length).drop a) (l.drop l.length) = [l.drop a] := by
  rw [List.drop_length, List.take_length]; rfl

theorem strs_snoc (ps : List (List UInt8)) (q : List UInt8) : strs (ps ++ [q]) = strs ps ++ [.string (bstr q)] := by simp [strs]

theorem info9 : (Tryd.prog.info? 9).map (fun i => (i.zero, i.size, i.bytes)) = some (some (.string ⟨#[]⟩), 1, 16) := by kernel_rfl

def PartsSaid (b : UInt8) (l : List UInt8) (w : World) (e : Ending) (w' : World) : Prop :=
  ∃ g cap, e = .returned (.slice (some ⟨g, 0, none⟩) (partsF b l).length cap) ∧ w.heap.size ≤ g ∧ (∀ j p, (partsF b l)[j]? = some p → w'.cell? ⟨g, j, none⟩ = some (.string (bstr p))) ∧ Below w.heap.size w w'

set_option maxHeartbeats 1600000 in
theorem parts_any (b : UInt8) (l : List UInt8) (w : World) (hl : l.length ≤ 2000000) :
    Calls Tryd.prog 29 #[.string (bstr l), .int .u8 b.toNat] w (PartsSaid b l w) := by
  obtain ⟨i0, hi, hz0, hz1, hz2⟩ := info_parts info9
  have hsz := bstr_size l
  go_enter Tryd.func29, Tryd.ntmps29
  go_wp2_with fail
  have hown0 : (w.alloc (Obj.cells #[] 9)).ownsRow w.heap.size 9 1 (.slice (some ⟨w.heap.size, 0, none⟩) 0 0) 0 (strs []) := World.ownsRow_lit w #[] 0 (Nat.le_refl _) (by unfold maxLen; omega) rfl
  go_loopw [5, 6, 7] (fun o at_ i wr => ∃ (k a : Nat) (ps : List (List UInt8)) (v : Value), o = v ∧ at_ = .int .i64 a ∧ i = .int .i64 k ∧ k ≤ l.length + 1 ∧ a ≤ l.length + 1 ∧ ps.length ≤ k ∧ wr.ownsRow w.heap.size 9 1 v ps.length (strs ps) ∧ Below w.heap.size w wr ∧
      Hid ((k ≤ l.length ∧ a ≤ k ∧ ps ++ splitG b ((l.take k).drop a) (l.drop k) = partsF b l) ∨ (k = l.length + 1 ∧ ps = partsF b l))) (fun _ _ i _ => l.length + 1 - (intOf i).toNat)
  case atStart => exact ⟨0, 0, [], _, rfl, rfl, rfl, by omega, by omega, by simp, hown0, (Below.refl _ _).alloc (Nat.le_refl _) _, .inl ⟨by omega, by omega, by simp [partsF]⟩⟩
  case round =>
    obtain ⟨k, a, ps, v, rfl, rfl, rfl, hk, ha, hp, hown, hb, HI⟩ := hrel
    by_cases hk1 : k ≤ l.length
    · have HJ : Hid (a ≤ k ∧ ps ++ splitG b ((l.take k).drop a) (l.drop k) = partsF b l) := (by rcases HI.out with h | h; exact h.2; omega : a ≤ k ∧ ps ++ splitG b ((l.take k).drop a) (l.drop k) = partsF b l)
      have hak := HJ.out.1
      clear HI
      by_cases hke : k = l.length
      · have HE : Hid (k = l.length) := hke
        have hbe : ((k : Int) == (l.length : Int)) = true := by rw [beq_iff_eq]; omega
        clear hke
        have hcv := cut (P := Tryd.prog) 9 Tryd.underlying9 l a k (by omega) (by omega)
        have hpl := ps.length
        go_wp2_with (at_builtin; refine wpList_append_own _ rfl _ _ 45 rfl w.heap.size 9 i0 (.string ⟨#[]⟩) 1 16 Tryd.underlying45 hi hz0 hz1 hz2 rfl (by decide) _ _ _ rfl (hown.alloc _) ⟨wr.heap.size, 0, none⟩ 1 1 [.string (bstr ((l.take k).drop a))] rfl rfl ?ca1 ?ca2 ?ca3 ?ca4 ?ca5 ?_)
        case ca1 =>
          intro j u hj
          match j, hj with
          | 0, hj => simp at hj; subst hj; simp [Addr.add]
        case ca2 => intro u hu; simp at hu; subst hu; rfl
        case ca3 => unfold maxLen; omega
        case ca4 => omega
        case ca5 => have := hb.size; simp; omega
        intro v' w1 hown' hgrow _
        have hb1 : Below w.heap.size w w1 := (hb.alloc hb.size _).grown hgrow (by have := hb.size; simp; omega) (by
          intro g hg
          rcases hown.2 with ⟨rfl, _⟩ | ⟨g', cap', cur, rfl, hge, _⟩
          · simp [Value.ownBlock] at hg
          · simp [Value.ownBlock] at hg; omega)
        have HO : Hid (w1.ownsRow w.heap.size 9 1 v' (ps.length + 1) (strs (ps ++ [(l.take k).drop a]))) := (by rw [strs_snoc]; exact hown')
        clear hown' hgrow hown
        go_wp2
        go_roundw
        case rel =>
          refine ⟨k + 1, k + 1, ps ++ [(l.take k).drop a], v', rfl, by go_num, by go_num, by omega, by omega, by simp; omega, by simpa using HO.out, hb1, .inr ⟨by rw [HE.out], ?_⟩⟩
          have := HJ.out.2
          rw [HE.out, split_end] at this
          rw [← this, HE.out, List.take_length]
        case measure => simp [intOf]; omega
      · have hkl : k < l.length := by omega
        have hbe : ((k : Int) == (l.length : Int)) = false := by rw [beq_eq_false_iff_ne]; omega
        clear hke
        obtain ⟨c, hc⟩ : ∃ c, l[k]? = some c := ⟨_, List.getElem?_eq_getElem hkl⟩
        have hix := idx (P := Tryd.prog) 9 Tryd.underlying9 l k c hc
        have HC : Hid (l[k]? = some c) := hc
        clear hc
        by_cases hcb : c = b
        · subst hcb
          have hcv := cut (P := Tryd.prog) 9 Tryd.underlying9 l a k (by omega) (by omega)
          have hpl := ps.length
          go_wp2_with (at_builtin; refine wpList_append_own _ rfl _ _ 45 rfl w.heap.size 9 i0 (.string ⟨#[]⟩) 1 16 Tryd.underlying45 hi hz0 hz1 hz2 rfl (by decide) _ _ _ rfl (hown.alloc _) ⟨wr.heap.size, 0, none⟩ 1 1 [.string (bstr ((l.take k).drop a))] rfl rfl ?cb1 ?cb2 ?cb3 ?cb4 ?cb5 ?_)
          case cb1 =>
            intro j u hj
            match j, hj with
            | 0, hj => simp at hj; subst hj; simp [Addr.add]
          case cb2 => intro u hu; simp at hu; subst hu; rfl
          case cb3 => unfold maxLen; omega
          case cb4 => omega
          case cb5 => have := hb.size; simp; omega
          intro v' w1 hown' hgrow _
          have hb1 : Below w.heap.size w w1 := (hb.alloc hb.size _).grown hgrow (by have := hb.size; simp; omega) (by
            intro g hg
            rcases hown.2 with ⟨rfl, _⟩ | ⟨g', cap', cur, rfl, hge, _⟩
            · simp [Value.ownBlock] at hg
            · simp [Value.ownBlock] at hg; omega)
          have HO : Hid (w1.ownsRow w.heap.size 9 1 v' (ps.length + 1) (strs (ps ++ [(l.take k).drop a]))) := (by rw [strs_snoc]; exact hown')
          clear hown' hgrow hown
          go_wp2
          go_roundw
          case rel =>
            refine ⟨k + 1, k + 1, ps ++ [(l.take k).drop a], v', rfl, by go_num, by go_num, by omega, by omega, by simp; omega, by simpa using HO.out, hb1, .inl ⟨by omega, Nat.le_refl _, ?_⟩⟩
            rw [List.append_assoc, List.singleton_append, ← split_hit hak HC.out]
            exact HJ.out.2
          case measure => simp [intOf]; omega
        · have hne : ((c.toNat : Int) == (b.toNat : Int)) = false := by
            rw [beq_eq_false_iff_ne]
            intro h'
            exact hcb (UInt8.toNat_inj.1 (by omega))
          have HCB : Hid (¬ c = b) := hcb
          clear hcb
          go_wp2
          go_roundw
          case rel =>
            refine ⟨k + 1, a, ps, _, rfl, rfl, by go_num, by omega, by omega, by omega, hown, hb, .inl ⟨by omega, by omega, ?_⟩⟩
            rw [← split_miss hak HC.out HCB.out]
            exact HJ.out.2
          case measure => simp [intOf]; omega
    · have HE : Hid (k = l.length + 1 ∧ ps = partsF b l) := (by rcases HI.out with h | h; omega; exact h : k = l.length + 1 ∧ ps = partsF b l)
      clear HI
      go_wp2
      go_ret
      have hps := HE.out.2
      subst hps
      have hn : 0 < (partsF b l).length := (split_len b l []).2
      obtain ⟨g, cap, rfl, hge, hlt⟩ := hown.form hn
      exact ⟨g, cap, rfl, hge, fun j p hj => by
        have hjl : j < (partsF b l).length := (List.getElem?_eq_some_iff.1 hj).1
        rw [hown.cellAt j (by omega)]
        simp [strs, hj], hb⟩
end Go.Proofs.YtfabioccnaooeaaDoor.Parts
