/-
  THE PROGRAM's FILE AND BOOK: the contracts of slices.Clone at bytes, of the file's methods, of JournalOk, sameJournal, bookOf and the book's methods, over this seat's translation.
-/
import Derived.Test.YtpghccbknlokcaaDoorJourSpec
import Derived.Laws.CopyOwn
import Derived.Stop.IfaceNil
import Derived.Lib.SliceRun
namespace Go.Proofs.YtpghccbknlokcaaDoor.Jour
open Go.ChangeShapes Go.WideShapes Go.ChangeAt Go.RowKit
open Go.Proofs.YtpghccbknlokcaaDoor.Bytes Go.Proofs.YtpghccbknlokcaaDoor.LK
open Go.Proofs.YtpghccbknlokcaaDoor.Tick (inB in_t in_f l01In_any)
set_option linter.unusedVariables false
set_option linter.unusedSimpArgs false

set_option maxHeartbeats 1600000 in
theorem journalOk_any (w : World) (B : Nat) (v : Value) (d : JD) (hr : JRd w B v d) (hf : jty.Few d) :
    Calls Tryd.prog 31 #[v] w (Says (.bool (jok d)) w) := by
  obtain ⟨x, y, s⟩ := d
  obtain ⟨A1, c1, A2, c2, rfl, _, _⟩ := hr
  have hf : x.length + y.length ≤ 1048576 := hf
  show Calls Tryd.prog 31 #[.agg #[.slice A1 x.length c1, .slice A2 y.length c2, .int .i64 s]] w (Says (.bool (decide ((x.length : Int) ≤ 3000) && decide ((y.length : Int) ≤ 3000) && (decide (0 ≤ s) && decide (s ≤ (y.length : Int))))) w)
  generalize x.length = m at hf ⊢
  generalize y.length = n at hf ⊢
  cases h1 : decide ((m : Int) ≤ 3000) <;> cases h2 : decide ((n : Int) ≤ 3000) <;> cases h3 : decide (0 ≤ s) <;> cases h4 : decide (s ≤ (n : Int))
  all_goals
    go_enter Tryd.func31, Tryd.ntmps31
    go_wp2
    go_ret
    exact ⟨rfl, bel1 _ _⟩

theorem bytes_news {w : World} {B : Nat} {p : Addr} {n : Nat} {bs : List Int} (h : IsBytes w B (some p) n bs) : ∀ j u, (bs.map (Value.int .u8))[j]? = some u → w.cell? (p.add j) = some u := by
  intro j u hu
  have hl : j < (bs.map (Value.int .u8)).length := (List.getElem?_eq_some_iff.1 hu).1
  simp only [List.length_map] at hl
  rw [h.1] at hl
  obtain ⟨b, off, e, _, hc⟩ := h.2.2 (by omega)
  injection e with e
  subst e
  have he : (⟨b, off, none⟩ : Addr).add j = ⟨b, off + j, none⟩ := by
    unfold Addr.add
    split
    · subst_vars; rfl
    · rfl
  rw [he, hc j hl]
  have hl2 : j < bs.length := by rw [h.1]; exact hl
  simp [hl2] at hu
  simp [List.getD, hl2, hu]
theorem bytes_one (bs : List Int) : ∀ u ∈ bs.map (Value.int .u8), u.oneCell' = true := by
  intro u hu
  obtain ⟨t, _, rfl⟩ := List.mem_map.1 hu
  rfl
theorem own_slice' {w : World} {base : Nat} {e : TypeId} {size : Nat} {v : Value} {n : Nat} {xs : List Value} (h : w.ownsRow base e size v n xs) : ∃ A c, v = .slice A n c := by
  rcases h.2 with ⟨rfl, rfl⟩ | ⟨g, cap, cur, rfl, _⟩
  · exact ⟨none, 0, rfl⟩
  · exact ⟨_, cap, rfl⟩

set_option maxRecDepth 100000 in
set_option maxHeartbeats 800000 in
theorem cloneB_any (A : Option Addr) (n c : Nat) (bs : List Int) (B : Nat) (w : World) (hr : IsBytes w B A n bs) (hB : B ≤ w.heap.size) (hn : n ≤ 1048576) :
    Calls Tryd.prog 44 #[.slice A n c] w (AnsB w bs) := by
  have hq : ∀ (w : World) (a : Option Addr) (n c n' c' : Nat), (binOp .eql 22 (.slice a n c) (.slice none n' c')).run Tryd.prog w = .ok (.bool a.isNone) w := fun w a n c n' c' => Lib.run_eql_slice_nil w _ _ a n c n' c' Tryd.underlying22
  have HLen : Hid (bs.length = n) := hr.1
  have HBY := Lib.hid hr.2.1
  cases A with
  | none =>
    have hn0 : n = 0 := by
      rcases Nat.eq_zero_or_pos n with h | h
      · exact h
      · obtain ⟨b, off, e, _⟩ := hr.2.2 h; cases e
    have HN := Lib.hid hn0
    clear hn0 hr
    go_enter Tryd.func44, Tryd.ntmps44
    go_wp2
    go_ret
    have ht : bs = [] := List.eq_nil_of_length_eq_zero (by rw [HLen.out]; exact HN.out)
    subst ht
    exact ⟨none, 0, 0, rfl, own_nil _ _, Below.refl _ _⟩
  | some p =>
    obtain ⟨i0, hi0, hz0, hz1, hz2⟩ := info_parts infoByte
    have HC := Lib.hid (bytes_news (hr.below (bel1 w (.cells #[] 5)) hB))
    clear hr
    go_enter Tryd.func44, Tryd.ntmps44
    go_wp2_with (at_builtin; refine wpList_append_own _ rfl (.tmp 5) (.tmp 6) _ rfl w.heap.size 5 i0 _ 1 1 Tryd.underlying22 hi0 hz0 hz1 hz2 rfl (by omega) (.slice (some ⟨w.heap.size, 0, none⟩) 0 0) 0 [] rfl ?o1 p n c (bs.map (Value.int .u8)) rfl ?o0 ?o2 ?o3 ?o4 ?o5 ?o6 ?_)
    case o1 => exact World.ownsRow_lit (base := w.heap.size) (e := 5) (size := 1) w #[] 0 (Nat.le_refl _) (Nat.zero_le _) rfl
    case o0 => rw [List.length_map, HLen.out, Nat.mul_one]
    case o2 => exact HC.out
    case o3 => exact bytes_one bs
    case o4 => unfold maxLen; omega
    case o5 => omega
    case o6 => simp
    intro v2 w2 hown2 hgr2 _
    obtain ⟨A', c', rfl⟩ := own_slice' hown2
    have HO := Lib.hid hown2
    have hb2 : Below w.heap.size w w2 := (bel1 w _).grown hgr2 (by simp) (fun q hq => Nat.le_of_eq (by simpa [Value.ownBlock] using hq))
    clear hown2 hgr2
    go_wp2
    go_ret
    refine ⟨A', _, c', rfl, ⟨?_, HBY.out, ?_⟩, hb2⟩
    · exact HLen.out
    · have h5 := HO.out
      simpa using h5

/-- The file at pf. -/
abbrev fileO (A : Option Addr) (n c : Nat) (s : Int) : Obj := .cells #[.slice A n c, .int .i64 s] 73
abbrev fp (pf : Nat) : Value := .pointer (some ⟨pf, 0, none⟩)

section
variable (pf : Nat) (A : Option Addr) (n c : Nat) (s : Int) (w : World) (h : w.heap[pf]? = some (fileO A n c s))
include h
theorem held_any : Calls Tryd.prog 83 #[fp pf] w fun e w' => e = .returned (.slice A n c) ∧ w' = w := by
  obtain ⟨c0, c1, f0, f1⟩ := box2 h
  clear h
  go_enter Tryd.func83, Tryd.ntmps83
  go_wp2
  go_ret
  exact ⟨rfl, rfl⟩
theorem synced_any : Calls Tryd.prog 86 #[fp pf] w fun e w' => e = .returned (.int .i64 s) ∧ w' = w := by
  obtain ⟨c0, c1, f0, f1⟩ := box2 h
  clear h
  go_enter Tryd.func86, Tryd.ntmps86
  go_wp2
  go_ret
  exact ⟨rfl, rfl⟩
theorem room_any (hn : n ≤ 1048576) : Calls Tryd.prog 84 #[fp pf] w fun e w' => e = .returned (.int .i64 (3000 - n)) ∧ w' = w := by
  obtain ⟨c0, c1, f0, f1⟩ := box2 h
  clear h
  go_enter Tryd.func84, Tryd.ntmps84
  go_wp2
  go_ret
  exact ⟨rfl, rfl⟩
theorem sync_any (hn : n ≤ 1048576) : Calls Tryd.prog 85 #[fp pf] w fun e w' => e = .returned (.tuple #[]) ∧ w' = w.setCell ⟨pf, 1, none⟩ (.int .i64 n) := by
  obtain ⟨c0, c1, f0, f1⟩ := box2 h
  clear h
  go_enter Tryd.func85, Tryd.ntmps85
  go_wp2
  go_end0
  exact ⟨rfl, rfl⟩
end

/-- What a cut leaves. -/
def CutTo (w : World) (pf q : Nat) (bs : List Int) (e : Ending) (w' : World) : Prop :=
  ∃ A', e = .returned (.tuple #[]) ∧ w'.heap[pf]? = some (fileO A' q q q) ∧ OwnB w' w.heap.size A' q q (bs.take q) ∧ Turned (fun k => k = pf) w w'

set_option maxRecDepth 100000 in
set_option maxHeartbeats 1600000 in
theorem cut_any (pf : Nat) (A : Option Addr) (n c : Nat) (s : Int) (bs : List Int) (B q : Nat) (w : World) (h : w.heap[pf]? = some (fileO A n c s)) (hr : IsBytes w B A n bs) (hB : B ≤ w.heap.size) (hn : n ≤ 1048576) (hq : q ≤ n) :
    Calls Tryd.prog 82 #[fp pf, .int .i64 q] w (CutTo w pf q bs) := by
  obtain ⟨i0, hi, hz0, hz1, hz2⟩ := info_parts infoByte
  have HLen : Hid (bs.length = n) := hr.1
  have HBY := Lib.hid hr.2.1
  have HR := Lib.hid hr
  have hlt := box_lt h
  have H := Lib.hid h
  obtain ⟨c0, c1, f0, f1⟩ := box2 h
  clear h hr
  go_enter Tryd.func82, Tryd.ntmps82
  go_wp2_with (at_make; refine wpList_make_full _ rfl _ _ 22 rfl w.heap.size 5 i0 (.int .u8 0) 1 Tryd.underlying22 hi hz0 hz1 _ _ _ _ q rfl rfl rfl rfl ?b1 ?b2 ?b3 ?_)
  case b1 => rw [hz2]; omega
  case b2 => unfold maxLen; omega
  case b3 => exact Nat.le_refl _
  intro w1 hown hgrow
  have hbel : Below w.heap.size w w1 := (Below.refl _ _).grown hgrow (Nat.le_refl _) (by intro k h; cases h)
  have H1 := Lib.hid (box_below H.out hbel)
  obtain ⟨d0, d1, g0, g1⟩ := box2 H1.out
  obtain ⟨T, hT⟩ : ∃ T, T = (bs.take q).map (Value.int .u8) := ⟨_, rfl⟩
  have hTl : T.length = q := by rw [hT, List.length_map, List.length_take, HLen.out]; omega
  have HT := Lib.hid hT
  have hheap : w1.heap[w.heap.size]? = some (.cells (List.replicate q (Value.int .u8 0)).toArray 5 (0, 0)) := by
    rcases hown.2 with ⟨e, _⟩ | ⟨g, cap, cur, e, _, h6, h7, h8, h9, h10⟩
    · cases e
    · injection e with e1 e2 e3
      injection e1 with e1
      injection e1 with e1
      subst e1 e3
      rw [h6]
      congr 2
      have h11 : cur.toList = List.replicate q (Value.int .u8 0) := by
        rw [toList_madeCells_one] at h10
        rw [← h10, List.take_of_length_le (by simp [h9])]
      rw [← h11]
  have HHP := Lib.hid hheap
  have hpos : 0 < T.length → some (⟨w.heap.size, 0, none⟩ : Addr) = some ⟨w.heap.size, 0, none⟩ ∧ ∃ ad, A = some ad ∧ ∀ j v, T[j]? = some v → w1.cell? (ad.add j) = some v := by
    intro hp
    obtain ⟨b, off, e, _, _⟩ := HR.out.2.2 (by omega)
    refine ⟨rfl, _, e, fun j v hv => ?_⟩
    have h1 := HR.out.below hbel hB
    rw [e] at h1
    refine bytes_news h1 j v ?_
    rw [hT, List.map_take, List.getElem?_take] at hv
    split at hv
    · exact hv
    · cases hv
  have HP := Lib.hid hpos
  have HTL := Lib.hid hTl
  have H1s : Hid (∀ u ∈ T, u.oneCell' = true) := by rw [hT]; exact bytes_one _
  have HBEL := Lib.hid hbel
  have hsz : (Tryd.prog.info? 5).map (·.size) = some 1 := by kernel_rfl
  have HSZ := Lib.hid hsz
  have hs1 : w.heap.size < w1.heap.size := box_lt hheap
  clear hpos hT hTl hheap hown hgrow hi hz0 hz1 hz2 hsz c0 c1 f0 f1
  go_wp2_with (refine wpList_copy_splice rfl (.tmp 7) (.tmp 11) 22 22 rfl 5 Tryd.underlying22 HSZ.out (some ⟨w.heap.size, 0, none⟩) A q q n c rfl rfl w.heap.size 0 (List.replicate q (.int .u8 0)) 5 (by exact HHP.out) T ?o1 ?o2 ?o3 (by exact H1s.out) w.heap.size w (by exact HBEL.out) (Nat.le_refl _) ?_)
  case o1 => rw [HTL.out]
  case o2 => exact fun h => by have h1 := HP.out h; simpa using h1
  case o3 => simp [HTL.out]
  intro w2 HG2 hb2
  have H2 := Lib.hid ((hb2.block pf hlt).trans H.out)
  have HB2 := Lib.hid hb2
  obtain ⟨k0, k1, l0, l1⟩ := box2 H2.out
  have hs2 : w.heap.size < w2.heap.size := box_lt HG2.out
  clear hb2 d0 d1 g0 g1
  go_wp2_with fail
  refine (sync_any pf (some ⟨w.heap.size, 0, none⟩) q q s _ (box_set (i := 0) H2.out _) (by omega)).mono ?_
  rintro e w3 ⟨rfl, rfl⟩
  go_wp2
  go_end0
  refine ⟨some ⟨w.heap.size, 0, none⟩, rfl, ?_, ?_, ?_⟩
  · exact box_set (i := 1) (box_set (i := 0) H2.out (.slice (some ⟨w.heap.size, 0, none⟩) q q)) (.int .i64 q)
  · have e1 : ((w2.setCell ⟨pf, 0, none⟩ (.slice (some ⟨w.heap.size, 0, none⟩) q q)).setCell ⟨pf, 1, none⟩ (.int .i64 q)).heap[w.heap.size]? = some (.cells (splice (List.replicate q (.int .u8 0)) 0 T).toArray 5 (0, 0)) :=
      box_other (box_other HG2.out ⟨pf, 0, none⟩ _ (by show w.heap.size ≠ pf; omega)) ⟨pf, 1, none⟩ _ (by show w.heap.size ≠ pf; omega)
    have e2 : splice (List.replicate q (Value.int .u8 0)) 0 T = T := by
      have := HTL.out
      simp [splice, this]
    rw [e2] at e1
    have hl := HTL.out
    refine ⟨by rw [List.length_take, HLen.out]; omega, fun u hu => HBY.out u (List.mem_of_mem_take hu), ?_⟩
    rw [← HT.out]
    refine ⟨by rw [hl]; omega, .inr ⟨w.heap.size, q, T.toArray, rfl, Nat.le_refl _, e1, Nat.le_refl _, by unfold maxLen; omega, by simp [hl], by rw [Nat.mul_one, List.take_of_length_le (by simp [hl])]⟩⟩
  · exact ((Turned.of_below HB2.out).trans (Turned.set (S := fun k => k = pf) w2 ⟨pf, 0, none⟩ _ rfl)).trans (Turned.set (S := fun k => k = pf) _ ⟨pf, 1, none⟩ _ rfl)

end Go.Proofs.YtpghccbknlokcaaDoor.Jour
