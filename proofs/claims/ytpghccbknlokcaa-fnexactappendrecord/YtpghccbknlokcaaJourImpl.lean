/-
  THE PROGRAM's FILE AND BOOK: the contracts of slices.Clone at bytes, of the file's methods, of JournalOk, sameJournal, bookOf and the book's methods, over this seat's translation.
-/
import Derived.Test.YtpghccbknlokcaaJourSpec
import Derived.Laws.CopyOwn
import Derived.Stop.IfaceNil
import Derived.Lib.SliceRun
namespace Go.Proofs.Ytpghccbknlokcaa.Jour
open Go.ChangeShapes Go.WideShapes Go.ChangeAt Go.RowKit
open Go.Proofs.Ytpghccbknlokcaa.Bytes Go.Proofs.Ytpghccbknlokcaa.LK
open Go.Proofs.Ytpghccbknlokcaa.Tick (inB in_t in_f l01In_any)
set_option linter.unusedVariables false
set_option linter.unusedSimpArgs false

set_option maxHeartbeats 1600000 in
theorem journalOk_any (w : World) (B : Nat) (v : Value) (d : JD) (hr : JRd w B v d) (hf : jty.Few d) :
    Calls Try.prog 121 #[v] w (Says (.bool (jok d)) w) := by
  obtain ⟨x, y, s⟩ := d
  obtain ⟨A1, c1, A2, c2, rfl, _, _⟩ := hr
  have hf : x.length + y.length ≤ 1048576 := hf
  show Calls Try.prog 121 #[.agg #[.slice A1 x.length c1, .slice A2 y.length c2, .int .i64 s]] w (Says (.bool (decide ((x.length : Int) ≤ 3000) && decide ((y.length : Int) ≤ 3000) && (decide (0 ≤ s) && decide (s ≤ (y.length : Int))))) w)
  generalize x.length = m at hf ⊢
  generalize y.length = n at hf ⊢
  cases h1 : decide ((m : Int) ≤ 3000) <;> cases h2 : decide ((n : Int) ≤ 3000) <;> cases h3 : decide (0 ≤ s) <;> cases h4 : decide (s ≤ (n : Int))
  all_goals
    go_enter Try.func121, Try.ntmps121
    go_wp2
    go_ret
    exact ⟨rfl, bel1 _ _⟩

theorem bytes_news {w : World} {B : Nat} {p : Addr} {n : Nat} {bs : List Int} (h : IsBytes w B (some p) n bs) : ∀ j u, (bs.map (Value.int .u8))[j]? = some u → w.cell? (p.add j) = some u := by
  intro j u hu
  have hl : j < (bs.map (Value.int .u8)).length := (List.getElem?_eq_some_iff.1 hu).1
  simp only [List.length_map] at hl
  rw [h.1] at hl
  obtain ⟨b, off, e, _, hc⟩ := h.2.2 (by omega)
  injection e with e
  subst e
  have he : (⟨b, off, none⟩ : Addr).add j = ⟨b, off + j, none⟩ := by
    unfold Addr.add
    split
    · subst_vars; rfl
    · rfl
  rw [he, hc j hl]
  have hl2 : j < bs.length := by rw [h.1]; exact hl
  simp [hl2] at hu
  simp [List.getD, hl2, hu]
theorem bytes_one (bs : List Int) : ∀ u ∈ bs.map (Value.int .u8), u.oneCell' = true := by
  intro u hu
  obtain ⟨t, _, rfl⟩ := List.mem_map.1 hu
  rfl
theorem own_slice' {w : World} {base : Nat} {e : TypeId} {size : Nat} {v : Value} {n : Nat} {xs : List Value} (h : w.ownsRow base e size v n xs) : ∃ A c, v = .slice A n c := by
  rcases h.2 with ⟨rfl, rfl⟩ | ⟨g, cap, cur, rfl, _⟩
  · exact ⟨none, 0, rfl⟩
  · exact ⟨_, cap, rfl⟩

set_option maxRecDepth 100000 in
set_option maxHeartbeats 800000 in
theorem cloneB_any (A : Option Addr) (n c : Nat) (bs : List Int) (B : Nat) (w : World) (hr : IsBytes w B A n bs) (hB : B ≤ w.heap.size) (hn : n ≤ 1048576) :
    Calls Try.prog 122 #[.slice A n c] w (AnsB w bs) := by
  have hq : ∀ (w : World) (a : Option Addr) (n c n' c' : Nat), (binOp .eql 22 (.slice a n c) (.slice none n' c')).run Try.prog w = .ok (.bool a.isNone) w := fun w a n c n' c' => Lib.run_eql_slice_nil w _ _ a n c n' c' Try.underlying22
  have HLen : Hid (bs.length = n) := hr.1
  have HBY := Lib.hid hr.2.1
  cases A with
  | none =>
    have hn0 : n = 0 := by
      rcases Nat.eq_zero_or_pos n with h | h
      · exact h
      · obtain ⟨b, off, e, _⟩ := hr.2.2 h; cases e
    have HN := Lib.hid hn0
    clear hn0 hr
    go_enter Try.func122, Try.ntmps122
    go_wp2
    go_ret
    have ht : bs = [] := List.eq_nil_of_length_eq_zero (by rw [HLen.out]; exact HN.out)
    subst ht
    exact ⟨none, 0, 0, rfl, own_nil _ _, Below.refl _ _⟩
  | some p =>
    obtain ⟨i0, hi0, hz0, hz1, hz2⟩ := info_parts infoByte
    have HC := Lib.hid (bytes_news (hr.below (bel1 w (.cells #[] 5)) hB))
    clear hr
    go_enter Try.func122, Try.ntmps122
    go_wp2_with (at_builtin; refine wpList_append_own _ rfl (.tmp 5) (.tmp 6) _ rfl w.heap.size 5 i0 _ 1 1 Try.underlying22 hi0 hz0 hz1 hz2 rfl (by omega) (.slice (some ⟨w.heap.size, 0, none⟩) 0 0) 0 [] rfl ?o1 p n c (bs.map (Value.int .u8)) rfl ?o0 ?o2 ?o3 ?o4 ?o5 ?o6 ?_)
    case o1 => exact World.ownsRow_lit (base := w.heap.size) (e := 5) (size := 1) w #[] 0 (Nat.le_refl _) (Nat.zero_le _) rfl
    case o0 => rw [List.length_map, HLen.out, Nat.mul_one]
    case o2 => exact HC.out
    case o3 => exact bytes_one bs
    case o4 => unfold maxLen; omega
    case o5 => omega
    case o6 => simp
    intro v2 w2 hown2 hgr2 _
    obtain ⟨A', c', rfl⟩ := own_slice' hown2
    have HO := Lib.hid hown2
    have hb2 : Below w.heap.size w w2 := (bel1 w _).grown hgr2 (by simp) (fun q hq => Nat.le_of_eq (by simpa [Value.ownBlock] using hq))
    clear hown2 hgr2
    go_wp2
    go_ret
    refine ⟨A', _, c', rfl, ⟨?_, HBY.out, ?_⟩, hb2⟩
    · exact HLen.out
    · have h5 := HO.out
      simpa using h5

/-- The file at pf. -/
abbrev fileO (A : Option Addr) (n c : Nat) (s : Int) : Obj := .cells #[.slice A n c, .int .i64 s] 169
abbrev fp (pf : Nat) : Value := .pointer (some ⟨pf, 0, none⟩)

section
variable (pf : Nat) (A : Option Addr) (n c : Nat) (s : Int) (w : World) (h : w.heap[pf]? = some (fileO A n c s))
include h
theorem held_any : Calls Try.prog 176 #[fp pf] w fun e w' => e = .returned (.slice A n c) ∧ w' = w := by
  obtain ⟨c0, c1, f0, f1⟩ := box2 h
  clear h
  go_enter Try.func176, Try.ntmps176
  go_wp2
  go_ret
  exact ⟨rfl, rfl⟩
theorem synced_any : Calls Try.prog 179 #[fp pf] w fun e w' => e = .returned (.int .i64 s) ∧ w' = w := by
  obtain ⟨c0, c1, f0, f1⟩ := box2 h
  clear h
  go_enter Try.func179, Try.ntmps179
  go_wp2
  go_ret
  exact ⟨rfl, rfl⟩
theorem room_any (hn : n ≤ 1048576) : Calls Try.prog 177 #[fp pf] w fun e w' => e = .returned (.int .i64 (3000 - n)) ∧ w' = w := by
  obtain ⟨c0, c1, f0, f1⟩ := box2 h
  clear h
  go_enter Try.func177, Try.ntmps177
  go_wp2
  go_ret
  exact ⟨rfl, rfl⟩
end

/-- What a cut leaves. -/
def CutTo (w : World) (pf q : Nat) (bs : List Int) (e : Ending) (w' : World) : Prop :=
  ∃ A', e = .returned (.tuple #[]) ∧ w'.heap[pf]? = some (fileO A' q q q) ∧ OwnB w' w.heap.size A' q q (bs.take q) ∧ Turned (fun k => k = pf) w w'


end Go.Proofs.Ytpghccbknlokcaa.Jour
