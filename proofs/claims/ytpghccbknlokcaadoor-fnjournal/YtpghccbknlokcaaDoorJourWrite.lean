/-
  WRITING: the contracts of the file's write and of the program's AppendRecord over this seat's translation.
-/
import Derived.Test.YtpghccbknlokcaaDoorJourApp
namespace Go.Proofs.YtpghccbknlokcaaDoor.Jour
open Go.ChangeShapes Go.WideShapes Go.ChangeAt Go.RowKit
open Go.Proofs.YtpghccbknlokcaaDoor.Bytes Go.Proofs.YtpghccbknlokcaaDoor.LK
open Go.Proofs.YtpghccbknlokcaaDoor.RecTy (RD RRd rty)
open Go.Proofs.YtpghccbknlokcaaDoor.Rec (recB frameV frameT frame_t frame_f frame_len frame_in recordOk_any frameRecord_any)
open Go.Proofs.YtpghccbknlokcaaDoor.Rec (specRecordOk_any)
set_option linter.unusedVariables false
set_option linter.unusedSimpArgs false

set_option maxHeartbeats 800000 in
theorem write_no (pf : Nat) (A : Option Addr) (n c : Nat) (s : Int) (C : Option Addr) (m d : Nat) (w : World) (h : w.heap[pf]? = some (fileO A n c s)) (hn : n ≤ 1048576) (hm : m ≤ 1048576) (hno : 3000 < n + m) :
    Calls Tryd.prog 87 #[fp pf, .slice C m d] w fun e w' => e = .returned (.bool false) ∧ w' = w := by
  have H := Lib.hid h
  clear h
  have hd : decide ((3000 : Int) - (n : Int) < (m : Int)) = true := by simp; omega
  go_enter Tryd.func87, Tryd.ntmps87
  go_wp2_with fail
  refine (room_any pf A n c s _ H.out hn).mono ?_
  rintro e w1 ⟨rfl, rfl⟩
  go_wp2
  go_ret
  exact ⟨rfl, rfl⟩

/-- What a write leaves. -/
def Wrote (w : World) (lo pf : Nat) (A : Option Addr) (n c m : Nat) (s : Int) (bs : List Int) (e : Ending) (w' : World) : Prop :=
  ∃ g c', e = .returned (.bool true) ∧ w'.heap[pf]? = some (fileO (some ⟨g, 0, none⟩) (n + m) c' s) ∧ OwnB w' lo (some ⟨g, 0, none⟩) (n + m) c' bs ∧ ((Value.slice A n c).ownBlock = some g ∨ g = w.heap.size) ∧ Turned (fun k => k = pf ∨ (Value.slice A n c).ownBlock = some k) w w'

set_option maxRecDepth 100000 in
set_option maxHeartbeats 1600000 in
theorem write_yes (pf lo : Nat) (A : Option Addr) (n c : Nat) (s : Int) (C : Option Addr) (m d : Nat) (bs ys : List Int) (B : Nat) (w : World) (h : w.heap[pf]? = some (fileO A n c s)) (ho : OwnB w lo A n c bs) (hr : IsBytes w B C m ys) (hm : 0 < m) (hyes : n + m ≤ 3000) (hlo : lo ≤ w.heap.size) :
    Calls Tryd.prog 87 #[fp pf, .slice C m d] w (Wrote w lo pf A n c m s (bs ++ ys)) := by
  obtain ⟨i0, hi0, hz0, hz1, hz2⟩ := info_parts infoByte
  obtain ⟨b, off, rfl, _, _⟩ := hr.2.2 hm
  have H := Lib.hid h
  have HO := Lib.hid ho
  have HC := Lib.hid (bytes_news hr)
  have HLY : Hid (ys.length = m) := hr.1
  have HYB := Lib.hid hr.2.1
  obtain ⟨c0, c1, f0, f1⟩ := box2 h
  have hlt := box_lt h
  have hnr : ∀ k, (Value.slice A n c).ownBlock = some k → k ≠ pf := by
    intro k hk e; subst e; exact row_not ho hk (by decide) h
  have HNR := Lib.hid hnr
  clear h ho hr hnr
  have hd : decide ((3000 : Int) - (n : Int) < (m : Int)) = false := by simp; omega
  go_enter Tryd.func87, Tryd.ntmps87
  go_wp2_with fail
  refine (room_any pf A n c s _ H.out (by omega)).mono ?_
  rintro e w1 ⟨rfl, rfl⟩
  go_wp2_with (at_builtin; refine wpList_append_lies _ rfl (.tmp 14) (.tmp 15) _ rfl lo 5 i0 _ 1 1 Tryd.underlying22 hi0 hz0 hz1 hz2 rfl (by omega) (.slice A n c) n (bs.map (Value.int .u8)) rfl (by exact HO.out.2.2) ⟨b, off, none⟩ m d (ys.map (Value.int .u8)) rfl ?o1 ?o2 ?o3 hm ?o4 ?o5 ?o6 w1.heap.size rfl ?_)
  case o1 => rw [List.length_map, HLY.out, Nat.mul_one]
  case o2 => exact HC.out
  case o3 => exact bytes_one ys
  case o4 => unfold maxLen; omega
  case o5 => omega
  case o6 => exact hlo
  intro g cap w2 hown2 hgr2 hat2 hlt2
  have HOW := Lib.hid hown2
  have HAT := Lib.hid hat2
  have HT2 : Hid (Turned (fun k => k = pf ∨ (Value.slice A n c).ownBlock = some k) w1 w2) := Turned.of_grown hgr2 (fun k hk => .inr hk)
  have b2 : w2.heap[pf]? = some (fileO A n c s) := by
    have h5 := H.out
    rw [← h5]
    exact hgr2.block pf hlt (fun e => HNR.out pf e.symm rfl)
  obtain ⟨k0, k1, l0, l1⟩ := box2 b2
  have B2 := Lib.hid b2
  clear hown2 hat2 hgr2 b2 c0 c1 f0 f1
  go_wp2
  go_ret
  refine ⟨g, cap, rfl, box_set (i := 0) B2.out _, ?_, HAT.out, HT2.out.trans (Turned.set (S := fun k => k = pf ∨ (Value.slice A n c).ownBlock = some k) _ ⟨pf, 0, none⟩ _ (.inl rfl))⟩
  have hgp : g ≠ pf := by
    rcases HAT.out with h | h
    · exact HNR.out g h
    · omega
  have h5 : OwnB w2 lo (some ⟨g, 0, none⟩) (n + m) cap (bs ++ ys) := by
    refine ⟨by rw [List.length_append, HO.out.1, HLY.out], fun z hz => ?_, by rw [List.map_append]; exact HOW.out⟩
    rcases List.mem_append.1 hz with h | h
    · exact HO.out.2.1 z h
    · exact HYB.out z h
  refine own_same h5 (fun k hk => Below.heap_setCell _ _ _ _ ?_)
  have e5 : g = k := by simpa [Value.ownBlock] using hk
  subst e5
  exact hgp
/-- The book's tail has grown. -/
theorem Book.wrote {w w' : World} {lo pb pf g m : Nat} {A1 A2 : Option Addr} {c1 c2 c' : Nat} {d : JD} {bs : List Int} (h : Book w lo pb pf A1 A2 c1 c2 d) (hl : bs.length = d.2.1.length + m)
    (hf : w'.heap[pf]? = some (fileO (some ⟨g, 0, none⟩) (d.2.1.length + m) c' d.2.2)) (ho : OwnB w' lo (some ⟨g, 0, none⟩) (d.2.1.length + m) c' bs) (hat : (Value.slice A2 d.2.1.length c2).ownBlock = some g ∨ g = w.heap.size)
    (ht : Turned (fun k => k = pf ∨ (Value.slice A2 d.2.1.length c2).ownBlock = some k) w w') : Book w' lo pb pf A1 (some ⟨g, 0, none⟩) c1 c' (d.1, bs, d.2.2) := by
  refine ⟨box_turned h.hb ht (fun e => ?_), by show _ = some (fileO _ bs.length c' d.2.2); rw [hl]; exact hf, own_same h.o1 (fun k hk => ht.block k (h.o1.lt k hk).2 (fun e => ?_)), by show OwnB w' lo _ bs.length c' bs; rw [hl]; exact ho, ?_, h.lb, h.lf⟩
  · rcases e with e | e
    · exact h.ne e
    · exact (h.n2 pb e).1 rfl
  · rcases e with e | e
    · exact (h.n1 k hk).2 e
    · exact h.ap k hk e
  · intro k hk e
    have e5 : g = k := by simpa [Value.ownBlock] using e
    subst e5
    rcases hat with h5 | h5
    · exact h.ap g hk h5
    · have := h.o1.lt g hk; omega

end Go.Proofs.YtpghccbknlokcaaDoor.Jour
