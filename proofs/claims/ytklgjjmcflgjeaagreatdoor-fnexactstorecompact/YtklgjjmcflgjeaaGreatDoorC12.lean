import Derived.LaidEql
import Derived.Laws.CopyOwn
import Derived.Lib.SliceRun
import Derived.Stop.Asserts
import Derived.Stop.IfaceNil
import Derived.Test.YtklgjjmcflgjeaaGreatDoorC05
import Derived.Test.YtklgjjmcflgjeaaGreatDoorC08
import Derived.Test.YtklgjjmcflgjeaaGreatDoorC11
set_option linter.unusedVariables false
set_option linter.unusedSimpArgs false
namespace Go.Proofs.YtklgjjmcflgjeaaGreatDoor.Jour
open Go.ChangeShapes Go.WideShapes Go.ChangeAt Go.RowKit
open Bytes LK
open Tick (inB in_t in_f l01In_any)
set_option maxHeartbeats 1600000 in
theorem journalOk_any (w : World) (B : Nat) (v : Value) (d : JD) (hr : JRd w B v d) (hf : jty.Few d) :
    Calls Tryz.prog 109 #[v] w (Says (.bool (jok d)) w) := by
  obtain ⟨x, y, s⟩ := d
  obtain ⟨A1, c1, A2, c2, rfl, _, _⟩ := hr
  have hf : x.length + y.length ≤ 1048576 := hf
  show Calls Tryz.prog 109 #[.agg #[.slice A1 x.length c1, .slice A2 y.length c2, .int .i64 s]] w (Says (.bool (decide ((x.length : Int) ≤ 3000) && decide ((y.length : Int) ≤ 3000) && (decide (0 ≤ s) && decide (s ≤ (y.length : Int))))) w)
  generalize x.length = m at hf ⊢
  generalize y.length = n at hf ⊢
  cases h1 : decide ((m : Int) ≤ 3000) <;> cases h2 : decide ((n : Int) ≤ 3000) <;> cases h3 : decide (0 ≤ s) <;> cases h4 : decide (s ≤ (n : Int))
  all_goals
    go_enter Tryz.func109, Tryz.ntmps109
    go_wp2
    go_ret
    exact ⟨rfl, bel1 _ _⟩
theorem bytes_news {w : World} {B : Nat} {p : Addr} {n : Nat} {bs : List Int} (h : IsBytes w B (some p) n bs) : ∀ j u, (bs.map (Value.int .u8))[j]? = some u → w.cell? (p.add j) = some u := by
  intro j u hu
  have hl : j < (bs.map (Value.int .u8)).length := (List.getElem?_eq_some_iff.1 hu).1
  simp only [List.length_map] at hl
  rw [h.1] at hl
  obtain ⟨b, off, e, _, hc⟩ := h.2.2 (by omega)
  injection e with e
  subst e
  have he : (⟨b, off, none⟩ : Addr).add j = ⟨b, off + j, none⟩ := by
    unfold Addr.add
    split
    · subst_vars; rfl
    · rfl
  rw [he, hc j hl]
  have hl2 : j < bs.length := by rw [h.1]; exact hl
  simp [hl2] at hu
  simp [List.getD, hl2, hu]
theorem bytes_one (bs : List Int) : ∀ u ∈ bs.map (Value.int .u8), u.oneCell' = true := by
  intro u hu
  obtain ⟨t, _, rfl⟩ := List.mem_map.1 hu
  rfl
theorem own_slice' {w : World} {base : Nat} {e : TypeId} {size : Nat} {v : Value} {n : Nat} {xs : List Value} (h : w.ownsRow base e size v n xs) : ∃ A c, v = .slice A n c := by
  rcases h.2 with ⟨rfl, rfl⟩ | ⟨g, cap, cur, rfl, _⟩
  · exact ⟨none, 0, rfl⟩
  · exact ⟨_, cap, rfl⟩
set_option maxRecDepth 100000 in
set_option maxHeartbeats 800000 in
theorem cloneB_any (A : Option Addr) (n c : Nat) (bs : List Int) (B : Nat) (w : World) (hr : IsBytes w B A n bs) (hB : B ≤ w.heap.size) (hn : n ≤ 1048576) :
    Calls Tryz.prog 138 #[.slice A n c] w (AnsB w bs) := by
  have hq : ∀ (w : World) (a : Option Addr) (n c n' c' : Nat), (binOp .eql 22 (.slice a n c) (.slice none n' c')).run Tryz.prog w = .ok (.bool a.isNone) w := fun w a n c n' c' => Lib.run_eql_slice_nil w _ _ a n c n' c' Tryz.underlying22
  have HLen : Hid (bs.length = n) := hr.1
  have HBY := Lib.hid hr.2.1
  cases A with
  | none =>
    have hn0 : n = 0 := by
      rcases Nat.eq_zero_or_pos n with h | h
      · exact h
      · obtain ⟨b, off, e, _⟩ := hr.2.2 h; cases e
    have HN := Lib.hid hn0
    clear hn0 hr
    go_enter Tryz.func138, Tryz.ntmps138
    go_wp2
    go_ret
    have ht : bs = [] := List.eq_nil_of_length_eq_zero (by rw [HLen.out]; exact HN.out)
    subst ht
    exact ⟨none, 0, 0, rfl, own_nil _ _, Below.refl _ _⟩
  | some p =>
    obtain ⟨i0, hi0, hz0, hz1, hz2⟩ := info_parts infoByte
    have HC := Lib.hid (bytes_news (hr.below (bel1 w (.cells #[] 5)) hB))
    clear hr
    go_enter Tryz.func138, Tryz.ntmps138
    go_wp2_with (at_builtin; refine wpList_append_own _ rfl (.tmp 5) (.tmp 6) _ rfl w.heap.size 5 i0 _ 1 1 Tryz.underlying22 hi0 hz0 hz1 hz2 rfl (by omega) (.slice (some ⟨w.heap.size, 0, none⟩) 0 0) 0 [] rfl ?o1 p n c (bs.map (Value.int .u8)) rfl ?o0 ?o2 ?o3 ?o4 ?o5 ?o6 ?_)
    case o1 => exact World.ownsRow_lit (base := w.heap.size) (e := 5) (size := 1) w #[] 0 (Nat.le_refl _) (Nat.zero_le _) rfl
    case o0 => rw [List.length_map, HLen.out, Nat.mul_one]
    case o2 => exact HC.out
    case o3 => exact bytes_one bs
    case o4 => unfold maxLen; omega
    case o5 => omega
    case o6 => simp
    intro v2 w2 hown2 hgr2 _
    obtain ⟨A', c', rfl⟩ := own_slice' hown2
    have HO := Lib.hid hown2
    have hb2 : Below w.heap.size w w2 := (bel1 w _).grown hgr2 (by simp) (fun q hq => Nat.le_of_eq (by simpa [Value.ownBlock] using hq))
    clear hown2 hgr2
    go_wp2
    go_ret
    refine ⟨A', _, c', rfl, ⟨?_, HBY.out, ?_⟩, hb2⟩
    · exact HLen.out
    · have h5 := HO.out
      simpa using h5
abbrev fileO (A : Option Addr) (n c : Nat) (s : Int) : Obj := .cells #[.slice A n c, .int .i64 s] 209
abbrev fp (pf : Nat) : Value := .pointer (some ⟨pf, 0, none⟩)
section
variable (pf : Nat) (A : Option Addr) (n c : Nat) (s : Int) (w : World) (h : w.heap[pf]? = some (fileO A n c s))
include h
theorem held_any : Calls Tryz.prog 383 #[fp pf] w fun e w' => e = .returned (.slice A n c) ∧ w' = w := by
  obtain ⟨c0, c1, f0, f1⟩ := box2 h
  clear h
  go_enter Tryz.func383, Tryz.ntmps383
  go_wp2
  go_ret
  exact ⟨rfl, rfl⟩
theorem synced_any : Calls Tryz.prog 386 #[fp pf] w fun e w' => e = .returned (.int .i64 s) ∧ w' = w := by
  obtain ⟨c0, c1, f0, f1⟩ := box2 h
  clear h
  go_enter Tryz.func386, Tryz.ntmps386
  go_wp2
  go_ret
  exact ⟨rfl, rfl⟩
theorem room_any (hn : n ≤ 1048576) : Calls Tryz.prog 384 #[fp pf] w fun e w' => e = .returned (.int .i64 (3000 - n)) ∧ w' = w := by
  obtain ⟨c0, c1, f0, f1⟩ := box2 h
  clear h
  go_enter Tryz.func384, Tryz.ntmps384
  go_wp2
  go_ret
  exact ⟨rfl, rfl⟩
theorem sync_any (hn : n ≤ 1048576) : Calls Tryz.prog 385 #[fp pf] w fun e w' => e = .returned (.tuple #[]) ∧ w' = w.setCell ⟨pf, 1, none⟩ (.int .i64 n) := by
  obtain ⟨c0, c1, f0, f1⟩ := box2 h
  clear h
  go_enter Tryz.func385, Tryz.ntmps385
  go_wp2
  go_end0
  exact ⟨rfl, rfl⟩
end
def CutTo (w : World) (pf q : Nat) (bs : List Int) (e : Ending) (w' : World) : Prop :=
  ∃ A', e = .returned (.tuple #[]) ∧ w'.heap[pf]? = some (fileO A' q q q) ∧ OwnB w' w.heap.size A' q q (bs.take q) ∧ Turned (fun k => k = pf) w w'
set_option maxRecDepth 100000 in
set_option maxHeartbeats 1600000 in
theorem cut_any (pf : Nat) (A : Option Addr) (n c : Nat) (s : Int) (bs : List Int) (B q : Nat) (w : World) (h : w.heap[pf]? = some (fileO A n c s)) (hr : IsBytes w B A n bs) (hB : B ≤ w.heap.size) (hn : n ≤ 1048576) (hq : q ≤ n) :
    Calls Tryz.prog 382 #[fp pf, .int .i64 q] w (CutTo w pf q bs) := by
  obtain ⟨i0, hi, hz0, hz1, hz2⟩ := info_parts infoByte
  have HLen : Hid (bs.length = n) := hr.1
  have HBY := Lib.hid hr.2.1
  have HR := Lib.hid hr
  have hlt := box_lt h
  have H := Lib.hid h
  obtain ⟨c0, c1, f0, f1⟩ := box2 h
  clear h hr
  go_enter Tryz.func382, Tryz.ntmps382
  go_wp2_with (at_make; refine wpList_make_full _ rfl _ _ 22 rfl w.heap.size 5 i0 (.int .u8 0) 1 Tryz.underlying22 hi hz0 hz1 _ _ _ _ q rfl rfl rfl rfl ?b1 ?b2 ?b3 ?_)
  case b1 => rw [hz2]; omega
  case b2 => unfold maxLen; omega
  case b3 => exact Nat.le_refl _
  intro w1 hown hgrow
  have hbel : Below w.heap.size w w1 := (Below.refl _ _).grown hgrow (Nat.le_refl _) (by intro k h; cases h)
  have H1 := Lib.hid (box_below H.out hbel)
  obtain ⟨d0, d1, g0, g1⟩ := box2 H1.out
  obtain ⟨T, hT⟩ : ∃ T, T = (bs.take q).map (Value.int .u8) := ⟨_, rfl⟩
  have hTl : T.length = q := by rw [hT, List.length_map, List.length_take, HLen.out]; omega
  have HT := Lib.hid hT
  have hheap : w1.heap[w.heap.size]? = some (.cells (List.replicate q (Value.int .u8 0)).toArray 5 (0, 0)) := by
    rcases hown.2 with ⟨e, _⟩ | ⟨g, cap, cur, e, _, h6, h7, h8, h9, h10⟩
    · cases e
    · injection e with e1 e2 e3
      injection e1 with e1
      injection e1 with e1
      subst e1 e3
      rw [h6]
      congr 2
      have h11 : cur.toList = List.replicate q (Value.int .u8 0) := by
        rw [toList_madeCells_one] at h10
        rw [← h10, List.take_of_length_le (by simp [h9])]
      rw [← h11]
  have HHP := Lib.hid hheap
  have hpos : 0 < T.length → some (⟨w.heap.size, 0, none⟩ : Addr) = some ⟨w.heap.size, 0, none⟩ ∧ ∃ ad, A = some ad ∧ ∀ j v, T[j]? = some v → w1.cell? (ad.add j) = some v := by
    intro hp
    obtain ⟨b, off, e, _, _⟩ := HR.out.2.2 (by omega)
    refine ⟨rfl, _, e, fun j v hv => ?_⟩
    have h1 := HR.out.below hbel hB
    rw [e] at h1
    refine bytes_news h1 j v ?_
    rw [hT, List.map_take, List.getElem?_take] at hv
    split at hv
    · exact hv
    · cases hv
  have HP := Lib.hid hpos
  have HTL := Lib.hid hTl
  have H1s : Hid (∀ u ∈ T, u.oneCell' = true) := by rw [hT]; exact bytes_one _
  have HBEL := Lib.hid hbel
  have hsz : (Tryz.prog.info? 5).map (·.size) = some 1 := by kernel_rfl
  have HSZ := Lib.hid hsz
  have hs1 : w.heap.size < w1.heap.size := box_lt hheap
  clear hpos hT hTl hheap hown hgrow hi hz0 hz1 hz2 hsz c0 c1 f0 f1
  go_wp2_with (refine wpList_copy_splice rfl (.tmp 7) (.tmp 11) 22 22 rfl 5 Tryz.underlying22 HSZ.out (some ⟨w.heap.size, 0, none⟩) A q q n c rfl rfl w.heap.size 0 (List.replicate q (.int .u8 0)) 5 (by exact HHP.out) T ?o1 ?o2 ?o3 (by exact H1s.out) w.heap.size w (by exact HBEL.out) (Nat.le_refl _) ?_)
  case o1 => rw [HTL.out]
  case o2 => exact fun h => by have h1 := HP.out h; simpa using h1
  case o3 => simp [HTL.out]
  intro w2 HG2 hb2
  have H2 := Lib.hid ((hb2.block pf hlt).trans H.out)
  have HB2 := Lib.hid hb2
  obtain ⟨k0, k1, l0, l1⟩ := box2 H2.out
  have hs2 : w.heap.size < w2.heap.size := box_lt HG2.out
  clear hb2 d0 d1 g0 g1
  go_wp2_with fail
  refine (sync_any pf (some ⟨w.heap.size, 0, none⟩) q q s _ (box_set (i := 0) H2.out _) (by omega)).mono ?_
  rintro e w3 ⟨rfl, rfl⟩
  go_wp2
  go_end0
  refine ⟨some ⟨w.heap.size, 0, none⟩, rfl, ?_, ?_, ?_⟩
  · exact box_set (i := 1) (box_set (i := 0) H2.out (.slice (some ⟨w.heap.size, 0, none⟩) q q)) (.int .i64 q)
  · have e1 : ((w2.setCell ⟨pf, 0, none⟩ (.slice (some ⟨w.heap.size, 0, none⟩) q q)).setCell ⟨pf, 1, none⟩ (.int .i64 q)).heap[w.heap.size]? = some (.cells (splice (List.replicate q (.int .u8 0)) 0 T).toArray 5 (0, 0)) :=
      box_other (box_other HG2.out ⟨pf, 0, none⟩ _ (by show w.heap.size ≠ pf; omega)) ⟨pf, 1, none⟩ _ (by show w.heap.size ≠ pf; omega)
    have e2 : splice (List.replicate q (Value.int .u8 0)) 0 T = T := by
      have := HTL.out
      simp [splice, this]
    rw [e2] at e1
    have hl := HTL.out
    refine ⟨by rw [List.length_take, HLen.out]; omega, fun u hu => HBY.out u (List.mem_of_mem_take hu), ?_⟩
    rw [← HT.out]
    refine ⟨by rw [hl]; omega, .inr ⟨w.heap.size, q, T.toArray, rfl, Nat.le_refl _, e1, Nat.le_refl _, by unfold maxLen; omega, by simp [hl], by rw [Nat.mul_one, List.take_of_length_le (by simp [hl])]⟩⟩
  · exact ((Turned.of_below HB2.out).trans (Turned.set (S := fun k => k = pf) w2 ⟨pf, 0, none⟩ _ rfl)).trans (Turned.set (S := fun k => k = pf) _ ⟨pf, 1, none⟩ _ rfl)
end Go.Proofs.YtklgjjmcflgjeaaGreatDoor.Jour
namespace Go.Proofs.YtklgjjmcflgjeaaGreatDoor.Jour
open Go.ChangeShapes Go.WideShapes Go.ChangeAt Go.RowKit
open Bytes LK
open Tick (inB in_t in_f l01In_any)
structure Book (w : World) (lo pb pf : Nat) (A1 A2 : Option Addr) (c1 c2 : Nat) (d : JD) : Prop where
  hb : w.heap[pb]? = some (.cells #[.iface 207 (fp pf), .slice A1 d.1.length c1] 154)
  hf : w.heap[pf]? = some (fileO A2 d.2.1.length c2 d.2.2)
  o1 : OwnB w lo A1 d.1.length c1 d.1
  o2 : OwnB w lo A2 d.2.1.length c2 d.2.1
  ap : ∀ k, (Value.slice A1 d.1.length c1).ownBlock = some k → (Value.slice A2 d.2.1.length c2).ownBlock ≠ some k
  lb : lo ≤ pb
  lf : lo ≤ pf
theorem row_not {w : World} {b k : Nat} {A : Option Addr} {n c : Nat} {zs : List Int} {cs : Array Value} {t : TypeId} {fr : Nat × Nat} (h : OwnB w b A n c zs) (hk : (Value.slice A n c).ownBlock = some k) (ht : t ≠ 5) : w.heap[k]? ≠ some (.cells cs t fr) := by
  rcases h.2.2.2 with ⟨e, _⟩ | ⟨g, cap, cur, e, _, h6, _⟩
  · rw [e] at hk; cases hk
  · rw [e] at hk
    have : g = k := by simpa [Value.ownBlock] using hk
    subst this
    rw [h6]
    intro e5
    injection e5 with e5
    injection e5 with _ e6 _
    exact ht e6.symm
theorem Book.ne {w : World} {lo pb pf : Nat} {A1 A2 : Option Addr} {c1 c2 : Nat} {d : JD} (h : Book w lo pb pf A1 A2 c1 c2 d) : pb ≠ pf := by
  intro e
  have h1 := h.hb
  rw [e, h.hf] at h1
  injection h1 with h1
  injection h1 with _ h2 _
  cases h2
theorem Book.n1 {w : World} {lo pb pf : Nat} {A1 A2 : Option Addr} {c1 c2 : Nat} {d : JD} (h : Book w lo pb pf A1 A2 c1 c2 d) : ∀ k, (Value.slice A1 d.1.length c1).ownBlock = some k → k ≠ pb ∧ k ≠ pf := fun k hk =>
  ⟨by intro e; subst e; exact row_not h.o1 hk (by decide) h.hb, by intro e; subst e; exact row_not h.o1 hk (by decide) h.hf⟩
theorem Book.n2 {w : World} {lo pb pf : Nat} {A1 A2 : Option Addr} {c1 c2 : Nat} {d : JD} (h : Book w lo pb pf A1 A2 c1 c2 d) : ∀ k, (Value.slice A2 d.2.1.length c2).ownBlock = some k → k ≠ pb ∧ k ≠ pf := fun k hk =>
  ⟨by intro e; subst e; exact row_not h.o2 hk (by decide) h.hb, by intro e; subst e; exact row_not h.o2 hk (by decide) h.hf⟩
theorem Book.below {w w' : World} {lo pb pf : Nat} {A1 A2 : Option Addr} {c1 c2 : Nat} {d : JD} (h : Book w lo pb pf A1 A2 c1 c2 d) (hb : Below w.heap.size w w') : Book w' lo pb pf A1 A2 c1 c2 d :=
  ⟨box_below h.hb hb, box_below h.hf hb, h.o1.below hb, h.o2.below hb, h.ap, h.lb, h.lf⟩
def BookGives (w : World) (lo : Nat) (d : JD) (e : Ending) (w' : World) : Prop := ∃ v, e = .returned v ∧ Has jty w' lo w'.heap.size (fun k => lo ≤ k ∧ k < w'.heap.size) v d ∧ Below w.heap.size w w'
theorem book_gives {w X : World} {lo pb pf : Nat} {A1 A2 : Option Addr} {c1 c2 : Nat} {d : JD} (h : Book w lo pb pf A1 A2 c1 c2 d) (hb : Below w.heap.size w X) :
    BookGives w lo d (.returned (.agg #[.slice A1 d.1.length c1, .slice A2 d.2.1.length c2, .int .i64 d.2.2])) X := by
  have h1 := h.o1.below hb
  have h2 := h.o2.below hb
  exact ⟨_, rfl, ⟨⟨A1, c1, A2, c2, rfl, own_zero h1, own_zero h2, fun k hk => h1.lt k hk, fun k hk => h2.lt k hk, h.ap⟩, fun k hk => hk, Nat.le_refl _⟩, hb⟩
theorem mHeld (v : Value) (w : World) : (Go.method 540 207 v "loop.example/g00734/impl.held").run Tryz.prog w = .ok (383, v) w := by kernel_rfl
theorem mSynced (v : Value) (w : World) : (Go.method 540 207 v "loop.example/g00734/impl.synced").run Tryz.prog w = .ok (386, v) w := by kernel_rfl
theorem mCut (v : Value) (w : World) : (Go.method 540 207 v "loop.example/g00734/impl.cut").run Tryz.prog w = .ok (382, v) w := by kernel_rfl
theorem mWrite (v : Value) (w : World) : (Go.method 540 207 v "loop.example/g00734/impl.write").run Tryz.prog w = .ok (387, v) w := by kernel_rfl
set_option maxRecDepth 100000 in
set_option maxHeartbeats 3200000 in
theorem journal_any (w : World) (lo pb pf : Nat) (A1 A2 : Option Addr) (c1 c2 : Nat) (d : JD) (h : Book w lo pb pf A1 A2 c1 c2 d) (hlo : lo ≤ w.heap.size) :
    Calls Tryz.prog 91 #[.pointer (some ⟨pb, 0, none⟩)] w (BookGives w lo d) := by
  obtain ⟨x, y, s⟩ := d
  obtain ⟨m, hm⟩ : ∃ m, m = (x, y, s).1.length := ⟨_, rfl⟩
  obtain ⟨n, hn⟩ : ∃ n, n = (x, y, s).2.1.length := ⟨_, rfl⟩
  have H := Lib.hid h
  have k1 := h.hb
  have k2 := h.hf
  rw [← hm] at k1
  rw [← hn] at k2
  have k2 : w.heap[pf]? = some (fileO A2 n c2 s) := k2
  have HM := Lib.hid hm
  have HN := Lib.hid hn
  clear h hm hn
  have hl1 := box_lt k1
  have hl2 := box_lt k2
  obtain ⟨b0, b1, _, _⟩ := box2 k1
  have K1 := Lib.hid k1
  have K2 := Lib.hid k2
  clear k1 k2
  have m1 := mHeld
  have m2 := mSynced
  obtain ⟨V, hV⟩ : ∃ V, V = w.alloc (.cells #[.slice none 0 0, .slice none 0 0, .int .i64 0] 32) := ⟨_, rfl⟩
  have hbV : Below w.heap.size w V := by rw [hV]; exact bel1 _ _
  have k3 : V.heap[w.heap.size]? = some (.cells #[.slice none 0 0, .slice none 0 0, .int .i64 0] 32) := by rw [hV]; exact box_new _ _
  obtain ⟨r0, r1, r2, f0, f1, f2⟩ := box3 k3
  have KV2 : Hid (V.heap[pf]? = some (fileO A2 n c2 s)) := box_below K2.out hbV
  obtain ⟨d0, d1, _, _⟩ := box2 (box_below K1.out hbV)
  have hsV : V.heap.size = w.heap.size + 1 := by rw [hV]; simp
  have HSV := Lib.hid hsV
  clear k3 hsV b0 b1
  go_enter Tryz.func91, Tryz.ntmps91
  go_wp2_with fail
  rw [← hV]
  clear hV
  have hne : pb ≠ w.heap.size := by omega
  go_region_held3 (fun w' => w'.cell? ⟨pb, 0, none⟩ = some (.iface 207 (fp pf)) ∧ w'.cell? ⟨pb, 1, none⟩ = some (.slice A1 m c1))
    (first | (go_keep; done) | exact ⟨far3 hne d0, far3 hne d1⟩)
    (first | (go_at_call 383; refine (held_any pf A2 n c2 s _ (by exact KV2.out)).mono ?_; rintro e w1 ⟨rfl, rfl⟩) | (go_at_call 386; refine (synced_any pf A2 n c2 s _ (by exact KV2.out)).mono ?_; rintro e w2 ⟨rfl, rfl⟩))
  have HX : Hid (Below w.heap.size w (((V.setCell ⟨w.heap.size, 0, none⟩ (.slice A1 m c1)).setCell ⟨w.heap.size, 1, none⟩ (.slice A2 n c2)).setCell ⟨w.heap.size, 2, none⟩ (.int .i64 s)).drew) :=
    (((hbV.setCell (p := ⟨w.heap.size, 0, none⟩) (Nat.le_refl _) _).setCell (p := ⟨w.heap.size, 1, none⟩) (Nat.le_refl _) _).setCell (p := ⟨w.heap.size, 2, none⟩) (Nat.le_refl _) _).drew
  go_wp2
  refine bodyPost_ret (v := .agg #[.slice A1 m c1, .slice A2 n c2, .int .i64 s]) (by simp [results, Tryz.results91, go_sem, r0, r1, r2]) rfl ?_
  have h5 := book_gives H.out HX.out
  rw [← HM.out, ← HN.out] at h5
  exact h5
set_option maxRecDepth 100000 in
set_option maxHeartbeats 3200000 in
theorem sameJournal_any (w : World) (B : Nat) (v : Value) (d : JD) (hr : JRd w B v d) (hB : B ≤ w.heap.size) (hf : jty.Few d) :
    Calls Tryz.prog 85 #[v] w (Made jty d w) := by
  obtain ⟨x, y, s⟩ := d
  obtain ⟨A1, c1, A2, c2, rfl, h1, h2⟩ := hr
  have hf : x.length + y.length ≤ 1048576 := hf
  have h1 : IsBytes w B A1 x.length x := h1
  have h2 : IsBytes w B A2 y.length y := h2
  show Calls Tryz.prog 85 #[.agg #[.slice A1 x.length c1, .slice A2 y.length c2, .int .i64 s]] w _
  obtain ⟨m, hm⟩ : ∃ m, m = x.length := ⟨_, rfl⟩
  obtain ⟨n, hn⟩ : ∃ n, n = y.length := ⟨_, rfl⟩
  have hx : m ≤ 1048576 := by omega
  have hy : n ≤ 1048576 := by omega
  rw [← hm] at h1 ⊢
  rw [← hn] at h2 ⊢
  obtain ⟨V, hV⟩ : ∃ V, V = (w.alloc (.cells #[.slice A1 m c1, .slice A2 n c2, .int .i64 s] 32)).alloc (.cells #[.slice none 0 0, .slice none 0 0, .int .i64 0] 32) := ⟨_, rfl⟩
  have hbV : Below w.heap.size w V := by rw [hV]; exact bel2 _ _ _
  have H1 := Lib.hid h1
  have H2 := Lib.hid h2
  have HM := Lib.hid hm
  have HN := Lib.hid hn
  have k0 : V.heap[w.heap.size]? = some (.cells #[.slice A1 m c1, .slice A2 n c2, .int .i64 s] 32) := by rw [hV]; exact box_alloc (box_new _ _) _
  have k1 : V.heap[w.heap.size + 1]? = some (.cells #[.slice none 0 0, .slice none 0 0, .int .i64 0] 32) := by rw [hV]; have h := box_new (w.alloc (.cells #[.slice A1 m c1, .slice A2 n c2, .int .i64 s] 32)) (.cells #[.slice none 0 0, .slice none 0 0, .int .i64 0] 32); simpa using h
  have hsV : V.heap.size = w.heap.size + 1 + 1 := by rw [hV]; simp
  have HSV := Lib.hid hsV
  clear h1 h2 hm hn hf hsV
  go_enter Tryz.func85, Tryz.ntmps85
  go_wp2_with fail
  rw [← hV]
  have HVV := Lib.hid hV
  clear hV
  have c0 : V.cell? ⟨w.heap.size, 0, none⟩ = some (.slice A1 m c1) := box_cell k0 0 _ rfl
  have c1' : V.cell? ⟨w.heap.size, 1, none⟩ = some (.slice A2 n c2) := box_cell k0 1 _ rfl
  have c2' : V.cell? ⟨w.heap.size, 2, none⟩ = some (.int .i64 s) := box_cell k0 2 _ rfl
  have e0 : V.cell? ⟨w.heap.size + 1, 0, none⟩ = some (.slice none 0 0) := box_cell k1 0 _ rfl
  have K0 := Lib.hid k0
  have K1 := Lib.hid k1
  clear k0 k1
  go_region_held3 (fun w' => w'.cell? ⟨w.heap.size, 0, none⟩ = some (.slice A1 m c1) ∧ w'.cell? ⟨w.heap.size, 1, none⟩ = some (.slice A2 n c2) ∧ w'.cell? ⟨w.heap.size, 2, none⟩ = some (.int .i64 s))
    (first | go_keep | (refine ⟨cell_keep hb2 ?_, cell_keep hb2 ?_, cell_keep hb2 ?_⟩ <;> simp only [*]) | (refine ⟨cell_keep hb1 ?_, cell_keep hb1 ?_, cell_keep hb1 ?_⟩ <;> simp only [*]))
    (first | (have hb1n := hb1; go_at_call 138; refine (cloneB_any A2 n c2 y B _ (by exact H2.out.below (hbV.trans (hb1'.mono hbV.size)) hB) (by exact Nat.le_trans hB (Nat.le_trans hbV.size hb1'.size)) hy).mono ?_; rintro e w2 ⟨A4, n4, c4, rfl, hO2, hb2⟩; have HO2 := Lib.hid hO2; clear hO2 hb1n; obtain ⟨r0, r1, r2, s0, s1, s2⟩ := box3 (box_below (box_below K1.out hb1') hb2)) | (go_at_call 138; refine (cloneB_any A1 m c1 x B _ (by exact H1.out.below hbV.drew hB) (by exact Nat.le_trans hB hbV.size) hx).mono ?_; rintro e w1 ⟨A3, n3, c3, rfl, hO1, hb1⟩; have hb1' : Below V.heap.size V w1 := undrew hb1; have HO1 := Lib.hid hO1; clear hO1))
  all_goals
    have hL1 : ∀ k, (Value.slice A3 n3 c3).ownBlock = some k → V.heap.size ≤ k ∧ k < w1.heap.size := fun k hk => HO1.out.lt k hk
    have h12 : OwnB w2 w.heap.size A3 n3 c3 x := own_base (HO1.out.below hb2) (fun k hk => by have := hL1 k hk; have := hbV.size; omega)
    have hb02 : Below w.heap.size w w2 := bel_then (bel_then hbV hb1' hbV.size) hb2 (Nat.le_trans hbV.size hb1'.size)
    have H12 := Lib.hid h12
    have HB02 := Lib.hid hb02
    have HL1 := Lib.hid hL1
    have HS1 := Lib.hid hb1'.size
    have HS2 := Lib.hid hb2.size
    have HSB := Lib.hid hbV.size
    have HE3 : Hid (n3 = x.length) := HO1.out.1.symm
    have HE4 : Hid (n4 = y.length) := HO2.out.1.symm
    clear h12 hb02 hL1 hb1 hb1' hb2 HO1 c0 c1' c2' e0
    go_wp2
    refine bodyPost_ret (v := .agg #[.slice A3 n3 c3, .slice A4 n4 c4, .int .i64 s]) (by simp [results, Tryz.results85, go_sem, r0, r1, r2]) rfl ?_
    refine made_of (w5 := w2) (w4 := w1) HB02.out H12.out HO2.out (fun k hk => ?_) HS2.out (Nat.le_trans HSB.out HS1.out) HE3.out HE4.out (sets3 (S := fun k => k = w.heap.size + 1) rfl rfl rfl) (fun k hk => ?_) (fun k hk => by omega)
    · have := HL1.out k hk; have := HSV.out; omega
    · have := HS1.out; have := HSV.out; omega
def Booked (w : World) (d : JD) (e : Ending) (w' : World) : Prop :=
  (jok d = false ∧ e = .returned (.tuple #[.pointer none, .bool false]) ∧ Below w.heap.size w w') ∨
  (jok d = true ∧ ∃ pb pf A1 A2 c1 c2, e = .returned (.tuple #[.pointer (some ⟨pb, 0, none⟩), .bool true]) ∧ Book w' w.heap.size pb pf A1 A2 c1 c2 d ∧ Below w.heap.size w w')
set_option maxRecDepth 100000 in
set_option maxHeartbeats 3200000 in
theorem bookOf_any (w : World) (B : Nat) (v : Value) (d : JD) (hr : JRd w B v d) (hB : B ≤ w.heap.size) (hf : jty.Few d) :
    Calls Tryz.prog 90 #[v] w (Booked w d) := by
  have hr0 := hr
  obtain ⟨x, y, s⟩ := d
  obtain ⟨A1, c1, A2, c2, rfl, h1, h2⟩ := hr
  have HR := Lib.hid hr0
  have HF := Lib.hid hf
  have hf : x.length + y.length ≤ 1048576 := hf
  have h1 : IsBytes w B A1 x.length x := h1
  have h2 : IsBytes w B A2 y.length y := h2
  obtain ⟨m, hm⟩ : ∃ m, m = (x, y, s).1.length := ⟨_, rfl⟩
  obtain ⟨n, hn⟩ : ∃ n, n = (x, y, s).2.1.length := ⟨_, rfl⟩
  rw [← hm, ← hn] at HR ⊢
  have hx : m ≤ 1048576 := by have : m = x.length := hm; omega
  have hy : n ≤ 1048576 := by have : n = y.length := hn; omega
  have H1 : Hid (IsBytes w B A1 m x) := by rw [hm]; exact h1
  have H2 : Hid (IsBytes w B A2 n y) := by rw [hn]; exact h2
  have HM := Lib.hid hm
  have HN := Lib.hid hn
  clear hr0 h1 h2 hm hn hf
  go_enter Tryz.func90, Tryz.ntmps90
  go_wp2_with fail
  refine (journalOk_any _ B _ (x, y, s) (jty.rd_below HR.out (bel1 _ _) hB) HF.out).mono ?_
  rintro e w1 ⟨rfl, hb1⟩
  have k0 : w1.heap[w.heap.size]? = some (.cells #[.slice A1 m c1, .slice A2 n c2, .int .i64 s] 32) := box_below (box_new _ _) hb1
  have hb01 : Below w.heap.size w w1 := bel_then (bel1 _ _) hb1 (by simp)
  have hs1 : w.heap.size < w1.heap.size := box_lt k0
  have HJ : Hid (jok (x, y, s) = jok (x, y, s)) := rfl
  clear hb1
  cases hj : jok (x, y, s)
  · go_wp2
    refine bodyPost_ret (results_tmp2 rfl _ _ _) rfl ?_
    exact .inl ⟨hj, rfl, hb01⟩
  · obtain ⟨c0, c1', c2', _, _, _⟩ := box3 k0
    have K0 := Lib.hid k0
    have HJ2 := Lib.hid hj
    clear k0 hj
    go_wp2_with fail
    go_region_held3 (fun w' => w'.cell? ⟨w.heap.size, 0, none⟩ = some (.slice A1 m c1) ∧ w'.cell? ⟨w.heap.size, 1, none⟩ = some (.slice A2 n c2) ∧ w'.cell? ⟨w.heap.size, 2, none⟩ = some (.int .i64 s))
      (first | (go_keep; done) | (refine ⟨cell_keep hb2 ?_, cell_keep hb2 ?_, cell_keep hb2 ?_⟩ <;> simp only [*]) | (refine ⟨cell_keep (bel1 _ _) (cell_keep hb2 ?_), cell_keep (bel1 _ _) (cell_keep hb2 ?_), cell_keep (bel1 _ _) (cell_keep hb2 ?_)⟩ <;> simp only [*]))
      (first | (go_at_call 138; refine (cloneB_any A2 n c2 y B _ (by exact H2.out.below hb01.drew hB) (by exact Nat.le_trans hB hb01.size) hy).mono ?_; rintro e w2 ⟨A4, n4, c4, rfl, hO2, hb2⟩; have HO2 := Lib.hid hO2; clear hO2))
    have hb2' : Below w1.heap.size w1 w2 := undrew hb2
    have hb02 : Below w.heap.size w (w2.alloc (fileO A4 n4 c4 s)) := (bel_then hb01 hb2' hb01.size).alloc (Nat.le_trans hb01.size hb2'.size) _
    have hs2 : w1.heap.size ≤ w2.heap.size := hb2'.size
    obtain ⟨q0, q1, q2, _, _, _⟩ := box3 (box_alloc (box_below K0.out hb2') (fileO A4 n4 c4 s))
    have HL4 : Hid (∀ k, (Value.slice A4 n4 c4).ownBlock = some k → w1.heap.size ≤ k ∧ k < w2.heap.size) := fun k hk => HO2.out.lt k hk
    have HE4 : Hid (n4 = y.length) := HO2.out.1.symm
    have HO2' : Hid (OwnB (w2.alloc (fileO A4 n4 c4 s)) w.heap.size A4 n4 c4 y) := own_base (HO2.out.alloc _) (fun k hk => by have := HL4.out k hk; omega)
    have HFL := Lib.hid (box_new w2 (fileO A4 n4 c4 s))
    have HB02 := Lib.hid hb02
    clear hb2 hb2' hb02 hb01 HO2 c0 c1' c2' K0
    go_wp2_with fail
    refine (cloneB_any A1 m c1 x B _ (H1.out.below HB02.out hB) (by have := HB02.out.size; omega) hx).mono ?_
    rintro e w3 ⟨A3, n3, c3, rfl, hO3, hb3⟩
    have HE3 : Hid (n3 = x.length) := hO3.1.symm
    have hs3 := hb3.size
    simp only [World.size_alloc] at hs3
    have HL3 : Hid (∀ k, (Value.slice A3 n3 c3).ownBlock = some k → w2.heap.size + 1 ≤ k ∧ k < w3.heap.size) := fun k hk => by have h := hO3.lt k hk; simp only [World.size_alloc] at h; exact h
    have HO3 : Hid (OwnB w3 w.heap.size A3 n3 c3 x) := own_base hO3 (fun k hk => by have := HL3.out k hk; omega)
    have HO4 := Lib.hid (HO2'.out.below hb3)
    have HF3 := Lib.hid (box_below HFL.out hb3)
    have HB3 := Lib.hid (bel_then HB02.out hb3 HB02.out.size)
    clear hb3 hO3 q0 q1 q2
    go_wp2
    refine bodyPost_ret (results_tmp2 rfl _ _ _) rfl ?_
    refine .inr ⟨HJ2.out, w3.heap.size, w2.heap.size, A3, A4, c3, c4, rfl, ⟨?_, ?_, ?_, ?_, ?_, by omega, by omega⟩, HB3.out.alloc HB3.out.size _⟩
    · show _ = some (Obj.cells #[.iface 207 (fp w2.heap.size), .slice A3 x.length c3] _ _)
      rw [← HE3.out]
      exact box_new _ _
    · show _ = some (fileO A4 y.length c4 s)
      rw [← HE4.out]
      exact box_alloc HF3.out _
    · show OwnB _ _ A3 x.length c3 x
      rw [← HE3.out]
      exact HO3.out.alloc _
    · show OwnB _ _ A4 y.length c4 y
      rw [← HE4.out]
      exact HO4.out.alloc _
    · intro k hk e
      have h1 := HL3.out k ((ob A3 _ _ _ _).trans hk)
      have h2 := HL4.out k ((ob A4 _ _ _ _).trans e)
      omega
theorem Book.cut {w w' : World} {lo pb pf q : Nat} {A1 A2 A' : Option Addr} {c1 c2 : Nat} {d : JD} (h : Book w lo pb pf A1 A2 c1 c2 d) (hq : q ≤ d.2.1.length) (hlo : lo ≤ w.heap.size)
    (hf : w'.heap[pf]? = some (fileO A' q q q)) (ho : OwnB w' w.heap.size A' q q (d.2.1.take q)) (ht : Turned (fun k => k = pf) w w') : Book w' lo pb pf A1 A' c1 q (d.1, d.2.1.take q, q) := by
  have hl : (d.2.1.take q).length = q := by rw [List.length_take]; exact Nat.min_eq_left hq
  refine ⟨box_turned h.hb ht h.ne, ?_, own_same h.o1 (fun k hk => ht.block k (h.o1.lt k hk).2 (h.n1 k hk).2), ?_, ?_, h.lb, h.lf⟩
  · show _ = some (fileO A' (d.2.1.take q).length q q)
    rw [hl]; exact hf
  · show OwnB w' lo A' (d.2.1.take q).length q (d.2.1.take q)
    rw [hl]
    exact own_base ho (fun k hk => by have := ho.lt k hk; omega)
  · intro k hk e
    have h1 := h.o1.lt k hk
    have h2 := ho.lt k ((ob A' _ _ _ _).trans e)
    omega
end Go.Proofs.YtklgjjmcflgjeaaGreatDoor.Jour
namespace Go.Proofs.YtklgjjmcflgjeaaGreatDoor.Rd
open Go.ChangeShapes Go.WideShapes Go.ChangeAt Go.RowKit Go.Stop Go.Extern
structure ErrBlk (B : Nat) (w : World) (aT aB : Addr) : Prop where
  lt : aT.block < B ∧ aB.block < B
  ne : aB ≠ aT
  hT : ∃ c t, w.heap[aT.block]? = some (.cells c t (0, 0))
  hB : ∃ c t, w.heap[aB.block]? = some (.cells c t (0, 0))
theorem ErrBlk.below {B C : Nat} {w w' : World} {aT aB : Addr} (h : ErrBlk B w aT aB) (hb : Below C w w') (hC : B ≤ C) : ErrBlk B w' aT aB := by
  obtain ⟨⟨l1, l2⟩, hn, ⟨c1, t1, h1⟩, ⟨c2, t2, h2⟩⟩ := h
  exact ⟨⟨l1, l2⟩, hn, ⟨c1, t1, by rw [hb.block _ (by omega)]; exact h1⟩, ⟨c2, t2, by rw [hb.block _ (by omega)]; exact h2⟩⟩
theorem isTypeOf (v : Value) (w : World) : (Extern.ReflectliteType.typeOf #[.iface 408 v]).run Tryz.prog w = .ok (.iface 264 (.agg #[.pointer (some ⟨7, 408, none⟩)])) w := by kernel_rfl
def cmpF (t : TypeId) : Sem Value := do Extern.Rtype.noPackHeld "Comparable" t; pure (.bool (← typeInfo t).comparable)
theorem isComparable (w : World) : (Extern.ReflectliteType.method cmpF #[.agg #[.pointer (some ⟨7, 408, none⟩)]]).run Tryz.prog w = .ok (.bool true) w := by kernel_rfl
theorem isMethodComparable (v : Value) (w : World) : (Go.method 540 264 v "Comparable").run Tryz.prog w = .ok (393, v) w := by kernel_rfl
theorem isComp : (Tryz.prog.info? 408).map (·.comparable) = some true := by kernel_rfl
theorem isSize : (Tryz.prog.info? 428).map (·.size) = some 1 := by kernel_rfl
theorem noIsE (v : Value) (xT : TypeId) (w : World) : (Instr.typeAssert (.iface 408 v) xT 356 true).run Tryz.prog w = .ok (.tuple #[.nilIface, .bool false]) w := run_typeAssert_lacksB Tryz.underlying356 (by kernel_rfl) (by kernel_rfl) v xT w
theorem noUnwrapE (v : Value) (xT : TypeId) (w : World) : (Instr.typeAssert (.iface 408 v) xT 272 true).run Tryz.prog w = .ok (.tuple #[.nilIface, .bool false]) w := run_typeAssert_lacksB Tryz.underlying272 (by kernel_rfl) (by kernel_rfl) v xT w
theorem noUnwrapsE (v : Value) (xT : TypeId) (w : World) : (Instr.typeAssert (.iface 408 v) xT 274 true).run Tryz.prog w = .ok (.tuple #[.nilIface, .bool false]) w := run_typeAssert_lacksB Tryz.underlying274 (by kernel_rfl) (by kernel_rfl) v xT w
set_option maxRecDepth 100000 in
set_option maxHeartbeats 1600000 in
theorem is_same (a : Addr) (w : World) :
    Calls Tryz.prog 208 #[.iface 408 (.pointer (some a)), .iface 408 (.pointer (some a))] w fun e w' => e = .returned (.bool true) ∧ w' = w := by
  obtain ⟨i, hi, hcmp⟩ := Option.map_eq_some_iff.1 isComp
  obtain ⟨j, hj, hjs⟩ := Option.map_eq_some_iff.1 isSize
  have h8 := @run_callFunc_extern Tryz.prog 198 _ Extern.ReflectliteType.typeOf Tryz.func198 (by kernel_rfl) (by kernel_rfl) (by kernel_rfl) (by kernel_rfl)
  have h32 := @run_callFunc_extern Tryz.prog 393 _ (Extern.ReflectliteType.method cmpF) Tryz.func393 (by kernel_rfl) (by kernel_rfl) (by kernel_rfl) (by kernel_rfl)
  have tT := isTypeOf
  have cT := isComparable
  have mR := isMethodComparable
  have heq := run_eql_iface_ptr_same (P := Tryz.prog) w a Tryz.underlying163 Tryz.underlying408 hi hcmp hj
  go_enter Tryz.func208, Tryz.ntmps208
  go_wp2
  refine wp_loop_rounds 1 ?_
  rw [rounds_succ]
  go_wp2
  go_ret
  exact ⟨rfl, rfl⟩
set_option maxRecDepth 100000 in
set_option maxHeartbeats 1600000 in
theorem is_other (a b : Addr) (ca cb : Array Value) (ta tb : TypeId) (w : World) (hne : a ≠ b) (ha : w.heap[a.block]? = some (.cells ca ta (0, 0))) (hb : w.heap[b.block]? = some (.cells cb tb (0, 0))) :
    Calls Tryz.prog 208 #[.iface 408 (.pointer (some a)), .iface 408 (.pointer (some b))] w fun e w' => e = .returned (.bool false) ∧ w' = w := by
  obtain ⟨i, hi, hcmp⟩ := Option.map_eq_some_iff.1 isComp
  obtain ⟨j, hj, hjs⟩ := Option.map_eq_some_iff.1 isSize
  have h8 := @run_callFunc_extern Tryz.prog 198 _ Extern.ReflectliteType.typeOf Tryz.func198 (by kernel_rfl) (by kernel_rfl) (by kernel_rfl) (by kernel_rfl)
  have h32 := @run_callFunc_extern Tryz.prog 393 _ (Extern.ReflectliteType.method cmpF) Tryz.func393 (by kernel_rfl) (by kernel_rfl) (by kernel_rfl) (by kernel_rfl)
  have tT := isTypeOf
  have cT := isComparable
  have mR := isMethodComparable
  have nE := noIsE
  have uE := noUnwrapE
  have vE := noUnwrapsE
  have heq := run_eql_iface_ptr_other (P := Tryz.prog) w Tryz.underlying163 Tryz.underlying408 hi hcmp hj (by rw [hjs]; decide) hne ha hb
  go_enter Tryz.func208, Tryz.ntmps208
  go_wp2
  refine wp_loop_rounds 1 ?_
  rw [rounds_succ]
  go_wp2
  go_ret
  exact ⟨rfl, rfl⟩
theorem tailOf_torn (w : World) (B : Nat) (aT aB aO : Addr) (hE : Errs B w aT aB aO) :
    Calls Tryz.prog 162 #[.iface 408 (.pointer (some aT))] w fun e w' => e = .returned (.int .i64 1) ∧ w' = w := by
  obtain ⟨_, cT, cB, cO⟩ := hE
  go_enter Tryz.func162, Tryz.ntmps162
  go_wp2_with (go_at_call 208; refine (is_same aT _).mono ?_; rintro e w' ⟨rfl, rfl⟩)
  go_ret
  exact ⟨rfl, rfl⟩
theorem tailOf_bent (w : World) (B B' : Nat) (aT aB aO : Addr) (hE : Errs B w aT aB aO) (hK : ErrBlk B' w aT aB) :
    Calls Tryz.prog 162 #[.iface 408 (.pointer (some aB))] w fun e w' => e = .returned (.int .i64 2) ∧ w' = w := by
  obtain ⟨_, cT, cB, cO⟩ := hE
  obtain ⟨_, hne, ⟨c1, t1, h1⟩, ⟨c2, t2, h2⟩⟩ := hK
  go_enter Tryz.func162, Tryz.ntmps162
  go_wp2_with (go_at_call 208; refine (is_other aB aT c2 c1 t2 t1 _ hne h2 h1).mono ?_; rintro e w' ⟨rfl, rfl⟩)
  go_ret
  exact ⟨rfl, rfl⟩
end Go.Proofs.YtklgjjmcflgjeaaGreatDoor.Rd
namespace Go.Proofs.YtklgjjmcflgjeaaGreatDoor.Rd
open Go.ChangeShapes Go.WideShapes Go.ChangeAt Go.RowKit
open Ints (below_drewN)
open Has (OwnI)
open Bytes (IsBytes)
open Rec (grown_set below_a1 blk2 ownI_base Box OwnRs OwnRsH RList flatH hdV lit2_news)
theorem infoRec : (Tryz.prog.info? 116).map (fun i => (i.zero, i.size, i.bytes)) = some (some (.agg #[.int .i64 0, .slice none 0 0]), 2, 32) := by kernel_rfl
def AnsS (w : World) (bs : List Int) (e : Ending) (w' : World) : Prop :=
  ∃ A c, e = .returned (.tuple #[.slice A (scanV bs).1.length c, .int .i64 ((scanV bs).2.1 : Nat), .int .i64 (scanV bs).2.2]) ∧ OwnRs w' w.heap.size A (scanV bs).1.length c (scanV bs).1 ∧ Below w.heap.size w w'
theorem ansS_of {w w' : World} {bs : List Int} {acc : RList} {p : Nat} {t : Int} {A : Option Addr} {n c : Nat} (hs : scanV bs = (acc, p, t)) (hO : OwnRs w' w.heap.size A n c acc) (hb : Below w.heap.size w w') : AnsS w bs (.returned (.tuple #[.slice A n c, .int .i64 p, .int .i64 t])) w' := by
  have hl := hO.len
  subst hl
  refine ⟨A, c, ?_, ?_, hb⟩
  · rw [hs]
  · rw [hs]; exact hO
set_option maxRecDepth 100000 in
set_option maxHeartbeats 6400000 in
theorem scanFrames_any (A : Option Addr) (n c : Nat) (bs : List Int) (B : Nat) (aT aB aO : Addr) (w : World) (hE : Errs B w aT aB aO) (hK : ErrBlk B w aT aB) (hr : IsBytes w B A n bs) (hB : B ≤ w.heap.size) (hn : n ≤ 1048576) (hc : n ≤ c) :
    Calls Tryz.prog 110 #[.slice A n c] w (AnsS w bs) := by
  obtain ⟨i0, hi0, hz0, hz1, hz2⟩ := info_parts infoRec
  have HL : Hid (bs.length = n) := hr.1
  have HB := Lib.hid hr
  have HBY := Lib.hid hr.2.1
  have HE := Lib.hid hE
  have HK := Lib.hid hK
  clear hr hE hK
  go_enter Tryz.func110, Tryz.ntmps110
  go_wp2_with fail
  go_loopw [5, 6] (fun o z wr => ∃ (p k : Nat) (A5 : Option Addr) (c5 : Nat) (acc : RList), p ≤ n ∧ k ≤ p ∧ o = .slice A5 k c5 ∧ z = .int .i64 p ∧ Hid (Amid bs p acc) ∧ Hid (OwnRs wr w.heap.size A5 k c5 acc) ∧ Below w.heap.size w wr ∧ w.heap.size ≤ wr.heap.size) (fun _ z _ => n - (RowKit.intOf z).toNat)
  case atStart => exact ⟨0, 0, _, _, [], Nat.zero_le _, Nat.le_refl _, rfl, rfl, amid_start bs, OwnRs.empty w, below_a1 _ _, by simp⟩
  case round =>
    obtain ⟨p, k, A5, c5, acc, hpn, hkp, rfl, rfl, HA, HO, hbr, hsr⟩ := hrel
    by_cases hlt : p < n
    · have hpl : p < bs.length := by rw [HL.out]; exact hlt
      have HBr := Lib.hid (HB.out.below hbr hB)
      have HEr := Lib.hid (HE.out.below hbr hB)
      have HKr := Lib.hid (HK.out.below hbr hB)
      have hQ : ∀ q, (Value.slice A5 k c5).ownBlock = some q → w.heap.size ≤ q ∧ q < wr.heap.size := HO.out.rowlt
      have HQ := Lib.hid hQ
      clear hQ
      go_wp2_with fail
      refine (readFrom_in wr A n c p (by omega) (by omega)).mono ?_
      rintro e w1 ⟨rfl, hR1, hb1⟩
      have HR1 := Lib.hid hR1
      have HB1 := Lib.hid (HBr.out.below hb1 (by omega))
      have HE1 := Lib.hid (HEr.out.below hb1 (by omega))
      have hl1 : wr.heap.size < w1.heap.size := hR1.lt
      clear hR1
      go_wp2_with fail
      refine (record_any w1 wr.heap.size A n c p .no bs B aT aB aO HE1.out HB1.out (by omega) hn hc HR1.out hpn).mono ?_
      rintro e w2 ⟨kd, zs, p', f', v, rfl, hR2, hg2, hp', hp'n, hS, hv1, hv2⟩
      have hb2 : Below wr.heap.size wr w2 := hb1.trans (below_of hg2 (Nat.le_refl _) (by omega))
      have hs2 : w1.heap.size ≤ w2.heap.size := hg2.size
      have hbw2 : Below w.heap.size w w2 := hbr.trans (hb2.mono hsr)
      have HO2 := Lib.hid (HO.out.below hb2)
      clear hb1 hg2
      rcases hS with ⟨h0, _⟩ | ⟨_, ⟨rfl, hrr⟩ | ⟨rfl, hrr⟩ | ⟨rfl, hrr⟩⟩
      · exact absurd rfl h0
      · obtain ⟨A1, c1, rfl, hO1⟩ := hv1 rfl
        obtain ⟨hnx, hpp, hppl⟩ := amid_next HBY.out HA.out hpl hrr
        have HNX := Lib.hid hnx
        have hz12 := (recR_ok HBY.out hrr).2.2
        obtain ⟨m, hm⟩ : ∃ m, zs.length = m := ⟨_, rfl⟩
        rw [hm] at hO1 ⊢
        have HO1 := Lib.hid hO1
        obtain ⟨hs, hH⟩ := HO.out
        have HH := Lib.hid hH
        have hbox := below_a1 w2 (.cells #[.int .i64 kd, .slice A1 m c1] 116)
        have hR3 := hR2.below hbox
        obtain ⟨r0, r1, r2, _, _⟩ := hR3
        obtain ⟨t0, t1⟩ := Box.new w2 kd A1 m c1 116
        have e1 := neNil
        have hR4 := (hR2.below hbox).below (below_a1 (w2.alloc (.cells #[.int .i64 kd, .slice A1 m c1] 116)) (.cells #[.int .i64 kd, .slice A1 m c1] 116))
        have HR4 := Lib.hid hR4
        have hb4 : Below wr.heap.size wr ((w2.alloc (.cells #[.int .i64 kd, .slice A1 m c1] 116)).alloc (.cells #[.int .i64 kd, .slice A1 m c1] 116)) := (hb2.alloc hb2.size _).alloc (by simp; omega) _
        have HB4 := Lib.hid hb4
        have HO4 : Hid (OwnI ((w2.alloc (.cells #[.int .i64 kd, .slice A1 m c1] 116)).alloc (.cells #[.int .i64 kd, .slice A1 m c1] 116)) wr.heap.size A1 m c1 zs) := ownI_base ((HO1.out.alloc _).alloc _) (by omega)
        have HH4 := Lib.hid (hH.below hb4)
        have r2' : (w2.alloc (.cells #[.int .i64 kd, .slice A1 m c1] 116)).cell? ⟨wr.heap.size, 2, none⟩ = some .nilIface := r2
        clear r2 hnx hO1 hv1 hv2 hrr hb4 hbox hR4 hR2 hm hH
        go_wp2_with (at_builtin; refine wpList_append_own _ rfl (.tmp 31) (.tmp 33) _ rfl w.heap.size 116 i0 _ 2 32 Tryz.underlying99 hi0 hz0 hz1 hz2 rfl (by omega) (.slice A5 k c5) k (flatH hs) rfl ?o1 ⟨w2.heap.size + 1, 0, none⟩ 1 1 [.int .i64 kd, .slice A1 m c1] rfl rfl ?o2 ?o3 ?o4 ?o5 ?o6 ?_)
        case o1 => exact HH4.out.2.2.1
        case o2 => have h5 := lit2_news (w2.alloc (.cells #[.int .i64 kd, .slice A1 m c1] 116)) (.int .i64 kd) (.slice A1 m c1) 116; simpa using h5
        case o3 => intro u hu; simp at hu; rcases hu with rfl | rfl <;> rfl
        case o4 => unfold maxLen; omega
        case o5 => omega
        case o6 => simp; omega
        intro v2 w5 hown hgr _
        obtain ⟨A6, c6, rfl, hO6⟩ := HH.out.push HB4.out HO4.out hsr hown hgr
        have HO6 := Lib.hid hO6
        obtain ⟨y0, y1, y2, _, _⟩ := HR4.out.grown hgr (fun e => by have := (HQ.out _ e).2; omega)
        have hb5 : Below w.heap.size w w5 := (hbr.trans (HB4.out.mono hsr)).grown hgr (by simp; omega) (fun q hq => (HQ.out q hq).1)
        have hs5 : w.heap.size ≤ w5.heap.size := by have := hgr.size; simp at this; omega
        clear hown hgr hO6 HB4 HO4 HH4 HR4 HH
        go_wp2
        go_roundw
        case rel => exact ⟨p', k + 1, A6, c6, acc ++ [(kd, zs)], hp'n, by omega, rfl, by go_num, HNX, HO6, hb5, hs5⟩
        case measure => simp [RowKit.intOf]; omega
      · have hv := hv2 (by simp)
        subst hv
        have HSC := Lib.hid (amid_torn HA.out hpl hrr)
        have hbox := below_a1 w2 (.cells #[.int .i64 0, .slice none 0 0] 116)
        obtain ⟨r0, r1, r2, _, _⟩ := hR2.below hbox
        have r2' : (w2.alloc (.cells #[.int .i64 0, .slice none 0 0] 116)).cell? ⟨wr.heap.size, 2, none⟩ = some (.iface 408 (.pointer (some aT))) := r2
        have e1 := neIf
        have hb3 : Below w.heap.size w (w2.alloc (.cells #[.int .i64 0, .slice none 0 0] 116)) := hbw2.alloc hbw2.size _
        have HE3 := Lib.hid (HE.out.below hb3 hB)
        have HO3 := Lib.hid (HO2.out.below hbox)
        clear r2 hv1 hv2 hrr hR2 hbox
        go_wp2_with (go_at_call 162; refine (tailOf_torn _ B aT aB aO HE3.out).mono ?_; rintro e w' ⟨rfl, rfl⟩)
        exact bodyPost_ret (v := .tuple #[.slice A5 k c5, .int .i64 (p : Int), .int .i64 1]) (by simp [results, Tryz.results110, go_sem]) rfl (ansS_of HSC.out HO3.out hb3)
      · have hv := hv2 (by simp)
        subst hv
        have HSC := Lib.hid (amid_bent HA.out hpl hrr)
        have hbox := below_a1 w2 (.cells #[.int .i64 0, .slice none 0 0] 116)
        obtain ⟨r0, r1, r2, _, _⟩ := hR2.below hbox
        have r2' : (w2.alloc (.cells #[.int .i64 0, .slice none 0 0] 116)).cell? ⟨wr.heap.size, 2, none⟩ = some (.iface 408 (.pointer (some aB))) := r2
        have e1 := neIf
        have hb3 : Below w.heap.size w (w2.alloc (.cells #[.int .i64 0, .slice none 0 0] 116)) := hbw2.alloc hbw2.size _
        have HE3 := Lib.hid (HE.out.below hb3 hB)
        have HK3 := Lib.hid (HK.out.below hb3 hB)
        have HO3 := Lib.hid (HO2.out.below hbox)
        clear r2 hv1 hv2 hrr hR2 hbox
        go_wp2_with (go_at_call 162; refine (tailOf_bent _ B B aT aB aO HE3.out HK3.out).mono ?_; rintro e w' ⟨rfl, rfl⟩)
        exact bodyPost_ret (v := .tuple #[.slice A5 k c5, .int .i64 (p : Int), .int .i64 2]) (by simp [results, Tryz.results110, go_sem]) rfl (ansS_of HSC.out HO3.out hb3)
    · have HSC := Lib.hid (amid_end HA.out (by rw [HL.out]; omega))
      go_wp2
      exact bodyPost_ret (v := .tuple #[.slice A5 k c5, .int .i64 (p : Int), .int .i64 0]) (by simp [results, Tryz.results110, go_sem]) rfl (ansS_of HSC.out HO.out hbr)
end Go.Proofs.YtklgjjmcflgjeaaGreatDoor.Rd
