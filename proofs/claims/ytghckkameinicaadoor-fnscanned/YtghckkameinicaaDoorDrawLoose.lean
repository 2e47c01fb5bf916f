/-
  THE CONTRACTS of the model's l03DrawLoose, DrawRecordOk and DrawFrameRecord over this seat's translation: some record, in memory of its own.
-/
import Derived.Test.YtghckkameinicaaDoorDrawRec
namespace Go.Proofs.YtghckkameinicaaDoor.Draw
open Go.ChangeShapes Go.WideShapes Go.ChangeAt Go.RowKit
open Go.Proofs.YtghckkameinicaaDoor.Ints (info3)
open Go.Proofs.YtghckkameinicaaDoor.Has (OwnI)
open Go.Proofs.YtghckkameinicaaDoor.Rd (RB)
open Go.Proofs.YtghckkameinicaaDoor.Rec (below_a1 ownI_base ownI_setLow)
set_option linter.unusedVariables false
set_option linter.unusedSimpArgs false

theorem CurAt.drew1 {w : World} {B g : Nat} {A : Option Addr} {n cap : Nat} {zs : List UInt8} (h : CurAt w B g A n cap zs) : CurAt w.drew B g A n cap zs := h.below (w' := w.drew) ⟨rfl, rfl, rfl, Nat.le_refl _, fun _ _ => rfl⟩

/-- Amid a drawing: the answer's cell at block b2, the record's at b3. -/
structure Am (w wr : World) (b3 : Nat) (B g : Nat) (A : Option Addr) (n cap : Nat) (zs : List UInt8) (kd : Int) (A' : Option Addr) (m c' : Nat) (ys : List Int) : Prop where
  r2 : RB wr w.heap.size 0 none 0 0
  r3 : RB wr b3 kd A' m c'
  own : OwnI wr (w.heap.size + 1) A' m c' ys
  ne : (Value.slice A' m c').ownBlock ≠ some b3
  cur : CurAt wr B g A n cap zs
  gr : w.grownBy wr (some g)
theorem Am.sz {w wr : World} {b3 B g : Nat} {A : Option Addr} {n cap : Nat} {zs : List UInt8} {kd : Int} {A' : Option Addr} {m c' : Nat} {ys : List Int} (h : Am w wr b3 B g A n cap zs kd A' m c' ys) : b3 + 1 ≤ wr.heap.size := h.r3.lt
/-- Behind a step of the cursor. -/
theorem Am.step {w wr w' : World} {b3 B g : Nat} {A : Option Addr} {n cap : Nat} {zs : List UInt8} {kd : Int} {A' : Option Addr} {m c' : Nat} {ys : List Int} (h : Am w wr b3 B g A n cap zs kd A' m c' ys) (hgl : g < w.heap.size) (hb : w.heap.size < b3) (hg : wr.grownBy w' (some g)) (hc : CurAt w' B g A n cap zs) : Am w w' b3 B g A n cap zs kd A' m c' ys := by
  refine ⟨h.r2.grown hg (by simp; omega), h.r3.grown hg (by simp; omega), h.own.grown hg ?_, h.ne, hc, grown_trans h.gr hg⟩
  cases hq : (Value.slice A' m c').ownBlock with
  | none => exact .inl rfl
  | some q =>
    refine .inr fun e => ?_
    injection e with e
    have := (h.own.lt q hq).1
    omega
theorem Am.alloc {w wr : World} {b3 B g : Nat} {A : Option Addr} {n cap : Nat} {zs : List UInt8} {kd : Int} {A' : Option Addr} {m c' : Nat} {ys : List Int} (h : Am w wr b3 B g A n cap zs kd A' m c' ys) (o : Obj) : Am w (wr.alloc o) b3 B g A n cap zs kd A' m c' ys :=
  ⟨h.r2.alloc o, h.r3.alloc o, h.own.alloc o, h.ne, h.cur.alloc o, grown_alloc h.gr o⟩
theorem own_set {w : World} {base b3 : Nat} {A : Option Addr} {n c : Nat} {ys : List Int} (h : OwnI w base A n c ys) (hne : (Value.slice A n c).ownBlock ≠ some b3) (k : Nat) (u : Value) : OwnI (w.setCell ⟨b3, k, none⟩ u) base A n c ys := h.grown (Rec.grown_set w ⟨b3, k, none⟩ u) (.inr hne)
/-- Behind an append to the numbers and its store. -/
theorem Am.push {w wr w6 : World} {b3 B g g6 cap6 : Nat} {A : Option Addr} {n cap : Nat} {zs : List UInt8} {kd z : Int} {A' : Option Addr} {m c' : Nat} {ys : List Int} (h : Am w wr b3 B g A n cap zs kd A' m c' ys) (hgl : g < w.heap.size) (hb : w.heap.size < b3)
    (hown : w6.ownsRow (w.heap.size + 1) 3 1 (.slice (some ⟨g6, 0, none⟩) (m + 1) cap6) (m + 1) (ys.map (Value.int .i64) ++ [.int .i64 z])) (hgr : wr.grownBy w6 (Value.slice A' m c').ownBlock) (hat : (Value.slice A' m c').ownBlock = some g6 ∨ g6 = wr.heap.size) :
    RB w6 b3 kd A' m c' ∧ Am w (w6.setCell ⟨b3, 1, none⟩ (.slice (some ⟨g6, 0, none⟩) (m + 1) cap6)) b3 B g A n cap zs kd (some ⟨g6, 0, none⟩) (m + 1) cap6 (ys ++ [z]) := by
  have hq : ∀ q, (Value.slice A' m c').ownBlock = some q → w.heap.size + 1 ≤ q := fun q hq => (h.own.lt q hq).1
  have hO6 : OwnI w6 (w.heap.size + 1) (some ⟨g6, 0, none⟩) (m + 1) cap6 (ys ++ [z]) := ⟨by rw [List.length_append, h.own.1]; rfl, by simpa using hown⟩
  have hne6 : (Value.slice (some ⟨g6, 0, none⟩) (m + 1) cap6).ownBlock ≠ some b3 := by
    intro e
    have e2 : g6 = b3 := by simpa [Value.ownBlock] using e
    rcases hat with h1 | h1
    · exact h.ne (by rw [h1, e2])
    · have := h.sz; omega
  have R36 := h.r3.grown hgr h.ne
  have R26 := h.r2.grown hgr (fun e => by have := hq _ e; omega)
  have hC6 := h.cur.grown hgr (fun q h => by have := hq q h; omega)
  exact ⟨R36, R26.grown (Rec.grown_set _ _ _) (by simp; omega), R36.set1 _ _ _, own_set hO6 hne6 _ _, hne6, hC6.grown (Rec.grown_set _ _ _) (fun q h => by cases h; show g < b3; omega), (h.gr.andThen hgr (fun j h => .inl (by have := hq j h; omega))).andThen (Rec.grown_set _ _ _) (fun j h => .inl (by cases h; show w.heap.size ≤ b3; omega))⟩
/-- Behind the store of another number as the kind. -/
theorem Am.kind {w wr : World} {b3 B g : Nat} {A : Option Addr} {n cap : Nat} {zs : List UInt8} {kd : Int} {A' : Option Addr} {m c' : Nat} {ys : List Int} (h : Am w wr b3 B g A n cap zs kd A' m c' ys) (hgl : g < w.heap.size) (hb : w.heap.size < b3) (k : Int) : Am w (wr.setCell ⟨b3, 0, none⟩ (.int .i64 k)) b3 B g A n cap zs k A' m c' ys :=
  ⟨h.r2.grown (Rec.grown_set _ _ _) (by simp; omega), ⟨World.cell?_setCell_same _ _ _ h.r3.c0, (World.cell?_setCell_other _ _ _ _ (by simp)).trans h.r3.c1, by rw [World.frozen?_setCell]; exact h.r3.f0, by rw [World.frozen?_setCell]; exact h.r3.f1⟩, own_set h.own h.ne _ _, h.ne, h.cur.grown (Rec.grown_set _ _ _) (fun q h => by cases h; show g < b3; omega), h.gr.andThen (Rec.grown_set _ _ _) (fun j h => .inl (by cases h; show w.heap.size ≤ b3; omega))⟩
/-- What is left when the record has been stored as the answer. -/
theorem Am.end_ {w wr : World} {b3 B g : Nat} {A : Option Addr} {n cap : Nat} {zs : List UInt8} {kd : Int} {A' : Option Addr} {m c' : Nat} {ys : List Int} (h : Am w wr b3 B g A n cap zs kd A' m c' ys) (hgl : g < w.heap.size) (hb : w.heap.size < b3) {k : Nat} (hk : m ≤ k) : RecSaid k w B g A n cap zs (.returned (.agg #[.int .i64 kd, .slice A' m c'])) ((wr.setCell ⟨w.heap.size, 0, none⟩ (.int .i64 kd)).setCell ⟨w.heap.size, 1, none⟩ (.slice A' m c')) := by
  refine ⟨kd, ys, A', m, c', rfl, hk, ?_, ?_, ?_⟩
  · exact ownI_base (ownI_setLow (ownI_setLow h.own (p := ⟨w.heap.size, 0, none⟩) (by show w.heap.size < w.heap.size + 1; omega) (.int .i64 kd)) (p := ⟨w.heap.size, 1, none⟩) (by show w.heap.size < w.heap.size + 1; omega) (.slice A' m c')) (by omega)
  · exact (h.cur.grown (Rec.grown_set _ _ _) (fun q h => by cases h; exact hgl)).grown (Rec.grown_set _ _ _) (fun q h => by cases h; exact hgl)
  · exact (h.gr.andThen (Rec.grown_set _ _ _) (fun j h => .inl (by cases h; exact Nat.le_refl _))).andThen (Rec.grown_set _ _ _) (fun j h => .inl (by cases h; exact Nat.le_refl _))

set_option maxRecDepth 100000 in
set_option maxHeartbeats 6400000 in
theorem drawLoose_any (w : World) (B g : Nat) (A : Option Addr) (n cap : Nat) (zs : List UInt8) (hc : CurAt w B g A n cap zs) :
    Calls Tryd.prog 54 #[.pointer (some ⟨g, 0, none⟩)] w (RecSaid 13 w B g A n cap zs) := by
  obtain ⟨i0, hi0, hz0, hz1, hz2⟩ := info_parts info3
  have hgl : g < w.heap.size := hc.lt
  have HC := Lib.hid (hc.below (below_a1 w (.cells #[.int .i64 0, .slice none 0 0] 26)))
  have HR2 := Lib.hid (RB.new w 0 none 0 0 26)
  clear hc
  go_enter Tryd.func54, Tryd.ntmps54
  go_wp2_with fail
  refine (drawRecord_any _ B g A n cap zs HC.out).mono ?_
  rintro e w1 ⟨kd, ys, A', m, c', rfl, hm, hO1, hc1, hg1⟩
  have hs1 : w.heap.size < w1.heap.size := by have := hg1.size; simp at this; omega
  have R21 := (HR2.out.grown hg1 (by simp; omega)).alloc (.cells #[.int .i64 kd, .slice A' m c'] 26)
  have hO1' : OwnI w1 (w.heap.size + 1) A' m c' ys := by have h1 := hO1; simp at h1; exact h1
  have hAm : Am w (w1.alloc (.cells #[.int .i64 kd, .slice A' m c'] 26)) w1.heap.size B g A n cap zs kd A' m c' ys := ⟨R21, RB.new w1 kd A' m c' _, hO1'.alloc _, fun e => by have := (hO1'.lt _ e).2; omega, hc1.alloc _, grown_alloc (grown_trans (grown_below (below_a1 w (.cells #[.int .i64 0, .slice none 0 0] 26))) hg1) _⟩
  have HA1 := Lib.hid hAm
  clear hAm hO1 hO1' hc1 hg1 R21 HC HR2
  go_wp2_with fail
  refine (once_any 6 (by omega) _ B g A n cap zs HA1.out.cur).mono ?_
  rintro e w2 ⟨b, rfl, hc2, hg2⟩
  generalize hb3 : w1.heap.size = b3 at HA1 hs1
  have HA2 := Lib.hid (HA1.out.step hgl hs1 hg2 hc2)
  clear hc2 hg2 HA1 hb3
  cases b
  · obtain ⟨c30, c31, f30, f31⟩ := HA2.out.r3
    obtain ⟨c20, c21, f20, f21⟩ := HA2.out.r2
    have HC4 := Lib.hid (fun u v => HA2.out.r2.cells u v)
    go_wp2
    exact bodyPost_ret (v := .agg #[.int .i64 kd, .slice A' m c']) (by simp [results, Tryd.results54, go_sem, (HC4.out _ _).1, (HC4.out _ _).2]) rfl (HA2.out.end_ hgl hs1 (by omega))
  · go_wp2_with fail
    refine (below_any 3 (by omega) _ B g A n cap zs HA2.out.cur).mono ?_
    rintro e w3 ⟨x, hx, _, rfl, hc3, hg3⟩
    have hx3 : x < 3 := by have := hx (by omega); omega
    have HA3 := Lib.hid (HA2.out.step hgl hs1 hg3 hc3)
    clear hc3 hg3 HA2 hx
    have hx4 : x = 0 ∨ x = 1 ∨ x = 2 := by omega
    rcases hx4 with rfl | rfl | rfl
    · go_wp2_with fail
      refine (pick_any [-1, 99, 100] w3.heap.size 3 3 rfl (by omega) (by omega) _ B g A n cap zs (HA3.out.cur.alloc _) (by have := HA3.out.cur.lt; omega) (fun j hj => lit_cells w3 _ [-1, 99, 100] j hj)).mono ?_
      rintro e w4 ⟨z, _, rfl, hc4, hg4⟩
      have HA4 := Lib.hid ((HA3.out.alloc _).step hgl hs1 hg4 hc4)
      obtain ⟨c30, c31, f30, f31⟩ := HA4.out.r3
      have HA5 := Lib.hid (HA4.out.kind hgl hs1 z)
      obtain ⟨d30, d31, _, _⟩ := HA5.out.r3
      obtain ⟨c20, c21, f20, f21⟩ := HA5.out.r2
      have HC4 := Lib.hid (fun u v => HA5.out.r2.cells u v)
      clear hc4 hg4
      go_wp2
      exact bodyPost_ret (v := .agg #[.int .i64 z, .slice A' m c']) (by simp [results, Tryd.results54, go_sem, (HC4.out _ _).1, (HC4.out _ _).2]) rfl (HA5.out.end_ hgl hs1 (by omega))
    · obtain ⟨c30, c31, f30, f31⟩ := HA3.out.r3
      have hl3 : b3 < w3.heap.size := HA3.out.r3.lt
      go_wp2_with fail
      go_region_law
        (first | (refine step_append_lies _ (by rfl) (.tmp 19) (.tmp 23) 24 (by rfl) (w.heap.size + 1) 3 i0 _ 1 8 Tryd.underlying24 hi0 hz0 hz1 hz2 rfl (by omega) (.slice A' m c') m (ys.map (Value.int .i64)) rfl (by exact (HA5.out.own.alloc _).2) ⟨w5.heap.size, 0, none⟩ 1 1 [.int .i64 z] rfl rfl (World.news_of_block (cs := #[.int .i64 z]) (heap_alloc_new w5 _)) (by intro u hu; simp at hu; subst hu; rfl) (by omega) (by unfold maxLen; omega) (by omega) (by simp; omega) (w5.heap.size + 1) (by simp) ?_; intro g6 cap6 w6 hown6 hgr6 hat6 hlt6; obtain ⟨R36, hA6⟩ := (HA5.out.alloc (.cells #[.int .i64 z] 3)).push hgl hs1 hown6 hgr6 (by simpa using hat6); have hq0 := R36.c0; have hq1 := R36.c1; have hq3 := R36.f1) | (go_simp; go_at_call 66; refine (pick_any [-1, 1099511627776, 1099511627775] w3.heap.size 3 3 rfl (by omega) (by omega) _ B g A n cap zs (by exact (HA3.out.cur.alloc _).drew1) (by have := HA3.out.cur.lt; omega) (fun j hj => by exact lit_cells w3 _ [-1, 1099511627776, 1099511627775] j hj)).mono ?_; rintro e w5 ⟨z, _, rfl, hc5, hg5⟩; have HA5 := Lib.hid ((HA3.out.alloc (.cells #[.int .i64 (-1), .int .i64 1099511627776, .int .i64 1099511627775] 3)).step hgl hs1 ⟨hg5.os, hg5.tape, hg5.output, hg5.size, hg5.block⟩ hc5); have h50 := HA5.out.r3.c0; have h51 := HA5.out.r3.c1; have hb5 : b3 < w5.heap.size := HA5.out.r3.lt; have hs5 : w.heap.size + 1 ≤ w5.heap.size := (by omega); simp only []))
      all_goals
        have HA6 := Lib.hid hA6
        obtain ⟨d30, d31, _, _⟩ := HA6.out.r3
        obtain ⟨c20, c21, f20, f21⟩ := HA6.out.r2
        have HC4 := Lib.hid (fun u v => HA6.out.r2.cells u v)
        clear hown6 hgr6 hat6 hA6 R36 hq0 hq1 hq3 hg5 hc5 h50 h51
        go_wp2
        exact bodyPost_ret (v := .agg #[.int .i64 kd, .slice (some ⟨g6, 0, none⟩) (m + 1) cap6]) (by simp [results, Tryd.results54, go_sem, (HC4.out _ _).1, (HC4.out _ _).2]) rfl (HA6.out.end_ hgl hs1 (by omega))
    · go_wp2_with fail
      go_loopw [34] (fun u wr => ∃ (m : Nat) (A' : Option Addr) (c' : Nat) (ys : List Int), m ≤ 13 ∧ Hid (Am w wr b3 B g A n cap zs kd A' m c' ys)) (fun _ wr => 13 - (match wr.cell? ⟨b3, 1, none⟩ with | some (.slice _ m _) => m | _ => 0))
      case atStart => exact ⟨m, A', c', ys, by omega, HA3⟩
      case round =>
        clear HA3 hm
        obtain ⟨m, A', c', ys, hm, HA⟩ := hrel
        obtain ⟨c30, c31, f30, f31⟩ := HA.out.r3
        have HCW := Lib.hid c31
        go_wp2_with fail
        go_region_held3 (fun w' => w'.cell? ⟨b3, 0, none⟩ = some (.int .i64 kd) ∧ w'.cell? ⟨b3, 1, none⟩ = some (.slice A' m c'))
          (first | go_keep | (exact ⟨HA4.out.r3.c0, HA4.out.r3.c1⟩))
          (first | (go_at_call 65; refine (below_any 2 (by omega) _ B g A n cap zs (by exact HA.out.cur.drew1)).mono ?_; rintro e w4 ⟨d, hd, _, rfl, hc4, hg4⟩; have hwd : IntKind.i64.wrap (12 + (d : Int)) = 12 + (d : Int) := (by rw [IntKind.wrap_i64]; have := hd (by omega); omega); have HA4 := Lib.hid (HA.out.step hgl hs1 ⟨hg4.os, hg4.tape, hg4.output, hg4.size, hg4.block⟩ hc4)))
        all_goals
          have hd2 : d < 2 := by have := hd (by omega); omega
          obtain ⟨e30, e31, g30, g31⟩ := HA4.out.r3
          have hl4 : b3 < w4.heap.size := HA4.out.r3.lt
          clear hd hc4 hg4 c30 c31 f30 f31
          by_cases hlt : m < 12 + d
          · have hdl : decide ((m : Int) < 12 + (d : Int)) = true := by simp; omega
            go_wp2_with (at_builtin; refine wpList_append_lies _ rfl (.tmp 36) (.tmp 37) _ rfl (w.heap.size + 1) 3 i0 _ 1 8 Tryd.underlying24 hi0 hz0 hz1 hz2 rfl (by omega) (.slice A' m c') m (ys.map (Value.int .i64)) rfl (by exact (HA4.out.own.alloc _).2) ⟨w4.heap.size, 0, none⟩ 1 1 [.int .i64 5] rfl rfl ?o2 ?o3 (by omega) ?o4 ?o5 ?o6 (w4.heap.size + 1) ?o7 ?_)
            case o2 => exact World.news_of_block (cs := #[.int .i64 5]) (heap_alloc_new w4 _)
            case o3 => intro u hu; simp at hu; subst hu; rfl
            case o4 => unfold maxLen; omega
            case o5 => omega
            case o6 => simp; omega
            case o7 => simp
            intro g6 cap6 w6 hown6 hgr6 hat6 hlt6
            obtain ⟨R36, hA6⟩ := (HA4.out.alloc (.cells #[.int .i64 5] 3)).push hgl hs1 hown6 hgr6 (by simpa using hat6)
            have HA6 := Lib.hid hA6
            obtain ⟨s30, s31, s32, s33⟩ := R36
            have hme := HA6.out.r3.c1
            have HME := Lib.hid hme
            clear hown6 hgr6 hat6 hA6 hme
            go_wp2
            go_roundw
            case rel => exact ⟨m + 1, some ⟨g6, 0, none⟩, cap6, ys ++ [5], by omega, HA6⟩
            case measure =>
              rw [HME.out, HCW.out]
              simp only []
              omega
          · have hdl : decide ((m : Int) < 12 + (d : Int)) = false := by simp; omega
            obtain ⟨c20, c21, f20, f21⟩ := HA4.out.r2
            have HC4 := Lib.hid (fun u v => HA4.out.r2.cells u v)
            go_wp2
            exact bodyPost_ret (v := .agg #[.int .i64 kd, .slice A' m c']) (by simp [results, Tryd.results54, go_sem, (HC4.out _ _).1, (HC4.out _ _).2]) rfl (HA4.out.end_ hgl hs1 hm)

/-- Some record, drawn off a code. -/
def DrawnR (w : World) (e : Ending) (w' : World) : Prop :=
  ∃ (kd : Int) (ys : List Int) (A' : Option Addr) (m c' : Nat), e = .returned (.agg #[.int .i64 kd, .slice A' m c']) ∧ m ≤ 13 ∧ OwnI w' w.heap.size A' m c' ys ∧ Below w.heap.size w w'
end Go.Proofs.YtghckkameinicaaDoor.Draw
