/-
  THE CONTRACTS of the model's draws of records over this seat's translation: some record, in memory of its own.
-/
import Derived.Test.YtghckkameinicaaDoorDraw2
import Derived.Test.YtghckkameinicaaDoorSpecFrame
import Derived.Deep.RegionHeld3
import Derived.Deep.RegionLaw
namespace Go.Proofs.YtghckkameinicaaDoor.Draw
open Go.ChangeShapes Go.WideShapes Go.ChangeAt Go.RowKit
open Go.Proofs.YtghckkameinicaaDoor.Ints (info3)
open Go.Proofs.YtghckkameinicaaDoor.Has (OwnI)
open Go.Proofs.YtghckkameinicaaDoor.Rd (RB)
open Go.Proofs.YtghckkameinicaaDoor.Rec (below_a1 ownI_base ownI_setLow)
set_option linter.unusedVariables false
set_option linter.unusedSimpArgs false

theorem lit_cells (w : World) (T : TypeId) (l : List Int) (j : Nat) (hj : j < l.length) : (w.alloc (.cells (l.map (Value.int .i64)).toArray T)).cell? ⟨w.heap.size, j, none⟩ = some (.int .i64 (l.getD j 0)) := by
  rw [World.cell?_alloc_new]
  simp [hj]
def IntSaid (P : Int → Prop) (w : World) (B g : Nat) (A : Option Addr) (n cap : Nat) (zs : List UInt8) (e : Ending) (w' : World) : Prop :=
  ∃ z : Int, P z ∧ e = .returned (.int .i64 z) ∧ CurAt w' B g A n cap zs ∧ w.grownBy w' (some g)

set_option maxHeartbeats 1600000 in
theorem drawNumber_any (w : World) (B g : Nat) (A : Option Addr) (n cap : Nat) (zs : List UInt8) (hc : CurAt w B g A n cap zs) :
    Calls Tryd.prog 69 #[.pointer (some ⟨g, 0, none⟩)] w (IntSaid (fun _ => True) w B g A n cap zs) := by
  have HC : Hid (CurAt w B g A n cap zs) := hc
  clear hc
  go_enter Tryd.func69, Tryd.ntmps69
  go_wp2_with fail
  refine (below_any 300 (by omega) _ B g A n cap zs HC.out).mono ?_
  rintro e w1 ⟨x, hx, _, rfl, hc1, hg1⟩
  have H1 : Hid (CurAt w1 B g A n cap zs) := hc1
  clear hc1 hx
  go_wp2_with fail
  refine (below_any 16777216 (by omega) _ B g A n cap zs H1.out).mono ?_
  rintro e w2 ⟨y, hy, _, rfl, hc2, hg2⟩
  have H2 : Hid (CurAt w2 B g A n cap zs) := hc2
  clear hc2 hy
  go_wp2_with fail
  refine (pick_any [0, 1, 127, 128, (x : Int), (y : Int), 1099511627775, 1099511627774] w2.heap.size 8 8 rfl (by omega) (by omega) _ B g A n cap zs (H2.out.alloc _) (by have := H2.out.lt; omega) (fun j hj => lit_cells w2 _ [0, 1, 127, 128, (x : Int), (y : Int), 1099511627775, 1099511627774] j hj)).mono ?_
  rintro e w3 ⟨z, hz, rfl, hc3, hg3⟩
  have H3 : Hid (CurAt w3 B g A n cap zs) := hc3
  clear hc3 hz
  go_wp2
  go_ret
  exact ⟨z, trivial, rfl, H3.out, grown_trans hg1 (grown_trans hg2 (grown_trans (grown_alloc (grown_refl _ _) _) hg3))⟩

/-- Some record, drawn. -/
def RecSaid (k : Nat) (w : World) (B g : Nat) (A : Option Addr) (n cap : Nat) (zs : List UInt8) (e : Ending) (w' : World) : Prop :=
  ∃ (kd : Int) (ys : List Int) (A' : Option Addr) (m c' : Nat), e = .returned (.agg #[.int .i64 kd, .slice A' m c']) ∧ m ≤ k ∧ OwnI w' w.heap.size A' m c' ys ∧ CurAt w' B g A n cap zs ∧ w.grownBy w' (some g)

theorem grown_below {w w' : World} {r : Option Nat} (h : Below w.heap.size w w') : w.grownBy w' r := ⟨h.os, h.tape, h.output, h.size, fun i hi _ => h.block i hi⟩

/-- A cursor is still one where another block, not older than it, has turned. -/
theorem CurAt.grown {w w' : World} {B g : Nat} {A : Option Addr} {n cap : Nat} {zs : List UInt8} (h : CurAt w B g A n cap zs) {row : Option Nat} (hg : w.grownBy w' row) (hne : ∀ q, row = some q → g < q) : CurAt w' B g A n cap zs := by
  obtain ⟨i, k, hc⟩ := h
  have hl := blk_lt hc.blk
  have hge := hc.ge
  refine ⟨i, k, ⟨(hg.block g hl (fun e => by have := hne g e.symm; omega)).trans hc.blk, hc.le, hc.small, hc.bytes.keep fun p hp => World.cell?_of_block (hg.block p.block (by omega) (fun e => by have := hne _ e.symm; omega)), hc.ge⟩⟩

set_option maxRecDepth 100000 in
set_option maxHeartbeats 3200000 in
theorem drawRecord_any (w : World) (B g : Nat) (A : Option Addr) (n cap : Nat) (zs : List UInt8) (hc : CurAt w B g A n cap zs) :
    Calls Tryd.prog 63 #[.pointer (some ⟨g, 0, none⟩)] w (RecSaid 4 w B g A n cap zs) := by
  obtain ⟨i0, hi0, hz0, hz1, hz2⟩ := info_parts info3
  have hgl : g < w.heap.size := hc.lt
  have HC := Lib.hid (hc.below (below_a1 w (.cells #[.int .i64 0, .slice none 0 0] 26)))
  have HR2 := Lib.hid (RB.new w 0 none 0 0 26)
  clear hc
  go_enter Tryd.func63, Tryd.ntmps63
  go_wp2_with fail
  refine (below_any 12 (by omega) _ B g A n cap zs HC.out).mono ?_
  rintro e w1 ⟨kd, _, _, rfl, hc1, hg1⟩
  have hs1 : w.heap.size < w1.heap.size := by have := hg1.size; simp at this; omega
  have HR21 := Lib.hid ((HR2.out.grown hg1 (by simp; omega)).alloc (.cells #[.int .i64 (kd : Int), .slice none 0 0] 26))
  have HR31 := Lib.hid (RB.new w1 (kd : Int) none 0 0 26)
  have G1 := Lib.hid (grown_alloc (grown_trans (grown_below (below_a1 w (.cells #[.int .i64 0, .slice none 0 0] 26))) hg1) (.cells #[.int .i64 (kd : Int), .slice none 0 0] 26))
  have H1 := Lib.hid (hc1.alloc (.cells #[.int .i64 (kd : Int), .slice none 0 0] 26))
  clear hc1 hg1 HC HR2
  go_wp2_with fail
  refine (below_any 5 (by omega) _ B g A n cap zs H1.out).mono ?_
  rintro e w2 ⟨x, hx, _, rfl, hc2, hg2⟩
  have hx4 : x ≤ 4 := by have := hx (by omega); omega
  generalize hb3 : w1.heap.size = b3 at HR31 hs1
  have R2 := Lib.hid (HR21.out.grown hg2 (by simp; omega))
  have R3 := Lib.hid (HR31.out.grown hg2 (by simp; omega))
  have G2 := Lib.hid (grown_trans G1.out hg2)
  have H2 := Lib.hid hc2
  have hs2 : b3 < w2.heap.size := R3.out.lt
  clear hc2 hg2 hx HR21 HR31 G1 H1 hb3
  go_wp2_with fail
  go_loopw [4] (fun z wr => ∃ (k m : Nat) (A' : Option Addr) (c' : Nat) (ys : List Int), z = .int .i64 k ∧ k + m ≤ 4 ∧ Hid (RB wr w.heap.size 0 none 0 0) ∧ Hid (RB wr b3 kd A' m c') ∧ Hid (OwnI wr (b3 + 1) A' m c' ys) ∧ Hid (CurAt wr B g A n cap zs) ∧ Hid (w.grownBy wr (some g)) ∧ b3 + 1 ≤ wr.heap.size) (fun z _ => (intOf z).toNat)
  case atStart => exact ⟨x, 0, none, 0, [], rfl, by omega, R2, R3, Rd.ownI_nil _ _, H2, G2, hs2⟩
  case round =>
    obtain ⟨k, m, A', c', ys, rfl, hkm, R2, R3, HO, HC, HG, hsr⟩ := hrel
    by_cases hk : 0 < k
    · have hdk : decide ((0 : Int) < (k : Int)) = true := by simp; omega
      have hdk2 : decide (0 < k) = true := by simp; omega
      obtain ⟨c30, c31, f30, f31⟩ := R3.out
      have HML : Hid (ys.length = m) := HO.out.1
      have hCd : CurAt wr.drew B g A n cap zs := HC.out.below (w' := wr.drew) ⟨rfl, rfl, rfl, Nat.le_refl _, fun _ _ => rfl⟩
      have HCD := Lib.hid hCd
      clear hCd
      go_wp2_with fail
      go_region_law
        (first | (refine step_append_lies _ (by rfl) (.tmp 15) (.tmp 18) 24 (by rfl) (b3 + 1) 3 i0 _ 1 8 Tryd.underlying24 hi0 hz0 hz1 hz2 rfl (by omega) (.slice A' m c') m (ys.map (Value.int .i64)) rfl (by exact (HO5.out.alloc _).2) ⟨w5.heap.size, 0, none⟩ 1 1 [.int .i64 z] rfl rfl (World.news_of_block (cs := #[.int .i64 z]) (heap_alloc_new w5 _)) (by intro u hu; simp at hu; subst hu; rfl) (by omega) (by unfold maxLen; omega) (by omega) (by simp; omega) (w5.heap.size + 1) (by simp) ?_; intro g6 cap6 w6 hown6 hgr6 hat6 hlt6; have R36 := (R35.alloc (.cells #[.int .i64 z] 3)).grown hgr6 (fun e => by have := (HO5.out.lt b3 e).1; omega); have hq0 := R36.c0; have hq1 := R36.c1; have hq3 := R36.f1) | (go_simp; go_at_call 69; refine (drawNumber_any _ B g A n cap zs (by exact HCD.out)).mono ?_; rintro e w5 ⟨z, _, rfl, hc5, hg5⟩; have hg5' : wr.grownBy w5 (some g) := ⟨hg5.os, hg5.tape, hg5.output, hg5.size, hg5.block⟩; have R35 := R3.out.grown hg5' (by simp; omega); have hs5 : wr.heap.size ≤ w5.heap.size := hg5'.size; have h50 := R35.c0; have h51 := R35.c1; have hb5 : b3 < w5.heap.size := R35.lt; have HO5 := Lib.hid (HO.out.grown hg5' (show _ ∨ _ from by cases hq : (Value.slice A' m c').ownBlock with | none => exact Or.inl rfl | some q => exact Or.inr (fun e => by injection e with e; have := (HO.out.lt q hq).1; omega))); simp only []))
      all_goals
        have hq : ∀ q, (Value.slice A' m c').ownBlock = some q → b3 + 1 ≤ q := fun q hq => (HO5.out.lt q hq).1
        have hO6 : OwnI w6 (b3 + 1) (some ⟨g6, 0, none⟩) (m + 1) cap6 (ys ++ [z]) := ⟨by rw [List.length_append, HML.out]; rfl, by simpa using hown6⟩
        have HO7 : Hid (OwnI (w6.setCell ⟨b3, 1, none⟩ (.slice (some ⟨g6, 0, none⟩) (m + 1) cap6)) (b3 + 1) (some ⟨g6, 0, none⟩) (m + 1) cap6 (ys ++ [z])) := ownI_setLow hO6 (p := ⟨b3, 1, none⟩) (by show b3 < b3 + 1; omega) _
        have R37 := Lib.hid (R36.set1 (some ⟨g6, 0, none⟩) (m + 1) cap6)
        have R26 : RB w6 w.heap.size 0 none 0 0 := ((R2.out.grown hg5' (by simp; omega)).alloc (.cells #[.int .i64 z] 3)).grown hgr6 (fun e => by have := hq _ e; omega)
        have R27 : Hid (RB (w6.setCell ⟨b3, 1, none⟩ (.slice (some ⟨g6, 0, none⟩) (m + 1) cap6)) w.heap.size 0 none 0 0) := R26.grown (Rec.grown_set _ _ _) (by simp; omega)
        have hC6 : CurAt w6 B g A n cap zs := (hc5.alloc (.cells #[.int .i64 z] 3)).grown hgr6 (fun q h => by have := hq q h; omega)
        have HC7 : Hid (CurAt (w6.setCell ⟨b3, 1, none⟩ (.slice (some ⟨g6, 0, none⟩) (m + 1) cap6)) B g A n cap zs) := hC6.grown (Rec.grown_set _ _ _) (fun q h => by cases h; show g < b3; omega)
        have HG7 : Hid (w.grownBy (w6.setCell ⟨b3, 1, none⟩ (.slice (some ⟨g6, 0, none⟩) (m + 1) cap6)) (some g)) := ((grown_alloc (grown_trans HG.out hg5') (.cells #[.int .i64 z] 3)).andThen hgr6 (fun j h => .inl (by have := hq j h; omega))).andThen (Rec.grown_set _ _ _) (fun j h => .inl (by cases h; show w.heap.size ≤ b3; omega))
        have hs7 : b3 + 1 ≤ (w6.setCell ⟨b3, 1, none⟩ (.slice (some ⟨g6, 0, none⟩) (m + 1) cap6)).heap.size := by have := hgr6.size; simp at this; simp [World.setCell]; omega
        clear hown6 hgr6 hat6 hO6 R26 hC6 R36 hq0 hq1 hq3 hq hg5 hg5' hc5 R35 h50 h51
        go_wp2
        go_roundw
        case rel => exact ⟨k - 1, m + 1, some ⟨g6, 0, none⟩, cap6, ys ++ [z], by go_num, by omega, R27, R37, HO7, HC7, HG7, hs7⟩
        case measure => simp [intOf]; omega
    · have hdk : decide ((0 : Int) < (k : Int)) = false := by simp; omega
      have hdk2 : decide (0 < k) = false := by simp; omega
      obtain ⟨c30, c31, f30, f31⟩ := R3.out
      obtain ⟨c20, c21, f20, f21⟩ := R2.out
      have HC4 := Lib.hid (fun u v => R2.out.cells u v)
      go_wp2
      refine bodyPost_ret (v := .agg #[.int .i64 (kd : Int), .slice A' m c']) (by simp [results, Tryd.results63, go_sem, (HC4.out _ _).1, (HC4.out _ _).2]) rfl ⟨kd, ys, A', m, c', rfl, by omega, ?_, ?_, ?_⟩
      · exact ownI_base (ownI_setLow (ownI_setLow HO.out (p := ⟨w.heap.size, 0, none⟩) (by show w.heap.size < b3 + 1; omega) (.int .i64 (kd : Int))) (p := ⟨w.heap.size, 1, none⟩) (by show w.heap.size < b3 + 1; omega) (.slice A' m c')) (by omega)
      · exact (HC.out.grown (Rec.grown_set _ _ _) (fun q h => by cases h; exact hgl)).grown (Rec.grown_set _ _ _) (fun q h => by cases h; exact hgl)
      · exact (HG.out.andThen (Rec.grown_set _ _ _) (fun j h => .inl (by cases h; exact Nat.le_refl _))).andThen (Rec.grown_set _ _ _) (fun j h => .inl (by cases h; exact Nat.le_refl _))
end Go.Proofs.YtghckkameinicaaDoor.Draw
