/-
  THE CONTRACT of the program's TakeFrame over this seat's translation.
-/
import Derived.Test.YtghckkameinicaaDoorRecord
import Derived.Deep.RegionWith
namespace Go.Proofs.YtghckkameinicaaDoor.Rd
open Go.ChangeShapes Go.WideShapes Go.ChangeAt Go.RowKit
open Go.Proofs.YtghckkameinicaaDoor.Ints (below_drewN)
open Go.Proofs.YtghckkameinicaaDoor.Has (OwnI)
open Go.Proofs.YtghckkameinicaaDoor.Bytes (IsBytes)
open Go.Proofs.YtghckkameinicaaDoor.Rec (grown_set below_a1 blk2 ownI_base Box below_alloc1)
set_option linter.unusedVariables false
set_option linter.unusedSimpArgs false

def frR (bs : List Int) (a : Int) : RecR := if 0 ≤ a ∧ a ≤ bs.length then recR bs a.toNat else .bent
def frK (bs : List Int) (a : Int) : Int := match frR bs a with | .ok kd _ _ => kd | _ => 0
def frZ (bs : List Int) (a : Int) : List Int := match frR bs a with | .ok _ zs _ => zs | _ => []
def frP (bs : List Int) (a : Int) : Int := match frR bs a with | .ok _ _ q => (q : Int) | _ => -1
theorem fr_in {bs : List Int} {p : Nat} (h : p ≤ bs.length) : frR bs p = recR bs p := by rw [frR, if_pos (by omega), Int.toNat_natCast]
theorem fr_out {bs : List Int} {a : Int} (h : a < 0 ∨ bs.length < a) : frR bs a = .bent := by rw [frR, if_neg (by omega)]
theorem fr_ok {bs : List Int} {a : Int} {kd : Int} {zs : List Int} {q : Nat} (h : frR bs a = .ok kd zs q) : frK bs a = kd ∧ frZ bs a = zs ∧ frP bs a = q := by
  unfold frK frZ frP; rw [h]; exact ⟨rfl, rfl, rfl⟩
theorem fr_no {bs : List Int} {a : Int} (h : frR bs a = .torn ∨ frR bs a = .bent) : frK bs a = 0 ∧ frZ bs a = [] ∧ frP bs a = -1 := by
  unfold frK frZ frP; rcases h with h | h <;> rw [h] <;> exact ⟨rfl, rfl, rfl⟩

/-- What a function that answers a record and a place leaves. -/
def AnsR (w : World) (kd : Int) (zs : List Int) (q : Int) (e : Ending) (w' : World) : Prop :=
  ∃ A c, e = .returned (.tuple #[.agg #[.int .i64 kd, .slice A zs.length c], .int .i64 q]) ∧ OwnI w' w.heap.size A zs.length c zs ∧ Below w.heap.size w w'

theorem ownI_nil (w : World) (b : Nat) : OwnI w b none 0 0 [] := ⟨rfl, by refine ⟨rfl, .inl ⟨rfl, rfl⟩⟩⟩

set_option maxRecDepth 100000 in
set_option maxHeartbeats 3200000 in
theorem takeFrame_any (A : Option Addr) (n c : Nat) (a : Int) (bs : List Int) (B : Nat) (aT aB aO : Addr) (w : World) (hE : Errs B w aT aB aO) (hr : IsBytes w B A n bs) (hB : B ≤ w.heap.size) (hn : n ≤ 1048576) (hc : n ≤ c) :
    Calls Tryd.prog 16 #[.slice A n c, .int .i64 a] w (AnsR w (frK bs a) (frZ bs a) (frP bs a)) := by
  have HL : Hid (bs.length = n) := hr.1
  have hb0 : Below w.heap.size w (w.alloc (.cells #[.int .i64 0, .slice none 0 0] 26)) := below_a1 _ _
  have HNEW : Hid ((w.alloc (.cells #[.int .i64 0, .slice none 0 0] 26)).heap[w.heap.size]? = some (.cells #[.int .i64 0, .slice none 0 0] 26 (0, 0))) := heap_alloc_new _ _
  have HB0 := Lib.hid (hr.below hb0 hB)
  have HE0 := Lib.hid (hE.below hb0 hB)
  clear hr hE
  have hread : ∃ (A1 : Option Addr) (n1 c1 p1 : Nat) (f1 : Flt) (b1 : List Int), (∀ W : World, W.heap.size = w.heap.size + 1 → Below w.heap.size w W → IsBytes W B A n bs → IsBytes W B A1 n1 b1) ∧ n1 ≤ 1048576 ∧ n1 ≤ c1 ∧ p1 ≤ n1 ∧
      (∀ W : World, Errs B W aT aB aO → Calls Tryd.prog 44 #[.slice A n c, .int .i64 a] W fun e w' => e = .returned (.pointer (some ⟨W.heap.size, 0, none⟩)) ∧ Rd w' W.heap.size A1 n1 c1 p1 (fv aT aB aO f1) ∧ Below W.heap.size W w') ∧
      (∀ kd zs p' f', RecSt b1 p1 f1 kd zs p' f' → (f' = .no ∧ frR bs a = .ok kd zs p') ∨ (f' ≠ .no ∧ (frR bs a = .torn ∨ frR bs a = .bent))) ∧ (∀ W : World, IsBytes W B A n bs → IsBytes W B A1 n1 b1) := by
    by_cases hin : 0 ≤ a ∧ a ≤ n
    · obtain ⟨p, rfl⟩ : ∃ p : Nat, a = (p : Int) := ⟨a.toNat, by omega⟩
      refine ⟨A, n, c, p, .no, bs, fun W _ _ h => h, hn, hc, by omega, fun W hEW => readFrom_in W A n c p (by omega) (by omega), ?_, fun W h => h⟩
      intro kd zs p' f' hS
      rw [fr_in (by rw [HL.out]; omega)]
      rcases hS with ⟨h0, _⟩ | ⟨_, ⟨rfl, h1⟩ | ⟨rfl, h1⟩ | ⟨rfl, h1⟩⟩
      · exact absurd rfl h0
      · exact .inl ⟨rfl, h1⟩
      · exact .inr ⟨by simp, .inl h1⟩
      · exact .inr ⟨by simp, .inr h1⟩
    · refine ⟨none, 0, 0, 0, .out, [], fun W _ _ h => ⟨rfl, by simp, fun h => absurd h (by omega)⟩, by omega, by omega, by omega, fun W hEW => readFrom_out W A n c a B aT aB aO hEW (by omega), ?_, fun W h => ⟨rfl, by simp, fun h => absurd h (by omega)⟩⟩
      intro kd zs p' f' hS
      rw [fr_out (by rw [HL.out]; omega)]
      rcases hS with ⟨_, rfl⟩ | ⟨h0, _⟩
      · exact .inr ⟨by simp, .inr rfl⟩
      · cases h0
  obtain ⟨A1, n1, c1, p1, f1, b1, -, hn1, hc1, hp1, HREAD, HRES, HBY⟩ := hread
  have HREAD := Lib.hid HREAD
  have HRES := Lib.hid HRES
  have HBY := Lib.hid HBY
  go_enter Tryd.func16, Tryd.ntmps16
  go_wp2_with fail
  refine (HREAD.out _ HE0.out).mono ?_
  rintro e w1 ⟨rfl, hR1, hb1⟩
  obtain ⟨w0, hw0⟩ : ∃ w0, w0 = w.alloc (.cells #[.int .i64 0, .slice none 0 0] 26) := ⟨_, rfl⟩
  rw [← hw0] at hb1 hR1 hb0 HNEW HB0 HE0 ⊢
  have hs0 : w.heap.size + 1 = w0.heap.size := by rw [hw0]; simp
  have HS0 := Lib.hid hs0
  have HR1 := Lib.hid hR1
  have HB1 := Lib.hid (HBY.out _ (HB0.out.below hb1 (by omega)))
  have HE1 := Lib.hid (HE0.out.below hb1 (by omega))
  have hl1 : w0.heap.size < w1.heap.size := hR1.lt
  generalize hRR : w0.heap.size = R at hR1 HR1 hb1 hl1 hs0 ⊢
  have HRR := Lib.hid hRR
  clear hw0 hRR hR1
  go_wp2_with fail
  refine (record_any w1 R A1 n1 c1 p1 f1 b1 B aT aB aO HE1.out HB1.out (by omega) hn1 hc1 HR1.out hp1).mono ?_
  rintro e w2 ⟨kd, zs, p', f', v, rfl, hR2, hg2, hp', hp'n, hS, hv1, hv2⟩
  have hs2 : w1.heap.size ≤ w2.heap.size := hg2.size
  have hb2 : Below R w0 w2 := hb1.trans (below_of hg2 (Nat.le_refl _) (by omega))
  have hnew2 : w2.heap[w.heap.size]? = some (.cells #[.int .i64 0, .slice none 0 0] 26 (0, 0)) := by
    rw [hb2.block w.heap.size (by omega)]
    exact HNEW.out
  have HR2 := Lib.hid hR2
  have hbw : Below w.heap.size w w2 := hb0.trans (hb2.mono (by omega))
  have hlw : w.heap.size < w2.heap.size := by omega
  obtain ⟨b0, b1', z0, z1⟩ := blk2 hnew2
  have hfin : ∀ (u v : Value) (o : Obj), Below w.heap.size w (((w2.setCell ⟨w.heap.size, 0, none⟩ u).setCell ⟨w.heap.size, 1, none⟩ v).alloc o) := fun u v o =>
    (((hbw.setCell (p := ⟨w.heap.size, 0, none⟩) (Nat.le_refl _) u).setCell (p := ⟨w.heap.size, 1, none⟩) (Nat.le_refl _) v).alloc (by simp [World.setCell]; omega) o)
  have HFIN := Lib.hid hfin
  have hcells : ∀ (u v : Value) (o : Obj), (((w2.setCell ⟨w.heap.size, 0, none⟩ u).setCell ⟨w.heap.size, 1, none⟩ v).alloc o).cell? ⟨w.heap.size, 0, none⟩ = some u ∧ (((w2.setCell ⟨w.heap.size, 0, none⟩ u).setCell ⟨w.heap.size, 1, none⟩ v).alloc o).cell? ⟨w.heap.size, 1, none⟩ = some v := fun u v o =>
    ⟨Rec.below_keep (below_a1 _ o) ((World.cell?_setCell_other _ _ _ _ (by simp)).trans (World.cell?_setCell_same _ _ _ b0)), Rec.below_keep (below_a1 _ o) (World.cell?_setCell_same _ _ _ ((World.cell?_setCell_other _ _ _ _ (by simp)).trans b1'))⟩
  have HCEL := Lib.hid hcells
  clear hcells
  clear hnew2 hfin
  rcases HRES.out kd zs p' f' hS with ⟨rfl, hfr⟩ | ⟨hf, hfr⟩
  · obtain ⟨A', c', rfl, hO⟩ := hv1 rfl
    obtain ⟨x1, x2, x3⟩ := fr_ok hfr
    have X1 := Lib.hid x1
    have X2 := Lib.hid x2
    have X3 := Lib.hid x3
    have HO := Lib.hid hO
    clear x1 x2 x3 hv1 hv2 hO hfr hS
    obtain ⟨m, hm⟩ : ∃ m, zs.length = m := ⟨_, rfl⟩
    have HM := Lib.hid hm
    rw [hm] at HO ⊢
    clear hm
    have hx2 : Box w2 w.heap.size 0 none 0 0 := ⟨b0, b1'⟩
    obtain ⟨y0, y1⟩ := (hx2.alloc (.cells #[.int .i64 kd, .slice A' m c'] 26))
    obtain ⟨t0, t1⟩ := Box.new w2 kd A' m c' 26
    have HR3 := Lib.hid (HR2.out.below (below_a1 w2 (.cells #[.int .i64 kd, .slice A' m c'] 26)))
    obtain ⟨r0, r1, r2, _, _⟩ := HR3.out
    clear hx2
    go_wp2_with fail
    go_region_with (first | (go_at_call 46; refine (place_live _ R A1 n1 c1 p' (by exact HR3.out.drewN 1)).mono ?_; rintro e w' ⟨rfl, rfl⟩))
    all_goals
      go_wp2
      refine bodyPost_ret (v := .tuple #[.agg #[.int .i64 kd, .slice A' m c'], .int .i64 p']) (by simp [results, Tryd.results16, go_sem, (HCEL.out _ _ _).1, (HCEL.out _ _ _).2]) rfl ⟨A', c', by rw [X1.out, X2.out, X3.out, HM.out], ?_, (HFIN.out _ _ _).drew⟩
      rw [X2.out, HM.out]
      have g1 := Rec.ownI_setLow (Rec.ownI_setLow HO.out (p := ⟨w.heap.size, 0, none⟩) (by show w.heap.size < w1.heap.size; omega) (.int .i64 kd)) (p := ⟨w.heap.size, 1, none⟩) (by show w.heap.size < w1.heap.size; omega) (.slice A' m c')
      exact ownI_base (g1.alloc _) (by omega)
  · obtain ⟨x1, x2, x3⟩ := fr_no hfr
    have X1 := Lib.hid x1
    have X2 := Lib.hid x2
    have X3 := Lib.hid x3
    have hv := hv2 hf
    subst hv
    obtain ⟨u, x, e0⟩ := fv_dead aT aB aO hf
    have HRd : Hid (Rd w2 R A1 n1 c1 p' (.iface u x)) := by rw [← e0]; exact HR2.out
    clear x1 x2 x3 hv1 hv2 hfr hS HR2 hR2 e0
    have hx2 : Box w2 w.heap.size 0 none 0 0 := ⟨b0, b1'⟩
    obtain ⟨y0, y1⟩ := (hx2.alloc (.cells #[.int .i64 0, .slice none 0 0] 26))
    obtain ⟨t0, t1⟩ := Box.new w2 0 none 0 0 26
    have HR3 := Lib.hid (HRd.out.below (below_a1 w2 (.cells #[.int .i64 0, .slice none 0 0] 26)))
    obtain ⟨r0, r1, r2, _, _⟩ := HR3.out
    clear hx2
    go_wp2_with fail
    go_region_with (first | (go_at_call 46; refine (place_dead _ R A1 n1 c1 p' u x (by exact HR3.out.drewN 1)).mono ?_; rintro e w' ⟨rfl, rfl⟩))
    all_goals
      go_wp2
      refine bodyPost_ret (v := .tuple #[.agg #[.int .i64 0, .slice none 0 0], .int .i64 (-1)]) (by simp [results, Tryd.results16, go_sem, (HCEL.out _ _ _).1, (HCEL.out _ _ _).2]) rfl ⟨none, 0, by rw [X1.out, X2.out, X3.out]; rfl, ?_, (HFIN.out _ _ _).drew⟩
      rw [X2.out]
      exact ownI_nil _ _
end Go.Proofs.YtghckkameinicaaDoor.Rd
