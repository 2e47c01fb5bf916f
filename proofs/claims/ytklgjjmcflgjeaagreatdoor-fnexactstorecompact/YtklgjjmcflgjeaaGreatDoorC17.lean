import Derived.Test.YtklgjjmcflgjeaaGreatDoorQ
import Derived.Test.YtklgjjmcflgjeaaGreatDoorC09
import Derived.Test.YtklgjjmcflgjeaaGreatDoorC14
import Derived.Test.YtklgjjmcflgjeaaGreatDoorC16
set_option linter.unusedVariables false
set_option linter.unusedSimpArgs false
namespace Go.Proofs.YtklgjjmcflgjeaaGreatDoor.StoC
open Go.ChangeShapes Go.WideShapes Go.ChangeAt Go.RowKit
open LK Pods EngV EngTy StoTC Seg
open Jour (JD jty readD readB compD compB)
open JourC (cty)
def cmpD (d : Sto) : Sto := { d with j := if readB d.j then compD d.j (readD d.j) else d.j }
def cmpB (d : Sto) : Bool := readB d.j && compB d.j (readD d.j)
theorem comp_no {d : JD} {rs : Rec.RList} (h : compB d rs = false) : compD d rs = d := by
  cases hj : Jour.jok d
  · exact (Jour.comp_1 hj).2
  · cases hp : Jour.packV [] rs with
    | none => exact (Jour.comp_2 hp).2
    | some bs => rw [(Jour.comp_3 hj hp).1] at h; cases h
theorem few_cmp {d : Sto} (h : StoTC.sty.Few d) : StoTC.sty.Few (cmpD d) := by
  refine ⟨?_, h.2⟩
  show jty.Few (cmpD d).j
  unfold cmpD
  dsimp only
  split
  · exact Jour.few_comp h.1
  · exact h.1
theorem en_pods {w : World} {B : Nat} {e : Eng} {A : Option Addr} {n c : Nat} (h : ety.Rd w B (enV e A n c) e) : IsPods w B A n e.ps ∧ n = e.ps.length := by
  obtain ⟨A', c', q, h⟩ := h
  simp [enV, enL] at q
  obtain ⟨rfl, rfl, rfl⟩ := q
  exact ⟨h, rfl⟩
theorem stL_fl (d : Sto) (A1 : Option Addr) (n1 c1 : Nat) (A2 : Option Addr) (n2 c2 : Nat) (A : Option Addr) (n c : Nat) : ((stL d A1 n1 c1 A2 n2 c2 A n c).drop 30).take (flL A n c d.e.nx).length = flL A n c d.e.nx := rfl
set_option maxRecDepth 100000 in
set_option maxHeartbeats 6400000 in
theorem sameStore_any (w : World) (B : Nat) (v : Value) (d : Sto) (hr : StoTC.sty.Rd w B v d) (hB : B ≤ w.heap.size) (hf : StoTC.sty.Few d) : Calls Tryz.prog 39 #[v] w (Made StoTC.sty d w) := by
  obtain ⟨A1, n1, c1, A2, n2, c2, A, n, c, rfl, h1, h2⟩ := hr
  have F1 : Hid (cty.Few d.j) := hf.1
  have F2 : Hid (ety.Few d.e) := hf.2
  have H1 := Lib.hid h1
  have H2 := Lib.hid h2
  clear h1 h2
  show Calls _ _ #[.agg (stL d A1 n1 c1 A2 n2 c2 A n c).toArray] _ _
  obtain ⟨V, hV⟩ : ∃ V, V = (w.alloc (.cells (stL d A1 n1 c1 A2 n2 c2 A n c).toArray 39)).alloc (.cells #[.int .i64 0, .int .i64 0, .int .i64 0, .int .i64 0, .int .i64 0, .int .i64 0, .int .i64 0, .int .i64 0, .int .i64 0, .int .i64 0, .int .i64 0, .int .i64 0, .slice none 0 0, .slice none 0 0, .int .i64 0, .int .i64 0, .int .i64 0, .int .i64 0, .int .i64 0, .int .i64 0, .int .i64 0, .int .i64 0, .int .i64 0, .int .i64 0, .int .i64 0, .int .i64 0, .int .i64 0, .int .i64 0, .int .i64 0, .int .i64 0, .slice none 0 0, .int .i64 0, .int .i64 0, .int .i64 0, .int .i64 0, .int .i64 0] 39) := ⟨_, rfl⟩
  have HB : Hid (Below w.heap.size w V) := by rw [hV]; exact bel2 _ _ _
  have KA : Hid (V.heap[w.heap.size]? = some (.cells (stL d A1 n1 c1 A2 n2 c2 A n c).toArray 39 (0, 0))) := by rw [hV]; exact box_alloc (box_new w _) _
  have KR : Hid (V.heap[w.heap.size + 1]? = some (.cells (stL zeroS none 0 0 none 0 0 none 0 0).toArray 39 (0, 0))) := by rw [hV]; have h := box_new (w.alloc (.cells (stL d A1 n1 c1 A2 n2 c2 A n c).toArray 39)) (.cells #[.int .i64 0, .int .i64 0, .int .i64 0, .int .i64 0, .int .i64 0, .int .i64 0, .int .i64 0, .int .i64 0, .int .i64 0, .int .i64 0, .int .i64 0, .int .i64 0, .slice none 0 0, .slice none 0 0, .int .i64 0, .int .i64 0, .int .i64 0, .int .i64 0, .int .i64 0, .int .i64 0, .int .i64 0, .int .i64 0, .int .i64 0, .int .i64 0, .int .i64 0, .int .i64 0, .int .i64 0, .int .i64 0, .int .i64 0, .int .i64 0, .slice none 0 0, .int .i64 0, .int .i64 0, .int .i64 0, .int .i64 0, .int .i64 0] 39); simp only [World.size_alloc] at h; exact h
  have hVs : w.heap.size + 1 < V.heap.size := box_lt KR.out
  go_enter Tryz.func39, Tryz.ntmps39
  go_upto_region 1 with fail
  rw [← hV]
  clear hV
  go_wp2_with (refine wpList_get rfl 32 _ rfl w.heap.size 12 rfl KA.out (joL d.j A1 n1 c1 A2 n2 c2) (stL_jo d A1 n1 c1 A2 n2 c2 A n c) Tryz.underlying32 rfl (by kernel_rfl) ?_)
  refine (Jour.sameJournal_any _ B _ d.j (JourC.CRd.rd (cty.rd_below H1.out HB.out hB)) (by omega) F1.out).mono ?_
  rintro e w1 ⟨v1, SJ, rfl, hO, hb⟩
  have HJ := Lib.hid (JourC.toC hO)
  have HJI : Hid (∀ k, SJ k → V.heap.size ≤ k ∧ k < w1.heap.size) := fun k hk => hO.inn k hk
  obtain ⟨X1, y1, X2, y2, rfl, -⟩ := hO.own
  have KA1 := Lib.hid (box_below KA.out hb)
  have KR1 := Lib.hid (box_below KR.out hb)
  have HB1 := Lib.hid (bel_then HB.out hb HB.out.size)
  have hs1 := hb.size
  clear KA KR HB hb hO
  go_upto_region 2 with (refine wpList_put rfl rfl 32 _ _ rfl w.heap.size 12 (joL d.j X1 d.j.1.length y1 X2 d.j.2.1.length y2) rfl rfl KA1.out (by kernel_rfl) (stL d X1 d.j.1.length y1 X2 d.j.2.1.length y2 A n c) rfl (Nat.le_of_ble_eq_true rfl) (joL_one _ _ _ _ _ _ _) ?_)
  obtain ⟨V2, hV2⟩ : ∃ V, V = w1.setRow w.heap.size (stL d X1 d.j.1.length y1 X2 d.j.2.1.length y2 A n c).toArray := ⟨_, rfl⟩
  have KA2 : Hid (V2.heap[w.heap.size]? = some (.cells (stL d X1 d.j.1.length y1 X2 d.j.2.1.length y2 A n c).toArray 39 (0, 0))) := by rw [hV2]; exact row_box KA1.out
  have KR2 : Hid (V2.heap[w.heap.size + 1]? = some (.cells (stL zeroS none 0 0 none 0 0 none 0 0).toArray 39 (0, 0))) := by rw [hV2]; exact row_far KR1.out (by omega)
  have HB2 : Hid (Below w.heap.size w V2) := by rw [hV2]; exact row_below HB1.out _ _ (by omega) HB1.out.size
  have HJ2 : Hid (cty.Own V2 SJ (.agg (joL d.j X1 d.j.1.length y1 X2 d.j.2.1.length y2).toArray) d.j) := by rw [hV2]; exact cty.own_same HJ.out.own (fun k hk => setRow_other _ _ _ _ (by have := HJI.out k hk; omega))
  have hs2 : V2.heap.size = w1.heap.size := by rw [hV2]; simp
  rw [← hV2]
  clear hV2 KA1 KR1 HB1 HJ
  have HP := Lib.hid (en_pods H2.out)
  go_wp2_with (refine wpList_get rfl 35 _ rfl w.heap.size 30 rfl KA2.out (flL A n c d.e.nx) (stL_fl d X1 d.j.1.length y1 X2 d.j.2.1.length y2 A n c) Tryz.underlying35 rfl (by kernel_rfl) ?_)
  refine (Crew.sameFleet_any A n c d.e.nx d.e.ps B _ (HP.out.1.below HB2.out hB) (by omega) (by rw [HP.out.2]; exact F2.out)).mono ?_
  rintro e w3 ⟨v3, SF, rfl, hO, hb⟩
  have HFI : Hid (∀ k, SF k → V2.heap.size ≤ k ∧ k < w3.heap.size) := fun k hk => hO.inn k hk
  obtain ⟨G, g, rfl, ho, hs⟩ := hO.own
  have HO := Lib.hid ho
  have HSF := Lib.hid hs
  have HJ3 : Hid (cty.Own w3 SJ (.agg (joL d.j X1 d.j.1.length y1 X2 d.j.2.1.length y2).toArray) d.j) := cty.own_same HJ2.out (fun k hk => hb.block k (by have := HJI.out k hk; omega))
  have KA3 := Lib.hid (box_below KA2.out hb)
  have KR3 := Lib.hid (box_below KR2.out hb)
  have HB3 := Lib.hid (bel_then HB2.out hb HB2.out.size)
  have hs3 := hb.size
  clear KA2 KR2 HB2 hb hO ho hs HJ2
  go_upto_region 3 with (refine wpList_put rfl rfl 35 _ _ rfl w.heap.size 30 (flL G d.e.ps.length g d.e.nx) rfl rfl KA3.out (by kernel_rfl) (stL d X1 d.j.1.length y1 X2 d.j.2.1.length y2 G d.e.ps.length g) rfl (Nat.le_of_ble_eq_true rfl) (flL_one _ _ _ _) ?_)
  obtain ⟨V4, hV4⟩ : ∃ V, V = w3.setRow w.heap.size (stL d X1 d.j.1.length y1 X2 d.j.2.1.length y2 G d.e.ps.length g).toArray := ⟨_, rfl⟩
  have KA4 : Hid (V4.heap[w.heap.size]? = some (.cells (stL d X1 d.j.1.length y1 X2 d.j.2.1.length y2 G d.e.ps.length g).toArray 39 (0, 0))) := by rw [hV4]; exact row_box KA3.out
  have KR4 : Hid (V4.heap[w.heap.size + 1]? = some (.cells (stL zeroS none 0 0 none 0 0 none 0 0).toArray 39 (0, 0))) := by rw [hV4]; exact row_far KR3.out (by omega)
  have HT4 : Hid (Turned (fun k => k = w.heap.size ∨ k = w.heap.size + 1) w3 V4) := by rw [hV4]; exact (row_turned _ _ _).wide (fun k hk => .inl hk)
  rw [← hV4]
  clear hV4 KA3 KR3
  go_wp2_with (first | (refine wpList_get rfl 39 _ rfl w.heap.size 0 rfl KA4.out (stL d X1 d.j.1.length y1 X2 d.j.2.1.length y2 G d.e.ps.length g) (stL_all _ _ _ _ _ _ _ _ _ _) Tryz.underlying39 rfl (by kernel_rfl) ?_) | (refine wpList_put rfl rfl 39 _ _ rfl (w.heap.size + 1) 0 (stL d X1 d.j.1.length y1 X2 d.j.2.1.length y2 G d.e.ps.length g) rfl rfl KR4.out (by kernel_rfl) (stL d X1 d.j.1.length y1 X2 d.j.2.1.length y2 G d.e.ps.length g) rfl (Nat.le_of_ble_eq_true rfl) (stL_one _ _ _ _ _ _ _ _ _ _) ?_))
  refine bodyPost_ret (v := .agg (stL d X1 d.j.1.length y1 X2 d.j.2.1.length y2 G d.e.ps.length g).toArray) (results_box Tryz.results39 _ rfl (row_box KR4.out) Tryz.underlying39 rfl (by kernel_rfl)) rfl ?_
  have ht := HT4.out.trans ((row_turned V4 (w.heap.size + 1) (stL d X1 d.j.1.length y1 X2 d.j.2.1.length y2 G d.e.ps.length g).toArray).wide (S' := fun k => k = w.heap.size ∨ k = w.heap.size + 1) (fun k hk => .inr hk))
  have hz := ht.size
  refine ⟨_, fun k => SJ k ∨ SF k, rfl, ⟨⟨X1, _, y1, X2, _, y2, G, _, g, SJ, SF, rfl, cty.own_same HJ3.out (fun k hk => ht.block k ?_ ?_), ⟨G, g, rfl, HO.out.same (fun k hk => ht.block k ?_ ?_), HSF.out⟩, fun k hk => .inl hk, fun k hk => .inr hk, fun k h1 h2 => ?_⟩, fun k hk => ?_, Nat.le_refl _⟩, Turned.low HB3.out ht (fun k hk => by omega) HB3.out.size⟩
  · have := HJI.out k hk; omega
  · have := HJI.out k hk; omega
  · have := HFI.out k (HSF.out k hk); omega
  · have := HFI.out k (HSF.out k hk); omega
  · have := HJI.out k h1; have := HFI.out k h2; omega
  · rcases hk with hk | hk
    · have := HJI.out k hk; omega
    · have := HFI.out k hk; omega
set_option maxRecDepth 100000 in
set_option maxHeartbeats 6400000 in
theorem copyEngine_any (w : World) (B : Nat) (v : Value) (d : Eng) (hr : ety.Rd w B v d) (hB : B ≤ w.heap.size) (hf : ety.Few d) : Calls Tryz.prog 119 #[v] w (Made ety d w) := by
  obtain ⟨A, c, rfl, hp⟩ := hr
  obtain ⟨n, hn⟩ : ∃ n, n = d.ps.length := ⟨_, rfl⟩
  rw [← hn] at hp ⊢
  have HP := Lib.hid hp
  have HN := Lib.hid hn
  have hn1 : n ≤ 1048576 := by rw [hn]; exact hf
  clear hp hn hf
  show Calls _ _ #[.agg (enL d A n c).toArray] _ _
  obtain ⟨V, hV⟩ : ∃ V, V = (w.alloc (.cells (enL d A n c).toArray 37)).alloc (.cells #[.int .i64 0, .int .i64 0, .int .i64 0, .int .i64 0, .int .i64 0, .int .i64 0, .int .i64 0, .int .i64 0, .int .i64 0, .int .i64 0, .int .i64 0, .int .i64 0, .int .i64 0, .int .i64 0, .int .i64 0, .slice none 0 0, .int .i64 0, .int .i64 0, .int .i64 0, .int .i64 0] 37) := ⟨_, rfl⟩
  have HB : Hid (Below w.heap.size w V) := by rw [hV]; exact bel2 _ _ _
  have KA : Hid (V.heap[w.heap.size]? = some (.cells (enL d A n c).toArray 37 (0, 0))) := by rw [hV]; exact box_alloc (box_new w _) _
  have KR : Hid (V.heap[w.heap.size + 1]? = some (.cells (enL zeroE none 0 0).toArray 37 (0, 0))) := by rw [hV]; have h := box_new (w.alloc (.cells (enL d A n c).toArray 37)) (.cells #[.int .i64 0, .int .i64 0, .int .i64 0, .int .i64 0, .int .i64 0, .int .i64 0, .int .i64 0, .int .i64 0, .int .i64 0, .int .i64 0, .int .i64 0, .int .i64 0, .int .i64 0, .int .i64 0, .int .i64 0, .slice none 0 0, .int .i64 0, .int .i64 0, .int .i64 0, .int .i64 0] 37); simp only [World.size_alloc] at h; exact h
  have hVs : w.heap.size + 1 < V.heap.size := box_lt KR.out
  go_enter Tryz.func119, Tryz.ntmps119
  go_upto_region 1 with fail
  rw [← hV]
  clear hV
  have KZ : Hid ((V.alloc (.cells #[.int .i64 0, .int .i64 0, .int .i64 0, .int .i64 0, .int .i64 0, .int .i64 0, .int .i64 0, .int .i64 0, .int .i64 0, .int .i64 0, .int .i64 0, .int .i64 0, .int .i64 0, .int .i64 0, .int .i64 0, .slice none 0 0, .int .i64 0, .int .i64 0, .int .i64 0, .int .i64 0] 37)).heap[V.heap.size]? = some (.cells (enL zeroE none 0 0).toArray 37 (0, 0))) := box_new V _
  go_upto_region 2 with (first | (refine wpList_get rfl 37 _ rfl w.heap.size 0 rfl KA.out (enL d A n c) List.take_length Tryz.underlying37 rfl (by kernel_rfl) ?_) | (refine wpList_put rfl rfl 37 _ _ rfl V.heap.size 0 (enL d A n c) rfl rfl KZ.out (by kernel_rfl) (enL d A n c) rfl (Nat.le_of_ble_eq_true rfl) (enL_one _ _ _ _) ?_))
  obtain ⟨V2, hV2⟩ : ∃ X, X = (V.alloc (.cells #[.int .i64 0, .int .i64 0, .int .i64 0, .int .i64 0, .int .i64 0, .int .i64 0, .int .i64 0, .int .i64 0, .int .i64 0, .int .i64 0, .int .i64 0, .int .i64 0, .int .i64 0, .int .i64 0, .int .i64 0, .slice none 0 0, .int .i64 0, .int .i64 0, .int .i64 0, .int .i64 0] 37)).setRow V.heap.size (enL d A n c).toArray := ⟨_, rfl⟩
  have KA2 : Hid (V2.heap[w.heap.size]? = some (.cells (enL d A n c).toArray 37 (0, 0))) := by rw [hV2]; exact row_far (box_alloc KA.out _) (by omega)
  have KR2 : Hid (V2.heap[w.heap.size + 1]? = some (.cells (enL zeroE none 0 0).toArray 37 (0, 0))) := by rw [hV2]; exact row_far (box_alloc KR.out _) (by omega)
  have KO2 : Hid (V2.heap[V.heap.size]? = some (.cells (enL d A n c).toArray 37 (0, 0))) := by rw [hV2]; exact row_box KZ.out
  have HB2 : Hid (Below w.heap.size w V2) := by rw [hV2]; exact row_below (bel_then HB.out (bel1 V _) HB.out.size) V.heap.size _ (by omega) (by simp; omega)
  have hs2 : V.heap.size < V2.heap.size := box_lt KO2.out
  rw [← hV2]
  clear hV2 KA KR HB KZ
  go_wp2_with (refine wpList_get rfl 35 _ rfl w.heap.size 15 rfl KA2.out (flL A n c d.nx) (enL_fl d A n c) Tryz.underlying35 rfl (by kernel_rfl) ?_)
  refine (FleetSpec.copy_any A n c d.nx d.ps B _ (HP.out.below HB2.out hB) (by omega) hn1).mono ?_
  rintro e w3 ⟨v3, SF, rfl, hO, hb⟩
  have HFI : Hid (∀ k, SF k → V2.heap.size ≤ k ∧ k < w3.heap.size) := fun k hk => hO.inn k hk
  obtain ⟨G, g, rfl, ho, hs⟩ := hO.own
  have HO := Lib.hid ho
  have HSF := Lib.hid hs
  have KR3 := Lib.hid (box_below KR2.out hb)
  have KO3 := Lib.hid (box_below KO2.out hb)
  have HB3 := Lib.hid (bel_then HB2.out hb HB2.out.size)
  have hs3 := hb.size
  clear KA2 KR2 KO2 HB2 hb hO ho hs
  go_upto_region 3 with (refine wpList_put rfl rfl 35 _ _ rfl V.heap.size 15 (flL G d.ps.length g d.nx) rfl rfl KO3.out (by kernel_rfl) (enL d G d.ps.length g) rfl (Nat.le_of_ble_eq_true rfl) (flL_one _ _ _ _) ?_)
  obtain ⟨V4, hV4⟩ : ∃ X, X = w3.setRow V.heap.size (enL d G d.ps.length g).toArray := ⟨_, rfl⟩
  have KO4 : Hid (V4.heap[V.heap.size]? = some (.cells (enL d G d.ps.length g).toArray 37 (0, 0))) := by rw [hV4]; exact row_box KO3.out
  have KR4 : Hid (V4.heap[w.heap.size + 1]? = some (.cells (enL zeroE none 0 0).toArray 37 (0, 0))) := by rw [hV4]; exact row_far KR3.out (by omega)
  have HT4 : Hid (Turned (fun k => k = V.heap.size ∨ k = w.heap.size + 1) w3 V4) := by rw [hV4]; exact (row_turned _ _ _).wide (fun k hk => .inl hk)
  rw [← hV4]
  clear hV4 KO3 KR3
  go_wp2_with (first | (refine wpList_get rfl 37 _ rfl V.heap.size 0 rfl KO4.out (enL d G d.ps.length g) List.take_length Tryz.underlying37 rfl (by kernel_rfl) ?_) | (refine wpList_put rfl rfl 37 _ _ rfl (w.heap.size + 1) 0 (enL d G d.ps.length g) rfl rfl KR4.out (by kernel_rfl) (enL d G d.ps.length g) rfl (Nat.le_of_ble_eq_true rfl) (enL_one _ _ _ _) ?_))
  refine bodyPost_ret (v := .agg (enL d G d.ps.length g).toArray) (results_box Tryz.results119 _ rfl (row_box KR4.out) Tryz.underlying37 rfl (by kernel_rfl)) rfl ?_
  have ht := HT4.out.trans ((row_turned V4 (w.heap.size + 1) (enL d G d.ps.length g).toArray).wide (S' := fun k => k = V.heap.size ∨ k = w.heap.size + 1) (fun k hk => .inr hk))
  have hz := ht.size
  refine ⟨_, SF, rfl, ⟨⟨G, g, rfl, HO.out.same (fun k hk => ht.block k ?_ ?_), HSF.out⟩, fun k hk => ?_, Nat.le_refl _⟩, Turned.low HB3.out ht (fun k hk => by omega) HB3.out.size⟩
  · have := HFI.out k (HSF.out k hk); omega
  · have := HFI.out k (HSF.out k hk); omega
  · have := HFI.out k hk; omega
set_option maxRecDepth 100000 in
set_option maxHeartbeats 12800000 in
theorem l10Copy_any (w : World) (B : Nat) (v : Value) (d : Sto) (hr : StoTC.sty.Rd w B v d) (hB : B ≤ w.heap.size) (hf : StoTC.sty.Few d) : Calls Tryz.prog 61 #[v] w (Made StoTC.sty d w) := by
  obtain ⟨A1, n1, c1, A2, n2, c2, A, n, c, rfl, h1, h2⟩ := hr
  have F1 : Hid (cty.Few d.j) := hf.1
  have F2 : Hid (ety.Few d.e) := hf.2
  have H1 := Lib.hid h1
  have H2 := Lib.hid h2
  clear h1 h2
  show Calls _ _ #[.agg (stL d A1 n1 c1 A2 n2 c2 A n c).toArray] _ _
  obtain ⟨V, hV⟩ : ∃ V, V = (w.alloc (.cells (stL d A1 n1 c1 A2 n2 c2 A n c).toArray 39)).alloc (.cells #[.int .i64 0, .int .i64 0, .int .i64 0, .int .i64 0, .int .i64 0, .int .i64 0, .int .i64 0, .int .i64 0, .int .i64 0, .int .i64 0, .int .i64 0, .int .i64 0, .slice none 0 0, .slice none 0 0, .int .i64 0, .int .i64 0, .int .i64 0, .int .i64 0, .int .i64 0, .int .i64 0, .int .i64 0, .int .i64 0, .int .i64 0, .int .i64 0, .int .i64 0, .int .i64 0, .int .i64 0, .int .i64 0, .int .i64 0, .int .i64 0, .slice none 0 0, .int .i64 0, .int .i64 0, .int .i64 0, .int .i64 0, .int .i64 0] 39) := ⟨_, rfl⟩
  have HB : Hid (Below w.heap.size w V) := by rw [hV]; exact bel2 _ _ _
  have KA : Hid (V.heap[w.heap.size]? = some (.cells (stL d A1 n1 c1 A2 n2 c2 A n c).toArray 39 (0, 0))) := by rw [hV]; exact box_alloc (box_new w _) _
  have KR : Hid (V.heap[w.heap.size + 1]? = some (.cells (stL zeroS none 0 0 none 0 0 none 0 0).toArray 39 (0, 0))) := by rw [hV]; have h := box_new (w.alloc (.cells (stL d A1 n1 c1 A2 n2 c2 A n c).toArray 39)) (.cells #[.int .i64 0, .int .i64 0, .int .i64 0, .int .i64 0, .int .i64 0, .int .i64 0, .int .i64 0, .int .i64 0, .int .i64 0, .int .i64 0, .int .i64 0, .int .i64 0, .slice none 0 0, .slice none 0 0, .int .i64 0, .int .i64 0, .int .i64 0, .int .i64 0, .int .i64 0, .int .i64 0, .int .i64 0, .int .i64 0, .int .i64 0, .int .i64 0, .int .i64 0, .int .i64 0, .int .i64 0, .int .i64 0, .int .i64 0, .int .i64 0, .slice none 0 0, .int .i64 0, .int .i64 0, .int .i64 0, .int .i64 0, .int .i64 0] 39); simp only [World.size_alloc] at h; exact h
  have hVs : w.heap.size + 1 < V.heap.size := box_lt KR.out
  go_enter Tryz.func61, Tryz.ntmps61
  go_upto_region 1 with fail
  rw [← hV]
  clear hV
  have hB2 : B ≤ V.heap.size := by omega
  refine wp_region_held_drew (S := fun w' => w'.rangeAt w.heap.size 0 (spL d.sp) ∧ w'.cell? ⟨w.heap.size, 11, none⟩ = some (.int .i64 d.rv) ∧ w'.rangeAt w.heap.size 12 (joL d.j A1 n1 c1 A2 n2 c2) ∧ w'.rangeAt w.heap.size 15 (enL d.e A n c) ∧ w'.cell? ⟨w.heap.size, 35, none⟩ = some (.int .i64 d.ct)) (by kernel_rfl) ⟨range_of KA.out (stL_sp d A1 n1 c1 A2 n2 c2 A n c), box_cell KA.out 11 _ rfl, range_of KA.out (stL_jo d A1 n1 c1 A2 n2 c2 A n c), range_of KA.out (stL_en d A1 n1 c1 A2 n2 c2 A n c), box_cell KA.out 35 _ rfl⟩ (fun hHeld => ?_)
  refine tkk (i := 0) rfl ?_
  try simp only [Act.put, pj]
  refine tkj (i := 1) (v := .agg ([.int .i64 d.sp.x0, .int .i64 d.sp.x1, .int .i64 d.sp.x2, .int .i64 d.sp.x3, .int .i64 d.sp.x4, .int .i64 d.sp.x5, .int .i64 d.sp.x6, .int .i64 d.sp.x7, .int .i64 d.sp.x8, .int .i64 d.sp.x9, .int .i64 d.sp.x10]).toArray) rfl (yieldsIf_load_mid (by rfl) 25 _ rfl w.heap.size 0 rfl ([.int .i64 d.sp.x0, .int .i64 d.sp.x1, .int .i64 d.sp.x2, .int .i64 d.sp.x3, .int .i64 d.sp.x4, .int .i64 d.sp.x5, .int .i64 d.sp.x6, .int .i64 d.sp.x7, .int .i64 d.sp.x8, .int .i64 d.sp.x9, .int .i64 d.sp.x10]) _ (fun w' h => h.1) Tryz.underlying25 rfl (by kernel_rfl)) ?_
  try simp only [Act.put, pj]
  refine tkk (i := 2) rfl ?_
  try simp only [Act.put, pj]
  refine tkk (i := 3) rfl ?_
  try simp only [Act.put, pj]
  refine tkk (i := 4) rfl ?_
  try simp only [Act.put, pj]
  refine tkj (i := 5) (v := .agg ((joL d.j A1 n1 c1 A2 n2 c2)).toArray) rfl (yieldsIf_load_mid (by rfl) 32 _ rfl w.heap.size 12 rfl ((joL d.j A1 n1 c1 A2 n2 c2)) _ (fun w' h => h.2.2.1) Tryz.underlying32 rfl (by kernel_rfl)) ?_
  try simp only [Act.put, pj]
  refine tkk (i := 7) rfl ?_
  try simp only [Act.put, pj]
  refine tkj (i := 8) (v := .agg ((enL d.e A n c)).toArray) rfl (yieldsIf_load_mid (by rfl) 37 _ rfl w.heap.size 15 rfl ((enL d.e A n c)) _ (fun w' h => h.2.2.2.1) Tryz.underlying37 rfl (by kernel_rfl)) ?_
  try simp only [Act.put, pj]
  refine tkk (i := 10) rfl ?_
  try simp only [Act.put, pj]
  refine tkk (i := 11) rfl ?_
  try simp only [Act.put, pj]
  refine wpAnyH_ready (rs := [6]) (by kernel_rfl) (by simp) (AllReadyH.cons rfl (fun K hK => ?_) AllReadyH.nil)
  · go_simp
    refine (Jour.l04Copy_any _ B _ d.j (JourC.CRd.rd (cty.rd_below H1.out (bel_then HB.out (undrew (Below.refl _ _)) HB.out.size) hB)) (by exact hB2) F1.out).mono ?_
    rintro e w1 ⟨v1, SJ, rfl, hO, hb⟩
    have hb : Below V.heap.size V w1 := undrew hb
    have HJI : Hid (∀ k, SJ k → V.heap.size ≤ k ∧ k < w1.heap.size) := fun k hk => hO.inn k hk
    have HJw1 : Hid (cty.Own w1 SJ v1 d.j) := hO.own
    obtain ⟨X1, y1, X2, y2, rfl, -⟩ := hO.own
    have KA1 := Lib.hid (box_below KA.out hb)
    have KR1 := Lib.hid (box_below KR.out hb)
    have HB1 := Lib.hid (bel_then HB.out hb HB.out.size)
    have hs1 := hb.size
    clear hb hO hHeld
    refine hK _ _ (by exact ⟨range_of KA1.out (stL_sp d A1 n1 c1 A2 n2 c2 A n c), box_cell KA1.out 11 _ rfl, range_of KA1.out (stL_jo d A1 n1 c1 A2 n2 c2 A n c), range_of KA1.out (stL_en d A1 n1 c1 A2 n2 c2 A n c), box_cell KA1.out 35 _ rfl⟩) (fun hHeld => ?_)
    clear hK K
    try simp only [Act.put, pj]
    refine wpAnyH_ready (rs := [9]) (by kernel_rfl) (by simp) (AllReadyH.cons rfl (fun K hK => ?_) AllReadyH.nil)
    go_simp
    refine (copyEngine_any _ B _ d.e (ety.rd_below H2.out HB1.out hB) (by exact Nat.le_trans hB HB1.out.size) F2.out).mono ?_
    rintro e w2 ⟨v2, SE, rfl, hO, hb⟩
    have hb : Below w1.heap.size w1 w2 := hb
    have HEI : Hid (∀ k, SE k → w1.heap.size ≤ k ∧ k < w2.heap.size) := fun k hk => hO.inn k hk
    have HEw2 : Hid (ety.Own w2 SE v2 d.e) := hO.own
    obtain ⟨G, g, hv0, -⟩ := hO.own
    have hv : v2 = .agg #[.int .i64 d.e.sp.x0, .int .i64 d.e.sp.x1, .int .i64 d.e.sp.x2, .int .i64 d.e.sp.x3, .int .i64 d.e.sp.x4, .int .i64 d.e.sp.x5, .int .i64 d.e.sp.x6, .int .i64 d.e.sp.x7, .int .i64 d.e.sp.x8, .int .i64 d.e.sp.x9, .int .i64 d.e.sp.x10, .int .i64 d.e.now, .int .i64 d.e.ph, .int .i64 d.e.tg, .int .i64 d.e.gd, .slice G d.e.ps.length g, .int .i64 d.e.nx, .int .i64 d.e.st, .int .i64 d.e.tr, .int .i64 d.e.wt] := hv0
    clear hv0
    subst hv
    have HJw2 : Hid (cty.Own w2 SJ _ d.j) := cty.own_same HJw1.out (fun k hk => hb.block k (by have := HJI.out k hk; omega))
    have KA2 := Lib.hid (box_below KA1.out hb)
    have KR2 := Lib.hid (box_below KR1.out hb)
    have HB2 := Lib.hid (bel_then HB1.out hb HB1.out.size)
    have hs2 := hb.size
    clear hb hO hHeld KA1 KR1 HB1
    refine hK _ _ (by exact ⟨range_of KA2.out (stL_sp d A1 n1 c1 A2 n2 c2 A n c), box_cell KA2.out 11 _ rfl, range_of KA2.out (stL_jo d A1 n1 c1 A2 n2 c2 A n c), range_of KA2.out (stL_en d A1 n1 c1 A2 n2 c2 A n c), box_cell KA2.out 35 _ rfl⟩) (fun hHeld => ?_)
    clear hK K
    try simp only [Act.put, pj]
    refine tkk (i := 12) rfl ?_
    try simp only [Act.put, pj]
    refine wpAnyH_ready (rs := [13]) (by kernel_rfl) (by simp) (AllReadyH.cons rfl (fun K hK => ?_) AllReadyH.nil)
    refine wp_put rfl 39 _ _ rfl (w.heap.size + 1) 0 (stL d X1 d.j.1.length y1 X2 d.j.2.1.length y2 G d.e.ps.length g) rfl rfl KR2.out (by kernel_rfl) (stL d X1 d.j.1.length y1 X2 d.j.2.1.length y2 G d.e.ps.length g) rfl (Nat.le_of_ble_eq_true rfl) (stL_one _ _ _ _ _ _ _ _ _ _) ?_
    refine hK _ _ (by exact ⟨range_of (row_far KA2.out (by omega)) (stL_sp d A1 n1 c1 A2 n2 c2 A n c), box_cell (row_far KA2.out (by omega)) 11 _ rfl, range_of (row_far KA2.out (by omega)) (stL_jo d A1 n1 c1 A2 n2 c2 A n c), range_of (row_far KA2.out (by omega)) (stL_en d A1 n1 c1 A2 n2 c2 A n c), box_cell (row_far KA2.out (by omega)) 35 _ rfl⟩) (fun hHeld => ?_)
    clear hK K
    try simp only [Act.put, pj]
    refine wpAnyH_done (by kernel_rfl) ?_ _
    clear hHeld
    go_wp2
    refine bodyPost_ret (v := .agg (stL d X1 d.j.1.length y1 X2 d.j.2.1.length y2 G d.e.ps.length g).toArray) (results_box Tryz.results61 _ rfl (row_box KR2.out) Tryz.underlying39 rfl (by kernel_rfl)) rfl ?_
    have ht := (row_turned w2 (w.heap.size + 1) (stL d X1 d.j.1.length y1 X2 d.j.2.1.length y2 G d.e.ps.length g).toArray)
    have hz := ht.size
    refine ⟨_, fun k => SJ k ∨ SE k, rfl, ⟨⟨X1, _, y1, X2, _, y2, G, _, g, SJ, SE, rfl, cty.own_same HJw2.out (fun k hk => ht.block k ?_ ?_), ety.own_same HEw2.out (fun k hk => ht.block k ?_ ?_), fun k hk => .inl hk, fun k hk => .inr hk, fun k h1 h2 => ?_⟩, fun k hk => ?_, Nat.le_refl _⟩, Turned.low HB2.out ht (fun k hk => by omega) HB2.out.size⟩
    · have := HJI.out k hk; omega
    · have := HJI.out k hk; omega
    · have := HEI.out k hk; omega
    · have := HEI.out k hk; omega
    · have := HJI.out k h1; have := HEI.out k h2; omega
    · rcases hk with hk | hk
      · have := HJI.out k hk; omega
      · have := HEI.out k hk; omega
set_option maxRecDepth 100000 in
set_option maxHeartbeats 12800000 in
theorem storeCompact_any (w : World) (B : Nat) (v : Value) (d : Sto) (hr : StoTC.sty.Rd w B v d) (hB : B ≤ w.heap.size) (hf : StoTC.sty.Few d) (aT aB aO : Addr) (hE : Rd.Errs w.heap.size w aT aB aO) (hK : Rd.ErrBlk w.heap.size w aT aB) : Calls Tryz.prog 19 #[v] w (Made1 StoTC.sty (cmpD d) (.bool (cmpB d)) w) := by
  have HF := Lib.hid hf
  have hr0 := hr
  have HE := Lib.hid hE
  have HKB := Lib.hid hK
  clear hE hK
  obtain ⟨rb, hrb⟩ : ∃ x, x = readB d.j := ⟨_, rfl⟩
  obtain ⟨cb, hcb⟩ : ∃ x, x = compB d.j (readD d.j) := ⟨_, rfl⟩
  obtain ⟨cd, hcd⟩ : ∃ x, x = cmpD d := ⟨_, rfl⟩
  obtain ⟨bb, hbb⟩ : ∃ x, x = cmpB d := ⟨_, rfl⟩
  rw [← hcd, ← hbb]
  have HRB := Lib.hid hrb
  have HCB := Lib.hid hcb
  have HCD := Lib.hid hcd
  have HBB := Lib.hid hbb
  clear hrb hcb hcd hbb
  obtain ⟨A1, n1, c1, A2, n2, c2, A, n, c, rfl, h1, h2⟩ := hr
  have F1 : Hid (cty.Few d.j) := hf.1
  have F2 : Hid (ety.Few d.e) := hf.2
  have H1 := Lib.hid h1
  have H2 := Lib.hid h2
  clear h1 h2
  show Calls _ _ #[.agg (stL d A1 n1 c1 A2 n2 c2 A n c).toArray] _ _
  obtain ⟨V, hV⟩ : ∃ V, V = (w.alloc (.cells (stL d A1 n1 c1 A2 n2 c2 A n c).toArray 39)).alloc (.cells #[.int .i64 0, .int .i64 0, .int .i64 0, .int .i64 0, .int .i64 0, .int .i64 0, .int .i64 0, .int .i64 0, .int .i64 0, .int .i64 0, .int .i64 0, .int .i64 0, .slice none 0 0, .slice none 0 0, .int .i64 0, .int .i64 0, .int .i64 0, .int .i64 0, .int .i64 0, .int .i64 0, .int .i64 0, .int .i64 0, .int .i64 0, .int .i64 0, .int .i64 0, .int .i64 0, .int .i64 0, .int .i64 0, .int .i64 0, .int .i64 0, .slice none 0 0, .int .i64 0, .int .i64 0, .int .i64 0, .int .i64 0, .int .i64 0] 39) := ⟨_, rfl⟩
  have HB : Hid (Below w.heap.size w V) := by rw [hV]; exact bel2 _ _ _
  have KA : Hid (V.heap[w.heap.size]? = some (.cells (stL d A1 n1 c1 A2 n2 c2 A n c).toArray 39 (0, 0))) := by rw [hV]; exact box_alloc (box_new w _) _
  have KR : Hid (V.heap[w.heap.size + 1]? = some (.cells (stL zeroS none 0 0 none 0 0 none 0 0).toArray 39 (0, 0))) := by rw [hV]; have h := box_new (w.alloc (.cells (stL d A1 n1 c1 A2 n2 c2 A n c).toArray 39)) (.cells #[.int .i64 0, .int .i64 0, .int .i64 0, .int .i64 0, .int .i64 0, .int .i64 0, .int .i64 0, .int .i64 0, .int .i64 0, .int .i64 0, .int .i64 0, .int .i64 0, .slice none 0 0, .slice none 0 0, .int .i64 0, .int .i64 0, .int .i64 0, .int .i64 0, .int .i64 0, .int .i64 0, .int .i64 0, .int .i64 0, .int .i64 0, .int .i64 0, .int .i64 0, .int .i64 0, .int .i64 0, .int .i64 0, .int .i64 0, .int .i64 0, .slice none 0 0, .int .i64 0, .int .i64 0, .int .i64 0, .int .i64 0, .int .i64 0] 39); simp only [World.size_alloc] at h; exact h
  have hVs : w.heap.size + 1 < V.heap.size := box_lt KR.out
  go_enter Tryz.func19, Tryz.ntmps19
  go_upto_region 1 with fail
  rw [← hV]
  clear hV
  have HR0 : Hid (StoTC.sty.Rd w B (.agg (stL d A1 n1 c1 A2 n2 c2 A n c).toArray) d) := hr0
  clear hr0 hf
  go_wp2_with (refine wpList_get rfl 39 _ rfl w.heap.size 0 rfl KA.out (stL d A1 n1 c1 A2 n2 c2 A n c) (stL_all _ _ _ _ _ _ _ _ _ _) Tryz.underlying39 rfl (by kernel_rfl) ?_)
  refine (sameStore_any _ B _ d (StoTC.sty.rd_below HR0.out HB.out hB) (by omega) HF.out).mono ?_
  rintro e w1 ⟨v1, S1, rfl, hO, hb⟩
  obtain ⟨X1, m1, y1, X2, m2, y2, G, m, g, SJ, SE, rfl, oj, oe, sj, se, dis⟩ := hO.own
  have HJI : Hid (∀ k, SJ k → V.heap.size ≤ k ∧ k < w1.heap.size) := fun k hk => hO.inn k (sj k hk)
  have HEI : Hid (∀ k, SE k → V.heap.size ≤ k ∧ k < w1.heap.size) := fun k hk => hO.inn k (se k hk)
  have HJ1 := Lib.hid oj
  have HE1 := Lib.hid oe
  have HDis := Lib.hid dis
  have KA1 := Lib.hid (box_below KA.out hb)
  have KR1 := Lib.hid (box_below KR.out hb)
  have HB1 := Lib.hid (bel_then HB.out hb HB.out.size)
  have hs1 := hb.size
  clear hO oj oe sj se dis hb KA KR HB
  have KZ : Hid ((w1.alloc (.cells #[.int .i64 0, .int .i64 0, .int .i64 0, .int .i64 0, .int .i64 0, .int .i64 0, .int .i64 0, .int .i64 0, .int .i64 0, .int .i64 0, .int .i64 0, .int .i64 0, .slice none 0 0, .slice none 0 0, .int .i64 0, .int .i64 0, .int .i64 0, .int .i64 0, .int .i64 0, .int .i64 0, .int .i64 0, .int .i64 0, .int .i64 0, .int .i64 0, .int .i64 0, .int .i64 0, .int .i64 0, .int .i64 0, .int .i64 0, .int .i64 0, .slice none 0 0, .int .i64 0, .int .i64 0, .int .i64 0, .int .i64 0, .int .i64 0] 39)).heap[w1.heap.size]? = some (.cells (stL zeroS none 0 0 none 0 0 none 0 0).toArray 39 (0, 0))) := box_new w1 _
  go_upto_region 2 with (refine wpList_put rfl rfl 39 _ _ rfl w1.heap.size 0 (stL d X1 m1 y1 X2 m2 y2 G m g) rfl rfl KZ.out (by kernel_rfl) (stL d X1 m1 y1 X2 m2 y2 G m g) rfl (Nat.le_of_ble_eq_true rfl) (stL_one _ _ _ _ _ _ _ _ _ _) ?_)
  obtain ⟨V3, hV3⟩ : ∃ X, X = (w1.alloc (.cells #[.int .i64 0, .int .i64 0, .int .i64 0, .int .i64 0, .int .i64 0, .int .i64 0, .int .i64 0, .int .i64 0, .int .i64 0, .int .i64 0, .int .i64 0, .int .i64 0, .slice none 0 0, .slice none 0 0, .int .i64 0, .int .i64 0, .int .i64 0, .int .i64 0, .int .i64 0, .int .i64 0, .int .i64 0, .int .i64 0, .int .i64 0, .int .i64 0, .int .i64 0, .int .i64 0, .int .i64 0, .int .i64 0, .int .i64 0, .int .i64 0, .slice none 0 0, .int .i64 0, .int .i64 0, .int .i64 0, .int .i64 0, .int .i64 0] 39)).setRow w1.heap.size (stL d X1 m1 y1 X2 m2 y2 G m g).toArray := ⟨_, rfl⟩
  have hbv : Below w1.heap.size w1 V3 := by rw [hV3]; exact row_below (bel1 _ _) _ _ (Nat.le_refl _) (by simp)
  have KO3 : Hid (V3.heap[w1.heap.size]? = some (.cells (stL d X1 m1 y1 X2 m2 y2 G m g).toArray 39 (0, 0))) := by rw [hV3]; exact row_box KZ.out
  have KA3 := Lib.hid (box_below KA1.out hbv)
  have KR3 := Lib.hid (box_below KR1.out hbv)
  have HB3 := Lib.hid (bel_then HB1.out hbv HB1.out.size)
  have HJ3 : Hid (cty.Own V3 SJ _ d.j) := cty.own_same HJ1.out (fun k hk => hbv.block k (HJI.out k hk).2)
  have HE3 : Hid (ety.Own V3 SE _ d.e) := ety.own_same HE1.out (fun k hk => hbv.block k (HEI.out k hk).2)
  have hs3 : w1.heap.size < V3.heap.size := box_lt KO3.out
  rw [← hV3]
  clear hV3 KZ hbv KA1 KR1 HB1 HJ1 HE1
  go_wp2_with (refine wpList_get rfl 32 _ rfl w.heap.size 12 rfl KA3.out (joL d.j A1 n1 c1 A2 n2 c2) (stL_jo d A1 n1 c1 A2 n2 c2 A n c) Tryz.underlying32 rfl (by kernel_rfl) ?_)
  refine (Jour.readJournal_any aT aB aO _ B _ d.j (cty.rd_below H1.out HB3.out hB) (by omega) F1.out (Rd.errs_up (HE.out.below HB3.out (Nat.le_refl _)) (by omega)) (Jour.blk_up (Rd.ErrBlk.below HKB.out HB3.out (Nat.le_refl _)) (by omega))).mono ?_
  rw [← HRB.out]
  rintro e w4 ⟨v4, SR, rfl, hO, hb⟩
  have HRS := Lib.hid hO
  have KA4 := Lib.hid (box_below KA3.out hb)
  have KR4 := Lib.hid (box_below KR3.out hb)
  have KO4 := Lib.hid (box_below KO3.out hb)
  have HB4 := Lib.hid (bel_then HB3.out hb HB3.out.size)
  have HJ4 : Hid (cty.Own w4 SJ _ d.j) := cty.own_same HJ3.out (fun k hk => hb.block k (by have := HJI.out k hk; omega))
  have HE4 : Hid (ety.Own w4 SE _ d.e) := ety.own_same HE3.out (fun k hk => hb.block k (by have := HEI.out k hk; omega))
  have hs4 := hb.size
  clear hO hb KA3 KR3 KO3 HB3 HJ3 HE3
  have NO : Hid (cd = d → bb = false → ∀ (W : World), Below w4.heap.size w4 W → Made1 StoTC.sty cd (.bool bb) w (.returned (.tuple #[.agg (stL d X1 m1 y1 X2 m2 y2 G m g).toArray, .bool false])) (W.setRow (w.heap.size + 1) (stL d X1 m1 y1 X2 m2 y2 G m g).toArray)) := fun h1 h2 W hW => by
    rw [h1, h2]
    have hz := hW.size
    have hbW := bel_then HB4.out hW HB4.out.size
    refine ⟨_, fun k => SJ k ∨ SE k, rfl, ⟨⟨X1, m1, y1, X2, m2, y2, G, m, g, SJ, SE, rfl, cty.own_same HJ4.out (fun k hk => ?_), ety.own_same HE4.out (fun k hk => ?_), fun k hk => .inl hk, fun k hk => .inr hk, HDis.out⟩, fun k hk => ?_, Nat.le_refl _⟩, row_below hbW (w.heap.size + 1) _ (by omega) hbW.size⟩
    · have := HJI.out k hk; exact (setRow_other _ _ _ _ (by omega)).trans (hW.block k (by omega))
    · have := HEI.out k hk; exact (setRow_other _ _ _ _ (by omega)).trans (hW.block k (by omega))
    · have hq : (W.setRow (w.heap.size + 1) (stL d X1 m1 y1 X2 m2 y2 G m g).toArray).heap.size = W.heap.size := by simp
      rcases hk with hk | hk
      · have := HJI.out k hk; omega
      · have := HEI.out k hk; omega
  cases hq : rb
  case false =>
    have HN : Hid (cd = d ∧ bb = false) := ⟨by rw [HCD.out]; unfold cmpD; rw [← HRB.out, hq]; rfl, by rw [HBB.out]; unfold cmpB; rw [← HRB.out, hq]; rfl⟩
    clear hq
    go_wp2_with (first | (refine wpList_get rfl 39 _ rfl w1.heap.size 0 rfl KO4.out (stL d X1 m1 y1 X2 m2 y2 G m g) (stL_all _ _ _ _ _ _ _ _ _ _) Tryz.underlying39 rfl (by kernel_rfl) ?_) | (refine wpList_put rfl rfl 39 _ _ rfl (w.heap.size + 1) 0 (stL d X1 m1 y1 X2 m2 y2 G m g) rfl rfl KR4.out (by kernel_rfl) (stL d X1 m1 y1 X2 m2 y2 G m g) rfl (Nat.le_of_ble_eq_true rfl) (stL_one _ _ _ _ _ _ _ _ _ _) ?_))
    exact bodyPost_ret (v := .tuple #[.agg (stL d X1 m1 y1 X2 m2 y2 G m g).toArray, .bool false]) (results_box_tmp Tryz.results19 _ rfl rfl (row_box KR4.out) Tryz.underlying39 rfl (by kernel_rfl)) rfl (NO.out HN.out.1 HN.out.2 _ (Below.refl _ _))
  have HT : Hid (readB d.j = true) := HRB.out.symm.trans hq
  clear hq
  go_wp2_with (refine wpList_get rfl 32 _ rfl w.heap.size 12 rfl KA4.out (joL d.j A1 n1 c1 A2 n2 c2) (stL_jo d A1 n1 c1 A2 n2 c2 A n c) Tryz.underlying32 rfl (by kernel_rfl) ?_)
  refine (Jour.compactTo_any _ B _ _ v4 d.j (readD d.j) (JourC.CRd.rd (cty.rd_below H1.out HB4.out hB)) (by omega) HRS.out.rd (Nat.le_refl _) F1.out (Jour.few_read (cty.rd_below H1.out HB4.out hB) F1.out)).mono ?_
  rw [← HCB.out]
  rintro e w5 ⟨v5, SY, rfl, hO, hb⟩
  have HY := Lib.hid (JourC.toC hO)
  have HYI : Hid (∀ k, SY k → w4.heap.size ≤ k ∧ k < w5.heap.size) := fun k hk => hO.inn k hk
  obtain ⟨Y1, q1, Y2, q2, rfl, -⟩ := hO.own
  have KR5 := Lib.hid (box_below KR4.out hb)
  have KO5 := Lib.hid (box_below KO4.out hb)
  have HB5 := Lib.hid (bel_then HB4.out hb HB4.out.size)
  have HE5 : Hid (ety.Own w5 SE _ d.e) := ety.own_same HE4.out (fun k hk => hb.block k (by have := HEI.out k hk; omega))
  have HB45 := Lib.hid hb
  have hs5 := hb.size
  clear hO hb KA4 KR4 KO4 HRS
  have HD : Hid (cd = { d with j := compD d.j (readD d.j) }) := by show _ = _; rw [HCD.out]; unfold cmpD; rw [HT.out]; rfl
  have HBC : Hid (bb = cb) := by show _ = _; rw [HBB.out, HCB.out]; unfold cmpB; rw [HT.out]; rfl
  go_upto_region 6 with (refine wpList_put rfl rfl 32 _ _ rfl w1.heap.size 12 (joL (compD d.j (readD d.j)) Y1 (compD d.j (readD d.j)).1.length q1 Y2 (compD d.j (readD d.j)).2.1.length q2) rfl rfl KO5.out (by kernel_rfl) (stL { d with j := compD d.j (readD d.j) } Y1 (compD d.j (readD d.j)).1.length q1 Y2 (compD d.j (readD d.j)).2.1.length q2 G m g) rfl (Nat.le_of_ble_eq_true rfl) (joL_one _ _ _ _ _ _ _) ?_)
  obtain ⟨V6, hV6⟩ : ∃ X, X = w5.setRow w1.heap.size (stL { d with j := compD d.j (readD d.j) } Y1 (compD d.j (readD d.j)).1.length q1 Y2 (compD d.j (readD d.j)).2.1.length q2 G m g).toArray := ⟨_, rfl⟩
  have KO6 : Hid (V6.heap[w1.heap.size]? = some (.cells (stL { d with j := compD d.j (readD d.j) } Y1 (compD d.j (readD d.j)).1.length q1 Y2 (compD d.j (readD d.j)).2.1.length q2 G m g).toArray 39 (0, 0))) := by rw [hV6]; exact row_box KO5.out
  have KR6 : Hid (V6.heap[w.heap.size + 1]? = some (.cells (stL zeroS none 0 0 none 0 0 none 0 0).toArray 39 (0, 0))) := by rw [hV6]; exact row_far KR5.out (by omega)
  have HT6 : Hid (Turned (fun k => k = w1.heap.size ∨ k = w.heap.size + 1) w5 V6) := by rw [hV6]; exact (row_turned _ _ _).wide (fun k hk => .inl hk)
  rw [← hV6]
  clear hV6 KO5 KR5
  go_wp2_with (first | (refine wpList_get rfl 39 _ rfl w1.heap.size 0 rfl KO6.out (stL { d with j := compD d.j (readD d.j) } Y1 (compD d.j (readD d.j)).1.length q1 Y2 (compD d.j (readD d.j)).2.1.length q2 G m g) (stL_all _ _ _ _ _ _ _ _ _ _) Tryz.underlying39 rfl (by kernel_rfl) ?_) | (refine wpList_put rfl rfl 39 _ _ rfl (w.heap.size + 1) 0 (stL { d with j := compD d.j (readD d.j) } Y1 (compD d.j (readD d.j)).1.length q1 Y2 (compD d.j (readD d.j)).2.1.length q2 G m g) rfl rfl KR6.out (by kernel_rfl) (stL { d with j := compD d.j (readD d.j) } Y1 (compD d.j (readD d.j)).1.length q1 Y2 (compD d.j (readD d.j)).2.1.length q2 G m g) rfl (Nat.le_of_ble_eq_true rfl) (stL_one _ _ _ _ _ _ _ _ _ _) ?_))
  refine bodyPost_ret (v := .tuple #[.agg (stL { d with j := compD d.j (readD d.j) } Y1 (compD d.j (readD d.j)).1.length q1 Y2 (compD d.j (readD d.j)).2.1.length q2 G m g).toArray, .bool cb]) (results_box_tmp Tryz.results19 _ rfl rfl (row_box KR6.out) Tryz.underlying39 rfl (by kernel_rfl)) rfl ?_
  rw [HD.out, HBC.out]
  have ht := HT6.out.trans ((row_turned V6 (w.heap.size + 1) (stL { d with j := compD d.j (readD d.j) } Y1 (compD d.j (readD d.j)).1.length q1 Y2 (compD d.j (readD d.j)).2.1.length q2 G m g).toArray).wide (S' := fun k => k = w1.heap.size ∨ k = w.heap.size + 1) (fun k hk => .inr hk))
  have hz := ht.size
  refine ⟨_, fun k => SY k ∨ SE k, rfl, ⟨⟨Y1, _, q1, Y2, _, q2, G, m, g, SY, SE, rfl, cty.own_same HY.out.own (fun k hk => ht.block k ?_ ?_), ety.own_same HE5.out (fun k hk => ht.block k ?_ ?_), fun k hk => .inl hk, fun k hk => .inr hk, fun k h1 h2 => ?_⟩, fun k hk => ?_, Nat.le_refl _⟩, Turned.low HB5.out ht (fun k hk => by omega) HB5.out.size⟩
  · have := HYI.out k hk; omega
  · have := HYI.out k hk; omega
  · have := HEI.out k hk; omega
  · have := HEI.out k hk; omega
  · have := HYI.out k h1; have := HEI.out k h2; omega
  · rcases hk with hk | hk
    · have := HYI.out k hk; omega
    · have := HEI.out k hk; omega
set_option maxRecDepth 100000 in
set_option maxHeartbeats 12800000 in
theorem specStoreCompact_any (w : World) (B : Nat) (v : Value) (d : Sto) (hr : StoTC.sty.Rd w B v d) (hB : B ≤ w.heap.size) (hf : StoTC.sty.Few d) : Calls Tryz.prog 21 #[v] w (Made1 StoTC.sty (cmpD d) (.bool (cmpB d)) w) := by
  have HF := Lib.hid hf
  have hr0 := hr
  obtain ⟨rb, hrb⟩ : ∃ x, x = readB d.j := ⟨_, rfl⟩
  obtain ⟨cb, hcb⟩ : ∃ x, x = compB d.j (readD d.j) := ⟨_, rfl⟩
  obtain ⟨cd, hcd⟩ : ∃ x, x = cmpD d := ⟨_, rfl⟩
  obtain ⟨bb, hbb⟩ : ∃ x, x = cmpB d := ⟨_, rfl⟩
  rw [← hcd, ← hbb]
  have HRB := Lib.hid hrb
  have HCB := Lib.hid hcb
  have HCD := Lib.hid hcd
  have HBB := Lib.hid hbb
  clear hrb hcb hcd hbb
  obtain ⟨A1, n1, c1, A2, n2, c2, A, n, c, rfl, h1, h2⟩ := hr
  have F1 : Hid (cty.Few d.j) := hf.1
  have F2 : Hid (ety.Few d.e) := hf.2
  have H1 := Lib.hid h1
  have H2 := Lib.hid h2
  clear h1 h2
  show Calls _ _ #[.agg (stL d A1 n1 c1 A2 n2 c2 A n c).toArray] _ _
  obtain ⟨V, hV⟩ : ∃ V, V = (w.alloc (.cells (stL d A1 n1 c1 A2 n2 c2 A n c).toArray 39)).alloc (.cells #[.int .i64 0, .int .i64 0, .int .i64 0, .int .i64 0, .int .i64 0, .int .i64 0, .int .i64 0, .int .i64 0, .int .i64 0, .int .i64 0, .int .i64 0, .int .i64 0, .slice none 0 0, .slice none 0 0, .int .i64 0, .int .i64 0, .int .i64 0, .int .i64 0, .int .i64 0, .int .i64 0, .int .i64 0, .int .i64 0, .int .i64 0, .int .i64 0, .int .i64 0, .int .i64 0, .int .i64 0, .int .i64 0, .int .i64 0, .int .i64 0, .slice none 0 0, .int .i64 0, .int .i64 0, .int .i64 0, .int .i64 0, .int .i64 0] 39) := ⟨_, rfl⟩
  have HB : Hid (Below w.heap.size w V) := by rw [hV]; exact bel2 _ _ _
  have KA : Hid (V.heap[w.heap.size]? = some (.cells (stL d A1 n1 c1 A2 n2 c2 A n c).toArray 39 (0, 0))) := by rw [hV]; exact box_alloc (box_new w _) _
  have KR : Hid (V.heap[w.heap.size + 1]? = some (.cells (stL zeroS none 0 0 none 0 0 none 0 0).toArray 39 (0, 0))) := by rw [hV]; have h := box_new (w.alloc (.cells (stL d A1 n1 c1 A2 n2 c2 A n c).toArray 39)) (.cells #[.int .i64 0, .int .i64 0, .int .i64 0, .int .i64 0, .int .i64 0, .int .i64 0, .int .i64 0, .int .i64 0, .int .i64 0, .int .i64 0, .int .i64 0, .int .i64 0, .slice none 0 0, .slice none 0 0, .int .i64 0, .int .i64 0, .int .i64 0, .int .i64 0, .int .i64 0, .int .i64 0, .int .i64 0, .int .i64 0, .int .i64 0, .int .i64 0, .int .i64 0, .int .i64 0, .int .i64 0, .int .i64 0, .int .i64 0, .int .i64 0, .slice none 0 0, .int .i64 0, .int .i64 0, .int .i64 0, .int .i64 0, .int .i64 0] 39); simp only [World.size_alloc] at h; exact h
  have hVs : w.heap.size + 1 < V.heap.size := box_lt KR.out
  go_enter Tryz.func21, Tryz.ntmps21
  go_upto_region 1 with fail
  rw [← hV]
  clear hV
  have HR0 : Hid (StoTC.sty.Rd w B (.agg (stL d A1 n1 c1 A2 n2 c2 A n c).toArray) d) := hr0
  clear hr0 hf
  go_wp2_with (refine wpList_get rfl 39 _ rfl w.heap.size 0 rfl KA.out (stL d A1 n1 c1 A2 n2 c2 A n c) (stL_all _ _ _ _ _ _ _ _ _ _) Tryz.underlying39 rfl (by kernel_rfl) ?_)
  refine (l10Copy_any _ B _ d (StoTC.sty.rd_below HR0.out HB.out hB) (by omega) HF.out).mono ?_
  rintro e w1 ⟨v1, S1, rfl, hO, hb⟩
  obtain ⟨X1, m1, y1, X2, m2, y2, G, m, g, SJ, SE, rfl, oj, oe, sj, se, dis⟩ := hO.own
  have HJI : Hid (∀ k, SJ k → V.heap.size ≤ k ∧ k < w1.heap.size) := fun k hk => hO.inn k (sj k hk)
  have HEI : Hid (∀ k, SE k → V.heap.size ≤ k ∧ k < w1.heap.size) := fun k hk => hO.inn k (se k hk)
  have HJ1 := Lib.hid oj
  have HE1 := Lib.hid oe
  have HDis := Lib.hid dis
  have KA1 := Lib.hid (box_below KA.out hb)
  have KR1 := Lib.hid (box_below KR.out hb)
  have HB1 := Lib.hid (bel_then HB.out hb HB.out.size)
  have hs1 := hb.size
  clear hO oj oe sj se dis hb KA KR HB
  have KZ : Hid ((w1.alloc (.cells #[.int .i64 0, .int .i64 0, .int .i64 0, .int .i64 0, .int .i64 0, .int .i64 0, .int .i64 0, .int .i64 0, .int .i64 0, .int .i64 0, .int .i64 0, .int .i64 0, .slice none 0 0, .slice none 0 0, .int .i64 0, .int .i64 0, .int .i64 0, .int .i64 0, .int .i64 0, .int .i64 0, .int .i64 0, .int .i64 0, .int .i64 0, .int .i64 0, .int .i64 0, .int .i64 0, .int .i64 0, .int .i64 0, .int .i64 0, .int .i64 0, .slice none 0 0, .int .i64 0, .int .i64 0, .int .i64 0, .int .i64 0, .int .i64 0] 39)).heap[w1.heap.size]? = some (.cells (stL zeroS none 0 0 none 0 0 none 0 0).toArray 39 (0, 0))) := box_new w1 _
  go_upto_region 2 with (refine wpList_put rfl rfl 39 _ _ rfl w1.heap.size 0 (stL d X1 m1 y1 X2 m2 y2 G m g) rfl rfl KZ.out (by kernel_rfl) (stL d X1 m1 y1 X2 m2 y2 G m g) rfl (Nat.le_of_ble_eq_true rfl) (stL_one _ _ _ _ _ _ _ _ _ _) ?_)
  obtain ⟨V3, hV3⟩ : ∃ X, X = (w1.alloc (.cells #[.int .i64 0, .int .i64 0, .int .i64 0, .int .i64 0, .int .i64 0, .int .i64 0, .int .i64 0, .int .i64 0, .int .i64 0, .int .i64 0, .int .i64 0, .int .i64 0, .slice none 0 0, .slice none 0 0, .int .i64 0, .int .i64 0, .int .i64 0, .int .i64 0, .int .i64 0, .int .i64 0, .int .i64 0, .int .i64 0, .int .i64 0, .int .i64 0, .int .i64 0, .int .i64 0, .int .i64 0, .int .i64 0, .int .i64 0, .int .i64 0, .slice none 0 0, .int .i64 0, .int .i64 0, .int .i64 0, .int .i64 0, .int .i64 0] 39)).setRow w1.heap.size (stL d X1 m1 y1 X2 m2 y2 G m g).toArray := ⟨_, rfl⟩
  have hbv : Below w1.heap.size w1 V3 := by rw [hV3]; exact row_below (bel1 _ _) _ _ (Nat.le_refl _) (by simp)
  have KO3 : Hid (V3.heap[w1.heap.size]? = some (.cells (stL d X1 m1 y1 X2 m2 y2 G m g).toArray 39 (0, 0))) := by rw [hV3]; exact row_box KZ.out
  have KA3 := Lib.hid (box_below KA1.out hbv)
  have KR3 := Lib.hid (box_below KR1.out hbv)
  have HB3 := Lib.hid (bel_then HB1.out hbv HB1.out.size)
  have HJ3 : Hid (cty.Own V3 SJ _ d.j) := cty.own_same HJ1.out (fun k hk => hbv.block k (HJI.out k hk).2)
  have HE3 : Hid (ety.Own V3 SE _ d.e) := ety.own_same HE1.out (fun k hk => hbv.block k (HEI.out k hk).2)
  have hs3 : w1.heap.size < V3.heap.size := box_lt KO3.out
  rw [← hV3]
  clear hV3 KZ hbv KA1 KR1 HB1 HJ1 HE1
  go_wp2_with (refine wpList_get rfl 32 _ rfl w.heap.size 12 rfl KA3.out (joL d.j A1 n1 c1 A2 n2 c2) (stL_jo d A1 n1 c1 A2 n2 c2 A n c) Tryz.underlying32 rfl (by kernel_rfl) ?_)
  refine (Jour.specReadJournal_any _ B _ d.j (cty.rd_below H1.out HB3.out hB) (by omega) F1.out).mono ?_
  rw [← HRB.out]
  rintro e w4 ⟨v4, SR, rfl, hO, hb⟩
  have HRS := Lib.hid hO
  have KA4 := Lib.hid (box_below KA3.out hb)
  have KR4 := Lib.hid (box_below KR3.out hb)
  have KO4 := Lib.hid (box_below KO3.out hb)
  have HB4 := Lib.hid (bel_then HB3.out hb HB3.out.size)
  have HJ4 : Hid (cty.Own w4 SJ _ d.j) := cty.own_same HJ3.out (fun k hk => hb.block k (by have := HJI.out k hk; omega))
  have HE4 : Hid (ety.Own w4 SE _ d.e) := ety.own_same HE3.out (fun k hk => hb.block k (by have := HEI.out k hk; omega))
  have hs4 := hb.size
  clear hO hb KA3 KR3 KO3 HB3 HJ3 HE3
  have NO : Hid (cd = d → bb = false → ∀ (W : World), Below w4.heap.size w4 W → Made1 StoTC.sty cd (.bool bb) w (.returned (.tuple #[.agg (stL d X1 m1 y1 X2 m2 y2 G m g).toArray, .bool false])) (W.setRow (w.heap.size + 1) (stL d X1 m1 y1 X2 m2 y2 G m g).toArray)) := fun h1 h2 W hW => by
    rw [h1, h2]
    have hz := hW.size
    have hbW := bel_then HB4.out hW HB4.out.size
    refine ⟨_, fun k => SJ k ∨ SE k, rfl, ⟨⟨X1, m1, y1, X2, m2, y2, G, m, g, SJ, SE, rfl, cty.own_same HJ4.out (fun k hk => ?_), ety.own_same HE4.out (fun k hk => ?_), fun k hk => .inl hk, fun k hk => .inr hk, HDis.out⟩, fun k hk => ?_, Nat.le_refl _⟩, row_below hbW (w.heap.size + 1) _ (by omega) hbW.size⟩
    · have := HJI.out k hk; exact (setRow_other _ _ _ _ (by omega)).trans (hW.block k (by omega))
    · have := HEI.out k hk; exact (setRow_other _ _ _ _ (by omega)).trans (hW.block k (by omega))
    · have hq : (W.setRow (w.heap.size + 1) (stL d X1 m1 y1 X2 m2 y2 G m g).toArray).heap.size = W.heap.size := by simp
      rcases hk with hk | hk
      · have := HJI.out k hk; omega
      · have := HEI.out k hk; omega
  cases hq : rb
  case false =>
    have HN : Hid (cd = d ∧ bb = false) := ⟨by rw [HCD.out]; unfold cmpD; rw [← HRB.out, hq]; rfl, by rw [HBB.out]; unfold cmpB; rw [← HRB.out, hq]; rfl⟩
    clear hq
    go_wp2_with (first | (refine wpList_get rfl 39 _ rfl w1.heap.size 0 rfl KO4.out (stL d X1 m1 y1 X2 m2 y2 G m g) (stL_all _ _ _ _ _ _ _ _ _ _) Tryz.underlying39 rfl (by kernel_rfl) ?_) | (refine wpList_put rfl rfl 39 _ _ rfl (w.heap.size + 1) 0 (stL d X1 m1 y1 X2 m2 y2 G m g) rfl rfl KR4.out (by kernel_rfl) (stL d X1 m1 y1 X2 m2 y2 G m g) rfl (Nat.le_of_ble_eq_true rfl) (stL_one _ _ _ _ _ _ _ _ _ _) ?_))
    exact bodyPost_ret (v := .tuple #[.agg (stL d X1 m1 y1 X2 m2 y2 G m g).toArray, .bool false]) (results_box_tmp Tryz.results21 _ rfl rfl (row_box KR4.out) Tryz.underlying39 rfl (by kernel_rfl)) rfl (NO.out HN.out.1 HN.out.2 _ (Below.refl _ _))
  have HT : Hid (readB d.j = true) := HRB.out.symm.trans hq
  clear hq
  go_wp2_with (refine wpList_get rfl 32 _ rfl w.heap.size 12 rfl KA4.out (joL d.j A1 n1 c1 A2 n2 c2) (stL_jo d A1 n1 c1 A2 n2 c2 A n c) Tryz.underlying32 rfl (by kernel_rfl) ?_)
  refine (Jour.specCompactTo_any _ B _ _ v4 d.j (readD d.j) (JourC.CRd.rd (cty.rd_below H1.out HB4.out hB)) (by omega) HRS.out.rd (Nat.le_refl _) F1.out (Jour.few_read (cty.rd_below H1.out HB4.out hB) F1.out)).mono ?_
  rw [← HCB.out]
  rintro e w5 ⟨v5, SY, rfl, hO, hb⟩
  have HY := Lib.hid (JourC.toC hO)
  have HYI : Hid (∀ k, SY k → w4.heap.size ≤ k ∧ k < w5.heap.size) := fun k hk => hO.inn k hk
  obtain ⟨Y1, q1, Y2, q2, rfl, -⟩ := hO.own
  have KR5 := Lib.hid (box_below KR4.out hb)
  have KO5 := Lib.hid (box_below KO4.out hb)
  have HB5 := Lib.hid (bel_then HB4.out hb HB4.out.size)
  have HE5 : Hid (ety.Own w5 SE _ d.e) := ety.own_same HE4.out (fun k hk => hb.block k (by have := HEI.out k hk; omega))
  have HB45 := Lib.hid hb
  have hs5 := hb.size
  clear hO hb KA4 KR4 KO4 HRS
  have KZJ : Hid ((w5.alloc (.cells #[.slice none 0 0, .slice none 0 0, .int .i64 0] 32)).heap[w5.heap.size]? = some (.cells [.slice none 0 0, .slice none 0 0, .int .i64 0].toArray 32 (0, 0))) := box_new w5 _
  go_upto_region 6 with (refine wpList_put rfl rfl 32 _ _ rfl w5.heap.size 0 (joL (compD d.j (readD d.j)) Y1 (compD d.j (readD d.j)).1.length q1 Y2 (compD d.j (readD d.j)).2.1.length q2) rfl rfl KZJ.out (by kernel_rfl) (joL (compD d.j (readD d.j)) Y1 (compD d.j (readD d.j)).1.length q1 Y2 (compD d.j (readD d.j)).2.1.length q2) rfl (Nat.le_of_ble_eq_true rfl) (joL_one _ _ _ _ _ _ _) ?_)
  obtain ⟨V6, hV6⟩ : ∃ X, X = (w5.alloc (.cells #[.slice none 0 0, .slice none 0 0, .int .i64 0] 32)).setRow w5.heap.size (joL (compD d.j (readD d.j)) Y1 (compD d.j (readD d.j)).1.length q1 Y2 (compD d.j (readD d.j)).2.1.length q2).toArray := ⟨_, rfl⟩
  have hbv : Below w5.heap.size w5 V6 := by rw [hV6]; exact row_below (bel1 _ _) _ _ (Nat.le_refl _) (by simp)
  have KJ6 : Hid (V6.heap[w5.heap.size]? = some (.cells (joL (compD d.j (readD d.j)) Y1 (compD d.j (readD d.j)).1.length q1 Y2 (compD d.j (readD d.j)).2.1.length q2).toArray 32 (0, 0))) := by rw [hV6]; exact row_box KZJ.out
  have KR6 := Lib.hid (box_below KR5.out hbv)
  have KO6 := Lib.hid (box_below KO5.out hbv)
  have HB6 := Lib.hid (bel_then HB5.out hbv HB5.out.size)
  have HE6 : Hid (ety.Own V6 SE _ d.e) := ety.own_same HE5.out (fun k hk => hbv.block k (by have := HEI.out k hk; omega))
  have HY6 : Hid (cty.Own V6 SY _ _) := cty.own_same HY.out.own (fun k hk => hbv.block k (HYI.out k hk).2)
  have HB46 := Lib.hid (bel_then HB45.out hbv HB45.out.size)
  have hs6 := hbv.size
  rw [← hV6]
  clear hV6 KZJ hbv KR5 KO5 HB5 HE5 HY
  cases hq : cb
  case false =>
    have HN : Hid (cd = d ∧ bb = false) := ⟨by rw [HCD.out]; unfold cmpD; rw [HT.out, comp_no (HCB.out.symm.trans hq)]; rfl, by rw [HBB.out]; unfold cmpB; rw [HT.out, HCB.out.symm.trans hq]; rfl⟩
    clear hq
    go_wp2_with (first | (refine wpList_get rfl 39 _ rfl w1.heap.size 0 rfl KO6.out (stL d X1 m1 y1 X2 m2 y2 G m g) (stL_all _ _ _ _ _ _ _ _ _ _) Tryz.underlying39 rfl (by kernel_rfl) ?_) | (refine wpList_put rfl rfl 39 _ _ rfl (w.heap.size + 1) 0 (stL d X1 m1 y1 X2 m2 y2 G m g) rfl rfl KR6.out (by kernel_rfl) (stL d X1 m1 y1 X2 m2 y2 G m g) rfl (Nat.le_of_ble_eq_true rfl) (stL_one _ _ _ _ _ _ _ _ _ _) ?_))
    exact bodyPost_ret (v := .tuple #[.agg (stL d X1 m1 y1 X2 m2 y2 G m g).toArray, .bool false]) (results_box_tmp Tryz.results21 _ rfl rfl (row_box KR6.out) Tryz.underlying39 rfl (by kernel_rfl)) rfl (NO.out HN.out.1 HN.out.2 _ HB46.out)
  have HD : Hid (cd = { d with j := compD d.j (readD d.j) }) := by show _ = _; rw [HCD.out]; unfold cmpD; rw [HT.out]; rfl
  have HBC : Hid (bb = true) := by show _ = _; rw [HBB.out]; unfold cmpB; rw [HT.out, HCB.out.symm.trans hq]; rfl
  clear hq
  go_upto_region 9 with (first | (refine wpList_get rfl 32 _ rfl w5.heap.size 0 rfl KJ6.out (joL (compD d.j (readD d.j)) Y1 (compD d.j (readD d.j)).1.length q1 Y2 (compD d.j (readD d.j)).2.1.length q2) List.take_length Tryz.underlying32 rfl (by kernel_rfl) ?_) | (refine wpList_put rfl rfl 32 _ _ rfl w1.heap.size 12 (joL (compD d.j (readD d.j)) Y1 (compD d.j (readD d.j)).1.length q1 Y2 (compD d.j (readD d.j)).2.1.length q2) rfl rfl KO6.out (by kernel_rfl) (stL { d with j := compD d.j (readD d.j) } Y1 (compD d.j (readD d.j)).1.length q1 Y2 (compD d.j (readD d.j)).2.1.length q2 G m g) rfl (Nat.le_of_ble_eq_true rfl) (joL_one _ _ _ _ _ _ _) ?_))
  obtain ⟨V8, hV8⟩ : ∃ X, X = V6.setRow w1.heap.size (stL { d with j := compD d.j (readD d.j) } Y1 (compD d.j (readD d.j)).1.length q1 Y2 (compD d.j (readD d.j)).2.1.length q2 G m g).toArray := ⟨_, rfl⟩
  have KO8 : Hid (V8.heap[w1.heap.size]? = some (.cells (stL { d with j := compD d.j (readD d.j) } Y1 (compD d.j (readD d.j)).1.length q1 Y2 (compD d.j (readD d.j)).2.1.length q2 G m g).toArray 39 (0, 0))) := by rw [hV8]; exact row_box KO6.out
  have KR8 : Hid (V8.heap[w.heap.size + 1]? = some (.cells (stL zeroS none 0 0 none 0 0 none 0 0).toArray 39 (0, 0))) := by rw [hV8]; exact row_far KR6.out (by omega)
  have HT8 : Hid (Turned (fun k => k = w1.heap.size ∨ k = w.heap.size + 1) V6 V8) := by rw [hV8]; exact (row_turned _ _ _).wide (fun k hk => .inl hk)
  rw [← hV8]
  clear hV8 KO6 KR6
  go_wp2_with (first | (refine wpList_get rfl 39 _ rfl w1.heap.size 0 rfl KO8.out (stL { d with j := compD d.j (readD d.j) } Y1 (compD d.j (readD d.j)).1.length q1 Y2 (compD d.j (readD d.j)).2.1.length q2 G m g) (stL_all _ _ _ _ _ _ _ _ _ _) Tryz.underlying39 rfl (by kernel_rfl) ?_) | (refine wpList_put rfl rfl 39 _ _ rfl (w.heap.size + 1) 0 (stL { d with j := compD d.j (readD d.j) } Y1 (compD d.j (readD d.j)).1.length q1 Y2 (compD d.j (readD d.j)).2.1.length q2 G m g) rfl rfl KR8.out (by kernel_rfl) (stL { d with j := compD d.j (readD d.j) } Y1 (compD d.j (readD d.j)).1.length q1 Y2 (compD d.j (readD d.j)).2.1.length q2 G m g) rfl (Nat.le_of_ble_eq_true rfl) (stL_one _ _ _ _ _ _ _ _ _ _) ?_))
  refine bodyPost_ret (v := .tuple #[.agg (stL { d with j := compD d.j (readD d.j) } Y1 (compD d.j (readD d.j)).1.length q1 Y2 (compD d.j (readD d.j)).2.1.length q2 G m g).toArray, .bool true]) (results_box_tmp Tryz.results21 _ rfl rfl (row_box KR8.out) Tryz.underlying39 rfl (by kernel_rfl)) rfl ?_
  rw [HD.out, HBC.out]
  have ht := HT8.out.trans ((row_turned V8 (w.heap.size + 1) (stL { d with j := compD d.j (readD d.j) } Y1 (compD d.j (readD d.j)).1.length q1 Y2 (compD d.j (readD d.j)).2.1.length q2 G m g).toArray).wide (S' := fun k => k = w1.heap.size ∨ k = w.heap.size + 1) (fun k hk => .inr hk))
  have hz := ht.size
  refine ⟨_, fun k => SY k ∨ SE k, rfl, ⟨⟨Y1, _, q1, Y2, _, q2, G, m, g, SY, SE, rfl, cty.own_same HY6.out (fun k hk => ht.block k ?_ ?_), ety.own_same HE6.out (fun k hk => ht.block k ?_ ?_), fun k hk => .inl hk, fun k hk => .inr hk, fun k h1 h2 => ?_⟩, fun k hk => ?_, Nat.le_refl _⟩, Turned.low HB6.out ht (fun k hk => by omega) HB6.out.size⟩
  · have := HYI.out k hk; omega
  · have := HYI.out k hk; omega
  · have := HEI.out k hk; omega
  · have := HEI.out k hk; omega
  · have := HYI.out k h1; have := HEI.out k h2; omega
  · rcases hk with hk | hk
    · have := HYI.out k hk; omega
    · have := HEI.out k hk; omega
end Go.Proofs.YtklgjjmcflgjeaaGreatDoor.StoC
