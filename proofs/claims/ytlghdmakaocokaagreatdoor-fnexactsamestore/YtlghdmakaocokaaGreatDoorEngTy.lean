/-
  ENGINES as a kind of data: the contracts of the laws' toEngine, szEngine, eqEngine, markEngine, heldEngine over this seat's translation; and how an engine comes in as an argument of a law.
-/
import Derived.Test.YtlghdmakaocokaaGreatDoorFleetTy
import Derived.Test.YtlghdmakaocokaaGreatDoorEngV
import Derived.Test.YtlghdmakaocokaaGreatDoorSeg
namespace Go.Proofs.YtlghdmakaocokaaGreatDoor.EngTy
open Go.ChangeShapes Go.WideShapes Go.ChangeAt Go.RowKit Go.Joins Go.Deep
open Go.Proofs.YtlghdmakaocokaaGreatDoor.LK Go.Proofs.YtlghdmakaocokaaGreatDoor.Pods Go.Proofs.YtlghdmakaocokaaGreatDoor.EngV Go.Proofs.YtlghdmakaocokaaGreatDoor.Seg
set_option linter.unusedVariables false

def ERd (w : World) (B : Nat) (v : Value) (d : Eng) : Prop := ∃ A c, v = enV d A d.ps.length c ∧ IsPods w B A d.ps.length d.ps
def EOwn (w : World) (S : Nat → Prop) (v : Value) (d : Eng) : Prop := ∃ A c, v = enV d A d.ps.length c ∧ OwnP w 0 A d.ps.length c d.ps ∧ (∀ k, (Value.slice A d.ps.length c).ownBlock = some k → S k)
def ety : Ty where
  D := Eng
  Rd := ERd
  Own := EOwn
  Few := fun d => d.ps.length ≤ 1048576
  cnt := fun d => 5 * d.ps.length
  mark := fun k d => { d with ps := marksP k d.ps.length }
  rd_below := by
    rintro w w' B C v d ⟨A, c, rfl, h1⟩ hb hC
    exact ⟨A, c, rfl, h1.below hb hC⟩
  own_rd := by
    rintro w S v d B ⟨A, c, rfl, h1, s1⟩ hB
    exact ⟨A, c, rfl, h1.pods (fun k hk => hB k (s1 k hk))⟩
  own_same := by
    rintro w w' S v d ⟨A, c, rfl, h1, s1⟩ hs
    exact ⟨A, c, rfl, h1.same (fun k hk => hs k (s1 k hk)), s1⟩
  few_cnt := by intro d h; omega
theorem shape {w : World} {lo hi : Nat} {S : Nat → Prop} {v : Value} {d : Eng} (h : Has ety w lo hi S v d) : ∃ A n c, v = .agg (enL d A n c).toArray := by
  obtain ⟨A, c, e, _⟩ := h.own
  exact ⟨_, _, _, e⟩
/-- Own pods in new memory, and an engine's numbers: an engine of one's own. -/
theorem made_of {w w2 w3 : World} {lo : Nat} {S : Nat → Prop} {A : Option Addr} {n c : Nat} {d : Eng} (hb : Below w.heap.size w w2) (hO : OwnP w2 lo A n c d.ps) (hlo : w.heap.size ≤ lo) (hS : ∀ k, S k → w.heap.size ≤ k ∧ k < lo) (ht : Turned S w2 w3) :
    Made ety d w (.returned (enV d A n c)) w3 := by
  have hz := ht.size
  have hl := hO.1
  subst hl
  refine ⟨_, fun k => w.heap.size ≤ k ∧ k < w3.heap.size, rfl, ⟨⟨A, c, rfl, hO.zero.same fun k hk => ht.block k (hO.lt k hk).2 (fun e => by have := hO.lt k hk; have := hS k e; omega), fun k hk => ?_⟩, fun k hk => hk, Nat.le_refl _⟩, Turned.low hb ht (fun k hk => (hS k hk).1) hb.size⟩
  have := hO.lt k hk
  exact ⟨by omega, by omega⟩
set_option maxRecDepth 100000 in
set_option maxHeartbeats 800000 in
theorem szEngine_any (A : Option Addr) (c : Nat) (d : Eng) (w : World) (h : d.ps.length ≤ maxLen) : SzC 10 ety (enV d A d.ps.length c) d w := by
  intro W k _ hk0 hk1
  have KB : Hid ((W.alloc (.cells (enL d A d.ps.length c).toArray 31)).heap[W.heap.size]? = some (.cells (enL d A d.ps.length c).toArray 31 (0, 0))) := box_new W (.cells (enL d A d.ps.length c).toArray 31)
  show Calls _ _ #[.agg (enL d A d.ps.length c).toArray, _] _ _
  go_enter Tryz.func10, Tryz.ntmps10
  go_wp2_with (refine wpList_get rfl 29 _ rfl _ 15 rfl KB.out (flL A d.ps.length c d.nx) (enL_fl d A d.ps.length c) Tryz.underlying29 rfl (by kernel_rfl) ?_)
  refine (FleetTy.szFleet_any A c (d.ps, d.nx) _ h _ k (Below.refl _ _) hk0 hk1).mono ?_
  rintro e w1 ⟨r, rfl, hb, hr⟩
  have HB := Lib.hid (bel_then (bel1 W _) hb (by simp))
  clear hb KB
  rcases hr with rfl | ⟨hr, h2, h3⟩
  · go_wp2
    go_ret
    exact ⟨-1, rfl, HB.out, .inl rfl⟩
  · have hd : decide (r < 0) = false := by simp; omega
    have HR := Lib.hid hr
    have H3 := Lib.hid h3
    have H2 := Lib.hid h2
    clear hr h3 h2
    go_wp2
    go_ret
    exact ⟨r, rfl, HB.out, .inr ⟨HR.out, H2.out, H3.out⟩⟩
set_option maxRecDepth 100000 in
set_option maxHeartbeats 3200000 in
theorem eqEngine_any : EqC 19 ety := by
  rintro w B B' v v' d ⟨A, c, rfl, h1⟩ ⟨C, e, rfl, g1⟩ hB hB' hf
  have hf : d.ps.length ≤ 1048576 := hf
  have H1 : Hid (FleetTy.fty.Rd w B (flV A d.ps.length c d.nx) (d.ps, d.nx)) := (⟨A, c, rfl, h1⟩ : FleetTy.FRd w B (flV A d.ps.length c d.nx) (d.ps, d.nx))
  have G1 : Hid (FleetTy.fty.Rd w B' (flV C d.ps.length e d.nx) (d.ps, d.nx)) := (⟨C, e, rfl, g1⟩ : FleetTy.FRd w B' (flV C d.ps.length e d.nx) (d.ps, d.nx))
  clear h1 g1
  show Calls _ _ #[.agg (enL d A d.ps.length c).toArray, .agg (enL d C d.ps.length e).toArray] _ _
  have KA : Hid (((w.alloc (.cells (enL d A d.ps.length c).toArray 42)).alloc (.cells (enL d C d.ps.length e).toArray 42)).heap[w.heap.size]? = some (.cells (enL d A d.ps.length c).toArray 42 (0, 0))) := box_alloc (box_new w _) _
  have KC : Hid (((w.alloc (.cells (enL d A d.ps.length c).toArray 42)).alloc (.cells (enL d C d.ps.length e).toArray 42)).heap[w.heap.size + 1]? = some (.cells (enL d C d.ps.length e).toArray 42 (0, 0))) := by have h := box_new (w.alloc (.cells (enL d A d.ps.length c).toArray 42)) (.cells (enL d C d.ps.length e).toArray 42); simp only [World.size_alloc] at h; exact h
  have HB : Hid (Below w.heap.size w ((w.alloc (.cells (enL d A d.ps.length c).toArray 42)).alloc (.cells (enL d C d.ps.length e).toArray 42))) := bel2 _ _ _
  go_enter Tryz.func19, Tryz.ntmps19
  go_wp2_with (first | (refine wpList_get rfl 36 _ rfl w.heap.size 0 rfl KA.out (spL d.sp) (enL_sp d A d.ps.length c) Tryz.underlying36 rfl (by kernel_rfl) ?_) | (refine wpList_get rfl 36 _ rfl (w.heap.size + 1) 0 rfl KC.out (spL d.sp) (enL_sp d C d.ps.length e) Tryz.underlying36 rfl (by kernel_rfl) ?_))
  refine (Sp.eqSpec_same d.sp.x0 d.sp.x1 d.sp.x2 d.sp.x3 d.sp.x4 d.sp.x5 d.sp.x6 d.sp.x7 d.sp.x8 d.sp.x9 d.sp.x10 _).mono ?_
  rintro e1 w1 ⟨rfl, hb⟩
  have KA1 := Lib.hid (box_below KA.out hb)
  have KC1 := Lib.hid (box_below KC.out hb)
  have HB1 := Lib.hid (bel_then HB.out hb HB.out.size)
  clear KA KC HB hb
  have ca11 : w1.cell? ⟨w.heap.size, 11, none⟩ = some (.int .i64 d.now) := box_cell KA1.out 11 _ rfl
  have cc11 : w1.cell? ⟨w.heap.size + 1, 11, none⟩ = some (.int .i64 d.now) := box_cell KC1.out 11 _ rfl
  have ca12 : w1.cell? ⟨w.heap.size, 12, none⟩ = some (.int .i64 d.ph) := box_cell KA1.out 12 _ rfl
  have cc12 : w1.cell? ⟨w.heap.size + 1, 12, none⟩ = some (.int .i64 d.ph) := box_cell KC1.out 12 _ rfl
  have ca13 : w1.cell? ⟨w.heap.size, 13, none⟩ = some (.int .i64 d.tg) := box_cell KA1.out 13 _ rfl
  have cc13 : w1.cell? ⟨w.heap.size + 1, 13, none⟩ = some (.int .i64 d.tg) := box_cell KC1.out 13 _ rfl
  have ca14 : w1.cell? ⟨w.heap.size, 14, none⟩ = some (.int .i64 d.gd) := box_cell KA1.out 14 _ rfl
  have cc14 : w1.cell? ⟨w.heap.size + 1, 14, none⟩ = some (.int .i64 d.gd) := box_cell KC1.out 14 _ rfl
  go_wp2_with (first | (refine wpList_get rfl 40 _ rfl w.heap.size 15 rfl KA1.out (flL A d.ps.length c d.nx) (enL_fl d A d.ps.length c) Tryz.underlying40 rfl (by kernel_rfl) ?_) | (refine wpList_get rfl 40 _ rfl (w.heap.size + 1) 15 rfl KC1.out (flL C d.ps.length e d.nx) (enL_fl d C d.ps.length e) Tryz.underlying40 rfl (by kernel_rfl) ?_))
  refine (FleetTy.eqFleet_any _ B B' (flV A d.ps.length c d.nx) (flV C d.ps.length e d.nx) (d.ps, d.nx) (FleetTy.fty.rd_below H1.out HB1.out hB) (FleetTy.fty.rd_below G1.out HB1.out hB') (Nat.le_trans hB HB1.out.size) (Nat.le_trans hB' HB1.out.size) hf).mono ?_
  rintro e1 w2 ⟨rfl, hb⟩
  have KA := Lib.hid (box_below KA1.out hb)
  have KC := Lib.hid (box_below KC1.out hb)
  have HB := Lib.hid (bel_then HB1.out hb HB1.out.size)
  clear KA1 KC1 HB1 hb ca11 cc11 ca12 cc12 ca13 cc13 ca14 cc14
  have ca17 : w2.cell? ⟨w.heap.size, 17, none⟩ = some (.int .i64 d.st) := box_cell KA.out 17 _ rfl
  have cc17 : w2.cell? ⟨w.heap.size + 1, 17, none⟩ = some (.int .i64 d.st) := box_cell KC.out 17 _ rfl
  have ca18 : w2.cell? ⟨w.heap.size, 18, none⟩ = some (.int .i64 d.tr) := box_cell KA.out 18 _ rfl
  have cc18 : w2.cell? ⟨w.heap.size + 1, 18, none⟩ = some (.int .i64 d.tr) := box_cell KC.out 18 _ rfl
  have ca19 : w2.cell? ⟨w.heap.size, 19, none⟩ = some (.int .i64 d.wt) := box_cell KA.out 19 _ rfl
  have cc19 : w2.cell? ⟨w.heap.size + 1, 19, none⟩ = some (.int .i64 d.wt) := box_cell KC.out 19 _ rfl
  go_wp2
  go_ret
  exact ⟨rfl, HB.out⟩
set_option maxRecDepth 100000 in
set_option maxHeartbeats 6400000 in
theorem toEngine_any : ToC 14 ety := by
  rintro w B v d ⟨A, c, rfl, h1⟩ hB hf
  have hf : d.ps.length ≤ 1048576 := hf
  have H1 : Hid (FleetTy.fty.Rd w B (flV A d.ps.length c d.nx) (d.ps, d.nx)) := (⟨A, c, rfl, h1⟩ : FleetTy.FRd w B (flV A d.ps.length c d.nx) (d.ps, d.nx))
  clear h1
  show Calls _ _ #[.agg (enL d A d.ps.length c).toArray] _ _
  obtain ⟨V, hV⟩ : ∃ V, V = (((w.alloc (.cells (enL d A d.ps.length c).toArray 31)).alloc (.cells #[.int .i64 0, .int .i64 0, .int .i64 0, .int .i64 0, .int .i64 0, .int .i64 0, .int .i64 0, .int .i64 0, .int .i64 0, .int .i64 0, .int .i64 0, .int .i64 0, .int .i64 0, .int .i64 0, .int .i64 0, .slice none 0 0, .int .i64 0, .int .i64 0, .int .i64 0, .int .i64 0] 42)).alloc (.cells #[.int .i64 0, .int .i64 0, .int .i64 0, .int .i64 0, .int .i64 0, .int .i64 0, .int .i64 0, .int .i64 0, .int .i64 0, .int .i64 0, .int .i64 0, .int .i64 0, .int .i64 0, .int .i64 0, .int .i64 0, .slice none 0 0, .int .i64 0, .int .i64 0, .int .i64 0, .int .i64 0] 42)) := ⟨_, rfl⟩
  have HB : Hid (Below w.heap.size w V) := by rw [hV]; exact bel3 _ _ _ _
  have KA : Hid (V.heap[w.heap.size]? = some (.cells (enL d A d.ps.length c).toArray 31 (0, 0))) := by rw [hV]; exact box_alloc (box_alloc (box_new w _) _) _
  have KR : Hid (V.heap[w.heap.size + 1]? = some (.cells (enL zeroE none 0 0).toArray 42 (0, 0))) := by rw [hV]; have h := box_alloc (box_new (w.alloc (.cells (enL d A d.ps.length c).toArray 31)) (.cells #[.int .i64 0, .int .i64 0, .int .i64 0, .int .i64 0, .int .i64 0, .int .i64 0, .int .i64 0, .int .i64 0, .int .i64 0, .int .i64 0, .int .i64 0, .int .i64 0, .int .i64 0, .int .i64 0, .int .i64 0, .slice none 0 0, .int .i64 0, .int .i64 0, .int .i64 0, .int .i64 0] 42)) (.cells #[.int .i64 0, .int .i64 0, .int .i64 0, .int .i64 0, .int .i64 0, .int .i64 0, .int .i64 0, .int .i64 0, .int .i64 0, .int .i64 0, .int .i64 0, .int .i64 0, .int .i64 0, .int .i64 0, .int .i64 0, .slice none 0 0, .int .i64 0, .int .i64 0, .int .i64 0, .int .i64 0] 42); simp only [World.size_alloc] at h; exact h
  have KO : Hid (V.heap[w.heap.size + 1 + 1]? = some (.cells (enL zeroE none 0 0).toArray 42 (0, 0))) := by rw [hV]; have h := box_new ((w.alloc (.cells (enL d A d.ps.length c).toArray 31)).alloc (.cells #[.int .i64 0, .int .i64 0, .int .i64 0, .int .i64 0, .int .i64 0, .int .i64 0, .int .i64 0, .int .i64 0, .int .i64 0, .int .i64 0, .int .i64 0, .int .i64 0, .int .i64 0, .int .i64 0, .int .i64 0, .slice none 0 0, .int .i64 0, .int .i64 0, .int .i64 0, .int .i64 0] 42)) (.cells #[.int .i64 0, .int .i64 0, .int .i64 0, .int .i64 0, .int .i64 0, .int .i64 0, .int .i64 0, .int .i64 0, .int .i64 0, .int .i64 0, .int .i64 0, .int .i64 0, .int .i64 0, .int .i64 0, .int .i64 0, .slice none 0 0, .int .i64 0, .int .i64 0, .int .i64 0, .int .i64 0] 42); simp only [World.size_alloc] at h; exact h
  go_enter Tryz.func14, Tryz.ntmps14
  go_upto_region 2 with fail
  rw [← hV]
  clear hV
  go_wp2_with (refine wpList_get rfl 23 _ rfl w.heap.size 0 rfl KA.out (spL d.sp) (enL_sp d A d.ps.length c) Tryz.underlying23 rfl (by kernel_rfl) ?_)
  refine (Sp.toSpec_any d.sp.x0 d.sp.x1 d.sp.x2 d.sp.x3 d.sp.x4 d.sp.x5 d.sp.x6 d.sp.x7 d.sp.x8 d.sp.x9 d.sp.x10 _).mono ?_
  rintro e w1 ⟨rfl, hb⟩
  have KA1 := Lib.hid (box_below KA.out hb)
  have KR1 := Lib.hid (box_below KR.out hb)
  have KO1 := Lib.hid (box_below KO.out hb)
  have HB1 := Lib.hid (bel_then HB.out hb HB.out.size)
  clear KA KR KO HB hb
  have hn1 : w.heap.size + 1 + 1 < w1.heap.size := box_lt KO1.out
  go_upto_region 3 with (refine wpList_put rfl rfl 36 _ _ rfl (w.heap.size + 1 + 1) 0 (spL d.sp) rfl rfl KO1.out (by kernel_rfl) [.int .i64 d.sp.x0, .int .i64 d.sp.x1, .int .i64 d.sp.x2, .int .i64 d.sp.x3, .int .i64 d.sp.x4, .int .i64 d.sp.x5, .int .i64 d.sp.x6, .int .i64 d.sp.x7, .int .i64 d.sp.x8, .int .i64 d.sp.x9, .int .i64 d.sp.x10, .int .i64 (0), .int .i64 (0), .int .i64 (0), .int .i64 (0), .slice none 0 0, .int .i64 (0), .int .i64 (0), .int .i64 (0), .int .i64 (0)] rfl (Nat.le_of_ble_eq_true rfl) (spL_one _) ?_)
  obtain ⟨V2, hV2⟩ : ∃ V, V = w1.setRow (w.heap.size + 1 + 1) ([.int .i64 d.sp.x0, .int .i64 d.sp.x1, .int .i64 d.sp.x2, .int .i64 d.sp.x3, .int .i64 d.sp.x4, .int .i64 d.sp.x5, .int .i64 d.sp.x6, .int .i64 d.sp.x7, .int .i64 d.sp.x8, .int .i64 d.sp.x9, .int .i64 d.sp.x10, .int .i64 (0), .int .i64 (0), .int .i64 (0), .int .i64 (0), .slice none 0 0, .int .i64 (0), .int .i64 (0), .int .i64 (0), .int .i64 (0)]).toArray := ⟨_, rfl⟩
  have KO2 : Hid (V2.heap[w.heap.size + 1 + 1]? = some (.cells ([.int .i64 d.sp.x0, .int .i64 d.sp.x1, .int .i64 d.sp.x2, .int .i64 d.sp.x3, .int .i64 d.sp.x4, .int .i64 d.sp.x5, .int .i64 d.sp.x6, .int .i64 d.sp.x7, .int .i64 d.sp.x8, .int .i64 d.sp.x9, .int .i64 d.sp.x10, .int .i64 (0), .int .i64 (0), .int .i64 (0), .int .i64 (0), .slice none 0 0, .int .i64 (0), .int .i64 (0), .int .i64 (0), .int .i64 (0)]).toArray 42 (0, 0))) := by rw [hV2]; exact row_box KO1.out
  have KA2 : Hid (V2.heap[w.heap.size]? = some (.cells (enL d A d.ps.length c).toArray 31 (0, 0))) := by rw [hV2]; exact row_far KA1.out (by omega)
  have KR2 : Hid (V2.heap[w.heap.size + 1]? = some (.cells (enL zeroE none 0 0).toArray 42 (0, 0))) := by rw [hV2]; exact row_far KR1.out (by omega)
  have HB2 : Hid (Below w.heap.size w V2) := by rw [hV2]; exact row_below HB1.out _ _ (by omega) HB1.out.size
  rw [← hV2]
  clear hV2 KA1 KR1 KO1 HB1 hn1
  have pa11 : V2.cell? ⟨w.heap.size, 11, none⟩ = some (.int .i64 (d.now)) := box_cell KA2.out 11 _ rfl
  have pa12 : V2.cell? ⟨w.heap.size, 12, none⟩ = some (.int .i64 (d.ph)) := box_cell KA2.out 12 _ rfl
  have pa13 : V2.cell? ⟨w.heap.size, 13, none⟩ = some (.int .i64 (d.tg)) := box_cell KA2.out 13 _ rfl
  have pa14 : V2.cell? ⟨w.heap.size, 14, none⟩ = some (.int .i64 (d.gd)) := box_cell KA2.out 14 _ rfl
  have po11 : V2.cell? ⟨w.heap.size + 1 + 1, 11, none⟩ = some (.int .i64 (0)) := box_cell KO2.out 11 _ rfl
  have pof11 := box_frozen KO2.out 11
  have po12 : V2.cell? ⟨w.heap.size + 1 + 1, 12, none⟩ = some (.int .i64 (0)) := box_cell KO2.out 12 _ rfl
  have pof12 := box_frozen KO2.out 12
  have po13 : V2.cell? ⟨w.heap.size + 1 + 1, 13, none⟩ = some (.int .i64 (0)) := box_cell KO2.out 13 _ rfl
  have pof13 := box_frozen KO2.out 13
  have po14 : V2.cell? ⟨w.heap.size + 1 + 1, 14, none⟩ = some (.int .i64 (0)) := box_cell KO2.out 14 _ rfl
  have pof14 := box_frozen KO2.out 14
  go_upto_region 7 with fail
  obtain ⟨V3, hV3⟩ : ∃ V, V = ((((V2.setCell ⟨w.heap.size + 1 + 1, 11, none⟩ (.int .i64 d.now)).setCell ⟨w.heap.size + 1 + 1, 12, none⟩ (.int .i64 d.ph)).setCell ⟨w.heap.size + 1 + 1, 13, none⟩ (.int .i64 d.tg)).setCell ⟨w.heap.size + 1 + 1, 14, none⟩ (.int .i64 d.gd)) := ⟨_, rfl⟩
  have KO3 : Hid (V3.heap[w.heap.size + 1 + 1]? = some (.cells ([.int .i64 d.sp.x0, .int .i64 d.sp.x1, .int .i64 d.sp.x2, .int .i64 d.sp.x3, .int .i64 d.sp.x4, .int .i64 d.sp.x5, .int .i64 d.sp.x6, .int .i64 d.sp.x7, .int .i64 d.sp.x8, .int .i64 d.sp.x9, .int .i64 d.sp.x10, .int .i64 (d.now), .int .i64 (d.ph), .int .i64 (d.tg), .int .i64 (d.gd), .slice none 0 0, .int .i64 (0), .int .i64 (0), .int .i64 (0), .int .i64 (0)]).toArray 42 (0, 0))) := by rw [hV3]; exact set_box (set_box (set_box (set_box KO2.out _) _) _) _
  have KA3 : Hid (V3.heap[w.heap.size]? = some (.cells (enL d A d.ps.length c).toArray 31 (0, 0))) := by rw [hV3]; exact box_other (box_other (box_other (box_other (KA2.out) _ _ (by show w.heap.size ≠ w.heap.size + 1 + 1; omega)) _ _ (by show w.heap.size ≠ w.heap.size + 1 + 1; omega)) _ _ (by show w.heap.size ≠ w.heap.size + 1 + 1; omega)) _ _ (by show w.heap.size ≠ w.heap.size + 1 + 1; omega)
  have KR3 : Hid (V3.heap[w.heap.size + 1]? = some (.cells (enL zeroE none 0 0).toArray 42 (0, 0))) := by rw [hV3]; exact box_other (box_other (box_other (box_other (KR2.out) _ _ (by show w.heap.size + 1 ≠ w.heap.size + 1 + 1; omega)) _ _ (by show w.heap.size + 1 ≠ w.heap.size + 1 + 1; omega)) _ _ (by show w.heap.size + 1 ≠ w.heap.size + 1 + 1; omega)) _ _ (by show w.heap.size + 1 ≠ w.heap.size + 1 + 1; omega)
  have HB3 : Hid (Below w.heap.size w V3) := by rw [hV3]; exact Turned.low HB2.out ((((Turned.set (S := fun k => k = w.heap.size + 1 + 1) _ _ _ rfl).trans (Turned.set _ _ _ rfl)).trans (Turned.set _ _ _ rfl)).trans (Turned.set _ _ _ rfl)) (fun k hk => by omega) HB2.out.size
  rw [← hV3]
  clear hV3 KA2 KR2 KO2 HB2 pa11 pa12 pa13 pa14 po11 pof11 po12 pof12 po13 pof13 po14 pof14
  go_wp2_with (refine wpList_get rfl 29 _ rfl w.heap.size 15 rfl KA3.out (flL A d.ps.length c d.nx) (enL_fl d A d.ps.length c) Tryz.underlying29 rfl (by kernel_rfl) ?_)
  refine (FleetTy.toFleet_any _ B (flV A d.ps.length c d.nx) (d.ps, d.nx) (FleetTy.fty.rd_below H1.out HB3.out hB) (Nat.le_trans hB HB3.out.size) hf).mono ?_
  have hn3 : w.heap.size + 1 + 1 < V3.heap.size := box_lt KO3.out
  rintro e w4 ⟨v4, S4, rfl, hO, hb⟩
  obtain ⟨G, g, rfl, ho, hs⟩ := hO.own
  have HO := Lib.hid ho
  have HS := Lib.hid hs
  have HI := Lib.hid hO.inn
  clear hO ho hs
  have KA4 := Lib.hid (box_below KA3.out hb)
  have KR4 := Lib.hid (box_below KR3.out hb)
  have KO4 := Lib.hid (box_below KO3.out hb)
  have HB4 := Lib.hid (bel_then HB3.out hb HB3.out.size)
  clear KA3 KR3 KO3 HB3 hb
  have hn4 : w.heap.size + 1 + 1 < w4.heap.size := box_lt KO4.out
  have HL : Hid (∀ k, S4 k → w.heap.size + 1 + 1 < k) := fun k hk => by have := HI.out k hk; omega
  go_upto_region 8 with (refine wpList_put rfl rfl 40 _ _ rfl (w.heap.size + 1 + 1) 15 (flL G d.ps.length g d.nx) rfl rfl KO4.out (by kernel_rfl) [.int .i64 d.sp.x0, .int .i64 d.sp.x1, .int .i64 d.sp.x2, .int .i64 d.sp.x3, .int .i64 d.sp.x4, .int .i64 d.sp.x5, .int .i64 d.sp.x6, .int .i64 d.sp.x7, .int .i64 d.sp.x8, .int .i64 d.sp.x9, .int .i64 d.sp.x10, .int .i64 (d.now), .int .i64 (d.ph), .int .i64 (d.tg), .int .i64 (d.gd), .slice G d.ps.length g, .int .i64 (d.nx), .int .i64 (0), .int .i64 (0), .int .i64 (0)] rfl (Nat.le_of_ble_eq_true rfl) (flL_one _ _ _ _) ?_)
  obtain ⟨V5, hV5⟩ : ∃ V, V = w4.setRow (w.heap.size + 1 + 1) ([.int .i64 d.sp.x0, .int .i64 d.sp.x1, .int .i64 d.sp.x2, .int .i64 d.sp.x3, .int .i64 d.sp.x4, .int .i64 d.sp.x5, .int .i64 d.sp.x6, .int .i64 d.sp.x7, .int .i64 d.sp.x8, .int .i64 d.sp.x9, .int .i64 d.sp.x10, .int .i64 (d.now), .int .i64 (d.ph), .int .i64 (d.tg), .int .i64 (d.gd), .slice G d.ps.length g, .int .i64 (d.nx), .int .i64 (0), .int .i64 (0), .int .i64 (0)]).toArray := ⟨_, rfl⟩
  have KO5 : Hid (V5.heap[w.heap.size + 1 + 1]? = some (.cells ([.int .i64 d.sp.x0, .int .i64 d.sp.x1, .int .i64 d.sp.x2, .int .i64 d.sp.x3, .int .i64 d.sp.x4, .int .i64 d.sp.x5, .int .i64 d.sp.x6, .int .i64 d.sp.x7, .int .i64 d.sp.x8, .int .i64 d.sp.x9, .int .i64 d.sp.x10, .int .i64 (d.now), .int .i64 (d.ph), .int .i64 (d.tg), .int .i64 (d.gd), .slice G d.ps.length g, .int .i64 (d.nx), .int .i64 (0), .int .i64 (0), .int .i64 (0)]).toArray 42 (0, 0))) := by rw [hV5]; exact row_box KO4.out
  have KA5 : Hid (V5.heap[w.heap.size]? = some (.cells (enL d A d.ps.length c).toArray 31 (0, 0))) := by rw [hV5]; exact row_far KA4.out (by omega)
  have KR5 : Hid (V5.heap[w.heap.size + 1]? = some (.cells (enL zeroE none 0 0).toArray 42 (0, 0))) := by rw [hV5]; exact row_far KR4.out (by omega)
  have HT5 : Hid (Turned (fun k => k = w.heap.size + 1 ∨ k = w.heap.size + 1 + 1) w4 V5) := by rw [hV5]; exact (row_turned _ _ _).wide (fun k hk => .inr hk)
  rw [← hV5]
  clear hV5 KA4 KR4 KO4
  have pa17 : V5.cell? ⟨w.heap.size, 17, none⟩ = some (.int .i64 (d.st)) := box_cell KA5.out 17 _ rfl
  have pa18 : V5.cell? ⟨w.heap.size, 18, none⟩ = some (.int .i64 (d.tr)) := box_cell KA5.out 18 _ rfl
  have pa19 : V5.cell? ⟨w.heap.size, 19, none⟩ = some (.int .i64 (d.wt)) := box_cell KA5.out 19 _ rfl
  have po17 : V5.cell? ⟨w.heap.size + 1 + 1, 17, none⟩ = some (.int .i64 (0)) := box_cell KO5.out 17 _ rfl
  have pof17 := box_frozen KO5.out 17
  have po18 : V5.cell? ⟨w.heap.size + 1 + 1, 18, none⟩ = some (.int .i64 (0)) := box_cell KO5.out 18 _ rfl
  have pof18 := box_frozen KO5.out 18
  have po19 : V5.cell? ⟨w.heap.size + 1 + 1, 19, none⟩ = some (.int .i64 (0)) := box_cell KO5.out 19 _ rfl
  have pof19 := box_frozen KO5.out 19
  go_upto_region 11 with fail
  obtain ⟨V6, hV6⟩ : ∃ V, V = (((V5.setCell ⟨w.heap.size + 1 + 1, 17, none⟩ (.int .i64 d.st)).setCell ⟨w.heap.size + 1 + 1, 18, none⟩ (.int .i64 d.tr)).setCell ⟨w.heap.size + 1 + 1, 19, none⟩ (.int .i64 d.wt)) := ⟨_, rfl⟩
  have KO6 : Hid (V6.heap[w.heap.size + 1 + 1]? = some (.cells (enL d G d.ps.length g).toArray 42 (0, 0))) := by rw [hV6]; exact set_box (set_box (set_box KO5.out _) _) _
  have KR6 : Hid (V6.heap[w.heap.size + 1]? = some (.cells (enL zeroE none 0 0).toArray 42 (0, 0))) := by rw [hV6]; exact box_other (box_other (box_other (KR5.out) _ _ (by show w.heap.size + 1 ≠ w.heap.size + 1 + 1; omega)) _ _ (by show w.heap.size + 1 ≠ w.heap.size + 1 + 1; omega)) _ _ (by show w.heap.size + 1 ≠ w.heap.size + 1 + 1; omega)
  have HT6 : Hid (Turned (fun k => k = w.heap.size + 1 ∨ k = w.heap.size + 1 + 1) w4 V6) := by rw [hV6]; exact ((HT5.out.trans (Turned.set _ _ _ (.inr rfl))).trans (Turned.set _ _ _ (.inr rfl))).trans (Turned.set _ _ _ (.inr rfl))
  rw [← hV6]
  clear hV6 KA5 KR5 KO5 HT5 pa17 pa18 pa19 po17 pof17 po18 pof18 po19 pof19
  go_wp2_with (first | (refine wpList_get rfl 42 _ rfl (w.heap.size + 1 + 1) 0 rfl KO6.out (enL d G d.ps.length g) (enL_all d G d.ps.length g) Tryz.underlying42 rfl (by kernel_rfl) ?_) | (refine wpList_put rfl rfl 42 _ _ rfl (w.heap.size + 1) 0 (enL d G d.ps.length g) rfl rfl KR6.out (by kernel_rfl) (enL d G d.ps.length g) rfl (Nat.le_of_ble_eq_true rfl) (enL_one _ _ _ _) ?_))
  refine bodyPost_ret (v := enV d G d.ps.length g) (results_box Tryz.results14 _ rfl (row_box KR6.out) Tryz.underlying42 rfl (by kernel_rfl)) rfl ?_
  have ht := HT6.out.trans ((row_turned V6 (w.heap.size + 1) (enL d G d.ps.length g).toArray).wide (S' := fun k => k = w.heap.size + 1 ∨ k = w.heap.size + 1 + 1) (fun k hk => .inl hk))
  have hz := ht.size
  refine ⟨_, S4, rfl, ⟨⟨G, g, rfl, ?_, HS.out⟩, fun k hk => ?_, ?_⟩, Turned.low HB4.out ht (fun k hk => by omega) HB4.out.size⟩
  · exact HO.out.same fun k hk => ht.block k (HO.out.lt k hk).2 (by have := HL.out k (HS.out k hk); omega)
  · have h1 := HI.out k hk
    have h2 := HL.out k hk
    exact ⟨by omega, by omega⟩
  · exact Nat.le_refl _
section
variable {H : Type} {enc : TypeId × Value → H} {w : World} {base : Nat} {spare : Nat → Bool} {held : Bool}
theorem int_one {fuel : Nat} {c : Value} {l : List Value} {x : DataW H × List MemPlace} (hl : l = [c]) (h : DataW.trod enc Tryz.prog w base spare held fuel 3 l = some x) : ∃ y : Int, c = .int .i64 y := by
  subst hl
  obtain ⟨y, e, _⟩ := DataW.trod_int Tryz.underlying3 h
  injection e with e
  exact ⟨y, e⟩
set_option maxRecDepth 100000 in
set_option maxHeartbeats 1600000 in
theorem open_engine {r : Reach} {b0 : Nat} {v : Value} {d : DataW H} {p : List MemPlace} (hv : Value.okWide Tryz.prog w r b0 31 v) (h : DataW.Trod enc Tryz.prog w base spare held 31 v d p) :
    ∃ A n c dd, v = .agg (enL dd A n c).toArray ∧ ety.Rd w w.heap.size (.agg (enL dd A n c).toArray) dd ∧ SzC 10 ety (.agg (enL dd A n c).toArray) dd w := by
  obtain ⟨⟨cl⟩, rfl, hsz⟩ := okWide_struct Tryz.underlying31 hv
  obtain ⟨fuel, hf⟩ := h
  obtain ⟨xs, n, _, _, hl, hlen, hfd⟩ := DataW.trod_struct Tryz.underlying31 hf
  have hC : Tryz.prog.cellsOf 31 = 20 := by kernel_rfl
  have h1 : Tryz.prog.cellsOf 3 = 1 := by kernel_rfl
  have h2 : Tryz.prog.cellsOf 29 = 2 := by kernel_rfl
  have h3 : Tryz.prog.cellsOf 27 = 1 := by kernel_rfl
  have h11 : Tryz.prog.cellsOf 23 = 11 := by kernel_rfl
  have hl : cl.length = 20 := by rw [← hC, ← hl]; simp [Value.cells]
  match cl, hl with
  | [c0, c1, c2, c3, c4, c5, c6, c7, c8, c9, c10, c11, c12, c13, c14, c15, c16, c17, c18, c19], _ =>
  have hx : ∀ i, i < 9 → ∃ x, xs[i]? = some x := fun i hi => ⟨xs[i]'(by rw [hlen]; exact hi), List.getElem?_eq_getElem _⟩
  obtain ⟨q0, hq0⟩ := hx 0 (by omega)
  have g0 := (hfd 0 _ rfl).trans hq0
  obtain ⟨l, hl1, hl2, _⟩ := FlatOpen.trod_flat Tryz.underlying23 (by kernel_rfl) (fun i f hf => Sp.flat_fields (by kernel_rfl) hf) g0
  have hl3 : l.map (Value.int .i64) = [c0, c1, c2, c3, c4, c5, c6, c7, c8, c9, c10] := by rw [← hl2]; show List.take (Tryz.prog.cellsOf 23) [c0, c1, c2, c3, c4, c5, c6, c7, c8, c9, c10, c11, c12, c13, c14, c15, c16, c17, c18, c19] = _; rw [h11]; rfl
  obtain ⟨q1, hq1⟩ := hx 1 (by omega)
  obtain ⟨y1, rfl⟩ := int_one (c := c11) (by show List.take (Tryz.prog.cellsOf 3) _ = _; rw [h1]; rfl) ((hfd 1 _ rfl).trans hq1)
  obtain ⟨q2, hq2⟩ := hx 2 (by omega)
  obtain ⟨y2, rfl⟩ := int_one (c := c12) (by show List.take (Tryz.prog.cellsOf 3) _ = _; rw [h1]; rfl) ((hfd 2 _ rfl).trans hq2)
  obtain ⟨q3, hq3⟩ := hx 3 (by omega)
  obtain ⟨y3, rfl⟩ := int_one (c := c13) (by show List.take (Tryz.prog.cellsOf 3) _ = _; rw [h1]; rfl) ((hfd 3 _ rfl).trans hq3)
  obtain ⟨q4, hq4⟩ := hx 4 (by omega)
  obtain ⟨y4, rfl⟩ := int_one (c := c14) (by show List.take (Tryz.prog.cellsOf 3) _ = _; rw [h1]; rfl) ((hfd 4 _ rfl).trans hq4)
  obtain ⟨q6, hq6⟩ := hx 6 (by omega)
  obtain ⟨y6, rfl⟩ := int_one (c := c17) (by show List.take (Tryz.prog.cellsOf 3) _ = _; rw [h1]; rfl) ((hfd 6 _ rfl).trans hq6)
  obtain ⟨q7, hq7⟩ := hx 7 (by omega)
  obtain ⟨y7, rfl⟩ := int_one (c := c18) (by show List.take (Tryz.prog.cellsOf 3) _ = _; rw [h1]; rfl) ((hfd 7 _ rfl).trans hq7)
  obtain ⟨q8, hq8⟩ := hx 8 (by omega)
  obtain ⟨y8, rfl⟩ := int_one (c := c19) (by show List.take (Tryz.prog.cellsOf 3) _ = _; rw [h1]; rfl) ((hfd 8 _ rfl).trans hq8)
  obtain ⟨q5, hq5⟩ := hx 5 (by omega)
  have g5 := (hfd 5 _ rfl).trans hq5
  obtain ⟨xs5, n5, _, _, hl5, hlen5, hfd5⟩ := DataW.trod_struct Tryz.underlying29 g5
  have e5 : ∀ f : Field, f.type = 29 → f.offset = 15 → List.take (Tryz.prog.cellsOf f.type) (List.drop f.offset (Value.agg ⟨[c0, c1, c2, c3, c4, c5, c6, c7, c8, c9, c10, (.int .i64 y1), (.int .i64 y2), (.int .i64 y3), (.int .i64 y4), c15, c16, (.int .i64 y6), (.int .i64 y7), (.int .i64 y8)]⟩).cells.toList) = [c15, c16] := by intro f e1 e2; rw [e1, e2, h2]; rfl
  have hy : ∀ i, i < 2 → ∃ x, xs5[i]? = some x := fun i hi => ⟨xs5[i]'(by rw [hlen5]; exact hi), List.getElem?_eq_getElem _⟩
  obtain ⟨p0, hp0⟩ := hy 0 (by omega)
  obtain ⟨p1, hp1⟩ := hy 1 (by omega)
  have k0 := (hfd5 0 _ rfl).trans hp0
  have k1 := (hfd5 1 _ rfl).trans hp1
  rw [e5 _ rfl rfl] at k0 k1
  obtain ⟨y5, rfl⟩ := int_one (c := c16) (by show List.take (Tryz.prog.cellsOf 3) _ = _; rw [h1]; rfl) k1
  have e6 : ([c15] : List Value) = List.take (Tryz.prog.cellsOf 27) [c15, .int .i64 y5] := by rw [h3]; rfl
  have k0' : DataW.trod enc Tryz.prog w base spare held n5 27 [c15] = some p0 := by rw [e6]; exact k0
  obtain ⟨A, m, c, ps, rfl, hP, hn⟩ := FleetTy.pods_read k0'
  match l, hl1, hl3 with
  | [x0, x1, x2, x3, x4, x5, x6, x7, x8, x9, x10], _, hl3 =>
    simp only [List.map_cons, List.map_nil, List.cons.injEq, and_true] at hl3
    obtain ⟨rfl, rfl, rfl, rfl, rfl, rfl, rfl, rfl, rfl, rfl, rfl⟩ := hl3
    obtain rfl : ps.length = m := hP.1
    exact ⟨A, _, c, ⟨⟨x0, x1, x2, x3, x4, x5, x6, x7, x8, x9, x10⟩, y1, y2, y3, y4, ps, y5, y6, y7, y8⟩, rfl, ⟨A, c, rfl, hP⟩, szEngine_any A c ⟨⟨x0, x1, x2, x3, x4, x5, x6, x7, x8, x9, x10⟩, y1, y2, y3, y4, ps, y5, y6, y7, y8⟩ w hn⟩
end
end Go.Proofs.YtlghdmakaocokaaGreatDoor.EngTy
