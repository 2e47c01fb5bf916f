/-
  ENGINES as a kind of data: the contracts of the laws' toEngine, szEngine, eqEngine, markEngine, heldEngine over this seat's translation; and how an engine comes in as an argument of a law.
-/
import Derived.Test.YtklgjjmcflgjeaaFleetTy
import Derived.Test.YtklgjjmcflgjeaaEngV
import Derived.Test.YtklgjjmcflgjeaaSeg
namespace Go.Proofs.Ytklgjjmcflgjeaa.EngTy
open Go.ChangeShapes Go.WideShapes Go.ChangeAt Go.RowKit Go.Joins Go.Deep
open Go.Proofs.Ytklgjjmcflgjeaa.LK Go.Proofs.Ytklgjjmcflgjeaa.Pods Go.Proofs.Ytklgjjmcflgjeaa.EngV Go.Proofs.Ytklgjjmcflgjeaa.Seg
set_option linter.unusedVariables false

def ERd (w : World) (B : Nat) (v : Value) (d : Eng) : Prop := ∃ A c, v = enV d A d.ps.length c ∧ IsPods w B A d.ps.length d.ps
def EOwn (w : World) (S : Nat → Prop) (v : Value) (d : Eng) : Prop := ∃ A c, v = enV d A d.ps.length c ∧ OwnP w 0 A d.ps.length c d.ps ∧ (∀ k, (Value.slice A d.ps.length c).ownBlock = some k → S k)
def ety : Ty where
  D := Eng
  Rd := ERd
  Own := EOwn
  Few := fun d => d.ps.length ≤ 1048576
  cnt := fun d => 5 * d.ps.length
  mark := fun k d => { d with ps := marksP k d.ps.length }
  rd_below := by
    rintro w w' B C v d ⟨A, c, rfl, h1⟩ hb hC
    exact ⟨A, c, rfl, h1.below hb hC⟩
  own_rd := by
    rintro w S v d B ⟨A, c, rfl, h1, s1⟩ hB
    exact ⟨A, c, rfl, h1.pods (fun k hk => hB k (s1 k hk))⟩
  own_same := by
    rintro w w' S v d ⟨A, c, rfl, h1, s1⟩ hs
    exact ⟨A, c, rfl, h1.same (fun k hk => hs k (s1 k hk)), s1⟩
  few_cnt := by intro d h; omega
theorem shape {w : World} {lo hi : Nat} {S : Nat → Prop} {v : Value} {d : Eng} (h : Has ety w lo hi S v d) : ∃ A n c, v = .agg (enL d A n c).toArray := by
  obtain ⟨A, c, e, _⟩ := h.own
  exact ⟨_, _, _, e⟩
/-- Own pods in new memory, and an engine's numbers: an engine of one's own. -/
theorem made_of {w w2 w3 : World} {lo : Nat} {S : Nat → Prop} {A : Option Addr} {n c : Nat} {d : Eng} (hb : Below w.heap.size w w2) (hO : OwnP w2 lo A n c d.ps) (hlo : w.heap.size ≤ lo) (hS : ∀ k, S k → w.heap.size ≤ k ∧ k < lo) (ht : Turned S w2 w3) :
    Made ety d w (.returned (enV d A n c)) w3 := by
  have hz := ht.size
  have hl := hO.1
  subst hl
  refine ⟨_, fun k => w.heap.size ≤ k ∧ k < w3.heap.size, rfl, ⟨⟨A, c, rfl, hO.zero.same fun k hk => ht.block k (hO.lt k hk).2 (fun e => by have := hO.lt k hk; have := hS k e; omega), fun k hk => ?_⟩, fun k hk => hk, Nat.le_refl _⟩, Turned.low hb ht (fun k hk => (hS k hk).1) hb.size⟩
  have := hO.lt k hk
  exact ⟨by omega, by omega⟩
set_option maxRecDepth 100000 in
set_option maxHeartbeats 3200000 in
theorem eqEngine_any : EqC 27 ety := by
  rintro w B B' v v' d ⟨A, c, rfl, h1⟩ ⟨C, e, rfl, g1⟩ hB hB' hf
  have hf : d.ps.length ≤ 1048576 := hf
  have H1 : Hid (FleetTy.fty.Rd w B (flV A d.ps.length c d.nx) (d.ps, d.nx)) := (⟨A, c, rfl, h1⟩ : FleetTy.FRd w B (flV A d.ps.length c d.nx) (d.ps, d.nx))
  have G1 : Hid (FleetTy.fty.Rd w B' (flV C d.ps.length e d.nx) (d.ps, d.nx)) := (⟨C, e, rfl, g1⟩ : FleetTy.FRd w B' (flV C d.ps.length e d.nx) (d.ps, d.nx))
  clear h1 g1
  show Calls _ _ #[.agg (enL d A d.ps.length c).toArray, .agg (enL d C d.ps.length e).toArray] _ _
  have KA : Hid (((w.alloc (.cells (enL d A d.ps.length c).toArray 32)).alloc (.cells (enL d C d.ps.length e).toArray 32)).heap[w.heap.size]? = some (.cells (enL d A d.ps.length c).toArray 32 (0, 0))) := box_alloc (box_new w _) _
  have KC : Hid (((w.alloc (.cells (enL d A d.ps.length c).toArray 32)).alloc (.cells (enL d C d.ps.length e).toArray 32)).heap[w.heap.size + 1]? = some (.cells (enL d C d.ps.length e).toArray 32 (0, 0))) := by have h := box_new (w.alloc (.cells (enL d A d.ps.length c).toArray 32)) (.cells (enL d C d.ps.length e).toArray 32); simp only [World.size_alloc] at h; exact h
  have HB : Hid (Below w.heap.size w ((w.alloc (.cells (enL d A d.ps.length c).toArray 32)).alloc (.cells (enL d C d.ps.length e).toArray 32))) := bel2 _ _ _
  go_enter Try.func27, Try.ntmps27
  go_wp2_with (first | (refine wpList_get rfl 24 _ rfl w.heap.size 0 rfl KA.out (spL d.sp) (enL_sp d A d.ps.length c) Try.underlying24 rfl (by kernel_rfl) ?_) | (refine wpList_get rfl 24 _ rfl (w.heap.size + 1) 0 rfl KC.out (spL d.sp) (enL_sp d C d.ps.length e) Try.underlying24 rfl (by kernel_rfl) ?_))
  refine (Sp.eqSpec_same d.sp.x0 d.sp.x1 d.sp.x2 d.sp.x3 d.sp.x4 d.sp.x5 d.sp.x6 d.sp.x7 d.sp.x8 d.sp.x9 d.sp.x10 _).mono ?_
  rintro e1 w1 ⟨rfl, hb⟩
  have KA1 := Lib.hid (box_below KA.out hb)
  have KC1 := Lib.hid (box_below KC.out hb)
  have HB1 := Lib.hid (bel_then HB.out hb HB.out.size)
  clear KA KC HB hb
  have ca11 : w1.cell? ⟨w.heap.size, 11, none⟩ = some (.int .i64 d.now) := box_cell KA1.out 11 _ rfl
  have cc11 : w1.cell? ⟨w.heap.size + 1, 11, none⟩ = some (.int .i64 d.now) := box_cell KC1.out 11 _ rfl
  have ca12 : w1.cell? ⟨w.heap.size, 12, none⟩ = some (.int .i64 d.ph) := box_cell KA1.out 12 _ rfl
  have cc12 : w1.cell? ⟨w.heap.size + 1, 12, none⟩ = some (.int .i64 d.ph) := box_cell KC1.out 12 _ rfl
  have ca13 : w1.cell? ⟨w.heap.size, 13, none⟩ = some (.int .i64 d.tg) := box_cell KA1.out 13 _ rfl
  have cc13 : w1.cell? ⟨w.heap.size + 1, 13, none⟩ = some (.int .i64 d.tg) := box_cell KC1.out 13 _ rfl
  have ca14 : w1.cell? ⟨w.heap.size, 14, none⟩ = some (.int .i64 d.gd) := box_cell KA1.out 14 _ rfl
  have cc14 : w1.cell? ⟨w.heap.size + 1, 14, none⟩ = some (.int .i64 d.gd) := box_cell KC1.out 14 _ rfl
  go_wp2_with (first | (refine wpList_get rfl 30 _ rfl w.heap.size 15 rfl KA1.out (flL A d.ps.length c d.nx) (enL_fl d A d.ps.length c) Try.underlying30 rfl (by kernel_rfl) ?_) | (refine wpList_get rfl 30 _ rfl (w.heap.size + 1) 15 rfl KC1.out (flL C d.ps.length e d.nx) (enL_fl d C d.ps.length e) Try.underlying30 rfl (by kernel_rfl) ?_))
  refine (FleetTy.eqFleet_any _ B B' (flV A d.ps.length c d.nx) (flV C d.ps.length e d.nx) (d.ps, d.nx) (FleetTy.fty.rd_below H1.out HB1.out hB) (FleetTy.fty.rd_below G1.out HB1.out hB') (Nat.le_trans hB HB1.out.size) (Nat.le_trans hB' HB1.out.size) hf).mono ?_
  rintro e1 w2 ⟨rfl, hb⟩
  have KA := Lib.hid (box_below KA1.out hb)
  have KC := Lib.hid (box_below KC1.out hb)
  have HB := Lib.hid (bel_then HB1.out hb HB1.out.size)
  clear KA1 KC1 HB1 hb ca11 cc11 ca12 cc12 ca13 cc13 ca14 cc14
  have ca17 : w2.cell? ⟨w.heap.size, 17, none⟩ = some (.int .i64 d.st) := box_cell KA.out 17 _ rfl
  have cc17 : w2.cell? ⟨w.heap.size + 1, 17, none⟩ = some (.int .i64 d.st) := box_cell KC.out 17 _ rfl
  have ca18 : w2.cell? ⟨w.heap.size, 18, none⟩ = some (.int .i64 d.tr) := box_cell KA.out 18 _ rfl
  have cc18 : w2.cell? ⟨w.heap.size + 1, 18, none⟩ = some (.int .i64 d.tr) := box_cell KC.out 18 _ rfl
  have ca19 : w2.cell? ⟨w.heap.size, 19, none⟩ = some (.int .i64 d.wt) := box_cell KA.out 19 _ rfl
  have cc19 : w2.cell? ⟨w.heap.size + 1, 19, none⟩ = some (.int .i64 d.wt) := box_cell KC.out 19 _ rfl
  go_wp2
  go_ret
  exact ⟨rfl, HB.out⟩
set_option maxRecDepth 100000 in
set_option maxHeartbeats 800000 in
theorem markEngine_any : MarkC 29 ety := by
  rintro w lo hi S v d k ⟨⟨A, c, rfl, h1, s1⟩, hin, hhi⟩ hf hk0 hk1
  have hf : d.ps.length ≤ 1048576 := hf
  have HH : Hid (Has FleetTy.fty (w.alloc (.cells (enL d A d.ps.length c).toArray 32)) lo hi S (flV A d.ps.length c d.nx) (d.ps, d.nx)) :=
    (⟨⟨A, c, rfl, h1, s1⟩, hin, hhi⟩ : Has FleetTy.fty w lo hi S (flV A d.ps.length c d.nx) (d.ps, d.nx)).alloc _
  have KB : Hid ((w.alloc (.cells (enL d A d.ps.length c).toArray 32)).heap[w.heap.size]? = some (.cells (enL d A d.ps.length c).toArray 32 (0, 0))) := box_new w (.cells (enL d A d.ps.length c).toArray 32)
  clear h1 s1 hin hhi
  show Calls _ _ #[.agg (enL d A d.ps.length c).toArray, _] _ _
  go_enter Try.func29, Try.ntmps29
  go_wp2_with (refine wpList_get rfl 30 _ rfl _ 15 rfl KB.out (flL A d.ps.length c d.nx) (enL_fl d A d.ps.length c) Try.underlying30 rfl (by kernel_rfl) ?_)
  refine (FleetTy.markFleet_any _ lo hi S (flV A d.ps.length c d.nx) (d.ps, d.nx) k HH.out hf hk0 hk1).mono ?_
  rintro e w2 ⟨rfl, hO, ht⟩
  have HT := Lib.hid ((Turned.of_below (bel1 w _)).trans ht)
  have HO := Lib.hid hO
  clear hO ht KB
  go_wp2
  go_ret
  obtain ⟨⟨A', c', e', o', s'⟩, i', h'⟩ := HO.out
  have el : (FleetTy.fty.mark k (d.ps, d.nx)).1.length = d.ps.length := marksP_len k _
  rw [el] at e' o' s'
  injection e' with e'
  have e2 : #[Value.slice A d.ps.length c, Value.int .i64 d.nx] = #[Value.slice A' d.ps.length c', Value.int .i64 d.nx] := e'
  injection e2 with e2
  injection e2 with e2 _
  injection e2 with e3 _ e4
  subst e3 e4
  refine ⟨rfl, ⟨⟨A, c, ?_, ?_, ?_⟩, i', h'⟩, HT.out⟩
  · show _ = enV { d with ps := marksP k d.ps.length } A (marksP k d.ps.length).length c
    rw [marksP_len]; rfl
  · show OwnP w2 0 A (marksP k d.ps.length).length c (marksP k d.ps.length)
    rw [marksP_len]; exact o'
  · show ∀ q, (Value.slice A (marksP k d.ps.length).length c).ownBlock = some q → S q
    rw [marksP_len]; exact s'
set_option maxRecDepth 100000 in
set_option maxHeartbeats 800000 in
theorem heldEngine_any : HeldC 31 ety := by
  rintro w B v d k ⟨A, c, rfl, h1⟩ hB hf hk0 hk1
  have hf : d.ps.length ≤ 1048576 := hf
  have h1 : IsPods w B A (marksP k d.ps.length).length (marksP k d.ps.length) := h1
  show Calls Try.prog 31 #[.agg (enL d A (marksP k d.ps.length).length c).toArray, .int .i64 k] w (Says (.int .i64 (k + ((5 * d.ps.length : Nat) : Int))) w)
  obtain ⟨m, hm⟩ : ∃ m, m = (marksP k d.ps.length).length := ⟨_, rfl⟩
  rw [← hm] at h1 ⊢
  have HR : Hid (FleetTy.fty.Rd (w.alloc (.cells (enL d A m c).toArray 32)) B (flV A m c d.nx) (FleetTy.fty.mark k (d.ps, d.nx))) := by
    show FleetTy.FRd _ _ _ _
    refine ⟨A, c, ?_, ?_⟩
    · show _ = Value.agg #[.slice A (marksP k d.ps.length).length c, .int .i64 d.nx]
      rw [← hm]; rfl
    · show IsPods _ _ _ (marksP k d.ps.length).length _
      rw [← hm]; exact h1.below (bel1 _ _) hB
  have KB : Hid ((w.alloc (.cells (enL d A m c).toArray 32)).heap[w.heap.size]? = some (.cells (enL d A m c).toArray 32 (0, 0))) := box_new w (.cells (enL d A m c).toArray 32)
  obtain ⟨q, hq⟩ : ∃ q : Int, q = k + ((5 * d.ps.length : Nat) : Int) := ⟨_, rfl⟩
  rw [← hq]
  have hd : decide (q < 0) = false := by simp; omega
  have HQ := Lib.hid hq
  clear hq h1 hm
  go_enter Try.func31, Try.ntmps31
  go_wp2_with (refine wpList_get rfl 30 _ rfl _ 15 rfl KB.out (flL A m c d.nx) (enL_fl d A m c) Try.underlying30 rfl (by kernel_rfl) ?_)
  refine (FleetTy.heldFleet_any _ B (flV A m c d.nx) (d.ps, d.nx) k HR.out (by simp; omega) hf hk0 hk1).mono ?_
  rintro e w2 ⟨rfl, hb⟩
  have HB := Lib.hid (bel_then (bel1 w _) hb (by simp))
  clear hb KB
  rw [show (k + ((FleetTy.fty.cnt (d.ps, d.nx) : Nat) : Int)) = q from HQ.out.symm]
  go_wp2
  go_ret
  exact ⟨rfl, HB.out⟩
end Go.Proofs.Ytklgjjmcflgjeaa.EngTy
