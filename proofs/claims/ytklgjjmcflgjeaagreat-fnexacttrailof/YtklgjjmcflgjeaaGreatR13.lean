import Derived.Deep.MidRow
import Derived.Deep.RegionHeld3
import Derived.Laws.CopyRow
import Derived.OrdersIn
import Derived.RangeFuncCalls
import Derived.Test.YtklgjjmcflgjeaaGreatQ
import Derived.Test.YtklgjjmcflgjeaaGreatR00
import Derived.Test.YtklgjjmcflgjeaaGreatR01
import Derived.Test.YtklgjjmcflgjeaaGreatR02
import Derived.Test.YtklgjjmcflgjeaaGreatR04
import Derived.Test.YtklgjjmcflgjeaaGreatR06
import Derived.Test.YtklgjjmcflgjeaaGreatR09
import Derived.Test.YtklgjjmcflgjeaaGreatR10
import Derived.Test.YtklgjjmcflgjeaaGreatR11
import Derived.Test.YtklgjjmcflgjeaaGreatR12
set_option linter.unusedVariables false
set_option linter.unusedSimpArgs false
namespace Go.Proofs.YtklgjjmcflgjeaaGreat.Ring
open Go
theorem wp_round {P : Program} {Q : Exit → Act → World → Prop} {o : Oper} {a : Act} {w : World} {K : Act → World → Prop} (l n : Nat) (hd : ∀ c, o.op ≠ .defer c)
    (h : o.wp P a w K Q) : o.wpIn (Fence.wide.inRound l) n P a w K Q := by
  unfold Oper.wpIn
  unfold Oper.wp at h
  refine ⟨fun _ _ => trivial, ?_⟩
  rw [Oper.semAt_eq _ _ _ hd]
  generalize (execOp a.eval o).run P w = r at *
  cases r with
  | ok x w' =>
    cases x <;> simp only [Oper.upon, Oper.uponIn] at h ⊢ <;> first | exact h | skip
    · exact ⟨fun hh => by simp [Fence.inRound, Fence.wide] at hh, CallsIn.inRound l (callsIn_wide.2 h)⟩
    · refine ⟨fun hh => by simp [Fence.inRound, Fence.wide] at hh, fun c cs _ => ?_⟩
      obtain ⟨v, w'', h1, h2⟩ := h c cs
      exact ⟨v, w'', h1, stepsIn_wide.2 h2⟩
  | halt x w' => cases x <;> simp only [Oper.upon, Oper.uponIn] at h ⊢ <;> exact h
theorem wpOp_round {P : Program} {ops : Array Oper} {Q : Exit → Act → World → Prop} {i : Nat} {a : Act} {w : World} {K : Act → World → Prop} (l n : Nat)
    (hd : ∀ (j : Nat) (o : Oper), ops[j]? = some o → ∀ c, o.op ≠ .defer c) (hQ : ¬ LetsOut Q)
    (h : wpOp P ops Q i K a w) : wpOpIn (Fence.wide.inRound l) n P ops Q i K a w := by
  unfold wpOp at h
  unfold wpOpIn
  cases ho : ops[i]? with
  | none => simpa only [ho] using h
  | some o =>
    simp only [ho] at h ⊢
    split
    · rename_i hw
      simp only [hw, if_true] at h
      rcases h with h | h
      · exact wp_round l n (hd i o ho) h
      · exact absurd h.2 hQ
    · rename_i hw
      simp only [hw] at h
      exact ⟨fun _ _ => trivial, h⟩
theorem wpAny_round {P : Program} {md : Region.Mode} {ops : Array Oper} {Q : Exit → Act → World → Prop} (l n : Nat)
    (hd : ∀ (j : Nat) (o : Oper), ops[j]? = some o → ∀ c, o.op ≠ .defer c) (hQ : ¬ LetsOut Q) :
    ∀ (fuel : Nat) (listed : Array Bool) (a : Act) (w : World), wpAny P md ops Q fuel listed a w → wpAnyIn (Fence.wide.inRound l) n P md ops Q fuel listed a w
  | 0, _, _, _, h => h
  | fuel + 1, _, _, _, h => ⟨h.1, fun i hi => wpOpIn_mono (fun a' w' h' => wpAny_round l n hd hQ fuel _ a' w' h') (wpOp_round l n hd hQ (h.2 i hi))⟩
theorem wpIn_region_round {P : Program} {ops : Array Oper} {Q : Exit → Act → World → Prop} (S : World → Prop) {id : Nat} {a : Act} {w : World} (l n : Nat) (hm : P.follows .mixedOrders = true)
    (hd : ∀ (j : Nat) (o : Oper), ops[j]? = some o → ∀ c, o.op ≠ .defer c) (hQ : ¬ LetsOut Q) (hS : S w.drew)
    (h : S w.drew → wpAnyH P .any ops Q S ops.size (Array.replicate ops.size false) a w.drew) : (Code.region id ops true).wpIn (Fence.wide.inRound l) n P Q a w :=
  wpIn_region_any hm (wpAny_round l n hd hQ _ _ _ _ (wpAny_of_held _ _ _ _ (h hS)))
def calmOps (ops : Array Oper) : Bool := ops.toList.all fun o => match o.op with | .defer _ => false | _ => true
theorem calm_of {ops : Array Oper} (h : calmOps ops = true) : ∀ (j : Nat) (o : Oper), ops[j]? = some o → ∀ c, o.op ≠ .defer c := by
  intro j o ho c hc
  unfold calmOps at h
  rw [List.all_eq_true] at h
  have hm : o ∈ ops.toList := by
    rw [← Array.getElem?_toList] at ho
    exact List.mem_of_getElem? ho
  have h2 := h o hm
  simp only [hc] at h2
  exact absurd h2 (by decide)
end Go.Proofs.YtklgjjmcflgjeaaGreat.Ring
namespace Go.Proofs.YtklgjjmcflgjeaaGreat.BakI
open Go.ChangeShapes Go.WideShapes Go.ChangeAt Go.RowKit Go.Shelf
open LK Pods FleetV Sp Hl CountI
open Tick (inB tokB sinceV sinceI_any tickOk_any specTickOk_any)
open EachP
open Ring (wpIn_region_round calm_of)
attribute [local go_sem] Oper.semAt_some
def bakB (x3 x10 rev now : Int) (p : Pd) : Bool := (p.2.1 == rev) && (p.2.2.1 == 2) && decide (x3 + x10 ≤ sinceV p.2.2.2.2 now)
def bakedV (x0 x1 x2 x3 x4 x5 x6 x7 x8 x9 x10 rev now : Int) (d : PList × Int) : Bool := specB x0 x1 x2 x3 x4 x5 x6 x7 x8 x9 x10 && decide (FGood d.1 d.2) && tokB now && decide (x9 ≤ (cntF (bakB x3 x10 rev now) d.1 : Nat))
set_option maxRecDepth 100000 in
set_option maxHeartbeats 12800000 in
theorem baked_any (x0 x1 x2 x3 x4 x5 x6 x7 x8 x9 x10 rev now : Int) (A : Option Addr) (n c : Nat) (nx : Int) (ps : PList) (B : Nat) (w : World) (hr : IsPods w B A n ps) (hB : B ≤ w.heap.size) (hn : n ≤ 1048576) : Calls Tryz.prog 273 #[.agg #[.int .i64 x0, .int .i64 x1, .int .i64 x2, .int .i64 x3, .int .i64 x4, .int .i64 x5, .int .i64 x6, .int .i64 x7, .int .i64 x8, .int .i64 x9, .int .i64 x10], .agg #[.slice A n c, .int .i64 nx], .int .i64 rev, .int .i64 now] w (Says (.bool (bakedV x0 x1 x2 x3 x4 x5 x6 x7 x8 x9 x10 rev now (ps, nx))) w) := by
  obtain ⟨R, hR⟩ : ∃ R, R = bakedV x0 x1 x2 x3 x4 x5 x6 x7 x8 x9 x10 rev now (ps, nx) := ⟨_, rfl⟩
  rw [← hR]
  have HR := Lib.hid hR
  have HP := Lib.hid hr
  clear hR hr
  obtain ⟨V, hV⟩ : ∃ V, V = ((((w.alloc (.cells #[.int .i64 x0, .int .i64 x1, .int .i64 x2, .int .i64 x3, .int .i64 x4, .int .i64 x5, .int .i64 x6, .int .i64 x7, .int .i64 x8, .int .i64 x9, .int .i64 x10] 25)).alloc (.cells #[.slice A n c, .int .i64 nx] 34)).alloc (.cells #[.int .i64 rev] 3)).alloc (.cells #[.int .i64 now] 3)) := ⟨_, rfl⟩
  have HB : Hid (Below w.heap.size w V) := by show Below _ _ _; rw [hV]; exact (bel3 _ _ _ _).alloc (by simp; omega) _
  have K0 : Hid (V.heap[w.heap.size]? = some (.cells #[.int .i64 x0, .int .i64 x1, .int .i64 x2, .int .i64 x3, .int .i64 x4, .int .i64 x5, .int .i64 x6, .int .i64 x7, .int .i64 x8, .int .i64 x9, .int .i64 x10] 25)) := by have h := box_alloc (box_alloc (box_alloc (box_new w (.cells #[.int .i64 x0, .int .i64 x1, .int .i64 x2, .int .i64 x3, .int .i64 x4, .int .i64 x5, .int .i64 x6, .int .i64 x7, .int .i64 x8, .int .i64 x9, .int .i64 x10] 25)) (.cells #[.slice A n c, .int .i64 nx] 34)) (.cells #[.int .i64 rev] 3)) (.cells #[.int .i64 now] 3); (try simp only [World.size_alloc] at h); rw [hV]; exact h
  have K1 : Hid (V.heap[w.heap.size + 1]? = some (.cells #[.slice A n c, .int .i64 nx] 34)) := by have h := box_alloc (box_alloc (box_new (w.alloc (.cells #[.int .i64 x0, .int .i64 x1, .int .i64 x2, .int .i64 x3, .int .i64 x4, .int .i64 x5, .int .i64 x6, .int .i64 x7, .int .i64 x8, .int .i64 x9, .int .i64 x10] 25)) (.cells #[.slice A n c, .int .i64 nx] 34)) (.cells #[.int .i64 rev] 3)) (.cells #[.int .i64 now] 3); (try simp only [World.size_alloc] at h); rw [hV]; exact h
  have K2 : Hid (V.heap[w.heap.size + 1 + 1]? = some (.cells #[.int .i64 rev] 3)) := by have h := box_alloc (box_new ((w.alloc (.cells #[.int .i64 x0, .int .i64 x1, .int .i64 x2, .int .i64 x3, .int .i64 x4, .int .i64 x5, .int .i64 x6, .int .i64 x7, .int .i64 x8, .int .i64 x9, .int .i64 x10] 25)).alloc (.cells #[.slice A n c, .int .i64 nx] 34)) (.cells #[.int .i64 rev] 3)) (.cells #[.int .i64 now] 3); (try simp only [World.size_alloc] at h); rw [hV]; exact h
  have K3 : Hid (V.heap[w.heap.size + 1 + 1 + 1]? = some (.cells #[.int .i64 now] 3)) := by have h := box_new (((w.alloc (.cells #[.int .i64 x0, .int .i64 x1, .int .i64 x2, .int .i64 x3, .int .i64 x4, .int .i64 x5, .int .i64 x6, .int .i64 x7, .int .i64 x8, .int .i64 x9, .int .i64 x10] 25)).alloc (.cells #[.slice A n c, .int .i64 nx] 34)).alloc (.cells #[.int .i64 rev] 3)) (.cells #[.int .i64 now] 3); (try simp only [World.size_alloc] at h); rw [hV]; exact h
  refine (callsIn_wide (n := 8)).1 ?_
  refine callsIn_of_wp_marks Tryz.func273 rfl trivial ?_ rfl
  simp only [Tryz.ntmps273, List.size_toArray, List.length_cons, List.length_nil, Nat.reduceAdd, Nat.reduceSub, Array.replicate_succ, Array.replicate_zero, List.push_toArray, List.append_toArray, List.nil_append, List.cons_append]
  refine wpIn_wide.2 ?_
  go_upto_region 1 with fail
  rw [← hV]
  clear hV
  go_wp2_with (refine wpList_load_row rfl 25 _ rfl _ rfl _ _ (0, 0) _ K0.out Tryz.underlying25 rfl (by kernel_rfl) ?_)
  refine (specOk_any x0 x1 x2 x3 x4 x5 x6 x7 x8 x9 x10 _).mono ?_
  rintro e w1 ⟨rfl, hb⟩
  have K0' := Lib.hid (box_below K0.out hb)
  clear K0
  have K0 := K0'
  clear K0'
  have K1' := Lib.hid (box_below K1.out hb)
  clear K1
  have K1 := K1'
  clear K1'
  have K2' := Lib.hid (box_below K2.out hb)
  clear K2
  have K2 := K2'
  clear K2'
  have K3' := Lib.hid (box_below K3.out hb)
  clear K3
  have K3 := K3'
  clear K3'
  have HB' := Lib.hid (bel_then HB.out hb HB.out.size)
  clear HB hb
  have HB := HB'
  clear HB'
  cases h1 : specB x0 x1 x2 x3 x4 x5 x6 x7 x8 x9 x10
  · have HF : Hid (R = false) := by show _ = _; rw [HR.out]; simp [bakedV, h1]
    clear h1
    go_wp2
    exact ⟨_, results_tmp rfl _ _ _, by rw [HF.out]; rfl, HB.out⟩
  have Hh1 := Lib.hid h1
  clear h1
  have f0 := box_cell K1.out 0 _ rfl
  have f1 := box_cell K1.out 1 _ rfl
  go_wp2_with fail
  clear f0 f1
  refine (Crew.fleetOk_any A n c nx ps B _ (HP.out.below HB.out hB) (Nat.le_trans hB HB.out.size) hn).mono ?_
  rintro e w2 ⟨rfl, hb⟩
  have K0' := Lib.hid (box_below K0.out hb)
  clear K0
  have K0 := K0'
  clear K0'
  have K1' := Lib.hid (box_below K1.out hb)
  clear K1
  have K1 := K1'
  clear K1'
  have K2' := Lib.hid (box_below K2.out hb)
  clear K2
  have K2 := K2'
  clear K2'
  have K3' := Lib.hid (box_below K3.out hb)
  clear K3
  have K3 := K3'
  clear K3'
  have HB' := Lib.hid (bel_then HB.out hb HB.out.size)
  clear HB hb
  have HB := HB'
  clear HB'
  cases h2 : decide (FGood ps nx)
  · have HF : Hid (R = false) := by show _ = _; rw [HR.out]; simp [bakedV, Hh1.out, h2]
    clear h2
    go_wp2
    exact ⟨_, results_tmp rfl _ _ _, by rw [HF.out]; rfl, HB.out⟩
  have Hh2 := Lib.hid h2
  clear h2
  have q0 := box_cell K3.out 0 _ rfl
  go_wp2_with fail
  clear q0
  refine (tickOk_any now _).mono ?_
  rintro e w' ⟨rfl, rfl⟩
  cases h3 : tokB now
  · have HF : Hid (R = false) := by show _ = _; rw [HR.out]; simp [bakedV, Hh1.out, Hh2.out, h3]
    clear h3
    go_wp2
    exact ⟨_, results_tmp rfl _ _ _, by rw [HF.out]; rfl, HB.out⟩
  have Hh3 := Lib.hid h3
  clear h3
  have HF : Hid (R = decide (x9 ≤ (cntF (bakB x3 x10 rev now) ps : Nat))) := by show _ = _; rw [HR.out]; simp [bakedV, Hh1.out, Hh2.out, Hh3.out]
  have hbd := specB_t Hh1.out
  have bx : (0 ≤ x3 ∧ x3 ≤ 1000) ∧ (0 ≤ x10 ∧ x10 ≤ 1000) := by omega
  clear hbd HR Hh1 Hh2 Hh3
  have fc : (w2.alloc (.cells #[.int .i64 0] 3)).cell? ⟨w.heap.size + 1, 0, none⟩ = some (.slice A n c) := box_cell (box_alloc K1.out _) 0 _ rfl
  go_wp2_with fail
  refine (callsIn_wide.1 (eachP_in Fence.wide 1 trivial rfl _ _ _ _)).mono ?_
  rintro e w3 ⟨rfl, rfl⟩
  clear fc
  go_wp2
  (try simp only [World.size_alloc])
  have hl2 : w.heap.size + 1 + 1 + 1 < w2.heap.size := box_lt K3.out
  obtain ⟨W0, hW0⟩ : ∃ V, V = (w2.alloc (.cells #[.int .i64 0] 3)).alloc (.cells #[.slice A n c] 32) := ⟨_, rfl⟩
  have hsz : W0.heap.size = w2.heap.size + 1 + 1 := by rw [hW0]; simp only [World.size_alloc]
  have L0 : Hid (W0.heap[w.heap.size]? = some (.cells #[.int .i64 x0, .int .i64 x1, .int .i64 x2, .int .i64 x3, .int .i64 x4, .int .i64 x5, .int .i64 x6, .int .i64 x7, .int .i64 x8, .int .i64 x9, .int .i64 x10] 25)) := by show _ = _; rw [hW0]; exact box_alloc (box_alloc K0.out _) _
  have L2 : Hid (W0.heap[w.heap.size + 1 + 1]? = some (.cells #[.int .i64 rev] 3)) := by show _ = _; rw [hW0]; exact box_alloc (box_alloc K2.out _) _
  have L3 : Hid (W0.heap[w.heap.size + 1 + 1 + 1]? = some (.cells #[.int .i64 now] 3)) := by show _ = _; rw [hW0]; exact box_alloc (box_alloc K3.out _) _
  have L4 : Hid (W0.heap[w2.heap.size]? = some (.cells #[.int .i64 0] 3)) := by show _ = _; rw [hW0]; exact box_alloc (box_new w2 _) _
  have kb : W0.cell? ⟨w2.heap.size + 1, 0, none⟩ = some (.slice A n c) := by have h := box_new (w2.alloc (.cells #[.int .i64 0] 3)) (.cells #[.slice A n c] 32); simp only [World.size_alloc] at h; rw [hW0]; exact box_cell h 0 _ rfl
  have HBW : Hid (Below w.heap.size w W0) := by show Below _ _ _; rw [hW0]; exact (HB.out.alloc HB.out.size _).alloc (by simp; have := HB.out.size; omega) _
  rw [← hW0]
  clear hW0 HB K0 K1 K2 K3
  have HRW := Lib.hid ((HP.out.more hB).below HBW.out (Nat.le_refl _))
  refine (wpIn_wide (n := 8)).1 ?_
  refine wpIn_rangeFunc_ownH rfl (by omega) (gf := 314) (lb := #[.pointer (some ⟨w2.heap.size + 1, 0, none⟩)]) rfl trivial (enters_of Tryz.func314 (by kernel_rfl) rfl)
    (eachP_stops Fence.wide _ trivial rfl (by omega) (w2.heap.size + 1) w.heap.size A n c ps W0 hn (by omega) (by omega) kb HRW.out) belowK_t (belowK_b (by omega)) (Below.refl _ _) (fun _ => rfl)
    (fun pre W => (W.heap[w.heap.size]? = some (.cells #[.int .i64 x0, .int .i64 x1, .int .i64 x2, .int .i64 x3, .int .i64 x4, .int .i64 x5, .int .i64 x6, .int .i64 x7, .int .i64 x8, .int .i64 x9, .int .i64 x10] 25 (0, 0)) ∧ W.heap[w.heap.size + 1 + 1]? = some (.cells #[.int .i64 rev] 3 (0, 0)) ∧ W.heap[w.heap.size + 1 + 1 + 1]? = some (.cells #[.int .i64 now] 3 (0, 0)) ∧ W.heap[w2.heap.size]? = some (.cells #[.int .i64 (cntF (bakB x3 x10 rev now) pre)] 3 (0, 0)) ∧ w2.heap.size + 1 + 1 ≤ W.heap.size) ∧ Below w.heap.size w W)
    (fun _ _ _ => False)
    (OwnFrom.and (Own.from (fun s A B row hs hg hr => ⟨own_box hs.1 hg hr, own_box hs.2.1 hg hr, own_box hs.2.2.1 hg hr, own_box hs.2.2.2.1 hg hr, Nat.le_trans hs.2.2.2.2 hg.size⟩) _) (ownFrom_below (Nat.le_refl _) (by omega)))
    (fun _ _ _ _ _ hs _ _ => hs)
    ⟨⟨L0.out, L2.out, L3.out, L4.out, by omega⟩, HBW.out⟩
    (fun x a' W => ∃ Bx, w2.heap.size + 1 < Bx ∧ W.heap[Bx]? = some (.cells #[.int .i64 x.1, .int .i64 x.2.1, .int .i64 x.2.2.1, .int .i64 x.2.2.2.1, .int .i64 x.2.2.2.2] 85 (0, 0)) ∧ a' = { tmps := #[.agg #[.int .i64 x0, .int .i64 x1, .int .i64 x2, .int .i64 x3, .int .i64 x4, .int .i64 x5, .int .i64 x6, .int .i64 x7, .int .i64 x8, .int .i64 x9, .int .i64 x10], .agg #[.slice A n c, .int .i64 nx], .int .i64 rev, .int .i64 now, .pointer (some ⟨w.heap.size, 0, none⟩), .pointer (some ⟨w.heap.size + 1, 0, none⟩), .pointer (some ⟨w.heap.size + 1 + 1, 0, none⟩), .pointer (some ⟨w.heap.size + 1 + 1 + 1, 0, none⟩), .bool false, .pointer (some ⟨w2.heap.size, 0, none⟩), .pointer (some ⟨Bx, 0, none⟩), .agg #[.int .i64 x0, .int .i64 x1, .int .i64 x2, .int .i64 x3, .int .i64 x4, .int .i64 x5, .int .i64 x6, .int .i64 x7, .int .i64 x8, .int .i64 x9, .int .i64 x10], .bool true, .bool false, .bool false, .agg #[.slice A n c, .int .i64 nx], .bool true, .bool false, .bool false, .bool false, .int .i64 now, .bool true, .bool false, .bool false, .pointer (some ⟨w.heap.size + 1, 0, none⟩), .slice A n c, .func (.func 314) #[] #[.pointer (some ⟨w2.heap.size + 1, 0, none⟩)], podA x, undef, undef, undef, undef, undef, undef, undef, undef, undef, undef, undef, undef, undef, undef, undef, undef, undef, undef, undef, undef, undef, undef, undef, undef, undef, undef, undef], defers := [] })
    (fun x a' s A B row hs hg hr => by obtain ⟨Bx, h1, h2, h3⟩ := hs; exact ⟨Bx, h1, own_box h2 hg (fun r e => (hr r e).2), h3⟩) ?assign ?body ?done ?stop
  case assign =>
    rintro l pre x W K ⟨⟨h1, h2, h3, h4, h6⟩, hB⟩ hK
    have HK := Lib.hid hK
    clear hK
    obtain ⟨y0, y1, y2, y3, y4⟩ := x
    have HB' := Lib.hid hB
    clear hB
    gi_wp2
    exact HK.out _ _ ((KeepsOthers.alloc _ _).from _) ((Below.refl _ W).alloc HB'.out.size _) ⟨⟨box_alloc h1 _, box_alloc h2 _, box_alloc h3 _, box_alloc h4 _, by simp; omega⟩, HB'.out.alloc HB'.out.size _⟩ ⟨W.heap.size, by omega, box_new W _, rfl⟩
  case body =>
    rintro l pre x a' W hl hrr ⟨⟨h1, h2, h3, h4, h6⟩, hB⟩ ⟨Bx, hBx, bX, rfl⟩ hlt
    obtain ⟨y0, y1, y2, y3, y4⟩ := x
    have hm1 : cntF (bakB x3 x10 rev now) pre ≤ 1048576 := Nat.le_trans (cnt_le _ _) (by omega)
    have hs1 := cnt_snoc (bakB x3 x10 rev now) pre (y0, y1, y2, y3, y4)
    obtain ⟨m1, hM1⟩ : ∃ m, m = cntF (bakB x3 x10 rev now) pre := ⟨_, rfl⟩
    rw [← hM1] at h4 hm1 hs1
    clear hM1 hrr hlt
    have H1 := Lib.hid h1
    have H2 := Lib.hid h2
    have H3 := Lib.hid h3
    have H4 := Lib.hid h4
    have H6 := Lib.hid h6
    have HBx := Lib.hid hB
    have BX := Lib.hid bX
    have HS1 := Lib.hid hs1
    clear h1 h2 h3 h4 h6 hB bX hs1 hl
    have b1 := box_cell BX.out 1 _ rfl
    have b2 := box_cell BX.out 2 _ rfl
    have b4 := box_cell BX.out 4 _ rfl
    have rc := box_cell H2.out 0 _ rfl
    have nc := box_cell H3.out 0 _ rfl
    have c3 := box_cell H1.out 3 _ rfl
    have c10 := box_cell H1.out 10 _ rfl
    obtain ⟨sv, hsv⟩ : ∃ z, z = sinceV y4 now := ⟨_, rfl⟩
    have hw1 : IntKind.i64.wrap (x3 + x10) = x3 + x10 := IntWalk.i64_in _ ⟨by omega, by omega⟩
    have HA : Hid (∀ W : World, Calls Tryz.prog 223 #[.int .i64 y4, .int .i64 now] W fun e w' => e = .returned (.int .i64 sv) ∧ W = w') := fun W => by rw [hsv]; exact sinceI_any y4 now W
    have HSV := Lib.hid hsv
    clear hsv
    cases hx : (y1 == rev)
    case false =>
      have hz1 : bakB x3 x10 rev now (y0, y1, y2, y3, y4) = false := by simp [bakB, hx]
      have HE1 : Hid (cntF (bakB x3 x10 rev now) (pre ++ [(y0, y1, y2, y3, y4)]) = m1) := by show _ = _; rw [HS1.out, hz1]; rfl
      clear hz1
      gi_wp2_with fail
      refine wpIn_region_round (fun w' => w'.cell? ⟨Bx, 1, none⟩ = some (.int .i64 y1) ∧ w'.cell? ⟨Bx, 2, none⟩ = some (.int .i64 y2) ∧ w'.cell? ⟨Bx, 4, none⟩ = some (.int .i64 y4) ∧ w'.cell? ⟨w.heap.size + 1 + 1, 0, none⟩ = some (.int .i64 rev) ∧ w'.cell? ⟨w.heap.size + 1 + 1 + 1, 0, none⟩ = some (.int .i64 now) ∧ w'.cell? ⟨w.heap.size, 3, none⟩ = some (.int .i64 x3) ∧ w'.cell? ⟨w.heap.size, 10, none⟩ = some (.int .i64 x10)) l _ (by kernel_rfl) (calm_of (by kernel_rfl)) ?lets ⟨b1, b2, b4, rc, nc, c3, c10⟩ ?_
      case lets => rintro ⟨_, _, h⟩; exact h
      intro hHeld
      refine tkk (i := 0) rfl ?_
      try simp only [Act.put, pj]
      refine tkk (i := 1) rfl ?_
      try simp only [Act.put, pj]
      refine tkk (i := 2) rfl ?_
      try simp only [Act.put, pj]
      refine tkk (i := 3) rfl ?_
      try simp only [Act.put, pj]
      refine tkk (i := 4) rfl ?_
      try simp only [Act.put, pj]
      refine tkj (i := 5) (v := undef) rfl (Or.inr ⟨by rfl, rfl⟩) ?_
      try simp only [Act.put, pj]
      refine tkj (i := 6) (v := undef) rfl (Or.inr ⟨by rfl, rfl⟩) ?_
      try simp only [Act.put, pj]
      refine tkj (i := 7) (v := undef) rfl (Or.inr ⟨by rfl, rfl⟩) ?_
      try simp only [Act.put, pj]
      refine tkk (i := 8) rfl ?_
      try simp only [Act.put, pj]
      refine tkk (i := 9) rfl ?_
      try simp only [Act.put, pj]
      refine tkj (i := 10) (v := undef) rfl (Or.inr ⟨by rfl, rfl⟩) ?_
      try simp only [Act.put, pj]
      refine tkj (i := 11) (v := undef) rfl (Or.inr ⟨by rfl, rfl⟩) ?_
      try simp only [Act.put, pj]
      refine tkj (i := 12) (v := undef) rfl (Or.inr ⟨by rfl, rfl⟩) ?_
      try simp only [Act.put, pj]
      refine tkj (i := 13) (v := undef) rfl (Or.inr ⟨by rfl, rfl⟩) ?_
      try simp only [Act.put, pj]
      refine tkj (i := 14) (v := undef) rfl (Or.inr ⟨by rfl, rfl⟩) ?_
      try simp only [Act.put, pj]
      refine tkj (i := 15) (v := undef) rfl (Or.inr ⟨by rfl, rfl⟩) ?_
      try simp only [Act.put, pj]
      refine tkj (i := 16) (v := undef) rfl (Or.inr ⟨by rfl, rfl⟩) ?_
      try simp only [Act.put, pj]
      refine tkj (i := 17) (v := undef) rfl (Or.inr ⟨by rfl, rfl⟩) ?_
      try simp only [Act.put, pj]
      refine tkj (i := 18) (v := undef) rfl (Or.inr ⟨by rfl, rfl⟩) ?_
      try simp only [Act.put, pj]
      refine tkj (i := 19) (v := undef) rfl (Or.inr ⟨by rfl, rfl⟩) ?_
      try simp only [Act.put, pj]
      refine tkk (i := 20) rfl ?_
      try simp only [Act.put, pj]
      refine wpAnyH_done (by kernel_rfl) ?_ _
      clear hHeld
      gi_wp2
      exact ⟨(KeepsOthers.drew W).from _, (Below.refl _ W).drew, ⟨H1.out, H2.out, H3.out, by rw [HE1.out]; exact H4.out, H6.out⟩, HBx.out.drew⟩
    cases hq : (y2 == 2)
    case false =>
      have hz1 : bakB x3 x10 rev now (y0, y1, y2, y3, y4) = false := by simp [bakB, hx, hq]
      have HE1 : Hid (cntF (bakB x3 x10 rev now) (pre ++ [(y0, y1, y2, y3, y4)]) = m1) := by show _ = _; rw [HS1.out, hz1]; rfl
      clear hz1
      gi_wp2_with fail
      refine wpIn_region_round (fun w' => w'.cell? ⟨Bx, 1, none⟩ = some (.int .i64 y1) ∧ w'.cell? ⟨Bx, 2, none⟩ = some (.int .i64 y2) ∧ w'.cell? ⟨Bx, 4, none⟩ = some (.int .i64 y4) ∧ w'.cell? ⟨w.heap.size + 1 + 1, 0, none⟩ = some (.int .i64 rev) ∧ w'.cell? ⟨w.heap.size + 1 + 1 + 1, 0, none⟩ = some (.int .i64 now) ∧ w'.cell? ⟨w.heap.size, 3, none⟩ = some (.int .i64 x3) ∧ w'.cell? ⟨w.heap.size, 10, none⟩ = some (.int .i64 x10)) l _ (by kernel_rfl) (calm_of (by kernel_rfl)) ?lets ⟨b1, b2, b4, rc, nc, c3, c10⟩ ?_
      case lets => rintro ⟨_, _, h⟩; exact h
      intro hHeld
      refine tkk (i := 0) rfl ?_
      try simp only [Act.put, pj]
      refine tkk (i := 1) rfl ?_
      try simp only [Act.put, pj]
      refine tkk (i := 2) rfl ?_
      try simp only [Act.put, pj]
      refine tkk (i := 3) rfl ?_
      try simp only [Act.put, pj]
      refine tkk (i := 4) rfl ?_
      try simp only [Act.put, pj]
      refine tkk (i := 5) rfl ?_
      try simp only [Act.put, pj]
      refine tkk (i := 6) rfl ?_
      try simp only [Act.put, pj]
      refine tkk (i := 7) rfl ?_
      try simp only [Act.put, pj]
      refine tkk (i := 8) rfl ?_
      try simp only [Act.put, pj]
      refine tkk (i := 9) rfl ?_
      try simp only [Act.put, pj]
      refine tkj (i := 10) (v := undef) rfl (Or.inr ⟨by rfl, rfl⟩) ?_
      try simp only [Act.put, pj]
      refine tkj (i := 11) (v := undef) rfl (Or.inr ⟨by rfl, rfl⟩) ?_
      try simp only [Act.put, pj]
      refine tkj (i := 12) (v := undef) rfl (Or.inr ⟨by rfl, rfl⟩) ?_
      try simp only [Act.put, pj]
      refine tkj (i := 13) (v := undef) rfl (Or.inr ⟨by rfl, rfl⟩) ?_
      try simp only [Act.put, pj]
      refine tkj (i := 14) (v := undef) rfl (Or.inr ⟨by rfl, rfl⟩) ?_
      try simp only [Act.put, pj]
      refine tkj (i := 15) (v := undef) rfl (Or.inr ⟨by rfl, rfl⟩) ?_
      try simp only [Act.put, pj]
      refine tkj (i := 16) (v := undef) rfl (Or.inr ⟨by rfl, rfl⟩) ?_
      try simp only [Act.put, pj]
      refine tkj (i := 17) (v := undef) rfl (Or.inr ⟨by rfl, rfl⟩) ?_
      try simp only [Act.put, pj]
      refine tkj (i := 18) (v := undef) rfl (Or.inr ⟨by rfl, rfl⟩) ?_
      try simp only [Act.put, pj]
      refine tkj (i := 19) (v := undef) rfl (Or.inr ⟨by rfl, rfl⟩) ?_
      try simp only [Act.put, pj]
      refine tkk (i := 20) rfl ?_
      try simp only [Act.put, pj]
      refine wpAnyH_done (by kernel_rfl) ?_ _
      clear hHeld
      gi_wp2
      exact ⟨(KeepsOthers.drew W).from _, (Below.refl _ W).drew, ⟨H1.out, H2.out, H3.out, by rw [HE1.out]; exact H4.out, H6.out⟩, HBx.out.drew⟩
    by_cases hge : x3 + x10 ≤ sv
    case pos =>
      have hd : decide (x3 + x10 ≤ sv) = true := by simp [hge]
      have hz1 : bakB x3 x10 rev now (y0, y1, y2, y3, y4) = true := by simp only [bakB, hx, hq, ← HSV.out, hd]; rfl
      have HE1 : Hid (((cntF (bakB x3 x10 rev now) (pre ++ [(y0, y1, y2, y3, y4)]) : Nat) : Int) = (m1 : Int) + 1) := by show _ = _; rw [HS1.out, hz1]; simp
      clear hz1
      gi_wp2_with fail
      refine wpIn_region_round (fun w' => w'.cell? ⟨Bx, 1, none⟩ = some (.int .i64 y1) ∧ w'.cell? ⟨Bx, 2, none⟩ = some (.int .i64 y2) ∧ w'.cell? ⟨Bx, 4, none⟩ = some (.int .i64 y4) ∧ w'.cell? ⟨w.heap.size + 1 + 1, 0, none⟩ = some (.int .i64 rev) ∧ w'.cell? ⟨w.heap.size + 1 + 1 + 1, 0, none⟩ = some (.int .i64 now) ∧ w'.cell? ⟨w.heap.size, 3, none⟩ = some (.int .i64 x3) ∧ w'.cell? ⟨w.heap.size, 10, none⟩ = some (.int .i64 x10)) l _ (by kernel_rfl) (calm_of (by kernel_rfl)) ?lets ⟨b1, b2, b4, rc, nc, c3, c10⟩ ?_
      case lets => rintro ⟨_, _, h⟩; exact h
      intro hHeld
      refine tkk (i := 0) rfl ?_
      try simp only [Act.put, pj]
      refine tkk (i := 1) rfl ?_
      try simp only [Act.put, pj]
      refine tkk (i := 2) rfl ?_
      try simp only [Act.put, pj]
      refine tkk (i := 3) rfl ?_
      try simp only [Act.put, pj]
      refine tkk (i := 4) rfl ?_
      try simp only [Act.put, pj]
      refine tkk (i := 5) rfl ?_
      try simp only [Act.put, pj]
      refine tkk (i := 6) rfl ?_
      try simp only [Act.put, pj]
      refine tkk (i := 7) rfl ?_
      try simp only [Act.put, pj]
      refine tkk (i := 8) rfl ?_
      try simp only [Act.put, pj]
      refine tkk (i := 9) rfl ?_
      try simp only [Act.put, pj]
      refine tkk (i := 10) rfl ?_
      try simp only [Act.put, pj]
      refine tkk (i := 11) rfl ?_
      try simp only [Act.put, pj]
      refine tkk (i := 12) rfl ?_
      try simp only [Act.put, pj]
      refine tkk (i := 14) rfl ?_
      try simp only [Act.put, pj]
      refine tkk (i := 15) rfl ?_
      try simp only [Act.put, pj]
      refine tkk (i := 16) rfl ?_
      try simp only [Act.put, pj]
      refine tkk (i := 17) rfl ?_
      try simp only [Act.put, pj]
      refine tkk (i := 18) rfl ?_
      try simp only [Act.put, pj]
      refine wpAnyH_ready (rs := [13]) (by kernel_rfl) (by simp) (AllReadyH.cons rfl (fun K hK => ?_) AllReadyH.nil)
      go_simp
      refine (HA.out _).mono ?_
      rintro e w' ⟨rfl, rfl⟩
      refine hK _ _ (by exact ⟨b1, b2, b4, rc, nc, c3, c10⟩) (fun hHeld => ?_)
      clear hK K
      try simp only [Act.put, pj]
      refine tkk (i := 19) rfl ?_
      try simp only [Act.put, pj]
      refine tkk (i := 20) rfl ?_
      try simp only [Act.put, pj]
      refine wpAnyH_done (by kernel_rfl) ?_ _
      clear hHeld b1 b2 b4 rc nc c3 c10
      have k0 : W.drew.cell? ⟨w2.heap.size, 0, none⟩ = some (.int .i64 m1) := box_cell H4.out 0 _ rfl
      have g0 : W.drew.frozen? ⟨w2.heap.size, 0, none⟩ = false := box_frozen H4.out 0
      have T6 : Turned (fun k => k = w2.heap.size) W (W.drew.setCell ⟨w2.heap.size, 0, none⟩ (.int .i64 ((m1 : Int) + 1))) := (Turned.of_below ((Below.refl _ W).drew)).trans (Turned.set W.drew _ _ rfl)
      have HT6 := Lib.hid T6
      clear T6
      have O4 : Hid ((W.drew.setCell ⟨w2.heap.size, 0, none⟩ (.int .i64 ((m1 : Int) + 1))).heap[w2.heap.size]? = some (.cells #[.int .i64 ((m1 : Int) + 1)] 3 (0, 0))) := by show _ = _; have h := box_set (i := 0) (w := W.drew) H4.out (.int .i64 ((m1 : Int) + 1)); rw [h]; simp
      have hlx : w.heap.size + 1 + 1 + 1 < w2.heap.size := hl2
      gi_wp2
      exact ⟨(keeps_of (Bp := w2.heap.size) H4.out HT6.out).from _, Turned.low (Below.refl _ _) HT6.out (fun k hk => by omega) HBx.out.size, ⟨box_turned H1.out HT6.out (by omega), box_turned H2.out HT6.out (by omega), box_turned H3.out HT6.out (by omega), by rw [HE1.out]; exact O4.out, Nat.le_trans H6.out HT6.out.size⟩, Turned.low HBx.out HT6.out (fun k hk => by omega) HBx.out.size⟩
    case neg =>
      have hd : decide (x3 + x10 ≤ sv) = false := by simp [hge]
      have hz1 : bakB x3 x10 rev now (y0, y1, y2, y3, y4) = false := by simp only [bakB, hx, hq, ← HSV.out, hd]; rfl
      have HE1 : Hid (cntF (bakB x3 x10 rev now) (pre ++ [(y0, y1, y2, y3, y4)]) = m1) := by show _ = _; rw [HS1.out, hz1]; rfl
      clear hz1
      gi_wp2_with fail
      refine wpIn_region_round (fun w' => w'.cell? ⟨Bx, 1, none⟩ = some (.int .i64 y1) ∧ w'.cell? ⟨Bx, 2, none⟩ = some (.int .i64 y2) ∧ w'.cell? ⟨Bx, 4, none⟩ = some (.int .i64 y4) ∧ w'.cell? ⟨w.heap.size + 1 + 1, 0, none⟩ = some (.int .i64 rev) ∧ w'.cell? ⟨w.heap.size + 1 + 1 + 1, 0, none⟩ = some (.int .i64 now) ∧ w'.cell? ⟨w.heap.size, 3, none⟩ = some (.int .i64 x3) ∧ w'.cell? ⟨w.heap.size, 10, none⟩ = some (.int .i64 x10)) l _ (by kernel_rfl) (calm_of (by kernel_rfl)) ?lets ⟨b1, b2, b4, rc, nc, c3, c10⟩ ?_
      case lets => rintro ⟨_, _, h⟩; exact h
      intro hHeld
      refine tkk (i := 0) rfl ?_
      try simp only [Act.put, pj]
      refine tkk (i := 1) rfl ?_
      try simp only [Act.put, pj]
      refine tkk (i := 2) rfl ?_
      try simp only [Act.put, pj]
      refine tkk (i := 3) rfl ?_
      try simp only [Act.put, pj]
      refine tkk (i := 4) rfl ?_
      try simp only [Act.put, pj]
      refine tkk (i := 5) rfl ?_
      try simp only [Act.put, pj]
      refine tkk (i := 6) rfl ?_
      try simp only [Act.put, pj]
      refine tkk (i := 7) rfl ?_
      try simp only [Act.put, pj]
      refine tkk (i := 8) rfl ?_
      try simp only [Act.put, pj]
      refine tkk (i := 9) rfl ?_
      try simp only [Act.put, pj]
      refine tkk (i := 10) rfl ?_
      try simp only [Act.put, pj]
      refine tkk (i := 11) rfl ?_
      try simp only [Act.put, pj]
      refine tkk (i := 12) rfl ?_
      try simp only [Act.put, pj]
      refine tkk (i := 14) rfl ?_
      try simp only [Act.put, pj]
      refine tkk (i := 15) rfl ?_
      try simp only [Act.put, pj]
      refine tkk (i := 16) rfl ?_
      try simp only [Act.put, pj]
      refine tkk (i := 17) rfl ?_
      try simp only [Act.put, pj]
      refine tkk (i := 18) rfl ?_
      try simp only [Act.put, pj]
      refine wpAnyH_ready (rs := [13]) (by kernel_rfl) (by simp) (AllReadyH.cons rfl (fun K hK => ?_) AllReadyH.nil)
      go_simp
      refine (HA.out _).mono ?_
      rintro e w' ⟨rfl, rfl⟩
      refine hK _ _ (by exact ⟨b1, b2, b4, rc, nc, c3, c10⟩) (fun hHeld => ?_)
      clear hK K
      try simp only [Act.put, pj]
      refine tkk (i := 19) rfl ?_
      try simp only [Act.put, pj]
      refine tkk (i := 20) rfl ?_
      try simp only [Act.put, pj]
      refine wpAnyH_done (by kernel_rfl) ?_ _
      clear hHeld
      gi_wp2
      exact ⟨(KeepsOthers.drew W).from _, (Below.refl _ W).drew, ⟨H1.out, H2.out, H3.out, by rw [HE1.out]; exact H4.out, H6.out⟩, HBx.out.drew⟩
  case done =>
    rintro D ys W hD rfl ⟨⟨h1, h2, h3, h4, h6⟩, hB⟩ hK
    have hm1 : cntF (bakB x3 x10 rev now) ys ≤ 1048576 := Nat.le_trans (cnt_le _ _) (by have := HRW.out.1; omega)
    obtain ⟨m1, hM1⟩ : ∃ m, m = cntF (bakB x3 x10 rev now) ys := ⟨_, rfl⟩
    rw [← hM1] at h4 HF
    clear hM1 hm1
    have HBF := Lib.hid (hB.trans (belowK_b (w := w) (Nat.le_refl _) W D _ (.deferred none) (by omega) hK rfl rfl))
    have k0 := box_cell h4 0 _ rfl
    have c9 := box_cell h1 9 _ rfl
    have HKD := Lib.hid hK
    clear hK h1 h2 h3 h4 h6 hB
    by_cases hge : x9 ≤ (m1 : Int)
    case pos =>
      have hd : decide (x9 ≤ (m1 : Int)) = true := by simp [hge]
      have HV : Hid (R = true) := by show _ = _; rw [HF.out, hd]
      go_wp2
      refine ⟨by simp, .inl ⟨_, _, rfl, run_takeDeferred HKD.out, ?_⟩⟩
      exact ⟨_, results_tmp rfl _ _ _, by rw [HV.out]; rfl, HBF.out⟩
    case neg =>
      have hd : decide (x9 ≤ (m1 : Int)) = false := by simp [hge]
      have HV : Hid (R = false) := by show _ = _; rw [HF.out, hd]
      go_wp2
      refine ⟨by simp, .inl ⟨_, _, rfl, run_takeDeferred HKD.out, ?_⟩⟩
      exact ⟨_, results_tmp rfl _ _ _, by rw [HV.out]; rfl, HBF.out⟩
  case stop =>
    rintro D c pre W _ _ h _
    exact h.elim
end Go.Proofs.YtklgjjmcflgjeaaGreat.BakI
namespace Go.Proofs.YtklgjjmcflgjeaaGreat.Eng
open Tick (inB tokB sinceV)
open Pods
open FleetV hiding goodB
open EngV
open CountI (cntF liveB goodB)
open EngCnt (live good going)
open Crew (goD addD takeD takeV)
abbrev Ev := Int × Int × Int
structure Run where
  e : Eng
  ev : List Ev
def waitS (s : Spc) (n : Int) : Int := Rw.waitV s.x0 s.x1 s.x2 s.x3 s.x4 s.x5 s.x6 s.x7 s.x8 s.x9 s.x10 n
def Run.tell (r : Run) (k a b : Int) : Run := { r with ev := r.ev ++ [(k, a, b)] }
def Run.fl (r : Run) : PList × Int := (r.e.ps, r.e.nx)
def Run.setFl (r : Run) (d : PList × Int) : Run := { r with e := { r.e with ps := d.1, nx := d.2 } }
def Run.drop (r : Run) (p : Pd) : Run := (r.setFl (goD r.fl p.1 r.e.now)).tell 1 p.1 p.2.1
def Run.tryOn (r : Run) : Run := { r with e := { r.e with tr := r.e.tr + 1, wt := Tick.addV r.e.now (waitS r.e.sp (r.e.tr + 1)) } }
def Run.lose (r : Run) (p : Pd) : Run := if mvB r.e.ph && decide (p.2.1 = r.e.tg) then (r.drop p).tryOn else r.drop p
def Run.loseAll (r : Run) : PList → Run
  | [] => r
  | p :: ps => Run.loseAll (if loP r.e.sp r.e.now p then r.lose p else r) ps
def Run.giveUp (r : Run) : Run := r.loseAll r.e.ps
def stuB (s : Spc) (now : Int) (p : Pd) : Bool := decide (p.2.2.1 = 4) && decide (s.x7 ≤ sinceV p.2.2.2.2 now)
def stuP (s : Spc) (now : Int) (p : Pd) : Pd := if stuB s now p then (p.1, p.2.1, p.2.2.1, p.2.2.2.1, now) else p
def stuE (s : Spc) (now : Int) (ps : PList) : List Ev := (ps.filter (stuB s now)).map fun p => (1, p.1, p.2.1)
def Run.tellStuck (r : Run) : Run := ⟨{ r.e with ps := r.e.ps.map (stuP r.e.sp r.e.now) }, r.ev ++ stuE r.e.sp r.e.now r.e.ps⟩
def Run.enter (r : Run) (ph : Int) : Run := ({ r with e := { r.e with ph := ph } } : Run).tell 2 ph r.e.tg
def Run.start (r : Run) (ph tg : Int) : Run := ({ r with e := { r.e with tg := tg, st := r.e.now, tr := 0, wt := 0 } } : Run).enter ph
def faultV (e : Eng) : Int := if e.sp.x4 < e.tr then 1 else if e.sp.x8 ≤ sinceV e.st e.now then 2 else 0
def Run.judge (r : Run) : Run :=
  if mvB r.e.ph && !decide (faultV r.e = 0) then (if r.e.ph = 1 then (r.tell 4 r.e.tg (faultV r.e)).start 2 r.e.gd else (r.tell 4 r.e.tg (faultV r.e)).enter 3) else r
def bakS (e : Eng) : Bool := BakI.bakedV e.sp.x0 e.sp.x1 e.sp.x2 e.sp.x3 e.sp.x4 e.sp.x5 e.sp.x6 e.sp.x7 e.sp.x8 e.sp.x9 e.sp.x10 e.tg e.now (e.ps, e.nx)
def limS (e : Eng) : Int := if e.ph = 1 then Cnt.limV e.sp.x0 e.sp.x1 e.sp.x2 e.sp.x3 e.sp.x4 e.sp.x5 e.sp.x6 e.sp.x7 e.sp.x8 e.sp.x9 e.sp.x10 (bakS e) else e.sp.x0
def plCr (e : Eng) : Int := Cnt.crV e.sp.x0 e.sp.x1 (live e false) (live e true) (going e) (limS e)
def plDr (e : Eng) : Int := Cnt.drV e.sp.x0 (live e true) (good e true) (limS e)
def plDa (e : Eng) : Int := Cnt.daV e.sp.x0 e.sp.x2 (good e false) (live e true) (good e true) (limS e)
def plDf (e : Eng) : Int := Cnt.dfV e.sp.x0 (live e false)
def Run.dropN (r : Run) (f : Pd → Bool) (n : Int) : PList → Run × Int
  | [] => (r, n)
  | p :: ps => if decide (0 < n) && (!decide (p.2.2.1 = 4) && f p) then Run.dropN (r.drop p) f (n - 1) ps else Run.dropN r f n ps
def Run.dropF (r : Run) (f : Pd → Bool) (n : Int) : Run × Int := r.dropN f n r.e.ps
def Run.makeN (r : Run) : Nat → Run
  | 0 => r
  | n + 1 => if Crew.addV r.fl r.e.tg r.e.now = 0 then r else Run.makeN ((r.setFl (addD r.fl r.e.tg r.e.now)).tell 0 (Crew.addV r.fl r.e.tg r.e.now) r.e.tg) n
def Run.carry (r : Run) (cr dr da df : Int) : Run :=
  let s := r.e.sp
  let now := r.e.now
  let tg := r.e.tg
  let r1 := (r.dropF (fun p => !decide (p.2.1 = tg) && !avP s now p) dr).1
  let r2 := (r1.dropF (fun p => !decide (p.2.1 = tg) && avP s now p) da).1
  let q := r2.dropF (fun p => decide (p.2.1 = tg) && !avP s now p) df
  let r4 := (q.1.dropF (fun p => decide (p.2.1 = tg)) q.2).1
  if r4.e.wt ≤ r4.e.now then r4.makeN cr.toNat else r4
def Run.plan (r : Run) : Run := r.carry (plCr r.e) (plDr r.e) (plDa r.e) (plDf r.e)
def overE (e : Eng) : Bool := decide (live e false = e.sp.x0) && decide (good e false = e.sp.x0) && decide (live e true = 0) && decide (going e = 0)
def Run.makeGood (r : Run) : Run := if r.e.gd = r.e.tg then r else ({ r with e := { r.e with gd := r.e.tg } } : Run).tell 3 r.e.tg r.e.gd
def Run.over (r : Run) : Run :=
  if overE r.e then (if r.e.ph = 1 then r.makeGood.enter 0 else if r.e.ph = 2 then r.enter 3 else r) else r
def Run.act (r : Run) : Run :=
  if r.e.ph = 3 then r else
    let q := r.giveUp.tellStuck.judge
    if q.e.ph = 3 then q else q.plan.over
abbrev Op4 := Int × Int × Int × Int
def reps (s : Spc) (b : Int) : Spc := if b = 0 then s else { s with x0 := b }
def Run.step (r : Run) (o : Op4) : Run × Int :=
  if o.1 = 0 then
    (if inB o.2.1 0 2000 then (({ r with e := { r.e with now := Tick.addV r.e.now o.2.1 } } : Run).act, 0) else (r, 1))
  else if o.1 = 1 then
    (if inB o.2.1 1 1000 && (reps r.e.sp o.2.2.1).ok then ((({ r with e := { r.e with sp := reps r.e.sp o.2.2.1 } } : Run).start 1 o.2.1).act, 0) else (r, 1))
  else if o.1 = 2 then
    (if takeV r.fl o.2.1 o.2.2.1 o.2.2.2 r.e.now = 0 then ((r.setFl (takeD r.fl o.2.1 o.2.2.1 o.2.2.2 r.e.now)).act, 0)
     else (r, if takeV r.fl o.2.1 o.2.2.1 o.2.2.2 r.e.now = 3 then 1 else 2))
  else (r, 1)
def Run.play (r : Run) : List Op4 → Run × List Int
  | [] => (r, [])
  | o :: os => ((r.step o).1.play os |>.1, (r.step o).2 :: ((r.step o).1.play os).2)
end Go.Proofs.YtklgjjmcflgjeaaGreat.Eng
namespace Go.Proofs.YtklgjjmcflgjeaaGreat.Seg
open Go.ChangeShapes Go.WideShapes Go.ChangeAt Go.RowKit
open LK
section
variable {P : Program} {ops : Array Oper} {rest : List Oper} {o : Oper} {a : Act} {w : World} {Q : Exit → Act → World → Prop}
theorem wpList_wanted (hw : Region.wanted o (yielded ops a.tmps) = true) (h : ∀ K : Act → World → Prop, (∀ a w, wpList P ops Q rest a w → K a w) → o.wp P a w K Q) : wpList P ops Q (o :: rest) a w :=
  wpList_step fun K hK => by simp only [hw, if_true]; exact h K hK
theorem range_of {b off : Nat} {cs vs : List Value} {t : TypeId} {fr : Nat × Nat} (hb : w.heap[b]? = some (.cells cs.toArray t fr)) (hv : (cs.drop off).take vs.length = vs) : w.rangeAt b off vs := fun j v hj => by
  rw [cell_of_row w b (off + j) cs.toArray t fr hb]
  have hl : j < vs.length := (List.getElem?_eq_some_iff.1 hj).1
  have h2 : ((cs.drop off).take vs.length)[j]? = some v := by rw [hv]; exact hj
  rw [List.getElem?_take_of_lt hl, List.getElem?_drop] at h2
  simpa using h2
theorem wpList_get (hgd : o.guard = none) (ty : TypeId) (x : Operand) (ho : o.op = .load ty x) (b off : Nat) (hx : a.eval x = .pointer (some ⟨b, off, none⟩)) {cs : List Value} {t : TypeId} {fr : Nat × Nat}
    (hb : w.heap[b]? = some (.cells cs.toArray t fr)) (vs : List Value) (hv : (cs.drop off).take vs.length = vs) {d : TypeDesc} (hu : P.underlying ty = some d) (hd : d.isRow = true) (hi : (P.info? ty).map (·.size) = some vs.length)
    (h : wpList P ops Q rest (a.put o.dst (.agg vs.toArray)) w) : wpList P ops Q (o :: rest) a w :=
  wpList_load_mid hgd ty x ho b off hx vs d (range_of hb hv) hu hd hi h
theorem wpList_getG (hw : Region.wanted o (yielded ops a.tmps) = true) (ty : TypeId) (x : Operand) (ho : o.op = .load ty x) (b off : Nat) (hx : a.eval x = .pointer (some ⟨b, off, none⟩)) {cs : List Value} {t : TypeId} {fr : Nat × Nat}
    (hb : w.heap[b]? = some (.cells cs.toArray t fr)) (vs : List Value) (hv : (cs.drop off).take vs.length = vs) {d : TypeDesc} (hu : P.underlying ty = some d) (hd : d.isRow = true) (hi : (P.info? ty).map (·.size) = some vs.length)
    (h : wpList P ops Q rest (a.put o.dst (.agg vs.toArray)) w) : wpList P ops Q (o :: rest) a w :=
  wpList_wanted hw fun _ hK => wp_load_mid ty x ho b off hx vs d (range_of hb hv) hu hd hi (hK _ _ h)
theorem run_putAt {b off : Nat} {t T : TypeId} {cur vs new : List Value} (hb : w.heap[b]? = some (.cells cur.toArray T (0, 0))) (hi : (P.info? t).map (·.size) = some vs.length) (hl : off + vs.length ≤ cur.length) (hn : cur.take off ++ vs ++ cur.drop (off + vs.length) = new) (h1 : ∀ v ∈ vs, v.oneCell' = true) :
    (Instr.storeAt t (.pointer (some ⟨b, off, none⟩)) (.agg vs.toArray)).run P w = .ok () (w.setRow b new.toArray) := by
  have h := run_storeCells_at (P := P) b off T vs 0 cur.toArray w hb (by simpa using hl) h1
  simp only [Nat.add_zero] at h
  rw [← hn]
  cases hq : P.info? t with
  | none => simp [hq] at hi
  | some i =>
    have hs : vs.length = i.size := by simp [hq] at hi; omega
    simp only [Instr.storeAt, Instr.sureAddr, Sem.run_bind, Sem.run_pure, Result.andThen_ok]
    simp [storeVar, sizeOf, typeInfo, hq, Value.cells, hs]
    rw [← hs]
    simpa [List.append_assoc] using h
theorem wpList_put (hgd : o.guard = none) (hd : o.dst = none) (t : TypeId) (x y : Operand) (hop : o.op = Op.store t x y) (b off : Nat) (vs : List Value) (hx : a.eval x = .pointer (some ⟨b, off, none⟩)) (hy : a.eval y = .agg vs.toArray)
    {cur : List Value} {T : TypeId} (hb : w.heap[b]? = some (.cells cur.toArray T (0, 0))) (hi : (P.info? t).map (·.size) = some vs.length) (new : List Value) (hn : cur.take off ++ vs ++ cur.drop (off + vs.length) = new) (hl : off + vs.length ≤ cur.length) (h1 : ∀ v ∈ vs, v.oneCell' = true)
    (hK : wpList P ops Q rest a (w.setRow b new.toArray)) : wpList P ops Q (o :: rest) a w := by
  refine wpList_plain hgd fun K' hK' => ?_
  unfold Oper.wp
  have hr := run_putAt (P := P) (t := t) hb hi hl hn h1
  have he : (execOp a.eval o).run P w = .ok .skip (w.setRow b new.toArray) := by
    unfold execOp
    rw [hop]
    dsimp only
    rw [hx, hy]
    simp only [Sem.run_bind, hr, Result.andThen_ok]
    rfl
  rw [he, Oper.upon_skip, hd]
  exact hK' _ _ hK
theorem set_row {b i : Nat} {cur : List Value} {T : TypeId} (hb : w.heap[b]? = some (.cells cur.toArray T (0, 0))) (v : Value) (new : List Value) (hn : cur.set i v = new) : w.setCell ⟨b, i, none⟩ v = w.setRow b new.toArray := by
  rw [setCell_eq_setRow w b i cur.toArray T (0, 0) v hb, ← hn]
  congr 1
  simp
theorem set_box {b i : Nat} {cur : List Value} {T : TypeId} (hb : w.heap[b]? = some (.cells cur.toArray T (0, 0))) (v : Value) : (w.setCell ⟨b, i, none⟩ v).heap[b]? = some (.cells (cur.set i v).toArray T (0, 0)) := by
  rw [set_row hb v (cur.set i v) rfl]
  exact setRow_heap w b cur.toArray _ T (0, 0) hb
theorem row_turned (w : World) (b : Nat) (vs : Array Value) : Turned (fun k => k = b) w (w.setRow b vs) :=
  ⟨rfl, rfl, rfl, by simp, fun k _ hk => setRow_other w b k vs hk⟩
theorem row_box {b : Nat} {cur vs : Array Value} {T : TypeId} (h : w.heap[b]? = some (.cells cur T (0, 0))) : (w.setRow b vs).heap[b]? = some (.cells vs T (0, 0)) := setRow_heap w b cur vs T (0, 0) h
theorem row_far {b k : Nat} {vs : Array Value} {ob : Obj} (h : w.heap[k]? = some ob) (hne : k ≠ b) : (w.setRow b vs).heap[k]? = some ob := (setRow_other w b k vs hne).trans h
theorem row_row (b : Nat) (x y : Array Value) : (w.setRow b x).setRow b y = w.setRow b y := setRow_setRow w b x y
theorem row_below {B : Nat} {v V : World} (h : Below B v V) (b : Nat) (vs : Array Value) (hb : B ≤ b) (hV : B ≤ V.heap.size) : Below B v (V.setRow b vs) :=
  Turned.low h (row_turned V b vs) (fun k hk => by omega) hV
theorem results_box {fn : Func} {p : Tmp} {ty : TypeId} (h : fn.results = #[.cell p ty]) (tmps : Array Value) {b : Nat} {cs : List Value} {t : TypeId} {fr : Nat × Nat} (hp : tmps.getD p undef = .pointer (some ⟨b, 0, none⟩)) (hb : w.heap[b]? = some (.cells cs.toArray t fr))
    {d : TypeDesc} (hu : P.underlying ty = some d) (hd : d.isRow = true) (hi : (P.info? ty).map (·.size) = some cs.length) : (results fn tmps).run P w = .ok (.agg cs.toArray) w :=
  results_cell_row h tmps w b t cs.toArray fr d hp hb hu (by cases d <;> simp_all) (by simpa using hi)
theorem results_box_tmp {fn : Func} {p q : Tmp} {ty : TypeId} (h : fn.results = #[.cell p ty, .tmp q]) (tmps : Array Value) {b : Nat} {cs : List Value} {t : TypeId} {fr : Nat × Nat} (hp : tmps.getD p undef = .pointer (some ⟨b, 0, none⟩)) {x : Value} (hx : tmps.getD q undef = x) (hb : w.heap[b]? = some (.cells cs.toArray t fr))
    {d : TypeDesc} (hu : P.underlying ty = some d) (hd : d.isRow = true) (hi : (P.info? ty).map (·.size) = some cs.length) : (results fn tmps).run P w = .ok (.tuple #[.agg cs.toArray, x]) w := by
  have hp' : tmps[p]?.getD undef = .pointer (some ⟨b, 0, none⟩) := by simpa using hp
  have hx' : tmps[q]?.getD undef = x := by simpa using hx
  simp [results, h, hp', hx', asAddr, run_loadVar_mid w b 0 ty cs d (range_of hb List.take_length) hu hd hi]
theorem wp_put {K : Act → World → Prop} (hd : o.dst = none) (t : TypeId) (x y : Operand) (hop : o.op = Op.store t x y) (b off : Nat) (vs : List Value) (hx : a.eval x = .pointer (some ⟨b, off, none⟩)) (hy : a.eval y = .agg vs.toArray)
    {cur : List Value} {T : TypeId} (hb : w.heap[b]? = some (.cells cur.toArray T (0, 0))) (hi : (P.info? t).map (·.size) = some vs.length) (new : List Value) (hn : cur.take off ++ vs ++ cur.drop (off + vs.length) = new) (hl : off + vs.length ≤ cur.length) (h1 : ∀ v ∈ vs, v.oneCell' = true)
    (hK : K a (w.setRow b new.toArray)) : o.wp P a w K Q := by
  unfold Oper.wp
  have hr := run_putAt (P := P) (t := t) hb hi hl hn h1
  have he : (execOp a.eval o).run P w = .ok .skip (w.setRow b new.toArray) := by
    unfold execOp
    rw [hop]
    dsimp only
    rw [hx, hy]
    simp only [Sem.run_bind, hr, Result.andThen_ok]
    rfl
  rw [he, Oper.upon_skip, hd]
  exact hK
end
end Go.Proofs.YtklgjjmcflgjeaaGreat.Seg
