/-
  THE CONTRACT of the model's DrawTakeReport over this seat's translation: some fleet, some report, some tick.
-/
import Derived.Test.YtpghccbknlokcaaDrawRepA
namespace Go.Proofs.Ytpghccbknlokcaa.DrawF
open Go.ChangeShapes Go.WideShapes Go.ChangeAt Go.RowKit
open Go.Proofs.Ytpghccbknlokcaa.LK Go.Proofs.Ytpghccbknlokcaa.Pods Go.Proofs.Ytpghccbknlokcaa.FleetV Go.Proofs.Ytpghccbknlokcaa.Draw Go.Proofs.Ytpghccbknlokcaa.Crew
open Go.Proofs.Ytpghccbknlokcaa.DrawTick (lit_cells drawAny_any below_grown)
open Go.Proofs.Ytpghccbknlokcaa.RepV (RepSaid)
set_option linter.unusedVariables false
set_option linter.unusedSimpArgs false

set_option maxRecDepth 100000 in
set_option maxHeartbeats 6400000 in
theorem drawTake_any (w : World) (B : Nat) (hB : B ≤ w.heap.size) (A : Option Addr) (n cap : Nat) (zs : List UInt8) (hb : IsBytes w B A n zs) (hn : n ≤ 1048576) :
    Calls Try.prog 20 #[.slice A n cap] w (RepSaid w) := by
  have HB := Lib.hid hb
  clear hb
  go_enter Try.func20, Try.ntmps20
  go_wp2_with fail
  refine (draw_any _ B (by simp; omega) A n cap zs (HB.out.keep fun p hp => (bel2 w (.cells #[.slice none 0 0, .int .i64 0] 44) (.cells #[.int .i64 0, .int .i64 0, .int .i64 0] 46)).cell (by omega)) hn).mono ?_
  rintro e w1 ⟨g, A', m, c', ps, nx, rfl, hg, hc1, hO1, hF1, hb1⟩
  have hg1 : w.heap.size + 1 + 1 ≤ g := by simpa using hg
  have q2 : w1.heap[w.heap.size]? = some (.cells #[.slice none 0 0, .int .i64 0] 44) := box_below (box_alloc (box_new _ _) _) hb1
  have q3 : w1.heap[w.heap.size + 1]? = some (.cells #[.int .i64 0, .int .i64 0, .int .i64 0] 46) := box_below (by have h := box_new (w.alloc (.cells #[.slice none 0 0, .int .i64 0] 44)) (.cells #[.int .i64 0, .int .i64 0, .int .i64 0] 46); simpa using h) hb1
  have HB1 := Lib.hid (bel_then (bel2 w (.cells #[.slice none 0 0, .int .i64 0] 44) (.cells #[.int .i64 0, .int .i64 0, .int .i64 0] 46)) hb1 (by simp; omega))
  have hgl1 : g < w1.heap.size := hc1.lt
  obtain ⟨fb, hfb⟩ : ∃ fb, fb = w1.heap.size := ⟨_, rfl⟩
  have Q2 := Lib.hid (box_alloc q2 (.cells #[.slice A' m c', .int .i64 nx] 44))
  have Q3 := Lib.hid (box_alloc q3 (.cells #[.slice A' m c', .int .i64 nx] 44))
  have KF : Hid ((w1.alloc (.cells #[.slice A' m c', .int .i64 nx] 44)).heap[fb]? = some (.cells #[.slice A' m c', .int .i64 nx] 44)) := by rw [hfb]; exact box_new _ _
  have HC1 := Lib.hid (hc1.alloc (.cells #[.slice A' m c', .int .i64 nx] 44))
  have HO1 := Lib.hid (hO1.below (bel1 w1 (.cells #[.slice A' m c', .int .i64 nx] 44)))
  have HB1' := Lib.hid (HB1.out.alloc HB1.out.size (.cells #[.slice A' m c', .int .i64 nx] 44))
  have HF1 := Lib.hid hF1
  have hm40 : m ≤ 40 := by have := hF1.1; rw [hO1.1] at this; exact this
  have hfg : g < fb := by omega
  have hf1 : w.heap.size + 1 < fb := by omega
  go_wp2_with fail
  rw [← hfb]
  obtain ⟨W1, hW1⟩ : ∃ W1, W1 = w1.alloc (.cells #[.slice A' m c', .int .i64 nx] 44) := ⟨_, rfl⟩
  have hsW1 : W1.heap.size = fb + 1 := by rw [hW1, hfb]; simp
  rw [← hW1] at Q2 Q3 KF HC1 HO1 HB1' ⊢
  have HS1 := Lib.hid hsW1
  clear hg hc1 hO1 hF1 hb1 q2 q3 HB1 hfb hW1 hsW1
  refine (drawId_any A' m c' ps nx W1 B g A n cap zs HC1.out HO1.out HF1.out).mono ?_
  rintro e w2 ⟨rp, rfl, hwf, hc2, hg2⟩
  have HC2 := Lib.hid hc2
  have hgl2 : g < w2.heap.size := hc2.lt
  clear hc2
  go_wp2_with fail
  refine (below_any 14 (by omega) _ B g A n cap zs HC2.out).mono ?_
  rintro e w3 ⟨x3, hx3, _, rfl, hc3, hg3⟩
  have hx3b : (x3 : Int) < 14 := hx3 (by omega)
  have HC3 := Lib.hid hc3
  clear hc3 hx3
  go_wp2_with fail
  refine (below_any 4 (by omega) _ B g A n cap zs HC3.out).mono ?_
  rintro e w4 ⟨x4, hx4, _, rfl, hc4, hg4⟩
  have hx4b : (x4 : Int) < 4 := hx4 (by omega)
  have hG : W1.grownBy w4 (some g) := grown_trans (grown_trans hg2 hg3) hg4
  have HRS : Hid (Rs w (w4.alloc (.cells #[.int .i64 rp, .int .i64 (1 + (x3 : Int)), .int .i64 (1 + (x4 : Int))] 46)) fb w4.heap.size B g A n cap zs A' m c' ps nx rp (1 + (x3 : Int)) (1 + (x4 : Int))) := by
    have hs4 := hG.size
    have hs5 := HS1.out
    refine ⟨box_alloc ((hG.block _ (box_lt Q2.out) (by simp; omega)).trans Q2.out) _, box_alloc ((hG.block _ (box_lt Q3.out) (by simp; omega)).trans Q3.out) _, box_alloc ((hG.block _ (box_lt KF.out) (by simp; omega)).trans KF.out) _, box_new _ _, hc4.alloc _, (ownP_step HO1.out hG).below (bel1 _ _), (HB1'.out.grown hG HB1'.out.size (fun k e => by injection e with e; omega)).alloc (by have := HB1'.out.size; omega) _, by omega, ⟨hf1, by omega⟩, ⟨by omega, by omega, by omega⟩⟩
  clear hx4 hc4 hg2 hg3 hg4 hG HC2 HC3 HC1 HO1 HB1' Q2 Q3 KF
  obtain ⟨gen0, hge⟩ : ∃ gen0, 1 + (x3 : Int) = gen0 := ⟨_, rfl⟩
  obtain ⟨st0, hst⟩ : ∃ st0, 1 + (x4 : Int) = st0 := ⟨_, rfl⟩
  rw [hge, hst] at HRS
  go_wp2_with fail
  obtain ⟨rb, hrb⟩ : ∃ rb, rb = w4.heap.size := ⟨_, rfl⟩
  obtain ⟨W, hW⟩ : ∃ W, W = w4.alloc (.cells #[.int .i64 rp, .int .i64 gen0, .int .i64 st0] 46) := ⟨_, rfl⟩
  rw [← hW, ← hrb] at HRS
  rw [← hW, ← hrb]
  clear hW hrb hge hst hx3b hx4b
  refine (once_any 8 (by omega) _ B g A n cap zs HRS.out.cur).mono ?_
  rintro e w5 ⟨bb, rfl, hc5, hg5⟩
  have H5 := Lib.hid (HRS.out.step hg5 hc5)
  clear hc5 hg5 HRS
  go_upto_if 24 with fail
  go_cut [] (fun wx => ∃ gen st : Int, Hid (Rs w wx fb rb B g A n cap zs A' m c' ps nx rp gen st))
  case first =>
    cases bb
    · go_wp2_with fail
      go_meet
      case rel => exact ⟨_, _, H5⟩
    · go_wp2_with fail
      refine (once_any 2 (by omega) _ B g A n cap zs H5.out.cur).mono ?_
      rintro e w6 ⟨cc, rfl, hc6, hg6⟩
      have H6 := Lib.hid (H5.out.step hg6 hc6)
      have hgl6 : g < w6.heap.size := hc6.lt
      clear hc6 hg6 H5
      cases cc
      · go_wp2_with fail
        refine (pick_any [0, 5] w6.heap.size 2 2 rfl (by omega) (by omega) _ B g A n cap zs (H6.out.cur.alloc _) (by omega) (fun j hj => lit_cells w6 _ [0, 5] j hj)).mono ?_
        rintro e w7 ⟨z, hz, rfl, hc7, hg7⟩
        have H7 := Lib.hid ((H6.out.alloc (.cells (([0, 5] : List Int).map (Value.int .i64)).toArray 3)).step hg7 hc7)
        have H8 := Lib.hid (H7.out.setSt hB z)
        obtain ⟨_, _, r2, _, _, f2⟩ := box3 H7.out.kr
        clear hz hc7 hg7
        go_wp2_with fail
        go_meet
        case rel => exact ⟨_, _, H8⟩
      · go_wp2_with fail
        refine (pick_any [0, 1000000000, 1000000001] w6.heap.size 3 3 rfl (by omega) (by omega) _ B g A n cap zs (H6.out.cur.alloc _) (by omega) (fun j hj => lit_cells w6 _ [0, 1000000000, 1000000001] j hj)).mono ?_
        rintro e w7 ⟨z, hz, rfl, hc7, hg7⟩
        have H7 := Lib.hid ((H6.out.alloc (.cells (([0, 1000000000, 1000000001] : List Int).map (Value.int .i64)).toArray 3)).step hg7 hc7)
        have H8 := Lib.hid (H7.out.setGen hB z)
        obtain ⟨_, r1, _, _, f1, _⟩ := box3 H7.out.kr
        clear hz hc7 hg7
        go_wp2_with fail
        go_meet
        case rel => exact ⟨_, _, H8⟩
  case rest =>
    obtain ⟨gen, st, HR⟩ := hcut
    clear H5
    obtain ⟨k0, k1, _, _⟩ := box2 HR.out.kf
    obtain ⟨r0, r1, r2, _⟩ := box3 HR.out.kr
    have hff := HR.out.hf
    have hrr := HR.out.hr
    go_wp2_with fail
    go_region_held3 (fun w' => w'.cell? ⟨fb, 0, none⟩ = some (.slice A' m c') ∧ w'.cell? ⟨fb, 1, none⟩ = some (.int .i64 nx) ∧ w'.cell? ⟨rb, 0, none⟩ = some (.int .i64 rp) ∧ w'.cell? ⟨rb, 1, none⟩ = some (.int .i64 gen) ∧ w'.cell? ⟨rb, 2, none⟩ = some (.int .i64 st))
      (first | with_reducible exact cells_rs2 HR3.out _ _ | with_reducible exact cells_rs5 HR3.out _ _ _ _ _ rfl | with_reducible exact cells_rs HR3.out | with_reducible exact cells_rs HR2.out | with_reducible exact cells_rs (HR2.out.alloc _) | with_reducible exact cells_rs HR1.out | with_reducible exact cells_rs HR0.out | with_reducible exact cells_rs HR.out.drew)
      (first
        | (have hgo := hord3; clear hgo; go_at_call 64; refine (pick_any [50 + (xa : Int), 50 + (xb : Int), xd] w7.heap.size 3 3 rfl (by omega) (by omega) _ B g A n cap zs (by exact HR2.out.cur.alloc _) (by omega) (by exact fun j hj => lit_cells w7 _ [50 + (xa : Int), 50 + (xb : Int), xd] j hj)).mono ?_; rintro e w8 ⟨z, hz, rfl, hc8, hg8⟩; have HR3 := Lib.hid ((HR2.out.alloc (.cells (([50 + (xa : Int), 50 + (xb : Int), xd] : List Int).map (Value.int .i64)).toArray 3)).step hg8 hc8); obtain ⟨z0, z1, z2, z3, z4⟩ := cells_rs HR3.out; obtain ⟨y0, y1, g0, g1⟩ := box2 HR3.out.q2; obtain ⟨v0, v1, v2, l0, l1, l2⟩ := box3 HR3.out.q3; clear hz hc8 hg8)
        | (have hgo := hord2; clear hgo; go_at_call 65; refine (drawAny_any _ B g A n cap zs (by exact HR1.out.cur)).mono ?_; rintro e w7 ⟨xd, _, rfl, hc7, hg7⟩; have HR2 := Lib.hid (HR1.out.step hg7 hc7); have hgl7 : g < w7.heap.size := hc7.lt; have hord3 : True := trivial; clear hc7 hg7)
        | (have hgo := hord1; clear hgo; go_at_call 62; refine (below_any 50 (by omega) _ B g A n cap zs (by exact HR0.out.cur)).mono ?_; rintro e w6 ⟨xb, hxb, _, rfl, hc6, hg6⟩; have HR1 := Lib.hid (HR0.out.step hg6 hc6); have hxb5 : (xb : Int) < 50 := hxb (by omega); have hwb : IntKind.i64.wrap (50 + (xb : Int)) = 50 + (xb : Int) := (by rw [IntKind.wrap_i64]; omega); have hord2 : True := trivial; clear hxb hc6 hg6)
        | (go_at_call 62; refine (below_any 50 (by omega) _ B g A n cap zs (by exact cur_drew HR.out.cur)).mono ?_; rintro e w5 ⟨xa, hxa, _, rfl, hc5, hg5⟩; have HR0 := Lib.hid (HR.out.drew.step hg5 hc5); have hxa5 : (xa : Int) < 50 := hxa (by omega); have hwa : IntKind.i64.wrap (50 + (xa : Int)) = 50 + (xa : Int) := (by rw [IntKind.wrap_i64]; omega); have hord1 : True := trivial; clear hxa hc5 hg5))
    all_goals
      go_wp2
      refine bodyPost_ret (v := .tuple #[.agg #[.slice A' m c', .int .i64 nx], .agg #[.int .i64 rp, .int .i64 gen, .int .i64 st], .int .i64 z]) (by simp [results, Try.results20, go_sem, y0, y1, v0, v1, v2]) rfl ?_
      first
        | exact rep_end HR3.out hm40 hwf z (set5T (S := fun k => k = w.heap.size ∨ k = w.heap.size + 1) (.inl rfl) (.inl rfl) (.inr rfl) (.inr rfl) (.inr rfl))
        | exact rep_end HR3.out hm40 hwf z (set5T (S := fun k => k = w.heap.size ∨ k = w.heap.size + 1) (.inr rfl) (.inr rfl) (.inr rfl) (.inl rfl) (.inl rfl))
end Go.Proofs.Ytpghccbknlokcaa.DrawF
