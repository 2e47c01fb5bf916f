/-
  THE CONTRACT of the model's l05DrawId over this seat's translation: some number.
-/
import Derived.Test.YtpghccbknlokcaaDrawFV
import Derived.Deep.RegionHeld3
namespace Go.Proofs.Ytpghccbknlokcaa.DrawF
open Go.ChangeShapes Go.WideShapes Go.ChangeAt Go.RowKit
open Go.Proofs.Ytpghccbknlokcaa.LK Go.Proofs.Ytpghccbknlokcaa.Pods Go.Proofs.Ytpghccbknlokcaa.FleetV Go.Proofs.Ytpghccbknlokcaa.Draw Go.Proofs.Ytpghccbknlokcaa.Crew
open Go.Proofs.Ytpghccbknlokcaa.DrawTick (lit_cells)
set_option linter.unusedVariables false
set_option linter.unusedSimpArgs false

def IdSaid (w : World) (B g : Nat) (A : Option Addr) (n cap : Nat) (zs : List UInt8) (e : Ending) (w' : World) : Prop :=
  ∃ z : Int, e = .returned (.int .i64 z) ∧ (Lit.int .i64 z).wf = true ∧ CurAt w' B g A n cap zs ∧ w.grownBy w' (some g)
theorem id_cell {w : World} {lo q m c : Nat} {ps : PList} (h : OwnP w lo (some ⟨q, 0, none⟩) m c ps) (j : Nat) (hj : j < m) : w.cell? ⟨q, j * 5, none⟩ = some (.int .i64 (ps.getD j z5).1) := by
  obtain ⟨b, off, x0, x1, x2, x3, x4, hbb, _, hv, hd0, _⟩ := h.podsAll.at_ hj
  injection hbb with hbb
  injection hbb with e1 e2
  subst e1 e2
  rw [hv]
  simpa using hd0
theorem ownP_step {w w' : World} {g : Nat} {A' : Option Addr} {m c' : Nat} {ps : PList} (h : OwnP w (g + 1) A' m c' ps) (hg : w.grownBy w' (some g)) : OwnP w' (g + 1) A' m c' ps :=
  h.same fun k hk => hg.block k (h.lt k hk).2 (by have := (h.lt k hk).1; simp; omega)
theorem pick_id {z nx : Int} (h : z ∈ [0, 1, nx, 99]) (hx : IdOk nx) : (Lit.int .i64 z).wf = true := by
  simp only [List.mem_cons, List.not_mem_nil, or_false] at h
  rcases h with rfl | rfl | rfl | rfl
  · rfl
  · rfl
  · exact hx.wf
  · rfl

set_option maxRecDepth 100000 in
set_option maxHeartbeats 3200000 in
theorem drawId_any (A' : Option Addr) (m c' : Nat) (ps : PList) (nx : Int) (w : World) (B g : Nat) (A : Option Addr) (n cap : Nat) (zs : List UInt8) (hc : CurAt w B g A n cap zs) (hO : OwnP w (g + 1) A' m c' ps) (hF : Fine 40 ps nx) :
    Calls Try.prog 61 #[.pointer (some ⟨g, 0, none⟩), .agg #[.slice A' m c', .int .i64 nx]] w (IdSaid w B g A n cap zs) := by
  have hgl : g < w.heap.size := hc.lt
  have hm40 : m ≤ 40 := by have := hF.1; rw [hO.1] at this; exact this
  have HC := Lib.hid hc
  have HO := Lib.hid (hO.below (bel1 w (.cells #[.slice A' m c', .int .i64 nx] 44)))
  have HF := Lib.hid hF
  have HL : Hid (ps.length = m) := hO.1
  have KX := Lib.hid (box_new w (.cells #[.slice A' m c', .int .i64 nx] 44))
  clear hc hO hF
  by_cases hm0 : 0 < m
  · obtain ⟨q, hA2, hq0, hq1⟩ := HO.out.at0 hm0
    subst hA2
    have hdm : decide ((0 : Int) < (m : Int)) = true := by simp; omega
    go_enter Try.func61, Try.ntmps61
    go_wp2_with fail
    refine (once_any 6 (by omega) _ B g A n cap zs (HC.out.alloc _)).mono ?_
    rintro e w2 ⟨bb, rfl, hc2, hg2⟩
    have hbx : w2.heap[w.heap.size]? = some (.cells #[.slice (some ⟨q, 0, none⟩) m c', .int .i64 nx] 44) := (hg2.block _ (box_lt KX.out) (by simp; omega)).trans KX.out
    have HO2 := Lib.hid (ownP_step HO.out hg2)
    have HG2 := Lib.hid (grown_trans (grown_bel (bel1 w (.cells #[.slice (some ⟨q, 0, none⟩) m c', .int .i64 nx] 44))) hg2)
    have HC2 := Lib.hid hc2
    have hl2 : w.heap.size < w2.heap.size := box_lt hbx
    have hgl2 : g < w2.heap.size := by omega
    have KX2 := Lib.hid hbx
    have b0 := box_cell hbx 0 _ rfl
    have b1 := box_cell hbx 1 _ rfl
    clear hc2 hg2 hbx hq0 hq1
    cases bb
    · go_wp2_with fail
      obtain ⟨f, hf, hf2, hfw⟩ : ∃ f : Nat → Int, (∀ j, j < m → w2.cell? ⟨q, j * 5, none⟩ = some (.int .i64 (f j))) ∧ Hid (∀ (W : World), OwnP W (g + 1) (some ⟨q, 0, none⟩) m c' ps → ∀ j, j < m → W.cell? ⟨q, j * 5, none⟩ = some (.int .i64 (f j))) ∧ Hid (∀ j, j < m → (Lit.int .i64 (f j)).wf = true) := ⟨fun j => (ps.getD j z5).1, id_cell HO2.out, fun W h => id_cell h, fun j hj => (fine_at HF.out (by rw [HL.out]; exact hj)).wf⟩
      go_region_held3 (fun w' => w'.cell? ⟨w.heap.size, 0, none⟩ = some (.slice (some ⟨q, 0, none⟩) m c') ∧ ∀ j, j < m → w'.cell? ⟨q, j * 5, none⟩ = some (.int .i64 (f j)))
        (first | (go_keep; done) | exact ⟨z0, hf3⟩ | exact ⟨b0, hf⟩)
        (first | (go_at_call 62; refine (below_any (m : Int) (by omega) _ B g A n cap zs (by exact cur_drew HC2.out)).mono ?_; rintro e w3 ⟨y, hy, _, rfl, hc3, hg3⟩; have hym : y < m := (by have := hy (by omega); omega); have hg3' := undrew_g hg3; have z0 : w3.cell? ⟨w.heap.size, 0, none⟩ = some (.slice (some ⟨q, 0, none⟩) m c') := box_cell ((hg3'.block _ hl2 (by simp; omega)).trans KX2.out) 0 _ rfl; have hf3 := hf2.out w3 (ownP_step HO2.out hg3')))
      all_goals
        have HFIN : Hid (IdSaid w B g A n cap zs (.returned (.int .i64 (f y))) w3) := ⟨_, rfl, hfw.out y hym, hc3, grown_trans HG2.out hg3'⟩
        clear hy hc3 hg3 hg3'
        go_wp2
        go_ret
        exact HFIN.out
    · go_wp2_with fail
      refine (pick_any [0, 1, nx, 99] w2.heap.size 4 4 rfl (by omega) (by omega) _ B g A n cap zs (HC2.out.alloc _) (by omega) (fun j hj => lit_cells w2 _ [0, 1, nx, 99] j hj)).mono ?_
      rintro e w3 ⟨z, hz, rfl, hc3, hg3⟩
      have HFIN : Hid (IdSaid w B g A n cap zs (.returned (.int .i64 z)) w3) := ⟨_, rfl, pick_id hz HF.out.2.2, hc3, grown_trans (grown_alloc HG2.out _) hg3⟩
      clear hz hc3 hg3
      go_wp2
      go_ret
      exact HFIN.out
  · have hdm : decide ((0 : Int) < (m : Int)) = false := by simp; omega
    have hgl1 : g < w.heap.size + 1 := by omega
    go_enter Try.func61, Try.ntmps61
    go_wp2_with fail
    refine (pick_any [0, 1, nx, 99] (w.heap.size + 1) 4 4 rfl (by omega) (by omega) _ B g A n cap zs ((HC.out.alloc _).alloc _) (by omega) (fun j hj => by have h5 := lit_cells (w.alloc (.cells #[.slice A' m c', .int .i64 nx] 44)) 3 [0, 1, nx, 99] j hj; simp only [World.size_alloc] at h5; exact h5)).mono ?_
    rintro e w3 ⟨z, hz, rfl, hc3, hg3⟩
    have HFIN : Hid (IdSaid w B g A n cap zs (.returned (.int .i64 z)) w3) := ⟨_, rfl, pick_id hz HF.out.2.2, hc3, grown_trans (grown_alloc (grown_bel (bel1 w (.cells #[.slice A' m c', .int .i64 nx] 44))) _) hg3⟩
    clear hz hc3 hg3
    go_wp2
    go_ret
    exact HFIN.out
end Go.Proofs.Ytpghccbknlokcaa.DrawF
