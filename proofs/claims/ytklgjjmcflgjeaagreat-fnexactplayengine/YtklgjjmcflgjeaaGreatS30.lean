import Derived.Test.YtklgjjmcflgjeaaGreatS27
set_option linter.unusedVariables false
set_option linter.unusedSimpArgs false
namespace Go.Proofs.YtklgjjmcflgjeaaGreat.Ops
open Go.ChangeShapes Go.WideShapes Go.ChangeAt Go.RowKit Go.Joins Go.Deep
open LK
section
variable {H : Type} {enc : TypeId × Value → H} {w : World} {base : Nat} {spare : Nat → Bool} {held : Bool}
set_option maxRecDepth 100000 in
theorem list_read2 {fuel : Nat} {v : Value} {x : DataW H × List MemPlace} (h : DataW.trod enc Tryz.prog w base spare held fuel 43 [v] = some x) : ∃ A n c ps, v = .slice A n c ∧ IsL w w.heap.size A n ps ∧ n ≤ maxLen ∧ ∀ p ∈ ps, (Lit.int .i64 p.2.1).wf = true := by
  obtain ⟨A, n, c, f, rfl, hn, hc⟩ := FlatOpen.open_flats (k := 4) Tryz.underlying43 Tryz.underlying99 (by kernel_rfl) rfl (by omega) (fun i f hf => flat_fields (by kernel_rfl) hf) h
  refine ⟨A, n, c, (List.range n).map (fun j => tupK (f j)), rfl, ⟨by simp, fun hp => ?_⟩, hn, fun p hp => ?_⟩
  · obtain ⟨b, off, rfl, hb, hj⟩ := hc hp
    refine ⟨b, off, rfl, hb, fun j hjn => ?_⟩
    obtain ⟨hl, _, hcell⟩ := hj j hjn
    have e : ((List.range n).map (fun j => tupK (f j))).getD j z = tupK (f j) := by simp [List.getD, hjn]
    rw [e]
    have hg : ∀ i, i < 4 → w.cell? ⟨b, off + (j * 4 + i), none⟩ = some (.int .i64 ((f j).getD i 0)) := by
      intro i hi
      rw [hcell i hi]
      simp [List.getD, show i < (f j).length by omega]
    exact ⟨hg 0 (by omega), hg 1 (by omega), hg 2 (by omega), hg 3 (by omega)⟩
  · obtain ⟨j, hj, rfl⟩ := List.mem_map.1 hp
    have hjn : j < n := by simpa using hj
    obtain ⟨b, off, rfl, hb, hjj⟩ := hc (by omega)
    obtain ⟨hl, hw, _⟩ := hjj j hjn
    have hlt : 1 < (f j).length := by omega
    have e : (tupK (f j)).2.1 = (f j)[1] := by simp [tupK, List.getD, hlt]
    rw [e]
    exact hw _ (List.getElem_mem _)
set_option maxRecDepth 100000 in
theorem open_list2 {r : Reach} {b0 : Nat} {v : Value} {d : DataW H} {p : List MemPlace} (hv : Value.okWide Tryz.prog w r b0 43 v) (h : DataW.Trod enc Tryz.prog w base spare held 43 v d p) :
    ∃ A n c dd, v = .slice A n c ∧ lty.Rd w w.heap.size (.slice A n c) dd ∧ SzC 13 lty (.slice A n c) dd w ∧ ∀ p : X, List.Mem p dd → (Lit.int .i64 p.2.1).wf = true := by
  obtain ⟨A, n, c, rfl⟩ := okWide_slice Tryz.underlying43 hv
  obtain ⟨fuel, hf⟩ := h
  have hf : DataW.trod enc Tryz.prog w base spare held fuel 43 [.slice A n c] = some (d, p) := hf
  obtain ⟨A', n', c', rs, e, h1, h2, h3⟩ := list_read2 hf
  injection e with e1 e2 e3
  subst e1 e2 e3
  obtain rfl : rs.length = n := h1.1
  exact ⟨A, _, c, rs, rfl, ⟨A, c, rfl, h1⟩, szL_any A c rs w h2, h3⟩
end
end Go.Proofs.YtklgjjmcflgjeaaGreat.Ops
