/-
  THE MODEL'S DRAWS OF A SPEC AND OF A POD over this seat's translation: l06Values, l06Of, l06Bend, l06Draw, l06DrawPod: small numbers, whatever the code.
-/
import Derived.Test.YtmmdpljimjfkdaaDrawSp
namespace Go.Proofs.Ytmmdpljimjfkdaa.DrawSb
open Go.ChangeShapes Go.WideShapes Go.ChangeAt Go.RowKit
open Go.Proofs.Ytmmdpljimjfkdaa.LK Go.Proofs.Ytmmdpljimjfkdaa.Sp Go.Proofs.Ytmmdpljimjfkdaa.Put Go.Proofs.Ytmmdpljimjfkdaa.Draw Go.Proofs.Ytmmdpljimjfkdaa.DrawSp
open Go.Proofs.Ytmmdpljimjfkdaa.DrawTick (lit_cells below_grown)
set_option linter.unusedVariables false
set_option linter.unusedSimpArgs false
theorem eleven {L : List Int} (h : L.length = 11) : ∃ x0 x1 x2 x3 x4 x5 x6 x7 x8 x9 x10, L = [x0, x1, x2, x3, x4, x5, x6, x7, x8, x9, x10] := by
  match L, h with
  | [x0, x1, x2, x3, x4, x5, x6, x7, x8, x9, x10], _ => exact ⟨x0, x1, x2, x3, x4, x5, x6, x7, x8, x9, x10, rfl⟩
def cellsM (M : List Int) : Array Value := (M.map (Value.int .i64)).toArray
theorem cellM {w : World} {b : Nat} {M : List Int} {t : TypeId} (h : w.heap[b]? = some (.cells (cellsM M) t (0, 0))) (k : Nat) (hk : k < M.length) : w.cell? ⟨b, k, none⟩ = some (.int .i64 (M.getD k 0)) :=
  box_cell h k _ (by simp [cellsM, List.getD, hk])
theorem setM {w : World} {b k : Nat} {M : List Int} {t : TypeId} (h : w.heap[b]? = some (.cells (cellsM M) t (0, 0))) (x : Int) : (w.setCell ⟨b, k, none⟩ (.int .i64 x)).heap[b]? = some (.cells (cellsM (M.set k x)) t (0, 0)) := by
  rw [box_set h]
  congr 2
  apply Array.ext'
  simp [cellsM, List.map_set]
theorem sm_set {M : List Int} {k : Nat} {z : Int} (h : ∀ x ∈ M, Sm x) (hz : Sm z) : ∀ x ∈ M.set k z, Sm x := fun x hx => by
  rcases List.mem_or_eq_of_mem_set hx with h1 | h1
  · exact h x h1
  · rw [h1]; exact hz
theorem grown_seti {w wr : World} {g : Nat} (h : w.grownBy wr (some g)) (p : Addr) (u : Value) (hp : w.heap.size ≤ p.block) : w.grownBy (wr.setCell p u) (some g) :=
  ⟨h.os, h.tape, h.output, by simpa [World.setCell] using h.size, fun k hk hne => (Below.heap_setCell wr p u k (by omega)).trans (h.block k hk hne)⟩
theorem grown_row {w wr : World} {g : Nat} (h : w.grownBy wr (some g)) (b : Nat) (vs : Array Value) (hp : w.heap.size ≤ b) : w.grownBy (wr.setRow b vs) (some g) :=
  ⟨h.os, h.tape, h.output, by simpa using h.size, fun k hk hne => (setRow_other wr b k vs (by omega)).trans (h.block k hk hne)⟩
theorem box_grown {w w' : World} {g b : Nat} {ob : Obj} (h : w.heap[b]? = some ob) (hg : w.grownBy w' (some g)) (hne : b ≠ g) : w'.heap[b]? = some ob := (hg.block b (box_lt h) (by simp; omega)).trans h
theorem box_set' {w : World} {b i : Nat} {cs cs' : Array Value} {t : TypeId} (h : w.heap[b]? = some (.cells cs t (0, 0))) (u : Value) (hc : cs.setIfInBounds i u = cs') : (w.setCell ⟨b, i, none⟩ u).heap[b]? = some (.cells cs' t (0, 0)) := by rw [box_set h, hc]
theorem cur_turned {w w' : World} {S : Nat → Prop} {B g : Nat} {A : Option Addr} {n cap : Nat} {zs : List UInt8} (h : CurAt w B g A n cap zs) (ht : Turned S w w') (hg : ¬ S g) (hB : ∀ k, S k → B ≤ k) : CurAt w' B g A n cap zs := by
  have hl := h.lt
  obtain ⟨i, k, hc⟩ := h
  exact ⟨i, k, ⟨(ht.block g hl hg).trans hc.blk, hc.le, hc.small, hc.bytes.keep fun q hq => World.cell?_of_block (ht.block q.block (by have := hc.ge; omega) (fun hs => by have := hB _ hs; omega)), hc.ge⟩⟩
theorem cur_drew {w : World} {B g : Nat} {A : Option Addr} {n cap : Nat} {zs : List UInt8} (h : CurAt w B g A n cap zs) : CurAt w.drew B g A n cap zs := by obtain ⟨i, k, hc⟩ := h; exact ⟨i, k, ⟨hc.blk, hc.le, hc.small, hc.bytes, hc.ge⟩⟩
theorem set5T {S : Nat → Prop} {W : World} {b : Nat} (h : S b) {u0 u1 u2 u3 u4 : Value} : Turned S W (((((W.setCell ⟨b, 0, none⟩ u0).setCell ⟨b, 1, none⟩ u1).setCell ⟨b, 2, none⟩ u2).setCell ⟨b, 3, none⟩ u3).setCell ⟨b, 4, none⟩ u4) := by
  exact ((((Turned.set W ⟨b, 0, none⟩ u0 h).trans (Turned.set _ ⟨b, 1, none⟩ u1 h)).trans (Turned.set _ ⟨b, 2, none⟩ u2 h)).trans (Turned.set _ ⟨b, 3, none⟩ u3 h)).trans (Turned.set _ ⟨b, 4, none⟩ u4 h)
theorem set5B {W : World} {b : Nat} {t : TypeId} {z0 z1 z2 z3 z4 : Value} (h : W.heap[b]? = some (.cells #[z0, z1, z2, z3, z4] t (0, 0))) (u0 u1 u2 u3 u4 : Value) : ((((((W.setCell ⟨b, 0, none⟩ u0).setCell ⟨b, 1, none⟩ u1).setCell ⟨b, 2, none⟩ u2).setCell ⟨b, 3, none⟩ u3).setCell ⟨b, 4, none⟩ u4)).heap[b]? = some (.cells #[u0, u1, u2, u3, u4] t (0, 0)) := by
  have h0 : ((W.setCell ⟨b, 0, none⟩ u0)).heap[b]? = some (.cells #[u0, z1, z2, z3, z4] t (0, 0)) := box_set' h u0 rfl
  have h1 : (((W.setCell ⟨b, 0, none⟩ u0).setCell ⟨b, 1, none⟩ u1)).heap[b]? = some (.cells #[u0, u1, z2, z3, z4] t (0, 0)) := box_set' h0 u1 rfl
  have h2 : ((((W.setCell ⟨b, 0, none⟩ u0).setCell ⟨b, 1, none⟩ u1).setCell ⟨b, 2, none⟩ u2)).heap[b]? = some (.cells #[u0, u1, u2, z3, z4] t (0, 0)) := box_set' h1 u2 rfl
  have h3 : (((((W.setCell ⟨b, 0, none⟩ u0).setCell ⟨b, 1, none⟩ u1).setCell ⟨b, 2, none⟩ u2).setCell ⟨b, 3, none⟩ u3)).heap[b]? = some (.cells #[u0, u1, u2, u3, z4] t (0, 0)) := box_set' h2 u3 rfl
  have h4 : ((((((W.setCell ⟨b, 0, none⟩ u0).setCell ⟨b, 1, none⟩ u1).setCell ⟨b, 2, none⟩ u2).setCell ⟨b, 3, none⟩ u3).setCell ⟨b, 4, none⟩ u4)).heap[b]? = some (.cells #[u0, u1, u2, u3, u4] t (0, 0)) := box_set' h3 u4 rfl
  exact h4
theorem set11T {S : Nat → Prop} {W : World} {b : Nat} (h : S b) {u0 u1 u2 u3 u4 u5 u6 u7 u8 u9 u10 : Value} : Turned S W (((((((((((W.setCell ⟨b, 0, none⟩ u0).setCell ⟨b, 1, none⟩ u1).setCell ⟨b, 2, none⟩ u2).setCell ⟨b, 3, none⟩ u3).setCell ⟨b, 4, none⟩ u4).setCell ⟨b, 5, none⟩ u5).setCell ⟨b, 6, none⟩ u6).setCell ⟨b, 7, none⟩ u7).setCell ⟨b, 8, none⟩ u8).setCell ⟨b, 9, none⟩ u9).setCell ⟨b, 10, none⟩ u10) := by
  exact ((((((((((Turned.set W ⟨b, 0, none⟩ u0 h).trans (Turned.set _ ⟨b, 1, none⟩ u1 h)).trans (Turned.set _ ⟨b, 2, none⟩ u2 h)).trans (Turned.set _ ⟨b, 3, none⟩ u3 h)).trans (Turned.set _ ⟨b, 4, none⟩ u4 h)).trans (Turned.set _ ⟨b, 5, none⟩ u5 h)).trans (Turned.set _ ⟨b, 6, none⟩ u6 h)).trans (Turned.set _ ⟨b, 7, none⟩ u7 h)).trans (Turned.set _ ⟨b, 8, none⟩ u8 h)).trans (Turned.set _ ⟨b, 9, none⟩ u9 h)).trans (Turned.set _ ⟨b, 10, none⟩ u10 h)
theorem set11B {W : World} {b : Nat} {t : TypeId} {z0 z1 z2 z3 z4 z5 z6 z7 z8 z9 z10 : Value} (h : W.heap[b]? = some (.cells #[z0, z1, z2, z3, z4, z5, z6, z7, z8, z9, z10] t (0, 0))) (u0 u1 u2 u3 u4 u5 u6 u7 u8 u9 u10 : Value) : ((((((((((((W.setCell ⟨b, 0, none⟩ u0).setCell ⟨b, 1, none⟩ u1).setCell ⟨b, 2, none⟩ u2).setCell ⟨b, 3, none⟩ u3).setCell ⟨b, 4, none⟩ u4).setCell ⟨b, 5, none⟩ u5).setCell ⟨b, 6, none⟩ u6).setCell ⟨b, 7, none⟩ u7).setCell ⟨b, 8, none⟩ u8).setCell ⟨b, 9, none⟩ u9).setCell ⟨b, 10, none⟩ u10)).heap[b]? = some (.cells #[u0, u1, u2, u3, u4, u5, u6, u7, u8, u9, u10] t (0, 0)) := by
  have h0 : ((W.setCell ⟨b, 0, none⟩ u0)).heap[b]? = some (.cells #[u0, z1, z2, z3, z4, z5, z6, z7, z8, z9, z10] t (0, 0)) := box_set' h u0 rfl
  have h1 : (((W.setCell ⟨b, 0, none⟩ u0).setCell ⟨b, 1, none⟩ u1)).heap[b]? = some (.cells #[u0, u1, z2, z3, z4, z5, z6, z7, z8, z9, z10] t (0, 0)) := box_set' h0 u1 rfl
  have h2 : ((((W.setCell ⟨b, 0, none⟩ u0).setCell ⟨b, 1, none⟩ u1).setCell ⟨b, 2, none⟩ u2)).heap[b]? = some (.cells #[u0, u1, u2, z3, z4, z5, z6, z7, z8, z9, z10] t (0, 0)) := box_set' h1 u2 rfl
  have h3 : (((((W.setCell ⟨b, 0, none⟩ u0).setCell ⟨b, 1, none⟩ u1).setCell ⟨b, 2, none⟩ u2).setCell ⟨b, 3, none⟩ u3)).heap[b]? = some (.cells #[u0, u1, u2, u3, z4, z5, z6, z7, z8, z9, z10] t (0, 0)) := box_set' h2 u3 rfl
  have h4 : ((((((W.setCell ⟨b, 0, none⟩ u0).setCell ⟨b, 1, none⟩ u1).setCell ⟨b, 2, none⟩ u2).setCell ⟨b, 3, none⟩ u3).setCell ⟨b, 4, none⟩ u4)).heap[b]? = some (.cells #[u0, u1, u2, u3, u4, z5, z6, z7, z8, z9, z10] t (0, 0)) := box_set' h3 u4 rfl
  have h5 : (((((((W.setCell ⟨b, 0, none⟩ u0).setCell ⟨b, 1, none⟩ u1).setCell ⟨b, 2, none⟩ u2).setCell ⟨b, 3, none⟩ u3).setCell ⟨b, 4, none⟩ u4).setCell ⟨b, 5, none⟩ u5)).heap[b]? = some (.cells #[u0, u1, u2, u3, u4, u5, z6, z7, z8, z9, z10] t (0, 0)) := box_set' h4 u5 rfl
  have h6 : ((((((((W.setCell ⟨b, 0, none⟩ u0).setCell ⟨b, 1, none⟩ u1).setCell ⟨b, 2, none⟩ u2).setCell ⟨b, 3, none⟩ u3).setCell ⟨b, 4, none⟩ u4).setCell ⟨b, 5, none⟩ u5).setCell ⟨b, 6, none⟩ u6)).heap[b]? = some (.cells #[u0, u1, u2, u3, u4, u5, u6, z7, z8, z9, z10] t (0, 0)) := box_set' h5 u6 rfl
  have h7 : (((((((((W.setCell ⟨b, 0, none⟩ u0).setCell ⟨b, 1, none⟩ u1).setCell ⟨b, 2, none⟩ u2).setCell ⟨b, 3, none⟩ u3).setCell ⟨b, 4, none⟩ u4).setCell ⟨b, 5, none⟩ u5).setCell ⟨b, 6, none⟩ u6).setCell ⟨b, 7, none⟩ u7)).heap[b]? = some (.cells #[u0, u1, u2, u3, u4, u5, u6, u7, z8, z9, z10] t (0, 0)) := box_set' h6 u7 rfl
  have h8 : ((((((((((W.setCell ⟨b, 0, none⟩ u0).setCell ⟨b, 1, none⟩ u1).setCell ⟨b, 2, none⟩ u2).setCell ⟨b, 3, none⟩ u3).setCell ⟨b, 4, none⟩ u4).setCell ⟨b, 5, none⟩ u5).setCell ⟨b, 6, none⟩ u6).setCell ⟨b, 7, none⟩ u7).setCell ⟨b, 8, none⟩ u8)).heap[b]? = some (.cells #[u0, u1, u2, u3, u4, u5, u6, u7, u8, z9, z10] t (0, 0)) := box_set' h7 u8 rfl
  have h9 : (((((((((((W.setCell ⟨b, 0, none⟩ u0).setCell ⟨b, 1, none⟩ u1).setCell ⟨b, 2, none⟩ u2).setCell ⟨b, 3, none⟩ u3).setCell ⟨b, 4, none⟩ u4).setCell ⟨b, 5, none⟩ u5).setCell ⟨b, 6, none⟩ u6).setCell ⟨b, 7, none⟩ u7).setCell ⟨b, 8, none⟩ u8).setCell ⟨b, 9, none⟩ u9)).heap[b]? = some (.cells #[u0, u1, u2, u3, u4, u5, u6, u7, u8, u9, z10] t (0, 0)) := box_set' h8 u9 rfl
  have h10 : ((((((((((((W.setCell ⟨b, 0, none⟩ u0).setCell ⟨b, 1, none⟩ u1).setCell ⟨b, 2, none⟩ u2).setCell ⟨b, 3, none⟩ u3).setCell ⟨b, 4, none⟩ u4).setCell ⟨b, 5, none⟩ u5).setCell ⟨b, 6, none⟩ u6).setCell ⟨b, 7, none⟩ u7).setCell ⟨b, 8, none⟩ u8).setCell ⟨b, 9, none⟩ u9).setCell ⟨b, 10, none⟩ u10)).heap[b]? = some (.cells #[u0, u1, u2, u3, u4, u5, u6, u7, u8, u9, u10] t (0, 0)) := box_set' h9 u10 rfl
  exact h10
set_option maxRecDepth 100000 in
set_option maxHeartbeats 3200000 in
theorem values_any (x0 x1 x2 x3 x4 x5 x6 x7 x8 x9 x10 : Int) (w : World) : Calls Try.prog 99 #[.agg #[.int .i64 x0, .int .i64 x1, .int .i64 x2, .int .i64 x3, .int .i64 x4, .int .i64 x5, .int .i64 x6, .int .i64 x7, .int .i64 x8, .int .i64 x9, .int .i64 x10]] w fun e w' => ∃ g, e = .returned (.slice (some ⟨g, 0, none⟩) 11 11) ∧ w.heap.size ≤ g ∧ w'.heap[g]? = some (.cells #[.int .i64 x0, .int .i64 x1, .int .i64 x2, .int .i64 x3, .int .i64 x4, .int .i64 x5, .int .i64 x6, .int .i64 x7, .int .i64 x8, .int .i64 x9, .int .i64 x10] 3) ∧ Below w.heap.size w w' := by
  go_enter Try.func99, Try.ntmps99
  go_wp2
  go_ret
  exact ⟨w.heap.size + 1, rfl, by omega, by have h := box_new (w.alloc (.cells #[.int .i64 x0, .int .i64 x1, .int .i64 x2, .int .i64 x3, .int .i64 x4, .int .i64 x5, .int .i64 x6, .int .i64 x7, .int .i64 x8, .int .i64 x9, .int .i64 x10] 25)) (.cells #[.int .i64 x0, .int .i64 x1, .int .i64 x2, .int .i64 x3, .int .i64 x4, .int .i64 x5, .int .i64 x6, .int .i64 x7, .int .i64 x8, .int .i64 x9, .int .i64 x10] 3); simp only [World.size_alloc] at h; exact h, bel2 _ _ _⟩
set_option maxRecDepth 100000 in
set_option maxHeartbeats 6400000 in
theorem of_any (x0 x1 x2 x3 x4 x5 x6 x7 x8 x9 x10 : Int) (g c : Nat) (w : World) (hb : g < w.heap.size) (h : ∀ j, j < 11 → w.cell? ⟨g, j, none⟩ = some (.int .i64 (([x0, x1, x2, x3, x4, x5, x6, x7, x8, x9, x10] : List Int).getD j 0))) : Calls Try.prog 100 #[.slice (some ⟨g, 0, none⟩) 11 c] w (Says (.agg #[.int .i64 x0, .int .i64 x1, .int .i64 x2, .int .i64 x3, .int .i64 x4, .int .i64 x5, .int .i64 x6, .int .i64 x7, .int .i64 x8, .int .i64 x9, .int .i64 x10]) w) := by
  obtain ⟨V, hV⟩ : ∃ V, V = w.alloc (.cells #[.int .i64 0, .int .i64 0, .int .i64 0, .int .i64 0, .int .i64 0, .int .i64 0, .int .i64 0, .int .i64 0, .int .i64 0, .int .i64 0, .int .i64 0] 25) := ⟨_, rfl⟩
  have hbV : Below w.heap.size w V := by rw [hV]; exact bel1 _ _
  have B : Hid (V.heap[w.heap.size]? = some (.cells #[.int .i64 0, .int .i64 0, .int .i64 0, .int .i64 0, .int .i64 0, .int .i64 0, .int .i64 0, .int .i64 0, .int .i64 0, .int .i64 0, .int .i64 0] 25)) := by rw [hV]; exact box_new w _
  have c0 : V.cell? ⟨g, 0, none⟩ = some (.int .i64 x0) := (hbV.cell hb).trans (h 0 (by omega))
  have c1 : V.cell? ⟨g, 1, none⟩ = some (.int .i64 x1) := (hbV.cell hb).trans (h 1 (by omega))
  have c2 : V.cell? ⟨g, 2, none⟩ = some (.int .i64 x2) := (hbV.cell hb).trans (h 2 (by omega))
  have c3 : V.cell? ⟨g, 3, none⟩ = some (.int .i64 x3) := (hbV.cell hb).trans (h 3 (by omega))
  have c4 : V.cell? ⟨g, 4, none⟩ = some (.int .i64 x4) := (hbV.cell hb).trans (h 4 (by omega))
  have c5 : V.cell? ⟨g, 5, none⟩ = some (.int .i64 x5) := (hbV.cell hb).trans (h 5 (by omega))
  have c6 : V.cell? ⟨g, 6, none⟩ = some (.int .i64 x6) := (hbV.cell hb).trans (h 6 (by omega))
  have c7 : V.cell? ⟨g, 7, none⟩ = some (.int .i64 x7) := (hbV.cell hb).trans (h 7 (by omega))
  have c8 : V.cell? ⟨g, 8, none⟩ = some (.int .i64 x8) := (hbV.cell hb).trans (h 8 (by omega))
  have c9 : V.cell? ⟨g, 9, none⟩ = some (.int .i64 x9) := (hbV.cell hb).trans (h 9 (by omega))
  have c10 : V.cell? ⟨g, 10, none⟩ = some (.int .i64 x10) := (hbV.cell hb).trans (h 10 (by omega))
  clear h
  go_enter Try.func100, Try.ntmps100
  go_wp2_with fail
  rw [← hV]
  clear hV
  go_still_tail 34, (by kernel_rfl)
  have BD : V.drew.heap[w.heap.size]? = some (.cells #[.int .i64 0, .int .i64 0, .int .i64 0, .int .i64 0, .int .i64 0, .int .i64 0, .int .i64 0, .int .i64 0, .int .i64 0, .int .i64 0, .int .i64 0] 25) := B.out
  have hbD := hbV.drew
  clear c0 c1 c2 c3 c4 c5 c6 c7 c8 c9 c10
  go_wp2_with (refine wpList_put rfl rfl 25 _ _ rfl w.heap.size _ rfl rfl _ _ BD (Try.sizeOf25 _) rfl (by simp [Value.oneCell']) ?_)
  have R := setRow_box (vs := #[.int .i64 x0, .int .i64 x1, .int .i64 x2, .int .i64 x3, .int .i64 x4, .int .i64 x5, .int .i64 x6, .int .i64 x7, .int .i64 x8, .int .i64 x9, .int .i64 x10]) BD
  have r0 := box_cell R 0 _ rfl
  have r1 := box_cell R 1 _ rfl
  have r2 := box_cell R 2 _ rfl
  have r3 := box_cell R 3 _ rfl
  have r4 := box_cell R 4 _ rfl
  have r5 := box_cell R 5 _ rfl
  have r6 := box_cell R 6 _ rfl
  have r7 := box_cell R 7 _ rfl
  have r8 := box_cell R 8 _ rfl
  have r9 := box_cell R 9 _ rfl
  have r10 := box_cell R 10 _ rfl
  exact bodyPost_ret (v := .agg #[.int .i64 x0, .int .i64 x1, .int .i64 x2, .int .i64 x3, .int .i64 x4, .int .i64 x5, .int .i64 x6, .int .i64 x7, .int .i64 x8, .int .i64 x9, .int .i64 x10]) (by simp [results, Try.results100, go_sem, r0, r1, r2, r3, r4, r5, r6, r7, r8, r9, r10]) rfl ⟨rfl, setRow_below hbD _ _ (Nat.le_refl _) hbD.size⟩
def SpS (w : World) (B g : Nat) (A : Option Addr) (n cap : Nat) (zs : List UInt8) (e : Ending) (w' : World) : Prop := ∃ v0 v1 v2 v3 v4 v5 v6 v7 v8 v9 v10 : Int, e = .returned (.agg #[.int .i64 v0, .int .i64 v1, .int .i64 v2, .int .i64 v3, .int .i64 v4, .int .i64 v5, .int .i64 v6, .int .i64 v7, .int .i64 v8, .int .i64 v9, .int .i64 v10]) ∧ (Sm v0 ∧ Sm v1 ∧ Sm v2 ∧ Sm v3 ∧ Sm v4 ∧ Sm v5 ∧ Sm v6 ∧ Sm v7 ∧ Sm v8 ∧ Sm v9 ∧ Sm v10) ∧ CurAt w' B g A n cap zs ∧ w.grownBy w' (some g)
set_option maxRecDepth 100000 in
set_option maxHeartbeats 6400000 in
theorem bend_any (x0 x1 x2 x3 x4 x5 x6 x7 x8 x9 x10 : Int) (hsm : Sm x0 ∧ Sm x1 ∧ Sm x2 ∧ Sm x3 ∧ Sm x4 ∧ Sm x5 ∧ Sm x6 ∧ Sm x7 ∧ Sm x8 ∧ Sm x9 ∧ Sm x10) (w : World) (B g : Nat) (A : Option Addr) (n cap : Nat) (zs : List UInt8) (hc : CurAt w B g A n cap zs) : Calls Try.prog 76 #[.pointer (some ⟨g, 0, none⟩), .agg #[.int .i64 x0, .int .i64 x1, .int .i64 x2, .int .i64 x3, .int .i64 x4, .int .i64 x5, .int .i64 x6, .int .i64 x7, .int .i64 x8, .int .i64 x9, .int .i64 x10]] w (SpS w B g A n cap zs) := by
  have hgl : g < w.heap.size := hc.lt
  obtain ⟨V, hV⟩ : ∃ V, V = (w.alloc (.cells #[.int .i64 x0, .int .i64 x1, .int .i64 x2, .int .i64 x3, .int .i64 x4, .int .i64 x5, .int .i64 x6, .int .i64 x7, .int .i64 x8, .int .i64 x9, .int .i64 x10] 25)).alloc (.cells #[.int .i64 0, .int .i64 0, .int .i64 0, .int .i64 0, .int .i64 0, .int .i64 0, .int .i64 0, .int .i64 0, .int .i64 0, .int .i64 0, .int .i64 0] 25) := ⟨_, rfl⟩
  have hbV : Below w.heap.size w V := by rw [hV]; exact bel2 _ _ _
  have KR : Hid (V.heap[w.heap.size + 1]? = some (.cells #[.int .i64 0, .int .i64 0, .int .i64 0, .int .i64 0, .int .i64 0, .int .i64 0, .int .i64 0, .int .i64 0, .int .i64 0, .int .i64 0, .int .i64 0] 25)) := by have h := box_new (w.alloc (.cells #[.int .i64 x0, .int .i64 x1, .int .i64 x2, .int .i64 x3, .int .i64 x4, .int .i64 x5, .int .i64 x6, .int .i64 x7, .int .i64 x8, .int .i64 x9, .int .i64 x10] 25)) (.cells #[.int .i64 0, .int .i64 0, .int .i64 0, .int .i64 0, .int .i64 0, .int .i64 0, .int .i64 0, .int .i64 0, .int .i64 0, .int .i64 0, .int .i64 0] 25); (try simp only [World.size_alloc] at h); rw [hV]; exact h
  have HC := Lib.hid (hc.below hbV)
  have HG : Hid (w.grownBy V (some g)) := grown_bel hbV
  have hlV : w.heap.size + 1 < V.heap.size := box_lt KR.out
  clear hc
  have HSM : Hid (∀ x ∈ ([x0, x1, x2, x3, x4, x5, x6, x7, x8, x9, x10] : List Int), Sm x) := fun x hx => by simp only [List.mem_cons, List.not_mem_nil, or_false] at hx; obtain ⟨s0, s1, s2, s3, s4, s5, s6, s7, s8, s9, s10⟩ := hsm; rcases hx with rfl | rfl | rfl | rfl | rfl | rfl | rfl | rfl | rfl | rfl | rfl <;> assumption
  clear hsm
  go_enter Try.func76, Try.ntmps76
  go_wp2_with fail
  rw [← hV]
  clear hV hbV
  refine (values_any x0 x1 x2 x3 x4 x5 x6 x7 x8 x9 x10 _).mono ?_
  rintro e w1 ⟨gv, rfl, hgv, hbx, hb1⟩
  obtain ⟨L, hL⟩ : ∃ L : List Int, L = [x0, x1, x2, x3, x4, x5, x6, x7, x8, x9, x10] := ⟨_, rfl⟩
  have hl : L.length = 11 := by rw [hL]; rfl
  have KV : Hid (w1.heap[gv]? = some (.cells (cellsM L) 3 (0, 0))) := by rw [hL]; exact hbx
  rw [← hL] at HSM
  have KR1 := Lib.hid (box_below KR.out hb1)
  have HC1 := Lib.hid (HC.out.below hb1)
  have HG1 := Lib.hid (grown_trans HG.out (grown_bel hb1))
  have hs1 := hb1.size
  clear KR HC HG hbx hb1 hL
  go_wp2_with fail
  refine (below_any 11 (by omega) _ B g A n cap zs HC1.out).mono ?_
  rintro e w2 ⟨k, hx, _, rfl, hc, hg⟩
  have hk : (k : Int) < 11 := hx (by omega)
  have hk2 : k < 11 := by omega
  clear hx
  have KR2 := Lib.hid (box_grown KR1.out hg (by omega))
  have KV2 := Lib.hid (box_grown KV.out hg (by omega))
  have HC2 := Lib.hid hc
  have HG2 := Lib.hid (grown_trans HG1.out hg)
  clear KR1 KV HC1 HG1 hc hg
  have hg2l : g < w2.heap.size := HC2.out.lt
  have HCA := Lib.hid (HC2.out.alloc (.cells #[.int .i64 (-1), .int .i64 0, .int .i64 1, .int .i64 12, .int .i64 13, .int .i64 20, .int .i64 21, .int .i64 1000, .int .i64 1001, .int .i64 10000, .int .i64 10001, .int .i64 100000, .int .i64 100001] 3))
  have KRA := Lib.hid (box_alloc KR2.out (.cells #[.int .i64 (-1), .int .i64 0, .int .i64 1, .int .i64 12, .int .i64 13, .int .i64 20, .int .i64 21, .int .i64 1000, .int .i64 1001, .int .i64 10000, .int .i64 10001, .int .i64 100000, .int .i64 100001] 3))
  have KVA := Lib.hid (box_alloc KV2.out (.cells #[.int .i64 (-1), .int .i64 0, .int .i64 1, .int .i64 12, .int .i64 13, .int .i64 20, .int .i64 21, .int .i64 1000, .int .i64 1001, .int .i64 10000, .int .i64 10001, .int .i64 100000, .int .i64 100001] 3))
  have HGA := Lib.hid (grown_alloc HG2.out (.cells #[.int .i64 (-1), .int .i64 0, .int .i64 1, .int .i64 12, .int .i64 13, .int .i64 20, .int .i64 21, .int .i64 1000, .int .i64 1001, .int .i64 10000, .int .i64 10001, .int .i64 100000, .int .i64 100001] 3))
  go_wp2_with fail
  refine (pick_any [-1, 0, 1, 12, 13, 20, 21, 1000, 1001, 10000, 10001, 100000, 100001] w2.heap.size 13 13 rfl (by omega) (by omega) _ B g A n cap zs HCA.out (by omega) (fun j hj => lit_cells w2 _ [-1, 0, 1, 12, 13, 20, 21, 1000, 1001, 10000, 10001, 100000, 100001] j hj)).mono ?_
  rintro e w3 ⟨z, hz, rfl, hc, hg⟩
  have hzs : Hid (Sm z) := by show Sm z; unfold Sm; simp only [List.mem_cons, List.not_mem_nil, or_false] at hz; omega
  have KR3 := Lib.hid (box_grown KRA.out hg (by omega))
  have KV3 := Lib.hid (box_grown KVA.out hg (by omega))
  have HC3 := Lib.hid hc
  have HG3 := Lib.hid (grown_trans HGA.out hg)
  clear KR2 KV2 HC2 HG2 HCA KRA KVA HGA hc hg hz hg2l
  have hcl := cellM KV3.out k (by omega)
  have hfz := box_frozen KV3.out k
  have KV4 := Lib.hid (setM (k := k) KV3.out z)
  have KR4 := Lib.hid (box_other KR3.out ⟨gv, k, none⟩ (.int .i64 z) (by show _ ≠ gv; omega))
  have hBg := cur_ge HC3.out
  have HC4 := Lib.hid (cur_set HC3.out ⟨gv, k, none⟩ (by show gv ≠ g; omega) (by show B ≤ gv; omega) (.int .i64 z))
  have HG4 := Lib.hid (grown_seti HG3.out ⟨gv, k, none⟩ (.int .i64 z) (by show _ ≤ gv; omega))
  obtain ⟨y0, y1, y2, y3, y4, y5, y6, y7, y8, y9, y10, hy⟩ := eleven (L := L.set k z) (by simp [hl])
  have HSY : Hid (∀ x ∈ ([y0, y1, y2, y3, y4, y5, y6, y7, y8, y9, y10] : List Int), Sm x) := by rw [← hy]; exact sm_set HSM.out hzs.out
  have hcy : Hid (∀ j, j < 11 → (w3.setCell ⟨gv, k, none⟩ (.int .i64 z)).cell? ⟨gv, j, none⟩ = some (.int .i64 (([y0, y1, y2, y3, y4, y5, y6, y7, y8, y9, y10] : List Int).getD j 0))) := fun j hj => by rw [← hy]; exact cellM KV4.out j (by simp [hl]; omega)
  have hgl4 : Hid (gv < (w3.setCell ⟨gv, k, none⟩ (.int .i64 z)).heap.size) := box_lt KV4.out
  clear KR3 HC3 HG3 KV4 hy
  go_wp2_with fail
  refine (of_any y0 y1 y2 y3 y4 y5 y6 y7 y8 y9 y10 gv _ _ hgl4.out hcy.out).mono ?_
  rintro e w5 ⟨rfl, hb5⟩
  have KR5 := Lib.hid (box_below KR4.out hb5)
  have HC5 := Lib.hid (HC4.out.below hb5)
  have HG5 := Lib.hid (grown_trans HG4.out (grown_bel hb5))
  clear KR4 HC4 HG4 hb5 hcl hfz KV3 hcy hgl4
  have RB := setRow_box (vs := #[.int .i64 y0, .int .i64 y1, .int .i64 y2, .int .i64 y3, .int .i64 y4, .int .i64 y5, .int .i64 y6, .int .i64 y7, .int .i64 y8, .int .i64 y9, .int .i64 y10]) KR5.out
  have r0 := box_cell RB 0 _ rfl
  have r1 := box_cell RB 1 _ rfl
  have r2 := box_cell RB 2 _ rfl
  have r3 := box_cell RB 3 _ rfl
  have r4 := box_cell RB 4 _ rfl
  have r5 := box_cell RB 5 _ rfl
  have r6 := box_cell RB 6 _ rfl
  have r7 := box_cell RB 7 _ rfl
  have r8 := box_cell RB 8 _ rfl
  have r9 := box_cell RB 9 _ rfl
  have r10 := box_cell RB 10 _ rfl
  have HCf := Lib.hid (cur_row HC5.out (w.heap.size + 1) #[.int .i64 y0, .int .i64 y1, .int .i64 y2, .int .i64 y3, .int .i64 y4, .int .i64 y5, .int .i64 y6, .int .i64 y7, .int .i64 y8, .int .i64 y9, .int .i64 y10] (by omega) (by omega))
  have HGf := Lib.hid (grown_row HG5.out (w.heap.size + 1) #[.int .i64 y0, .int .i64 y1, .int .i64 y2, .int .i64 y3, .int .i64 y4, .int .i64 y5, .int .i64 y6, .int .i64 y7, .int .i64 y8, .int .i64 y9, .int .i64 y10] (by omega))
  go_wp2_with (refine wpList_put rfl rfl 25 _ _ rfl (w.heap.size + 1) _ rfl rfl _ _ KR5.out (Try.sizeOf25 _) rfl (by simp [Value.oneCell']) ?_)
  exact bodyPost_ret (v := .agg #[.int .i64 y0, .int .i64 y1, .int .i64 y2, .int .i64 y3, .int .i64 y4, .int .i64 y5, .int .i64 y6, .int .i64 y7, .int .i64 y8, .int .i64 y9, .int .i64 y10]) (by simp [results, Try.results76, go_sem, r0, r1, r2, r3, r4, r5, r6, r7, r8, r9, r10]) rfl ⟨y0, y1, y2, y3, y4, y5, y6, y7, y8, y9, y10, rfl, ⟨HSY.out _ (by simp), HSY.out _ (by simp), HSY.out _ (by simp), HSY.out _ (by simp), HSY.out _ (by simp), HSY.out _ (by simp), HSY.out _ (by simp), HSY.out _ (by simp), HSY.out _ (by simp), HSY.out _ (by simp), HSY.out _ (by simp)⟩, HCf.out, HGf.out⟩
def D6 (w : World) (B : Nat) (A : Option Addr) (n cap : Nat) (zs : List UInt8) (e : Ending) (w' : World) : Prop := ∃ (g : Nat) (v0 v1 v2 v3 v4 v5 v6 v7 v8 v9 v10 : Int), e = .returned (.tuple #[.pointer (some ⟨g, 0, none⟩), .agg #[.int .i64 v0, .int .i64 v1, .int .i64 v2, .int .i64 v3, .int .i64 v4, .int .i64 v5, .int .i64 v6, .int .i64 v7, .int .i64 v8, .int .i64 v9, .int .i64 v10]]) ∧ w.heap.size ≤ g ∧ (Sm v0 ∧ Sm v1 ∧ Sm v2 ∧ Sm v3 ∧ Sm v4 ∧ Sm v5 ∧ Sm v6 ∧ Sm v7 ∧ Sm v8 ∧ Sm v9 ∧ Sm v10) ∧ CurAt w' B g A n cap zs ∧ Below w.heap.size w w'
set_option maxRecDepth 100000 in
set_option maxHeartbeats 12800000 in
theorem draw6_any (w : World) (B : Nat) (hB : B ≤ w.heap.size) (A : Option Addr) (n cap : Nat) (zs : List UInt8) (hb : IsBytes w B A n zs) (hn : n ≤ 1048576) : Calls Try.prog 44 #[.slice A n cap] w (D6 w B A n cap zs) := by
  have HB : Hid (IsBytes (w.alloc (.cells #[.int .i64 0, .int .i64 0, .int .i64 0, .int .i64 0, .int .i64 0, .int .i64 0, .int .i64 0, .int .i64 0, .int .i64 0, .int .i64 0, .int .i64 0] 25)) B A n zs) := hb.keep fun p hp => World.cell?_alloc_lt w _ p (by omega)
  clear hb
  have KR := Lib.hid (box_new w (.cells #[.int .i64 0, .int .i64 0, .int .i64 0, .int .i64 0, .int .i64 0, .int .i64 0, .int .i64 0, .int .i64 0, .int .i64 0, .int .i64 0, .int .i64 0] 25))
  have hBA : B ≤ (w.alloc (.cells #[.int .i64 0, .int .i64 0, .int .i64 0, .int .i64 0, .int .i64 0, .int .i64 0, .int .i64 0, .int .i64 0, .int .i64 0, .int .i64 0, .int .i64 0] 25)).heap.size := by simp; omega
  have hbA := Lib.hid (bel1 w (.cells #[.int .i64 0, .int .i64 0, .int .i64 0, .int .i64 0, .int .i64 0, .int .i64 0, .int .i64 0, .int .i64 0, .int .i64 0, .int .i64 0, .int .i64 0] 25))
  go_enter Try.func44, Try.ntmps44
  go_wp2_with fail
  refine (new_any _ B hBA A n cap zs HB.out hn).mono ?_
  rintro e w1 ⟨g, rfl, hg0, hc1, hb1⟩
  have hgw : w.heap.size < g := by simp at hg0; omega
  have KR1 := Lib.hid (box_below KR.out hb1)
  have HL1 := Lib.hid (bel_then hbA.out hb1 hbA.out.size)
  have HC1 := Lib.hid hc1
  clear KR hbA hc1 hb1 hg0 HB hBA
  go_wp2_with fail
  refine (drawSpec_any _ B g A n cap zs HC1.out).mono ?_
  rintro e w2 ⟨x0, x1, x2, x3, x4, x5, x6, x7, x8, x9, x10, rfl, hsm, hc, hg⟩
  have KR2 := Lib.hid (box_grown KR1.out hg (by omega))
  have HL2 := Lib.hid (below_grown HL1.out (by omega) hg)
  have hs2 : w.heap.size < w2.heap.size := box_lt KR2.out
  have hgl2 : g < w2.heap.size := hc.lt
  have KR3 := Lib.hid (box_alloc KR2.out (.cells #[.int .i64 x0, .int .i64 x1, .int .i64 x2, .int .i64 x3, .int .i64 x4, .int .i64 x5, .int .i64 x6, .int .i64 x7, .int .i64 x8, .int .i64 x9, .int .i64 x10] 25))
  have KX3 := Lib.hid (box_new w2 (.cells #[.int .i64 x0, .int .i64 x1, .int .i64 x2, .int .i64 x3, .int .i64 x4, .int .i64 x5, .int .i64 x6, .int .i64 x7, .int .i64 x8, .int .i64 x9, .int .i64 x10] 25))
  have HL3 := Lib.hid (HL2.out.alloc HL2.out.size (.cells #[.int .i64 x0, .int .i64 x1, .int .i64 x2, .int .i64 x3, .int .i64 x4, .int .i64 x5, .int .i64 x6, .int .i64 x7, .int .i64 x8, .int .i64 x9, .int .i64 x10] 25))
  have HC3 := Lib.hid (hc.alloc (.cells #[.int .i64 x0, .int .i64 x1, .int .i64 x2, .int .i64 x3, .int .i64 x4, .int .i64 x5, .int .i64 x6, .int .i64 x7, .int .i64 x8, .int .i64 x9, .int .i64 x10] 25))
  have HSM := Lib.hid hsm
  clear KR1 HL1 HC1 KR2 HL2 hc hg hsm
  go_wp2_with fail
  refine (once_any 10 (by omega) _ B g A n cap zs HC3.out).mono ?_
  rintro e w4 ⟨bb, rfl, hc, hg⟩
  have KR4 := Lib.hid (box_grown KR3.out hg (by omega))
  have KX4 := Lib.hid (box_grown KX3.out hg (by omega))
  have HL4 := Lib.hid (below_grown HL3.out (by omega) hg)
  have HC4 := Lib.hid hc
  clear KR3 KX3 HL3 HC3 hc hg
  go_upto_if 11 with fail
  go_cut [] (fun wx => ∃ y0 y1 y2 y3 y4 y5 y6 y7 y8 y9 y10 : Int, Hid (Sm y0 ∧ Sm y1 ∧ Sm y2 ∧ Sm y3 ∧ Sm y4 ∧ Sm y5 ∧ Sm y6 ∧ Sm y7 ∧ Sm y8 ∧ Sm y9 ∧ Sm y10) ∧ Hid (wx.heap[w.heap.size]? = some (.cells #[.int .i64 0, .int .i64 0, .int .i64 0, .int .i64 0, .int .i64 0, .int .i64 0, .int .i64 0, .int .i64 0, .int .i64 0, .int .i64 0, .int .i64 0] 25)) ∧ Hid (wx.heap[w2.heap.size]? = some (.cells #[.int .i64 y0, .int .i64 y1, .int .i64 y2, .int .i64 y3, .int .i64 y4, .int .i64 y5, .int .i64 y6, .int .i64 y7, .int .i64 y8, .int .i64 y9, .int .i64 y10] 25)) ∧ Hid (Below w.heap.size w wx) ∧ Hid (CurAt wx B g A n cap zs))
  case first =>
    cases bb
    · go_wp2_with fail
      go_meet
      case rel => exact ⟨x0, x1, x2, x3, x4, x5, x6, x7, x8, x9, x10, HSM, KR4, KX4, HL4, HC4⟩
    · skip
      have c0 := box_cell KX4.out 0 _ rfl
      have c1 := box_cell KX4.out 1 _ rfl
      have c2 := box_cell KX4.out 2 _ rfl
      have c3 := box_cell KX4.out 3 _ rfl
      have c4 := box_cell KX4.out 4 _ rfl
      have c5 := box_cell KX4.out 5 _ rfl
      have c6 := box_cell KX4.out 6 _ rfl
      have c7 := box_cell KX4.out 7 _ rfl
      have c8 := box_cell KX4.out 8 _ rfl
      have c9 := box_cell KX4.out 9 _ rfl
      have c10 := box_cell KX4.out 10 _ rfl
      go_wp2_with fail
      refine (bend_any x0 x1 x2 x3 x4 x5 x6 x7 x8 x9 x10 HSM.out _ B g A n cap zs HC4.out).mono ?_
      rintro e w5 ⟨y0, y1, y2, y3, y4, y5, y6, y7, y8, y9, y10, rfl, hsm, hc, hg⟩
      have KR5 := Lib.hid (box_grown KR4.out hg (by omega))
      have KX5 := Lib.hid (box_grown KX4.out hg (by omega))
      have HL5 := Lib.hid (below_grown HL4.out (by omega) hg)
      have HBg := cur_ge hc
      have KR6 := Lib.hid (setRow_far (b := w2.heap.size) (vs := #[.int .i64 y0, .int .i64 y1, .int .i64 y2, .int .i64 y3, .int .i64 y4, .int .i64 y5, .int .i64 y6, .int .i64 y7, .int .i64 y8, .int .i64 y9, .int .i64 y10]) KR5.out (by omega))
      have KX6 := Lib.hid (setRow_box (vs := #[.int .i64 y0, .int .i64 y1, .int .i64 y2, .int .i64 y3, .int .i64 y4, .int .i64 y5, .int .i64 y6, .int .i64 y7, .int .i64 y8, .int .i64 y9, .int .i64 y10]) KX5.out)
      have HL6 := Lib.hid (setRow_below HL5.out w2.heap.size #[.int .i64 y0, .int .i64 y1, .int .i64 y2, .int .i64 y3, .int .i64 y4, .int .i64 y5, .int .i64 y6, .int .i64 y7, .int .i64 y8, .int .i64 y9, .int .i64 y10] (by omega) HL5.out.size)
      have HC6 := Lib.hid (cur_row hc w2.heap.size #[.int .i64 y0, .int .i64 y1, .int .i64 y2, .int .i64 y3, .int .i64 y4, .int .i64 y5, .int .i64 y6, .int .i64 y7, .int .i64 y8, .int .i64 y9, .int .i64 y10] (by omega) (by omega))
      have HSY := Lib.hid hsm
      clear c0 c1 c2 c3 c4 c5 c6 c7 c8 c9 c10 KR4 KX4 HL4 HC4 hc hg hsm HSM
      go_wp2_with (refine wpList_put rfl rfl 25 _ _ rfl w2.heap.size _ rfl rfl _ _ KX5.out (Try.sizeOf25 _) rfl (by simp [Value.oneCell']) ?_)
      go_meet
      case rel => exact ⟨y0, y1, y2, y3, y4, y5, y6, y7, y8, y9, y10, HSY, KR6, KX6, HL6, HC6⟩
  clear KR4 KX4 HL4 HC4 HSM
  obtain ⟨y0, y1, y2, y3, y4, y5, y6, y7, y8, y9, y10, HSY, KR, KX, HL, HC⟩ := hcut
  obtain ⟨W, hwq⟩ : ∃ x, x = wc := ⟨_, rfl⟩
  subst hwq
  have c0 := box_cell KX.out 0 _ rfl
  have c1 := box_cell KX.out 1 _ rfl
  have c2 := box_cell KX.out 2 _ rfl
  have c3 := box_cell KX.out 3 _ rfl
  have c4 := box_cell KX.out 4 _ rfl
  have c5 := box_cell KX.out 5 _ rfl
  have c6 := box_cell KX.out 6 _ rfl
  have c7 := box_cell KX.out 7 _ rfl
  have c8 := box_cell KX.out 8 _ rfl
  have c9 := box_cell KX.out 9 _ rfl
  have c10 := box_cell KX.out 10 _ rfl
  have hBg := cur_ge HC.out
  have z0 := box_cell KR.out 0 _ rfl
  have f0 := box_frozen KR.out 0
  have z1 := box_cell KR.out 1 _ rfl
  have f1 := box_frozen KR.out 1
  have z2 := box_cell KR.out 2 _ rfl
  have f2 := box_frozen KR.out 2
  have z3 := box_cell KR.out 3 _ rfl
  have f3 := box_frozen KR.out 3
  have z4 := box_cell KR.out 4 _ rfl
  have f4 := box_frozen KR.out 4
  have z5 := box_cell KR.out 5 _ rfl
  have f5 := box_frozen KR.out 5
  have z6 := box_cell KR.out 6 _ rfl
  have f6 := box_frozen KR.out 6
  have z7 := box_cell KR.out 7 _ rfl
  have f7 := box_frozen KR.out 7
  have z8 := box_cell KR.out 8 _ rfl
  have f8 := box_frozen KR.out 8
  have z9 := box_cell KR.out 9 _ rfl
  have f9 := box_frozen KR.out 9
  have z10 := box_cell KR.out 10 _ rfl
  have f10 := box_frozen KR.out 10
  obtain ⟨W', hW'⟩ : ∃ x, x = (((((((((((W.setCell ⟨w.heap.size, 0, none⟩ (.int .i64 y0)).setCell ⟨w.heap.size, 1, none⟩ (.int .i64 y1)).setCell ⟨w.heap.size, 2, none⟩ (.int .i64 y2)).setCell ⟨w.heap.size, 3, none⟩ (.int .i64 y3)).setCell ⟨w.heap.size, 4, none⟩ (.int .i64 y4)).setCell ⟨w.heap.size, 5, none⟩ (.int .i64 y5)).setCell ⟨w.heap.size, 6, none⟩ (.int .i64 y6)).setCell ⟨w.heap.size, 7, none⟩ (.int .i64 y7)).setCell ⟨w.heap.size, 8, none⟩ (.int .i64 y8)).setCell ⟨w.heap.size, 9, none⟩ (.int .i64 y9)).setCell ⟨w.heap.size, 10, none⟩ (.int .i64 y10)) := ⟨_, rfl⟩
  have RB : Hid (W'.heap[w.heap.size]? = some (.cells #[.int .i64 y0, .int .i64 y1, .int .i64 y2, .int .i64 y3, .int .i64 y4, .int .i64 y5, .int .i64 y6, .int .i64 y7, .int .i64 y8, .int .i64 y9, .int .i64 y10] 25)) := by rw [hW']; exact set11B KR.out (.int .i64 y0) (.int .i64 y1) (.int .i64 y2) (.int .i64 y3) (.int .i64 y4) (.int .i64 y5) (.int .i64 y6) (.int .i64 y7) (.int .i64 y8) (.int .i64 y9) (.int .i64 y10)
  have HT : Turned (fun k => k = w.heap.size) W W' := by rw [hW']; exact set11T (S := fun k => k = w.heap.size) rfl
  have HFIN : Hid (D6 w B A n cap zs (.returned (.tuple #[.pointer (some ⟨g, 0, none⟩), .agg #[.int .i64 y0, .int .i64 y1, .int .i64 y2, .int .i64 y3, .int .i64 y4, .int .i64 y5, .int .i64 y6, .int .i64 y7, .int .i64 y8, .int .i64 y9, .int .i64 y10]])) W'.drew) := ⟨g, y0, y1, y2, y3, y4, y5, y6, y7, y8, y9, y10, rfl, by omega, HSY.out, cur_drew (cur_turned HC.out HT (by omega) (fun k hk => by omega)), (Turned.low HL.out HT (fun k hk => by omega) HL.out.size).drew⟩
  have HW := Lib.hid hW'
  clear hW' HT
  have hne : w.heap.size ≠ w2.heap.size := by omega
  have hne' : w2.heap.size ≠ w.heap.size := by omega
  go_wp2_with fail
  go_region_with (fail)
  all_goals
    go_wp2
    rw [← HW.out]
    have r0 := box_cell (w := W'.drew) RB.out 0 _ rfl
    have r1 := box_cell (w := W'.drew) RB.out 1 _ rfl
    have r2 := box_cell (w := W'.drew) RB.out 2 _ rfl
    have r3 := box_cell (w := W'.drew) RB.out 3 _ rfl
    have r4 := box_cell (w := W'.drew) RB.out 4 _ rfl
    have r5 := box_cell (w := W'.drew) RB.out 5 _ rfl
    have r6 := box_cell (w := W'.drew) RB.out 6 _ rfl
    have r7 := box_cell (w := W'.drew) RB.out 7 _ rfl
    have r8 := box_cell (w := W'.drew) RB.out 8 _ rfl
    have r9 := box_cell (w := W'.drew) RB.out 9 _ rfl
    have r10 := box_cell (w := W'.drew) RB.out 10 _ rfl
    exact bodyPost_ret (v := .tuple #[.pointer (some ⟨g, 0, none⟩), .agg #[.int .i64 y0, .int .i64 y1, .int .i64 y2, .int .i64 y3, .int .i64 y4, .int .i64 y5, .int .i64 y6, .int .i64 y7, .int .i64 y8, .int .i64 y9, .int .i64 y10]]) (by simp [results, Try.results44, go_sem, r0, r1, r2, r3, r4, r5, r6, r7, r8, r9, r10]) rfl HFIN.out
def P6 (w : World) (B g : Nat) (A : Option Addr) (n cap : Nat) (zs : List UInt8) (e : Ending) (w' : World) : Prop := ∃ p0 p1 p2 p3 p4 : Int, e = .returned (.agg #[.int .i64 p0, .int .i64 p1, .int .i64 p2, .int .i64 p3, .int .i64 p4]) ∧ (-1 ≤ p4 ∧ p4 ≤ 1000000000) ∧ CurAt w' B g A n cap zs ∧ w.grownBy w' (some g)
end Go.Proofs.Ytmmdpljimjfkdaa.DrawSb
