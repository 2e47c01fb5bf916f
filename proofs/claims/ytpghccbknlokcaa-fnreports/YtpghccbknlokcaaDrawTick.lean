/-
  CHAPTER 1's DRAWS over this seat's translation: a tick, an int, a pair of ints: whatever the code.
-/
import Derived.Test.YtpghccbknlokcaaDraw2
namespace Go.Proofs.Ytpghccbknlokcaa.DrawTick
open Go.ChangeShapes Go.WideShapes Go.ChangeAt Go.RowKit
open Go.Proofs.Ytpghccbknlokcaa.Ints Go.Proofs.Ytpghccbknlokcaa.Tick Go.Proofs.Ytpghccbknlokcaa.Draw
set_option linter.unusedVariables false

theorem lit_cells (w : World) (T : TypeId) (l : List Int) (j : Nat) (hj : j < l.length) : (w.alloc (.cells (l.map (Value.int .i64)).toArray T)).cell? ⟨w.heap.size, j, none⟩ = some (.int .i64 (l.getD j 0)) := by
  rw [World.cell?_alloc_at]
  · simp [List.getD, hj]
  · rfl
theorem lit_ints (w : World) (T : TypeId) (l : List Int) (k : Nat) (hk : l.length = k) : IsInts (w.alloc (.cells (l.map (Value.int .i64)).toArray T)) (w.heap.size + 1) (some ⟨w.heap.size, 0, none⟩) k l :=
  ⟨hk, fun _ => ⟨w.heap.size, 0, rfl, by omega, fun j hj => by rw [Nat.zero_add]; exact lit_cells w T l j (by omega)⟩⟩

theorem lit_ints_at (w : World) (L : Nat) (hL : L = w.heap.size) (T : TypeId) (l : List Int) (k : Nat) (hk : l.length = k) : IsInts (w.alloc (.cells (l.map (Value.int .i64)).toArray T)) (L + 1) (some ⟨L, 0, none⟩) k l := by
  subst hL; exact lit_ints w T l k hk

def IntSaid (P : Int → Prop) (w : World) (B g : Nat) (A : Option Addr) (n cap : Nat) (zs : List UInt8) (e : Ending) (w' : World) : Prop :=
  ∃ z : Int, P z ∧ e = .returned (.int .i64 z) ∧ CurAt w' B g A n cap zs ∧ w.grownBy w' (some g)

set_option maxHeartbeats 1600000 in
theorem drawTick_any (w : World) (B g : Nat) (A : Option Addr) (n cap : Nat) (zs : List UInt8) (hc : CurAt w B g A n cap zs) :
    Calls Try.prog 107 #[.pointer (some ⟨g, 0, none⟩)] w (IntSaid (fun z => tokB z = true) w B g A n cap zs) := by
  have HC : Hid (CurAt w B g A n cap zs) := hc
  clear hc
  go_enter Try.func107, Try.ntmps107
  go_wp2_with fail
  refine (below_any 5000 (by omega) _ B g A n cap zs HC.out).mono ?_
  rintro e w1 ⟨x, hx, _, rfl, hc1, hg1⟩
  have HX : Hid ((x : Int) < 5000) := hx (by omega)
  have H1 : Hid (CurAt w1 B g A n cap zs) := hc1
  clear hc1 hx
  go_wp2_with fail
  refine (below_any 16777216 (by omega) _ B g A n cap zs H1.out).mono ?_
  rintro e w2 ⟨y, hy, _, rfl, hc2, hg2⟩
  have HY : Hid ((y : Int) < 16777216) := hy (by omega)
  have H2 : Hid (CurAt w2 B g A n cap zs) := hc2
  clear hc2 hy
  go_wp2_with fail
  refine (pick_any [0, 1, 999, 1000, (x : Int), (y : Int), 1000000000, 999999999] w2.heap.size 8 8 rfl (by omega) (by omega) _ B g A n cap zs (H2.out.alloc _) (by have := H2.out.lt; omega) (fun j hj => lit_cells w2 _ [0, 1, 999, 1000, (x : Int), (y : Int), 1000000000, 999999999] j hj)).mono ?_
  rintro e w3 ⟨z, hz, rfl, hc3, hg3⟩
  have H3 : Hid (CurAt w3 B g A n cap zs) := hc3
  have HZ : Hid (z ∈ [0, 1, 999, 1000, (x : Int), (y : Int), 1000000000, 999999999]) := hz
  clear hc3 hz
  go_wp2
  go_ret
  refine ⟨z, ?_, rfl, H3.out, grown_trans hg1 (grown_trans hg2 (grown_trans (grown_alloc (grown_refl _ _) _) hg3))⟩
  have h1 := HX.out
  have h2 := HY.out
  have h3 := HZ.out
  simp only [List.mem_cons, List.not_mem_nil, or_false] at h3
  have : 0 ≤ z ∧ z ≤ 1000000000 := by omega
  simp [tokB, this.1, this.2]

set_option maxRecDepth 100000 in
set_option maxHeartbeats 1600000 in
theorem drawAny_any (w : World) (B g : Nat) (A : Option Addr) (n cap : Nat) (zs : List UInt8) (hc : CurAt w B g A n cap zs) :
    Calls Try.prog 65 #[.pointer (some ⟨g, 0, none⟩)] w (IntSaid (fun _ => True) w B g A n cap zs) := by
  have HC : Hid (CurAt w B g A n cap zs) := hc
  clear hc
  go_enter Try.func65, Try.ntmps65
  go_wp2_with fail
  refine (once_any 10 (by omega) _ B g A n cap zs HC.out).mono ?_
  rintro e w1 ⟨b, rfl, hc1, hg1⟩
  have H1 : Hid (CurAt w1 B g A n cap zs) := hc1
  clear hc1
  cases b
  · go_wp2_with fail
    refine (drawTick_any _ B g A n cap zs H1.out).mono ?_
    rintro e w2 ⟨z, _, rfl, hc2, hg2⟩
    have H2 : Hid (CurAt w2 B g A n cap zs) := hc2
    clear hc2
    go_wp2
    go_ret
    exact ⟨z, trivial, rfl, H2.out, grown_trans hg1 hg2⟩
  · go_wp2_with fail
    refine (pick_any [-1, 1000000001, -1000000001, 9223372036854775807, -9223372036854775808] w1.heap.size 5 5 rfl (by omega) (by omega) _ B g A n cap zs (H1.out.alloc _) (by have := H1.out.lt; omega) (fun j hj => lit_cells w1 _ [-1, 1000000001, -1000000001, 9223372036854775807, -9223372036854775808] j hj)).mono ?_
    rintro e w2 ⟨z, _, rfl, hc2, hg2⟩
    have H2 : Hid (CurAt w2 B g A n cap zs) := hc2
    clear hc2
    go_wp2
    go_ret
    exact ⟨z, trivial, rfl, H2.out, grown_trans hg1 (grown_trans (grown_alloc (grown_refl _ _) _) hg2)⟩

/-- Behind draws from a cursor that was made since w nothing of w has turned. -/
theorem below_grown {w w1 w2 : World} {g : Nat} (hb : Below w.heap.size w w1) (hg : w.heap.size ≤ g) (h : w1.grownBy w2 (some g)) : Below w.heap.size w w2 :=
  hb.grown h hb.size (fun k e => by injection e with e; omega)

end Go.Proofs.Ytpghccbknlokcaa.DrawTick
