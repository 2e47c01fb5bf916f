/-
  DRAWS over this seat's translation: a cursor is made; one in so many; a pick out of a list.
-/
import Derived.Test.YtmmdpljimjfkdaaDraw
namespace Go.Proofs.Ytmmdpljimjfkdaa.Draw
open Go.ChangeShapes Go.WideShapes Go.ChangeAt Go.RowKit
open Go.Proofs.Ytmmdpljimjfkdaa.Ints Go.Proofs.Ytmmdpljimjfkdaa.Tick
set_option linter.unusedVariables false

/-- A slice of bytes as the frame hands it reads as bytes. -/
theorem isBytes_of_row {w : World} {a0 : Option Addr} {len0 cap0 : Nat} {z0 : List Int}
    (h : (a0 = none ∧ len0 = 0 ∧ cap0 = 0 ∧ z0 = []) ∨
      ∃ x, a0 = some x ∧ len0 ≤ cap0 ∧ cap0 ≤ maxLen ∧ z0.length = cap0 ∧ (∀ i, i < z0.length → w.cell? (x.add i) = some (.int .u8 (z0.getD i 0))) ∧ ∀ n ∈ z0, (Lit.int .u8 n).wf = true) :
    IsBytes w w.heap.size a0 len0 ((z0.take len0).map fun z => UInt8.ofNat z.toNat) := by
  rcases h with ⟨rfl, rfl, rfl, rfl⟩ | ⟨x, rfl, hl, hm, hz, hcell, hwz⟩
  · exact ⟨rfl, fun h => absurd h (by omega)⟩
  · refine ⟨by simp; omega, fun hp => ?_⟩
    have h0 := hcell 0 (by omega)
    obtain ⟨b, off, spot⟩ := x
    have hspot : spot = none := by simpa [Addr.add] using World.cell?_spot h0
    subst hspot
    have hb : b < w.heap.size := by simpa [Addr.add] using World.block_lt_of_cell? w _ h0
    refine ⟨b, off, rfl, hb, fun j hj => ?_⟩
    have hj' := hcell j (by omega)
    have he : (⟨b, off, none⟩ : Addr).add j = ⟨b, off + j, none⟩ := by
      unfold Addr.add
      split
      · subst_vars; rfl
      · rfl
    rw [he] at hj'
    rw [hj']
    have hjz : j < z0.length := by omega
    have hbd := bounds_u8 (hwz (z0[j]) (List.getElem_mem hjz))
    have hv : ((z0.take len0).map fun z => UInt8.ofNat z.toNat).getD j 0 = UInt8.ofNat (z0[j]).toNat := by
      simp [List.getD, hj, hjz]
    rw [hv]
    have hg : z0.getD j 0 = z0[j] := by simp [List.getD, hjz]
    rw [hg]
    have : (UInt8.ofNat (z0[j]).toNat).toNat = (z0[j]).toNat := by simp; omega
    rw [this]
    congr 2
    omega

def NewSaid (w : World) (B : Nat) (A : Option Addr) (n cap : Nat) (zs : List UInt8) (e : Ending) (w' : World) : Prop :=
  ∃ g, e = .returned (.pointer (some ⟨g, 0, none⟩)) ∧ w.heap.size ≤ g ∧ CurAt w' B g A n cap zs ∧ Below w.heap.size w w'

set_option maxRecDepth 100000 in
set_option maxHeartbeats 1600000 in
theorem new_any (w : World) (B : Nat) (hB : B ≤ w.heap.size) (A : Option Addr) (n cap : Nat) (zs : List UInt8) (hb : IsBytes w B A n zs) (hn : n ≤ 1048576) :
    Calls Try.prog 73 #[.slice A n cap] w (NewSaid w B A n cap zs) := by
  go_enter Try.func73, Try.ntmps73
  go_wp2_with fail
  go_loop [3, 4] (fun x i => ∃ (k : Nat) (h : Int), k ≤ n ∧ i = .int .i64 k ∧ x = .int .i64 h) (fun _ i => n - (intOf i).toNat)
  case atStart => exact ⟨0, _, Nat.zero_le _, rfl, rfl⟩
  case round =>
    obtain ⟨k, h, hk, rfl, rfl⟩ := hrel
    by_cases hkn : k < n
    · by_cases h4 : k < 4000
      · obtain ⟨b, off, c, rfl, hbB, hcz, hcb⟩ := hb.at_ hkn
        clear hcz
        go_wp2
        go_round
        case rel => exact ⟨k + 1, _, by omega, by go_num, rfl⟩
        case measure => simp [intOf]; omega
      · go_wp2
        go_ret
        exact ⟨w.heap.size, rfl, Nat.le_refl _, ⟨0, h, ⟨heap_alloc_new w _, by omega, hn, hb.keep fun p hp => World.cell?_alloc_lt w _ p (by omega), hB⟩⟩, (Below.refl _ _).alloc (Nat.le_refl _) _⟩
    · go_wp2
      go_ret
      exact ⟨w.heap.size, rfl, Nat.le_refl _, ⟨0, h, ⟨heap_alloc_new w _, by omega, hn, hb.keep fun p hp => World.cell?_alloc_lt w _ p (by omega), hB⟩⟩, (Below.refl _ _).alloc (Nat.le_refl _) _⟩

def OnceSaid (w : World) (B g : Nat) (A : Option Addr) (n cap : Nat) (zs : List UInt8) (e : Ending) (w' : World) : Prop :=
  ∃ b : Bool, e = .returned (.bool b) ∧ CurAt w' B g A n cap zs ∧ w.grownBy w' (some g)
theorem once_any (m : Int) (hm : m ≤ 1000000000) (w : World) (B g : Nat) (A : Option Addr) (n cap : Nat) (zs : List UInt8) (hc : CurAt w B g A n cap zs) :
    Calls Try.prog 75 #[.pointer (some ⟨g, 0, none⟩), .int .i64 m] w (OnceSaid w B g A n cap zs) := by
  have HC : Hid (CurAt w B g A n cap zs) := hc
  clear hc
  go_enter Try.func75, Try.ntmps75
  go_wp2_with fail
  refine (below_any m hm _ B g A n cap zs HC.out).mono ?_
  rintro e w1 ⟨x, _, _, rfl, hc1, hg1⟩
  have H1 : Hid (CurAt w1 B g A n cap zs) := hc1
  clear hc1
  go_wp2
  go_ret
  exact ⟨_, rfl, H1.out, hg1⟩

def PickSaid (l : List Int) (w : World) (B g : Nat) (A : Option Addr) (n cap : Nat) (zs : List UInt8) (e : Ending) (w' : World) : Prop :=
  ∃ z : Int, z ∈ l ∧ e = .returned (.int .i64 z) ∧ CurAt w' B g A n cap zs ∧ w.grownBy w' (some g)
set_option maxHeartbeats 1600000 in
/-- A pick out of a list that lies whole in a block of its own. -/
theorem pick_any (l : List Int) (L k c : Nat) (hk : l.length = k) (h1 : 1 ≤ k) (h2 : k ≤ 1000) (w : World) (B g : Nat) (A : Option Addr) (n cap : Nat) (zs : List UInt8) (hc : CurAt w B g A n cap zs) (hL : L ≠ g)
    (hcell : ∀ j, j < k → w.cell? ⟨L, j, none⟩ = some (.int .i64 (l.getD j 0))) :
    Calls Try.prog 46 #[.pointer (some ⟨g, 0, none⟩), .slice (some ⟨L, 0, none⟩) k c] w (PickSaid l w B g A n cap zs) := by
  have HC : Hid (CurAt w B g A n cap zs) := hc
  have HL : Hid (∀ j, j < k → w.cell? ⟨L, j, none⟩ = some (.int .i64 (l.getD j 0))) := hcell
  have HK : Hid (l.length = k) := hk
  clear hc hcell hk
  go_enter Try.func46, Try.ntmps46
  go_wp2_with fail
  refine (below_any (k : Int) (by omega) _ B g A n cap zs HC.out).mono ?_
  rintro e w1 ⟨x, hx, _, rfl, hc1, hg1⟩
  have H1 : Hid (CurAt w1 B g A n cap zs) := hc1
  clear hc1
  have hxk : x < k := by have := hx (by omega); omega
  clear hx
  have hcx : w1.cell? ⟨L, x, none⟩ = some (.int .i64 (l.getD x 0)) := by
    have h0 := HL.out x hxk
    have hlt := World.block_lt_of_cell? w _ h0
    exact (World.cell?_of_block (hg1.block L hlt (fun e => hL (by injection e)))).trans h0
  obtain ⟨z, hz⟩ : ∃ z, z = l.getD x 0 := ⟨_, rfl⟩
  rw [← hz] at hcx
  have HZ : Hid (z = l.getD x 0) := hz
  clear hz
  go_wp2
  go_ret
  refine ⟨z, ?_, rfl, H1.out, hg1⟩
  have hxl : x < l.length := by rw [HK.out]; exact hxk
  rw [HZ.out]
  have : l.getD x 0 = l[x] := by simp [List.getD, hxl]
  rw [this]
  exact List.getElem_mem hxl
end Go.Proofs.Ytmmdpljimjfkdaa.Draw
