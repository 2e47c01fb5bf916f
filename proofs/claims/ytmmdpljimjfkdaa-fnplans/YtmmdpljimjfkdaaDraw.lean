/-
  THE CURSOR OF A DRAW over this seat's translation: what it is, and that a byte, a number below a bound and a pick come out of it, whatever the code; only the cursor's own block and new ones turn.
-/
import Derived.Test.YtmmdpljimjfkdaaInts
import Derived.Test.YtmmdpljimjfkdaaTick
import Derived.Laws.BitsAllLaws
import Derived.Laws.BitsLemmas
import Derived.Lib.Hide
namespace Go.Proofs.Ytmmdpljimjfkdaa.Draw
open Go.ChangeShapes Go.WideShapes Go.ChangeAt Go.RowKit
open Go.Proofs.Ytmmdpljimjfkdaa.Ints Go.Proofs.Ytmmdpljimjfkdaa.Tick
set_option linter.unusedVariables false

/-- The slice at A of length n holds bytes, in a block below B. -/
def IsBytes (w : World) (B : Nat) (A : Option Addr) (n : Nat) (zs : List UInt8) : Prop :=
  zs.length = n ∧ (0 < n → ∃ b off, A = some ⟨b, off, none⟩ ∧ b < B ∧ ∀ j, j < n → w.cell? ⟨b, off + j, none⟩ = some (.int .u8 ((zs.getD j 0).toNat : Int)))
theorem IsBytes.keep {w w' : World} {B : Nat} {A : Option Addr} {n : Nat} {zs : List UInt8} (h : IsBytes w B A n zs) (hk : ∀ p : Addr, p.block < B → w'.cell? p = w.cell? p) : IsBytes w' B A n zs :=
  ⟨h.1, fun hn => by
    obtain ⟨b, off, e, hlt, hc⟩ := h.2 hn
    exact ⟨b, off, e, hlt, fun j hj => (hk ⟨b, off + j, none⟩ hlt).trans (hc j hj)⟩⟩
theorem IsBytes.at_ {w : World} {B : Nat} {A : Option Addr} {n k : Nat} {zs : List UInt8} (h : IsBytes w B A n zs) (hk : k < n) :
    ∃ b off c, A = some ⟨b, off, none⟩ ∧ b < B ∧ c = zs.getD k 0 ∧ w.cell? ⟨b, off + k, none⟩ = some (.int .u8 ((c : UInt8).toNat : Int)) := by
  obtain ⟨b, off, e, hlt, hc⟩ := h.2 (by omega)
  exact ⟨b, off, _, e, hlt, rfl, hc k hk⟩

/-- Block g is a cursor over the bytes zs, which lie below B; B ≤ g. -/
structure Cur (w : World) (B g : Nat) (A : Option Addr) (n cap i : Nat) (h : Int) (zs : List UInt8) : Prop where
  blk : w.heap[g]? = some (.cells #[.slice A n cap, .int .i64 i, .int .i64 h] 116 (0, 0))
  le : i ≤ n
  small : n ≤ 1048576
  bytes : IsBytes w B A n zs
  ge : B ≤ g

/-- Some cursor, at whatever place. -/
def CurAt (w : World) (B g : Nat) (A : Option Addr) (n cap : Nat) (zs : List UInt8) : Prop := ∃ i h, Cur w B g A n cap i h zs

theorem and_le (x : Int) : ∃ m : Nat, m ≤ 255 ∧ bits .and .i64 x 255 = (m : Int) := by
  refine ⟨(BitVec.ofInt 64 x &&& BitVec.ofInt 64 255).toNat, ?_, ?_⟩
  · rw [BitVec.toNat_and]
    exact Nat.le_trans Nat.and_le_right (by decide)
  · have hx : (BitVec.ofInt 64 x &&& BitVec.ofInt 64 255).toNat ≤ 255 := by
      rw [BitVec.toNat_and]
      exact Nat.le_trans Nat.and_le_right (by decide)
    show IntKind.i64.wrap ((BitVec.ofInt 64 x &&& BitVec.ofInt 64 255).toNat : Int) = _
    rw [IntKind.wrap_i64]
    omega

theorem cells3 {w : World} {g : Nat} {a b c : Value} {t : TypeId} (h : w.heap[g]? = some (.cells #[a, b, c] t (0, 0))) :
    w.cell? ⟨g, 0, none⟩ = some a ∧ w.cell? ⟨g, 1, none⟩ = some b ∧ w.cell? ⟨g, 2, none⟩ = some c ∧ (∀ i, w.frozen? ⟨g, i, none⟩ = false) := by
  refine ⟨?_, ?_, ?_, fun i => ?_⟩ <;> simp [World.cell?, World.frozen?, h]

theorem blk_lt {w : World} {g : Nat} {o : Obj} (h : w.heap[g]? = some o) : g < w.heap.size := (Array.getElem?_eq_some_iff.1 h).1
theorem grown_set (w : World) (g k : Nat) (u : Value) : w.grownBy (w.setCell ⟨g, k, none⟩ u) (some g) :=
  ⟨rfl, rfl, rfl, by simp [World.setCell], fun j _ hne => Below.heap_setCell w ⟨g, k, none⟩ u j (fun e => hne (by rw [e]))⟩
theorem grown_trans {a b c : World} {r : Option Nat} (h : a.grownBy b r) (k : b.grownBy c r) : a.grownBy c r :=
  ⟨k.os.trans h.os, k.tape.trans h.tape, k.output.trans h.output, Nat.le_trans h.size k.size, fun i hi hn => (k.block i (Nat.lt_of_lt_of_le hi h.size) hn).trans (h.block i hi hn)⟩
theorem grown_drewN {a w : World} {r : Option Nat} (h : a.grownBy w r) (n : Nat) : a.grownBy (w.drewN n) r := ⟨h.os, h.tape, h.output, h.size, h.block⟩

set_option maxHeartbeats 1600000 in
theorem byte_any (w : World) (B g : Nat) (A : Option Addr) (n cap i : Nat) (h : Int) (zs : List UInt8) (hc : Cur w B g A n cap i h zs) :
    Calls Try.prog 101 #[.pointer (some ⟨g, 0, none⟩)] w fun e w' => ∃ x : Nat, x ≤ 255 ∧ e = .returned (.int .i64 x) ∧ CurAt w' B g A n cap zs ∧ w.grownBy w' (some g) := by
  obtain ⟨c0, c1, c2, hf⟩ := cells3 hc.blk
  have f1 := hf 1
  have f2 := hf 2
  have f0 := hf 0
  go_enter Try.func101, Try.ntmps101
  go_wp2_with fail
  generalize wrap64 (wrap64 (h * 6364136223846793005) + 1442695040888963407) = h2
  generalize wrap64 (h * 6364136223846793005) = h1
  have hblk1 := heap_setCell_same w g 2 _ _ (.int .i64 h2) hc.blk
  have hgr1 : w.grownBy (w.setCell ⟨g, 2, none⟩ (.int .i64 h2)) (some g) := grown_set w g 2 _
  generalize w.setCell ⟨g, 2, none⟩ (.int .i64 h2) = W1 at hblk1 hgr1 ⊢
  clear c0 c1 c2 hf f0 f1 f2
  obtain ⟨c0, c1, c2, hf⟩ := cells3 (show W1.heap[g]? = some (.cells #[.slice A n cap, .int .i64 i, .int .i64 h2] 116 (0, 0)) from hblk1)
  have f1 := hf 1
  clear hf
  go_quiet (fail)
  obtain ⟨m, hm, hme⟩ := and_le (bits BinOp.xor IntKind.i64 (h2 / 8589934592) (h2 / 35184372088832))
  rw [hme]
  clear hme
  have hbt : IsBytes W1 B A n zs := hc.bytes.keep fun p hp => World.cell?_of_block (hgr1.block p.block (by have := hc.ge; have := blk_lt hc.blk; omega) (fun e => by have := hc.ge; injection e with e; omega))
  have hle := hc.le
  have hsm := hc.small
  by_cases hin : i < n
  · obtain ⟨b, off, c, rfl, hbB, hcz, hcb⟩ := hbt.at_ hin
    clear hcz
    go_wp2_with fail
    go_quiet (fail)
    go_wp2_with fail
    go_quiet (fail)
    obtain ⟨m2, hm2, hme2⟩ := and_le (wrap64 ((m : Int) + wrap64 (c.toNat : Int)))
    rw [hme2]
    clear hme2
    have hblk2 := heap_setCell_same W1 g 1 _ _ (.int .i64 ((i + 1 : Nat) : Int)) hblk1
    have hgr2 := grown_set W1 g 1 (.int .i64 ((i + 1 : Nat) : Int))
    have hbt2 : IsBytes (W1.setCell ⟨g, 1, none⟩ (.int .i64 ((i + 1 : Nat) : Int))) B (some ⟨b, off, none⟩) n zs := hbt.keep fun p hp => World.cell?_setCell_other W1 ⟨g, 1, none⟩ p _ (fun e => by have := hc.ge; subst e; simp at hp; omega)
    have HB2 := Lib.hid hblk2
    clear hblk2
    go_wp2
    go_ret
    exact ⟨m2, hm2, rfl, ⟨i + 1, h2, ⟨HB2.out, by omega, hsm, hbt2, hc.ge⟩⟩, grown_trans hgr1 ⟨rfl, rfl, rfl, hgr2.size, hgr2.block⟩⟩
  · go_wp2_with fail
    go_quiet (fail)
    go_wp2
    go_ret
    exact ⟨m, hm, rfl, ⟨i, h2, ⟨hblk1, hle, hsm, hbt, hc.ge⟩⟩, grown_drewN (grown_drewN hgr1 _) _⟩

theorem grown_alloc {a w : World} {r : Option Nat} (h : a.grownBy w r) (o : Obj) : a.grownBy (w.alloc o) r :=
  ⟨h.os, h.tape, h.output, Nat.le_trans h.size (by simp), fun i hi hne => (Below.heap_alloc w o i (Nat.lt_of_lt_of_le hi h.size)).trans (h.block i hi hne)⟩
theorem grown_refl (w : World) (r : Option Nat) : w.grownBy w r := ⟨rfl, rfl, rfl, Nat.le_refl _, fun _ _ _ => rfl⟩
theorem CurAt.alloc {w : World} {B g : Nat} {A : Option Addr} {n cap : Nat} {zs : List UInt8} (h : CurAt w B g A n cap zs) (o : Obj) : CurAt (w.alloc o) B g A n cap zs := by
  obtain ⟨i, k, hc⟩ := h
  have hl := blk_lt hc.blk
  refine ⟨i, k, ⟨(Below.heap_alloc w o g hl).trans hc.blk, hc.le, hc.small, hc.bytes.keep fun p hp => World.cell?_alloc_lt w o p (by have := hc.ge; omega), hc.ge⟩⟩
/-- A cursor is still one behind whatever turned no block that was there. -/
theorem CurAt.below {w w' : World} {B g : Nat} {A : Option Addr} {n cap : Nat} {zs : List UInt8} (h : CurAt w B g A n cap zs) (hb : Below w.heap.size w w') : CurAt w' B g A n cap zs := by
  obtain ⟨i, k, hc⟩ := h
  have hl := blk_lt hc.blk
  exact ⟨i, k, ⟨(hb.block g hl).trans hc.blk, hc.le, hc.small, hc.bytes.keep fun p hp => hb.cell (by have := hc.ge; omega), hc.ge⟩⟩
theorem CurAt.lt {w : World} {B g : Nat} {A : Option Addr} {n cap : Nat} {zs : List UInt8} (h : CurAt w B g A n cap zs) : g < w.heap.size := by
  obtain ⟨i, k, hc⟩ := h; exact blk_lt hc.blk

/-- A number below m (0 where m is not above 0), drawn. -/
def BelowSaid (m : Int) (w : World) (B g : Nat) (A : Option Addr) (n cap : Nat) (zs : List UInt8) (e : Ending) (w' : World) : Prop :=
  ∃ x : Nat, (0 < m → (x : Int) < m) ∧ (m ≤ 0 → x = 0) ∧ e = .returned (.int .i64 x) ∧ CurAt w' B g A n cap zs ∧ w.grownBy w' (some g)

set_option maxHeartbeats 1600000 in
theorem below_any (m : Int) (hm : m ≤ 1000000000) (w : World) (B g : Nat) (A : Option Addr) (n cap : Nat) (zs : List UInt8) (hc : CurAt w B g A n cap zs) :
    Calls Try.prog 77 #[.pointer (some ⟨g, 0, none⟩), .int .i64 m] w (BelowSaid m w B g A n cap zs) := by
  have HC : Hid (CurAt w B g A n cap zs) := hc
  clear hc
  by_cases h0 : m ≤ 0
  · go_enter Try.func77, Try.ntmps77
    go_wp2_with fail
    go_ret
    exact ⟨0, fun h => by omega, fun _ => rfl, rfl, HC.out, grown_refl _ _⟩
  · by_cases h1 : m ≤ 256
    · obtain ⟨i, h, hcur⟩ := HC.out
      have HCU : Hid (Cur w B g A n cap i h zs) := hcur
      clear hcur
      go_enter Try.func77, Try.ntmps77
      go_wp2_with fail
      refine (byte_any _ B g A n cap i h zs HCU.out).mono ?_
      rintro e w1 ⟨x, hx, rfl, hc1, hg1⟩
      have H1 : Hid (CurAt w1 B g A n cap zs) := hc1
      clear hc1
      have hne : (m == 0) = false := by rw [beq_eq_false_iff_ne]; omega
      go_wp2
      go_ret
      exact ⟨((x : Int) % m).toNat, fun _ => by have := Int.emod_lt_of_pos (x : Int) (show 0 < m by omega); have := Int.emod_nonneg (x : Int) (show m ≠ 0 by omega); omega, fun h => by omega, ret_int (by have := Int.emod_nonneg (x : Int) (show m ≠ 0 by omega); omega), H1.out, hg1⟩
    · obtain ⟨i, h, hcur⟩ := HC.out
      have HCU : Hid (Cur w B g A n cap i h zs) := hcur
      clear hcur
      go_enter Try.func77, Try.ntmps77
      go_wp2_with fail
      refine (byte_any _ B g A n cap i h zs HCU.out).mono ?_
      rintro e w1 ⟨x, hx, rfl, hc1, hg1⟩
      obtain ⟨i1, k1, hcur⟩ := hc1
      have HC1 : Hid (Cur w1 B g A n cap i1 k1 zs) := hcur
      clear hcur
      go_wp2_with fail
      refine (byte_any _ B g A n cap i1 k1 zs HC1.out).mono ?_
      rintro e w2 ⟨y, hy, rfl, hc2, hg2⟩
      obtain ⟨i2, k2, hcur⟩ := hc2
      have HC2 : Hid (Cur w2 B g A n cap i2 k2 zs) := hcur
      clear hcur
      go_wp2_with fail
      refine (byte_any _ B g A n cap i2 k2 zs HC2.out).mono ?_
      rintro e w3 ⟨z, hz, rfl, hc3, hg3⟩
      have H3 : Hid (CurAt w3 B g A n cap zs) := hc3
      clear hc3
      have hne : (m == 0) = false := by rw [beq_eq_false_iff_ne]; omega
      go_wp2
      go_ret
      have hp := Int.emod_lt_of_pos ((x : Int) * 65536 + (y : Int) * 256 + (z : Int)) (show 0 < m by omega)
      have hq := Int.emod_nonneg ((x : Int) * 65536 + (y : Int) * 256 + (z : Int)) (show m ≠ 0 by omega)
      exact ⟨(((x : Int) * 65536 + (y : Int) * 256 + (z : Int)) % m).toNat, fun _ => by omega, fun h => by omega, ret_int (by omega), H3.out, grown_trans hg1 (grown_trans hg2 hg3)⟩
end Go.Proofs.Ytmmdpljimjfkdaa.Draw
