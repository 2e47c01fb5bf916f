/-
  SLICES OF BYTES: what it is that a slice reads as a list of bytes; the contracts of the laws' toByteS, eqByteS, markByteS, heldByteS over this seat's translation.
-/
import Derived.Test.YtlghdmakaocokaaGreatDoorInts
import Derived.Laws.BitsLemmas
import Derived.Deep.AppendLies
import Derived.Maps.Range
import Derived.Lib.Hide
namespace Go.Proofs.YtlghdmakaocokaaGreatDoor.Bytes
open Go.ChangeShapes Go.WideShapes Go.ChangeAt Go.RowKit
open Go.Proofs.YtlghdmakaocokaaGreatDoor.Ints (own_lt below_drewN)
set_option linter.unusedVariables false

/-- The slice at A of length n holds the bytes bs, in a block below B. -/
def IsBytes (w : World) (B : Nat) (A : Option Addr) (n : Nat) (bs : List Int) : Prop :=
  bs.length = n ∧ (∀ x ∈ bs, 0 ≤ x ∧ x < 256) ∧ (0 < n → ∃ b off, A = some ⟨b, off, none⟩ ∧ b < B ∧ ∀ j, j < n → w.cell? ⟨b, off + j, none⟩ = some (.int .u8 (bs.getD j 0)))
theorem IsBytes.below {w w' : World} {B C : Nat} {A : Option Addr} {n : Nat} {bs : List Int} (h : IsBytes w B A n bs) (hb : Below C w w') (hC : B ≤ C) : IsBytes w' B A n bs :=
  ⟨h.1, h.2.1, fun hn => by
    obtain ⟨b, off, e, hlt, hc⟩ := h.2.2 hn
    exact ⟨b, off, e, hlt, fun j hj => (hb.cell (p := ⟨b, off + j, none⟩) (by show b < C; omega)).trans (hc j hj)⟩⟩
theorem IsBytes.more {w : World} {B C : Nat} {A : Option Addr} {n : Nat} {bs : List Int} (h : IsBytes w B A n bs) (hC : B ≤ C) : IsBytes w C A n bs :=
  ⟨h.1, h.2.1, fun hn => by
    obtain ⟨b, off, e, hlt, hc⟩ := h.2.2 hn
    exact ⟨b, off, e, by omega, hc⟩⟩
theorem IsBytes.at_ {w : World} {B : Nat} {A : Option Addr} {n k : Nat} {bs : List Int} (h : IsBytes w B A n bs) (hk : k < n) :
    ∃ b off z, A = some ⟨b, off, none⟩ ∧ b < B ∧ z = bs.getD k 0 ∧ w.cell? ⟨b, off + k, none⟩ = some (.int .u8 z) ∧ 0 ≤ z ∧ z < 256 := by
  obtain ⟨b, off, e, hlt, hc⟩ := h.2.2 (by omega)
  have hl : k < bs.length := by rw [h.1]; exact hk
  have hm := h.2.1 (bs.getD k 0) (by simp [List.getD, hl])
  exact ⟨b, off, _, e, hlt, rfl, hc k hk, hm.1, hm.2⟩
/-- A slice argument as the frame hands it reads as the list of its elements. -/
theorem isBytes_of_row {w : World} {a0 : Option Addr} {len0 cap0 : Nat} {z0 : List Int}
    (h : (a0 = none ∧ len0 = 0 ∧ cap0 = 0 ∧ z0 = []) ∨
      ∃ x, a0 = some x ∧ len0 ≤ cap0 ∧ cap0 ≤ maxLen ∧ z0.length = cap0 ∧ (∀ i, i < z0.length → w.cell? (x.add i) = some (.int .u8 (z0.getD i 0))) ∧ ∀ n ∈ z0, (Lit.int .u8 n).wf = true) :
    IsBytes w w.heap.size a0 len0 (z0.take len0) := by
  rcases h with ⟨rfl, rfl, rfl, rfl⟩ | ⟨x, rfl, hl, hm, hz, hcell, hwz⟩
  · exact ⟨rfl, fun x h => by simp at h, fun h => absurd h (by omega)⟩
  · refine ⟨by simp; omega, fun x hx => ?_, fun hp => ?_⟩
    · have h1 := hwz x (List.mem_of_mem_take hx)
      simp [Lit.wf, IntKind.min, IntKind.max, IntKind.signed, IntKind.bits] at h1
      omega
    · have h0 := hcell 0 (by omega)
      obtain ⟨b, off, spot⟩ := x
      have hspot : spot = none := by simpa [Addr.add] using World.cell?_spot h0
      subst hspot
      have hb : b < w.heap.size := by simpa [Addr.add] using World.block_lt_of_cell? w _ h0
      refine ⟨b, off, rfl, hb, fun j hj => ?_⟩
      have hj' := hcell j (by omega)
      have he : (⟨b, off, none⟩ : Addr).add j = ⟨b, off + j, none⟩ := by
        unfold Addr.add
        split
        · subst_vars; rfl
        · rfl
      rw [he] at hj'
      rw [hj']
      simp [List.getD, hj]

/-- A list of bytes of one's own, from base on. -/
def OwnB (w : World) (base : Nat) (A : Option Addr) (n c : Nat) (bs : List Int) : Prop := bs.length = n ∧ (∀ x ∈ bs, 0 ≤ x ∧ x < 256) ∧ w.ownsRow base 5 1 (.slice A n c) n (bs.map (Value.int .u8))
theorem OwnB.bytes {w : World} {base : Nat} {A : Option Addr} {n c : Nat} {bs : List Int} (h : OwnB w base A n c bs) : IsBytes w w.heap.size A n bs := by
  refine ⟨h.1, h.2.1, fun hn => ?_⟩
  obtain ⟨g, cap, hv, _, hlt⟩ := h.2.2.form hn
  have hA : A = some ⟨g, 0, none⟩ := by injection hv
  subst hA
  refine ⟨g, 0, rfl, hlt, fun j hj => ?_⟩
  rw [Nat.zero_add, h.2.2.cellAt j (by omega)]
  have hl : j < bs.length := by rw [h.1]; exact hj
  simp [List.getD, hl]
theorem OwnB.grown {w w' : World} {base : Nat} {A : Option Addr} {n c : Nat} {bs : List Int} (h : OwnB w base A n c bs) {row : Option Nat} (hg : w.grownBy w' row) (hne : (Value.slice A n c).ownBlock = none ∨ (Value.slice A n c).ownBlock ≠ row) : OwnB w' base A n c bs := ⟨h.1, h.2.1, h.2.2.kept hg hne⟩
theorem OwnB.alloc {w : World} {base : Nat} {A : Option Addr} {n c : Nat} {bs : List Int} (h : OwnB w base A n c bs) (o : Obj) : OwnB (w.alloc o) base A n c bs := ⟨h.1, h.2.1, h.2.2.alloc o⟩
theorem OwnB.below {w w' : World} {base : Nat} {A : Option Addr} {n c : Nat} {bs : List Int} (h : OwnB w base A n c bs) (hb : Below w.heap.size w w') : OwnB w' base A n c bs :=
  ⟨h.1, h.2.1, h.2.2.kept ⟨hb.os, hb.tape, hb.output, hb.size, fun i hi _ => hb.block i hi⟩ (row := none) (by cases hv : (Value.slice A n c).ownBlock <;> simp)⟩
theorem OwnB.lt {w : World} {base : Nat} {A : Option Addr} {n c : Nat} {bs : List Int} (h : OwnB w base A n c bs) : ∀ k, (Value.slice A n c).ownBlock = some k → base ≤ k ∧ k < w.heap.size := h.2.2.lt
theorem OwnB.of_append {w' : World} {base n : Nat} {v' : Value} {bs : List Int} {x : Int} (hl : bs.length = n) (hbs : ∀ y ∈ bs, 0 ≤ y ∧ y < 256) (hx : 0 ≤ x ∧ x < 256) (h : w'.ownsRow base 5 1 v' (n + 1) (bs.map (Value.int .u8) ++ [.int .u8 x])) : ∃ A c, v' = .slice A (n + 1) c ∧ OwnB w' base A (n + 1) c (bs ++ [x]) := by
  obtain ⟨g, cap, rfl, _⟩ := h.form (by omega)
  refine ⟨_, _, rfl, by simp [hl], ?_, by simpa using h⟩
  intro y hy
  rcases List.mem_append.mp hy with hy | hy
  · exact hbs y hy
  · obtain rfl : y = x := by simpa using hy
    exact hx

/-- What a copy leaves: bytes of one's own in a new block; nothing older has turned. -/
def CopiedB (w : World) (bs : List Int) (e : Ending) (w' : World) : Prop :=
  ∃ g, e = .returned (.slice (some ⟨g, 0, none⟩) bs.length bs.length) ∧ w.heap.size ≤ g ∧ OwnB w' w.heap.size (some ⟨g, 0, none⟩) bs.length bs.length bs ∧ Below w.heap.size w w'

theorem infoByte : (Tryz.prog.info? 5).map (fun i => (i.zero, i.size, i.bytes)) = some (some (.int .u8 0), 1, 1) := by kernel_rfl

def PartB (zs : List Int) (k : Nat) : List Value := (zs.take k).map (Value.int .u8) ++ List.replicate (zs.length - k) (.int .u8 0)
theorem PartB_zero (zs : List Int) : PartB zs 0 = List.replicate zs.length (.int .u8 0) := by simp [PartB]
theorem PartB_len (zs : List Int) (k : Nat) (h : k ≤ zs.length) : (PartB zs k).length = zs.length := by simp [PartB]; omega
theorem PartB_set (zs : List Int) (k : Nat) (h : k < zs.length) : (PartB zs k).set k (.int .u8 (zs.getD k 0)) = PartB zs (k + 1) := by
  unfold PartB
  apply List.ext_getElem?
  intro j
  have hl : ((zs.take k).map (Value.int .u8)).length = k := by simp; omega
  rw [List.getElem?_set]
  by_cases hj : k = j
  · subst hj
    rw [if_pos rfl]
    simp only [List.getElem?_append, List.length_map, List.length_take, List.length_append, List.length_replicate]
    rw [if_pos (by omega), if_pos (by omega)]
    simp [h]
  · rw [if_neg hj]
    simp only [List.getElem?_append, List.length_map, List.length_take]
    by_cases h1 : j < k
    · rw [if_pos (by omega), if_pos (by omega)]
      simp [h1, show j < k + 1 by omega]
    · rw [if_neg (by omega), if_neg (by omega)]
      simp only [List.getElem?_replicate]
      by_cases h2 : j < zs.length
      · rw [if_pos (by omega), if_pos (by omega)]
      · rw [if_neg (by omega), if_neg (by omega)]
theorem PartB_all (zs : List Int) : PartB zs zs.length = zs.map (Value.int .u8) := by simp [PartB]

set_option maxHeartbeats 1600000 in
theorem toByteS_any (A : Option Addr) (n cap : Nat) (zs : List Int) (B : Nat) (w : World) (hr : IsBytes w B A n zs) (hB : B ≤ w.heap.size) (hn : n ≤ 1048576) :
    Calls Tryz.prog 25 #[.slice A n cap] w (CopiedB w zs) := by
  obtain ⟨i0, hi, hz0, hz1, hz2⟩ := info_parts infoByte
  have HLen : Hid (zs.length = n) := hr.1
  have HBY := Lib.hid hr.2.1
  go_enter Tryz.func25, Tryz.ntmps25
  go_wp2_with (at_make; refine wpList_make_full _ rfl _ _ 24 rfl w.heap.size 5 i0 (.int .u8 0) 1 Tryz.underlying24 hi hz0 hz1 _ _ _ _ n rfl rfl rfl rfl ?b1 ?b2 ?b3 ?_)
  case b1 => rw [hz2]; omega
  case b2 => unfold maxLen; omega
  case b3 => exact Nat.le_refl _
  intro w1 hown hgrow
  have hbel : Below w.heap.size w w1 := (Below.refl _ _).grown hgrow (Nat.le_refl _) (by intro k h; cases h)
  have hP0 : (madeCells #[Value.int IntKind.u8 0] n).toList = PartB zs 0 := by rw [PartB_zero, toList_madeCells_one, HLen.out]
  rw [hP0] at hown
  have hsz : w.heap.size < w1.heap.size := own_lt hown
  clear hP0 hgrow hi hz0 hz1 hz2
  go_wp2_with fail
  go_loopw [4] (fun i wr => ∃ k : Nat, k ≤ n ∧ i = .int .i64 k ∧ wr.ownsRow w.heap.size 5 1 (.slice (some ⟨w.heap.size, 0, none⟩) n n) n (PartB zs k) ∧ Below w.heap.size w wr ∧ w.heap.size < wr.heap.size) (fun i _ => n - (intOf i).toNat)
  case atStart => exact ⟨0, Nat.zero_le _, rfl, hown, hbel, hsz⟩
  case round =>
    obtain ⟨k, hk, rfl, hownr, hbr, hszr⟩ := hrel
    by_cases hlt : k < n
    · obtain ⟨b, off, z, rfl, hbB, hz, hc, hz0, hz1⟩ := (hr.below hbr hB).at_ hlt
      have hcell := (hownr.cellAt k (by omega)).trans (List.getElem?_eq_getElem (by rw [PartB_len _ _ (by rw [HLen.out]; omega), HLen.out]; omega))
      have hfr := hownr.frozenAt k
      have hst := hownr.stored k (.int .u8 z)
      have HZ : Hid (z = zs.getD k 0) := hz
      clear hz
      have HS := hst
      clear hst
      go_wp2
      go_roundw
      case rel =>
        refine ⟨k + 1, by omega, by go_num, ?_, hbr.setCell (p := ⟨w.heap.size, k, none⟩) (Nat.le_refl _) _, by simpa [World.setCell] using hszr⟩
        have h1 := HS.1
        rw [HZ.out, PartB_set zs k (by rw [HLen.out]; omega)] at h1
        rw [HZ.out]
        exact h1
      case measure => simp [intOf]; omega
    · have hkn : k = n := by omega
      have HK : Hid (k = n) := hkn
      clear hkn
      go_wp2
      go_ret
      have hl := HLen.out
      refine ⟨w.heap.size, by rw [hl]; rfl, Nat.le_refl _, ⟨rfl, HBY.out, ?_⟩, hbr⟩
      have h1 := hownr
      rw [HK.out, ← hl, PartB_all] at h1
      exact h1

set_option maxHeartbeats 800000 in
theorem eqByteS_same (A C : Option Addr) (n cap cap' : Nat) (zs : List Int) (B B' : Nat) (w : World) (hr : IsBytes w B A n zs) (hs : IsBytes w B' C n zs) (hn : n ≤ 1048576) :
    Calls Tryz.prog 32 #[.slice A n cap, .slice C n cap'] w fun e w' => e = .returned (.bool true) ∧ ∃ m, w' = w.drewN m := by
  go_enter Tryz.func32, Tryz.ntmps32
  go_wp2_with fail
  go_loopw [5] (fun i wr => ∃ k m : Nat, k ≤ n ∧ i = .int .i64 k ∧ wr = w.drewN m) (fun i _ => n - (intOf i).toNat)
  case atStart => exact ⟨0, 0, Nat.zero_le _, rfl, rfl⟩
  case round =>
    obtain ⟨k, m, hk, rfl, rfl⟩ := hrel
    by_cases hlt : k < n
    · obtain ⟨b, off, z, rfl, hbB, hz, hc, hz0, hz1⟩ := hr.at_ hlt
      obtain ⟨b2, off2, z2, rfl, hbB2, hz2, hc2, hz3, hz4⟩ := hs.at_ hlt
      obtain rfl : z = z2 := by rw [hz, hz2]
      clear hz hz2 hr hs
      go_wp2
      go_quiet (fail)
      go_wp2
      go_roundw
      case rel => exact ⟨k + 1, _, by omega, by go_num, rfl⟩
      case measure => simp [intOf]; omega
    · go_wp2
      go_ret
      exact ⟨rfl, m, rfl⟩

/-- n numbers from k on, as bytes. -/
def marksB (k : Int) (n : Nat) : List Int := (List.range n).map fun (i : Nat) => (k + (i : Int)) % 256
theorem marksB_len (k : Int) (n : Nat) : (marksB k n).length = n := by simp [marksB]
theorem marksB_at (k : Int) (n j : Nat) (h : j < n) : (marksB k n).getD j 0 = (k + (j : Int)) % 256 := by simp [marksB, List.getD, h]
theorem marksB_in (k : Int) (n : Nat) : ∀ x ∈ marksB k n, 0 ≤ x ∧ x < 256 := by
  intro x hx
  simp only [marksB, List.mem_map] at hx
  obtain ⟨i, _, rfl⟩ := hx
  omega
theorem marksB_step (k : Int) (n j : Nat) (zs : List Int) (h : j < n) (hl : zs.length = n) : ((marksB k n).take j ++ zs.drop j).set j ((k + (j : Int)) % 256) = (marksB k n).take (j + 1) ++ zs.drop (j + 1) := by
  have hj : ((marksB k n).take j).length = j := by rw [List.length_take, marksB_len]; omega
  rw [List.set_append_right _ _ (by omega), hj, Nat.sub_self, List.drop_eq_getElem_cons (by omega), List.set_cons_zero, List.take_succ_eq_append_getElem (by rw [marksB_len]; exact h), List.append_assoc]
  congr 1
  simp [marksB]


end Go.Proofs.YtlghdmakaocokaaGreatDoor.Bytes
