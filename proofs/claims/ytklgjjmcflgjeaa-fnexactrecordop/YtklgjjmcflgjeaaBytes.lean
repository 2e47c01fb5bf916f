/-
  SLICES OF BYTES: what it is that a slice reads as a list of bytes; the contracts of the laws' toByteS, eqByteS, markByteS, heldByteS over this seat's translation.
-/
import Derived.Test.YtklgjjmcflgjeaaInts
import Derived.Laws.BitsLemmas
import Derived.Deep.AppendLies
import Derived.Maps.Range
import Derived.Lib.Hide
namespace Go.Proofs.Ytklgjjmcflgjeaa.Bytes
open Go.ChangeShapes Go.WideShapes Go.ChangeAt Go.RowKit
open Go.Proofs.Ytklgjjmcflgjeaa.Ints (own_lt below_drewN)
set_option linter.unusedVariables false

/-- The slice at A of length n holds the bytes bs, in a block below B. -/
def IsBytes (w : World) (B : Nat) (A : Option Addr) (n : Nat) (bs : List Int) : Prop :=
  bs.length = n ∧ (∀ x ∈ bs, 0 ≤ x ∧ x < 256) ∧ (0 < n → ∃ b off, A = some ⟨b, off, none⟩ ∧ b < B ∧ ∀ j, j < n → w.cell? ⟨b, off + j, none⟩ = some (.int .u8 (bs.getD j 0)))
theorem IsBytes.below {w w' : World} {B C : Nat} {A : Option Addr} {n : Nat} {bs : List Int} (h : IsBytes w B A n bs) (hb : Below C w w') (hC : B ≤ C) : IsBytes w' B A n bs :=
  ⟨h.1, h.2.1, fun hn => by
    obtain ⟨b, off, e, hlt, hc⟩ := h.2.2 hn
    exact ⟨b, off, e, hlt, fun j hj => (hb.cell (p := ⟨b, off + j, none⟩) (by show b < C; omega)).trans (hc j hj)⟩⟩
theorem IsBytes.more {w : World} {B C : Nat} {A : Option Addr} {n : Nat} {bs : List Int} (h : IsBytes w B A n bs) (hC : B ≤ C) : IsBytes w C A n bs :=
  ⟨h.1, h.2.1, fun hn => by
    obtain ⟨b, off, e, hlt, hc⟩ := h.2.2 hn
    exact ⟨b, off, e, by omega, hc⟩⟩
theorem IsBytes.at_ {w : World} {B : Nat} {A : Option Addr} {n k : Nat} {bs : List Int} (h : IsBytes w B A n bs) (hk : k < n) :
    ∃ b off z, A = some ⟨b, off, none⟩ ∧ b < B ∧ z = bs.getD k 0 ∧ w.cell? ⟨b, off + k, none⟩ = some (.int .u8 z) ∧ 0 ≤ z ∧ z < 256 := by
  obtain ⟨b, off, e, hlt, hc⟩ := h.2.2 (by omega)
  have hl : k < bs.length := by rw [h.1]; exact hk
  have hm := h.2.1 (bs.getD k 0) (by simp [List.getD, hl])
  exact ⟨b, off, _, e, hlt, rfl, hc k hk, hm.1, hm.2⟩
/-- A slice argument as the frame hands it reads as the list of its elements. -/
theorem isBytes_of_row {w : World} {a0 : Option Addr} {len0 cap0 : Nat} {z0 : List Int}
    (h : (a0 = none ∧ len0 = 0 ∧ cap0 = 0 ∧ z0 = []) ∨
      ∃ x, a0 = some x ∧ len0 ≤ cap0 ∧ cap0 ≤ maxLen ∧ z0.length = cap0 ∧ (∀ i, i < z0.length → w.cell? (x.add i) = some (.int .u8 (z0.getD i 0))) ∧ ∀ n ∈ z0, (Lit.int .u8 n).wf = true) :
    IsBytes w w.heap.size a0 len0 (z0.take len0) := by
  rcases h with ⟨rfl, rfl, rfl, rfl⟩ | ⟨x, rfl, hl, hm, hz, hcell, hwz⟩
  · exact ⟨rfl, fun x h => by simp at h, fun h => absurd h (by omega)⟩
  · refine ⟨by simp; omega, fun x hx => ?_, fun hp => ?_⟩
    · have h1 := hwz x (List.mem_of_mem_take hx)
      simp [Lit.wf, IntKind.min, IntKind.max, IntKind.signed, IntKind.bits] at h1
      omega
    · have h0 := hcell 0 (by omega)
      obtain ⟨b, off, spot⟩ := x
      have hspot : spot = none := by simpa [Addr.add] using World.cell?_spot h0
      subst hspot
      have hb : b < w.heap.size := by simpa [Addr.add] using World.block_lt_of_cell? w _ h0
      refine ⟨b, off, rfl, hb, fun j hj => ?_⟩
      have hj' := hcell j (by omega)
      have he : (⟨b, off, none⟩ : Addr).add j = ⟨b, off + j, none⟩ := by
        unfold Addr.add
        split
        · subst_vars; rfl
        · rfl
      rw [he] at hj'
      rw [hj']
      simp [List.getD, hj]

/-- A list of bytes of one's own, from base on. -/
def OwnB (w : World) (base : Nat) (A : Option Addr) (n c : Nat) (bs : List Int) : Prop := bs.length = n ∧ (∀ x ∈ bs, 0 ≤ x ∧ x < 256) ∧ w.ownsRow base 5 1 (.slice A n c) n (bs.map (Value.int .u8))
theorem OwnB.bytes {w : World} {base : Nat} {A : Option Addr} {n c : Nat} {bs : List Int} (h : OwnB w base A n c bs) : IsBytes w w.heap.size A n bs := by
  refine ⟨h.1, h.2.1, fun hn => ?_⟩
  obtain ⟨g, cap, hv, _, hlt⟩ := h.2.2.form hn
  have hA : A = some ⟨g, 0, none⟩ := by injection hv
  subst hA
  refine ⟨g, 0, rfl, hlt, fun j hj => ?_⟩
  rw [Nat.zero_add, h.2.2.cellAt j (by omega)]
  have hl : j < bs.length := by rw [h.1]; exact hj
  simp [List.getD, hl]
theorem OwnB.grown {w w' : World} {base : Nat} {A : Option Addr} {n c : Nat} {bs : List Int} (h : OwnB w base A n c bs) {row : Option Nat} (hg : w.grownBy w' row) (hne : (Value.slice A n c).ownBlock = none ∨ (Value.slice A n c).ownBlock ≠ row) : OwnB w' base A n c bs := ⟨h.1, h.2.1, h.2.2.kept hg hne⟩
theorem OwnB.alloc {w : World} {base : Nat} {A : Option Addr} {n c : Nat} {bs : List Int} (h : OwnB w base A n c bs) (o : Obj) : OwnB (w.alloc o) base A n c bs := ⟨h.1, h.2.1, h.2.2.alloc o⟩
theorem OwnB.below {w w' : World} {base : Nat} {A : Option Addr} {n c : Nat} {bs : List Int} (h : OwnB w base A n c bs) (hb : Below w.heap.size w w') : OwnB w' base A n c bs :=
  ⟨h.1, h.2.1, h.2.2.kept ⟨hb.os, hb.tape, hb.output, hb.size, fun i hi _ => hb.block i hi⟩ (row := none) (by cases hv : (Value.slice A n c).ownBlock <;> simp)⟩
theorem OwnB.lt {w : World} {base : Nat} {A : Option Addr} {n c : Nat} {bs : List Int} (h : OwnB w base A n c bs) : ∀ k, (Value.slice A n c).ownBlock = some k → base ≤ k ∧ k < w.heap.size := h.2.2.lt
theorem OwnB.of_append {w' : World} {base n : Nat} {v' : Value} {bs : List Int} {x : Int} (hl : bs.length = n) (hbs : ∀ y ∈ bs, 0 ≤ y ∧ y < 256) (hx : 0 ≤ x ∧ x < 256) (h : w'.ownsRow base 5 1 v' (n + 1) (bs.map (Value.int .u8) ++ [.int .u8 x])) : ∃ A c, v' = .slice A (n + 1) c ∧ OwnB w' base A (n + 1) c (bs ++ [x]) := by
  obtain ⟨g, cap, rfl, _⟩ := h.form (by omega)
  refine ⟨_, _, rfl, by simp [hl], ?_, by simpa using h⟩
  intro y hy
  rcases List.mem_append.mp hy with hy | hy
  · exact hbs y hy
  · obtain rfl : y = x := by simpa using hy
    exact hx

/-- What a copy leaves: bytes of one's own in a new block; nothing older has turned. -/
def CopiedB (w : World) (bs : List Int) (e : Ending) (w' : World) : Prop :=
  ∃ g, e = .returned (.slice (some ⟨g, 0, none⟩) bs.length bs.length) ∧ w.heap.size ≤ g ∧ OwnB w' w.heap.size (some ⟨g, 0, none⟩) bs.length bs.length bs ∧ Below w.heap.size w w'

theorem infoByte : (Try.prog.info? 5).map (fun i => (i.zero, i.size, i.bytes)) = some (some (.int .u8 0), 1, 1) := by kernel_rfl

def PartB (zs : List Int) (k : Nat) : List Value := (zs.take k).map (Value.int .u8) ++ List.replicate (zs.length - k) (.int .u8 0)
theorem PartB_zero (zs : List Int) : PartB zs 0 = List.replicate zs.length (.int .u8 0) := by simp [PartB]
theorem PartB_len (zs : List Int) (k : Nat) (h : k ≤ zs.length) : (PartB zs k).length = zs.length := by simp [PartB]; omega
theorem PartB_set (zs : List Int) (k : Nat) (h : k < zs.length) : (PartB zs k).set k (.int .u8 (zs.getD k 0)) = PartB zs (k + 1) := by
  unfold PartB
  apply List.ext_getElem?
  intro j
  have hl : ((zs.take k).map (Value.int .u8)).length = k := by simp; omega
  rw [List.getElem?_set]
  by_cases hj : k = j
  · subst hj
    rw [if_pos rfl]
    simp only [List.getElem?_append, List.length_map, List.length_take, List.length_append, List.length_replicate]
    rw [if_pos (by omega), if_pos (by omega)]
    simp [h]
  · rw [if_neg hj]
    simp only [List.getElem?_append, List.length_map, List.length_take]
    by_cases h1 : j < k
    · rw [if_pos (by omega), if_pos (by omega)]
      simp [h1, show j < k + 1 by omega]
    · rw [if_neg (by omega), if_neg (by omega)]
      simp only [List.getElem?_replicate]
      by_cases h2 : j < zs.length
      · rw [if_pos (by omega), if_pos (by omega)]
      · rw [if_neg (by omega), if_neg (by omega)]
theorem PartB_all (zs : List Int) : PartB zs zs.length = zs.map (Value.int .u8) := by simp [PartB]


set_option maxHeartbeats 800000 in
theorem eqByteS_same (A C : Option Addr) (n cap cap' : Nat) (zs : List Int) (B B' : Nat) (w : World) (hr : IsBytes w B A n zs) (hs : IsBytes w B' C n zs) (hn : n ≤ 1048576) :
    Calls Try.prog 45 #[.slice A n cap, .slice C n cap'] w fun e w' => e = .returned (.bool true) ∧ ∃ m, w' = w.drewN m := by
  go_enter Try.func45, Try.ntmps45
  go_wp2_with fail
  go_loopw [5] (fun i wr => ∃ k m : Nat, k ≤ n ∧ i = .int .i64 k ∧ wr = w.drewN m) (fun i _ => n - (intOf i).toNat)
  case atStart => exact ⟨0, 0, Nat.zero_le _, rfl, rfl⟩
  case round =>
    obtain ⟨k, m, hk, rfl, rfl⟩ := hrel
    by_cases hlt : k < n
    · obtain ⟨b, off, z, rfl, hbB, hz, hc, hz0, hz1⟩ := hr.at_ hlt
      obtain ⟨b2, off2, z2, rfl, hbB2, hz2, hc2, hz3, hz4⟩ := hs.at_ hlt
      obtain rfl : z = z2 := by rw [hz, hz2]
      clear hz hz2 hr hs
      go_wp2
      go_quiet (fail)
      go_wp2
      go_roundw
      case rel => exact ⟨k + 1, _, by omega, by go_num, rfl⟩
      case measure => simp [intOf]; omega
    · go_wp2
      go_ret
      exact ⟨rfl, m, rfl⟩

/-- n numbers from k on, as bytes. -/
def marksB (k : Int) (n : Nat) : List Int := (List.range n).map fun (i : Nat) => (k + (i : Int)) % 256
theorem marksB_len (k : Int) (n : Nat) : (marksB k n).length = n := by simp [marksB]
theorem marksB_at (k : Int) (n j : Nat) (h : j < n) : (marksB k n).getD j 0 = (k + (j : Int)) % 256 := by simp [marksB, List.getD, h]
theorem marksB_in (k : Int) (n : Nat) : ∀ x ∈ marksB k n, 0 ≤ x ∧ x < 256 := by
  intro x hx
  simp only [marksB, List.mem_map] at hx
  obtain ⟨i, _, rfl⟩ := hx
  omega
theorem marksB_step (k : Int) (n j : Nat) (zs : List Int) (h : j < n) (hl : zs.length = n) : ((marksB k n).take j ++ zs.drop j).set j ((k + (j : Int)) % 256) = (marksB k n).take (j + 1) ++ zs.drop (j + 1) := by
  have hj : ((marksB k n).take j).length = j := by rw [List.length_take, marksB_len]; omega
  rw [List.set_append_right _ _ (by omega), hj, Nat.sub_self, List.drop_eq_getElem_cons (by omega), List.set_cons_zero, List.take_succ_eq_append_getElem (by rw [marksB_len]; exact h), List.append_assoc]
  congr 1
  simp [marksB]

set_option maxHeartbeats 800000 in
theorem markByteS_any (A : Option Addr) (n c : Nat) (zs : List Int) (k : Int) (base : Nat) (w : World) (hO : OwnB w base A n c zs) (hn : n ≤ 1048576) (hk0 : 0 ≤ k) (hk1 : k ≤ 300000000) :
    Calls Try.prog 47 #[.slice A n c, .int .i64 k] w fun e w' => e = .returned (.int .i64 (k + n)) ∧ OwnB w' base A n c (marksB k n) ∧ w.grownBy w' (Value.slice A n c).ownBlock := by
  have HL : Hid (zs.length = n) := hO.1
  have HO := Lib.hid hO
  clear hO
  rcases Nat.eq_zero_or_pos n with h0 | h0
  · subst h0
    have HZ : Hid (zs = []) := List.eq_nil_of_length_eq_zero HL.out
    go_enter Try.func47, Try.ntmps47
    go_wp2_with fail
    go_loop [1, 5] (fun a i => a = .int .i64 k ∧ i = .int .i64 (0 : Int)) (fun _ _ => 0)
    case atStart => exact ⟨rfl, rfl⟩
    case round =>
      obtain ⟨rfl, rfl⟩ := hrel
      go_wp2
      go_ret
      refine ⟨by simp, ?_, World.grownBy.refl _ _⟩
      have h5 := HO.out
      rw [HZ.out] at h5
      exact h5
  · obtain ⟨g, cap, hv, hbg, hgl⟩ := HO.out.2.2.form h0
    obtain rfl : A = some ⟨g, 0, none⟩ := by injection hv
    clear hv
    have HZR : Hid (∀ (j : Nat), (zs.drop j).length = n - j) := fun j => by rw [List.length_drop, HL.out]
    go_enter Try.func47, Try.ntmps47
    go_wp2_with fail
    go_loopw [1, 5] (fun a i wr => ∃ j : Nat, j ≤ n ∧ a = .int .i64 (k + j) ∧ i = .int .i64 j ∧ Hid (OwnB wr base (some ⟨g, 0, none⟩) n c ((marksB k n).take j ++ zs.drop j)) ∧ Hid (w.grownBy wr (some g))) (fun _ i _ => n - (intOf i).toNat)
    case atStart => exact ⟨0, Nat.zero_le _, by simp, rfl, by simpa using HO, World.grownBy.refl _ _⟩
    case round =>
      obtain ⟨j, hj, rfl, rfl, HI, HG⟩ := hrel
      by_cases hlt : j < n
      · have hc : ∃ u, wr.cell? ⟨g, j, none⟩ = some u := by
          have h5 := HI.out.2.2.1
          exact ⟨_, (HI.out.2.2.cellAt j (by omega)).trans (List.getElem?_eq_getElem (by omega))⟩
        obtain ⟨u, hu⟩ := hc
        have hf := HI.out.2.2.frozenAt j
        obtain ⟨m, hm⟩ : ∃ m : Int, m = (k + (j : Int)) % 256 := ⟨_, rfl⟩
        have hwm : IntKind.u8.wrap (k + (j : Int)) = m := by rw [IntKind.wrap_u8, hm]
        obtain ⟨hs1, hs2⟩ := HI.out.2.2.stored j (.int .u8 m)
        have HN : Hid (OwnB (wr.setCell ⟨g, j, none⟩ (.int .u8 m)) base (some ⟨g, 0, none⟩) n c ((marksB k n).take (j + 1) ++ zs.drop (j + 1))) := by
          rw [← marksB_step k n j zs hlt HL.out, ← hm]
          refine ⟨by rw [List.length_set]; exact HI.out.1, ?_, ?_⟩
          · intro x hx
            rcases List.mem_or_eq_of_mem_set hx with h | h
            · exact HI.out.2.1 x h
            · rw [h, hm]; omega
          · rw [List.map_set]
            exact hs1
        have HG2 : Hid (w.grownBy (wr.setCell ⟨g, j, none⟩ (.int .u8 m)) (some g)) := HG.out.andThen hs2 (fun q hq => by cases hq; exact Or.inr rfl)
        clear hs1 hs2 hm
        go_wp2
        go_roundw
        case rel => exact ⟨j + 1, by omega, by go_num, by go_num, HN, HG2⟩
        case measure => simp [intOf]; omega
      · have HJ : Hid (j = n) := (by omega : j = n)
        go_wp2
        go_ret
        refine ⟨by rw [HJ.out]; rfl, ?_, HG.out⟩
        have h5 := HI.out
        rw [HJ.out, List.take_of_length_le (by rw [marksB_len]; exact Nat.le_refl _), List.drop_eq_nil_of_le (by rw [HL.out]; exact Nat.le_refl _), List.append_nil] at h5
        exact h5

set_option maxHeartbeats 800000 in
theorem heldByteS_any (A : Option Addr) (n c : Nat) (k : Int) (B : Nat) (w : World) (hr : IsBytes w B A n (marksB k n)) (hn : n ≤ 1048576) (hk0 : 0 ≤ k) (hk1 : k ≤ 300000000) :
    Calls Try.prog 49 #[.slice A n c, .int .i64 k] w fun e w' => e = .returned (.int .i64 (k + n)) ∧ w' = w := by
  have HR := Lib.hid hr
  clear hr
  go_enter Try.func49, Try.ntmps49
  go_wp2_with fail
  go_loop [1, 5] (fun a i => ∃ j : Nat, j ≤ n ∧ a = .int .i64 (k + j) ∧ i = .int .i64 j) (fun _ i => n - (intOf i).toNat)
  case atStart => exact ⟨0, Nat.zero_le _, by simp, rfl⟩
  case round =>
    obtain ⟨j, hj, rfl, rfl⟩ := hrel
    by_cases hlt : j < n
    · obtain ⟨b, off, z, rfl, hbB, hz, hc, hz0, hz1⟩ := HR.out.at_ hlt
      have hwm : IntKind.u8.wrap (k + (j : Int)) = z := by rw [IntKind.wrap_u8, hz, marksB_at k n j hlt]
      clear hz
      go_wp2
      go_round
      case rel => exact ⟨j + 1, by omega, by go_num, by go_num⟩
      case measure => simp [intOf]; omega
    · have HJ : Hid (j = n) := (by omega : j = n)
      go_wp2
      go_ret
      exact ⟨by rw [HJ.out]; rfl, rfl⟩
end Go.Proofs.Ytklgjjmcflgjeaa.Bytes
