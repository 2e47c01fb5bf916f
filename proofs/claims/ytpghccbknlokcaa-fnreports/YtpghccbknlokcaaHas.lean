/-
  CONTRACTS of the model's l01Has and of slices.Index and slices.Contains at ints over this seat's translation: whether a number stands in a list; the world is left as it was. And lists of ints of one's own.
-/
import Derived.Test.YtpghccbknlokcaaInts
import Derived.Deep.AppendLies
import Derived.Lib.Hide
namespace Go.Proofs.Ytpghccbknlokcaa.Has
open Go.ChangeShapes Go.WideShapes Go.ChangeAt Go.RowKit
open Go.Proofs.Ytpghccbknlokcaa.Ints
set_option linter.unusedVariables false

def hasB (zs : List Int) (x : Int) : Bool := zs.any (· == x)
theorem has_none {zs : List Int} {x : Int} (h : ∀ j, j < zs.length → zs.getD j 0 ≠ x) : hasB zs x = false := by
  unfold hasB
  rw [List.any_eq_false]
  intro y hy
  obtain ⟨j, hj, rfl⟩ := List.mem_iff_getElem.1 hy
  have := h j hj
  simpa [List.getD, hj] using this
theorem has_some {zs : List Int} {x : Int} (j : Nat) (hj : j < zs.length) (h : zs.getD j 0 = x) : hasB zs x = true := by
  unfold hasB
  rw [List.any_eq_true]
  refine ⟨zs[j], List.getElem_mem hj, ?_⟩
  simpa [List.getD, hj] using h

set_option maxHeartbeats 800000 in
theorem l01Has_any (A : Option Addr) (n c : Nat) (zs : List Int) (x : Int) (B : Nat) (w : World) (hr : IsInts w B A n zs) (hn : n ≤ 1048576) :
    Calls Try.prog 56 #[.slice A n c, .int .i64 x] w fun e w' => e = .returned (.bool (hasB zs x)) ∧ w = w' := by
  have HL : Hid (zs.length = n) := hr.1
  go_enter Try.func56, Try.ntmps56
  go_wp2_with fail
  go_loop [5] (fun i => ∃ k : Nat, k ≤ n ∧ i = .int .i64 k ∧ Hid (∀ j, j < k → zs.getD j 0 ≠ x)) (fun i => n - (intOf i).toNat)
  case atStart => exact ⟨0, Nat.zero_le _, rfl, fun j hj => absurd hj (by omega)⟩
  case round =>
    obtain ⟨k, hk, rfl, HF⟩ := hrel
    by_cases hlt : k < n
    · obtain ⟨b, off, z, rfl, hbB, hz, hc⟩ := hr.at_ hlt
      have HZ := Lib.hid hz
      clear hz
      cases he : (z == x)
      · go_wp2
        go_round
        case rel =>
          refine ⟨k + 1, by omega, by go_num, fun j hj => ?_⟩
          by_cases h : j = k
          · subst h
            rw [← HZ.out]
            simpa using he
          · exact HF.out j (by omega)
        case measure => simp [intOf]; omega
      · have HB : Hid (hasB zs x = true) := has_some k (by rw [HL.out]; exact hlt) (by rw [← HZ.out]; simpa using he)
        go_wp2
        go_ret
        rw [HB.out]
        exact ⟨rfl, rfl⟩
    · have HB : Hid (hasB zs x = false) := has_none fun j hj => HF.out j (by rw [HL.out] at hj; omega)
      go_wp2
      go_ret
      rw [HB.out]
      exact ⟨rfl, rfl⟩

set_option maxHeartbeats 800000 in
theorem index_any (A : Option Addr) (n c : Nat) (zs : List Int) (x : Int) (B : Nat) (w : World) (hr : IsInts w B A n zs) (hn : n ≤ 1048576) :
    Calls Try.prog 136 #[.slice A n c, .int .i64 x] w fun e w' => ∃ r : Int, e = .returned (.int .i64 r) ∧ decide (0 ≤ r) = hasB zs x ∧ w = w' := by
  have HL : Hid (zs.length = n) := hr.1
  go_enter Try.func136, Try.ntmps136
  go_wp2_with fail
  go_loop [8] (fun i => ∃ k : Nat, k ≤ n ∧ i = .int .i64 k ∧ Hid (∀ j, j < k → zs.getD j 0 ≠ x)) (fun i => n - (intOf i).toNat)
  case atStart => exact ⟨0, Nat.zero_le _, rfl, fun j hj => absurd hj (by omega)⟩
  case round =>
    obtain ⟨k, hk, rfl, HF⟩ := hrel
    by_cases hlt : k < n
    · obtain ⟨b, off, z, rfl, hbB, hz, hc⟩ := hr.at_ hlt
      have HZ := Lib.hid hz
      clear hz
      cases he : (x == z)
      · go_wp2
        go_round
        case rel =>
          refine ⟨k + 1, by omega, by go_num, fun j hj => ?_⟩
          by_cases h : j = k
          · subst h
            rw [← HZ.out]
            intro h2
            rw [h2] at he
            simp at he
          · exact HF.out j (by omega)
        case measure => simp [intOf]; omega
      · have HB : Hid (hasB zs x = true) := has_some k (by rw [HL.out]; exact hlt) (by rw [← HZ.out]; exact (by simpa using he : x = z).symm)
        go_wp2
        go_ret
        exact ⟨k, rfl, by rw [HB.out]; simp, rfl⟩
    · have HB : Hid (hasB zs x = false) := has_none fun j hj => HF.out j (by rw [HL.out] at hj; omega)
      go_wp2
      go_ret
      exact ⟨-1, rfl, by rw [HB.out]; rfl, rfl⟩

theorem contains_any (A : Option Addr) (n c : Nat) (zs : List Int) (x : Int) (B : Nat) (w : World) (hr : IsInts w B A n zs) (hn : n ≤ 1048576) :
    Calls Try.prog 126 #[.slice A n c, .int .i64 x] w fun e w' => e = .returned (.bool (hasB zs x)) ∧ w = w' := by
  have HR := Lib.hid hr
  clear hr
  go_enter Try.func126, Try.ntmps126
  go_wp2_with fail
  refine (index_any A n c zs x B _ HR.out hn).mono ?_
  rintro e w' ⟨r, rfl, hd, rfl⟩
  have HD := Lib.hid hd
  clear hd
  go_wp2
  go_ret
  rw [← HD.out]
  exact ⟨rfl, rfl⟩

/-- A list of ints of one's own, from base on. -/
def OwnI (w : World) (base : Nat) (A : Option Addr) (n c : Nat) (zs : List Int) : Prop := zs.length = n ∧ w.ownsRow base 3 1 (.slice A n c) n (zs.map (Value.int .i64))
theorem OwnI.ints {w : World} {base : Nat} {A : Option Addr} {n c : Nat} {zs : List Int} (h : OwnI w base A n c zs) : IsInts w w.heap.size A n zs := by
  refine ⟨h.1, fun hn => ?_⟩
  obtain ⟨g, cap, hv, _, hlt⟩ := h.2.form hn
  have hA : A = some ⟨g, 0, none⟩ := by injection hv
  subst hA
  refine ⟨g, 0, rfl, hlt, fun j hj => ?_⟩
  rw [Nat.zero_add, h.2.cellAt j (by omega)]
  have hl : j < zs.length := by rw [h.1]; exact hj
  simp [List.getD, hl]
theorem OwnI.grown {w w' : World} {base : Nat} {A : Option Addr} {n c : Nat} {zs : List Int} (h : OwnI w base A n c zs) {row : Option Nat} (hg : w.grownBy w' row) (hne : (Value.slice A n c).ownBlock = none ∨ (Value.slice A n c).ownBlock ≠ row) : OwnI w' base A n c zs := ⟨h.1, h.2.kept hg hne⟩
theorem OwnI.alloc {w : World} {base : Nat} {A : Option Addr} {n c : Nat} {zs : List Int} (h : OwnI w base A n c zs) (o : Obj) : OwnI (w.alloc o) base A n c zs := ⟨h.1, h.2.alloc o⟩
theorem OwnI.below {w w' : World} {base : Nat} {A : Option Addr} {n c : Nat} {zs : List Int} (h : OwnI w base A n c zs) (hb : Below w.heap.size w w') : OwnI w' base A n c zs :=
  ⟨h.1, h.2.kept ⟨hb.os, hb.tape, hb.output, hb.size, fun i hi _ => hb.block i hi⟩ (row := none) (by cases hv : (Value.slice A n c).ownBlock <;> simp)⟩
theorem OwnI.lt {w : World} {base : Nat} {A : Option Addr} {n c : Nat} {zs : List Int} (h : OwnI w base A n c zs) : ∀ k, (Value.slice A n c).ownBlock = some k → base ≤ k ∧ k < w.heap.size := h.2.lt
/-- Behind an append of one number. -/
theorem OwnI.of_append {w' : World} {base n : Nat} {v' : Value} {zs : List Int} {x : Int} (hl : zs.length = n) (h : w'.ownsRow base 3 1 v' (n + 1) (zs.map (Value.int .i64) ++ [.int .i64 x])) : ∃ A c, v' = .slice A (n + 1) c ∧ OwnI w' base A (n + 1) c (zs ++ [x]) := by
  obtain ⟨g, cap, rfl, _⟩ := h.form (by omega)
  exact ⟨_, _, rfl, by simp [hl], by simpa using h⟩
theorem infoInt : (Try.prog.info? 3).map (fun i => (i.zero, i.size, i.bytes)) = some (some (.int .i64 0), 1, 8) := by kernel_rfl
end Go.Proofs.Ytpghccbknlokcaa.Has
