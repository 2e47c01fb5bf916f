/-
  RECORDS: a number and a list of ints; the contracts of the laws' toRecord, szRecord, eqRecord, markRecord, heldRecord over this seat's translation; and how a record comes in as an argument of a law.
-/
import Derived.Test.YtdefckbgcggnoaaGreatHas
import Derived.Test.YtdefckbgcggnoaaGreatIntCopy
import Derived.Maps.Range
import Derived.Lib.SmallJoins
import Derived.Deep.Slices
namespace Go.Proofs.YtdefckbgcggnoaaGreat.Rec
open Go.ChangeShapes Go.WideShapes Go.ChangeAt Go.RowKit Go.Joins Go.Deep
open Go.Proofs.YtdefckbgcggnoaaGreat.Ints Go.Proofs.YtdefckbgcggnoaaGreat.Has
set_option linter.unusedVariables false

theorem below_a1 (w : World) (o : Obj) : Below w.heap.size w (w.alloc o) := (Below.refl _ _).alloc (Nat.le_refl _) _
theorem below_a2 (w : World) (o p : Obj) : Below w.heap.size w ((w.alloc o).alloc p) := (below_a1 w o).alloc (by simp) _
theorem below_a3 (w : World) (o p q : Obj) : Below w.heap.size w (((w.alloc o).alloc p).alloc q) := (below_a2 w o p).alloc (by simp; omega) _
theorem below_alloc3 {w w4 : World} {o p q : Obj} (h : Below (((w.alloc o).alloc p).alloc q).heap.size (((w.alloc o).alloc p).alloc q) w4) : Below w.heap.size w w4 :=
  (below_a3 w o p q).trans (h.mono (by simp; omega))
theorem below_alloc1 {w w4 : World} {o : Obj} (h : Below (w.alloc o).heap.size (w.alloc o) w4) : Below w.heap.size w w4 :=
  (below_a1 w o).trans (h.mono (by simp))
theorem heap_new (w : World) (o : Obj) : (w.alloc o).heap[w.heap.size]? = some o := heap_alloc_new w o
theorem blk2 {w : World} {g : Nat} {a b : Value} {t : TypeId} (h : w.heap[g]? = some (.cells #[a, b] t (0, 0))) :
    w.cell? ⟨g, 0, none⟩ = some a ∧ w.cell? ⟨g, 1, none⟩ = some b ∧ w.frozen? ⟨g, 0, none⟩ = false ∧ w.frozen? ⟨g, 1, none⟩ = false := by
  refine ⟨?_, ?_, ?_, ?_⟩ <;> simp [World.cell?, World.frozen?, h]
theorem old3 {w w4 : World} {o p q : Obj} (h : Below (((w.alloc o).alloc p).alloc q).heap.size (((w.alloc o).alloc p).alloc q) w4) :
    w4.heap[w.heap.size]? = some o ∧ w4.heap[w.heap.size + 1]? = some p ∧ w4.heap[w.heap.size + 1 + 1]? = some q := by
  have h1 : (w.alloc o).heap[w.heap.size]? = some o := heap_new w o
  have h2 : ((w.alloc o).alloc p).heap[w.heap.size + 1]? = some p := by have := heap_new (w.alloc o) p; simpa using this
  have h3 : (((w.alloc o).alloc p).alloc q).heap[w.heap.size + 1 + 1]? = some q := by have := heap_new ((w.alloc o).alloc p) q; simpa using this
  refine ⟨?_, ?_, ?_⟩
  · rw [h.block _ (by simp; omega), Below.heap_alloc _ _ _ (by simp; omega), Below.heap_alloc _ _ _ (by simp), h1]
  · rw [h.block _ (by simp), Below.heap_alloc _ _ _ (by simp), h2]
  · rw [h.block _ (by simp), h3]
theorem own_base {w : World} {b b' : Nat} {e : TypeId} {size : Nat} {v : Value} {n : Nat} {xs : List Value} (h : w.ownsRow b e size v n xs) (hb : b' ≤ b) : w.ownsRow b' e size v n xs := by
  refine ⟨h.1, ?_⟩
  rcases h.2 with h2 | ⟨g, cap, cur, h3, h4, h5⟩
  · exact .inl h2
  · exact .inr ⟨g, cap, cur, h3, by omega, h5⟩
theorem ownI_base {w : World} {b b' : Nat} {A : Option Addr} {n c : Nat} {zs : List Int} (h : OwnI w b A n c zs) (hb : b' ≤ b) : OwnI w b' A n c zs := ⟨h.1, own_base h.2 hb⟩
theorem grown_set (w : World) (p : Addr) (u : Value) : w.grownBy (w.setCell p u) (some p.block) :=
  ⟨rfl, rfl, rfl, by simp [World.setCell], fun k _ ho => Below.heap_setCell w p u k (by intro e; exact ho (by rw [e]))⟩
/-- A cell below a row's blocks is written. -/
theorem ownI_setLow {w : World} {lo : Nat} {A : Option Addr} {n c : Nat} {zs : List Int} (h : OwnI w lo A n c zs) {p : Addr} (hp : p.block < lo) (u : Value) : OwnI (w.setCell p u) lo A n c zs := by
  refine h.grown (grown_set w p u) ?_
  cases hb : (Value.slice A n c).ownBlock with
  | none => exact .inl rfl
  | some q =>
    refine .inr fun e => ?_
    injection e with e
    have := (h.lt q hb).1
    omega

/-- What a copy leaves: ints of one's own; nothing older has turned. -/
def CopiedI (w : World) (zs : List Int) (e : Ending) (w' : World) : Prop :=
  ∃ g, e = .returned (.slice (some ⟨g, 0, none⟩) zs.length zs.length) ∧ OwnI w' w.heap.size (some ⟨g, 0, none⟩) zs.length zs.length zs ∧ Below w.heap.size w w'
theorem Part_whole (zs : List Int) : Part zs zs.length = zs.map (Value.int .i64) := by simp [Part]


/-- What a function that answers a record leaves. -/
def CopiedR (w : World) (kd : Int) (zs : List Int) (e : Ending) (w' : World) : Prop :=
  ∃ A c, e = .returned (.agg #[.int .i64 kd, .slice A zs.length c]) ∧ OwnI w' w.heap.size A zs.length c zs ∧ Below w.heap.size w w'


def szV (k : Int) (n : Nat) : Int := if k < n then -1 else k - n
theorem szV_f {k : Int} {n : Nat} (h : k < n) : szV k n = -1 := by rw [szV, if_pos h]
theorem szV_t {k : Int} {n : Nat} (h : ¬ k < n) : szV k n = k - n := by rw [szV, if_neg h]


/-- It answers true and turns nothing that was there. -/
def SaysTrue (w : World) (e : Ending) (w' : World) : Prop := e = .returned (.bool true) ∧ Below w.heap.size w w'


/-- n numbers from k on. -/
def marksI (k : Int) (n : Nat) : List Int := (List.range n).map fun (i : Nat) => k + (i : Int)
theorem marksI_len (k : Int) (n : Nat) : (marksI k n).length = n := by simp [marksI]
theorem marksI_at (k : Int) (n j : Nat) (h : j < n) : (marksI k n).getD j 0 = k + (j : Int) := by simp [marksI, List.getD, h]
theorem marks_step (k : Int) (n j : Nat) (zs : List Int) (h : j < n) (hl : zs.length = n) : ((marksI k n).take j ++ zs.drop j).set j (k + (j : Int)) = (marksI k n).take (j + 1) ++ zs.drop (j + 1) := by
  have hj : ((marksI k n).take j).length = j := by rw [List.length_take, marksI_len]; omega
  rw [List.set_append_right _ _ (by omega), hj, Nat.sub_self, List.drop_eq_getElem_cons (by omega), List.set_cons_zero, List.take_succ_eq_append_getElem (by rw [marksI_len]; exact h), List.append_assoc]
  congr 1
  simp [marksI]

set_option maxHeartbeats 800000 in
theorem markIntS_any (A : Option Addr) (n c : Nat) (zs : List Int) (k : Int) (base : Nat) (w : World) (hO : OwnI w base A n c zs) (hn : n ≤ 1048576) (hk0 : 0 ≤ k) (hk1 : k ≤ 300000000) :
    Calls Tryz.prog 23 #[.slice A n c, .int .i64 k] w fun e w' => e = .returned (.int .i64 (k + n)) ∧ OwnI w' base A n c (marksI k n) ∧ w.grownBy w' (Value.slice A n c).ownBlock := by
  have HL : Hid (zs.length = n) := hO.1
  have HO := Lib.hid hO
  clear hO
  rcases Nat.eq_zero_or_pos n with h0 | h0
  · subst h0
    have HZ : Hid (zs = []) := List.eq_nil_of_length_eq_zero HL.out
    go_enter Tryz.func23, Tryz.ntmps23
    go_wp2_with fail
    go_loop [1, 5] (fun a i => a = .int .i64 k ∧ i = .int .i64 (0 : Int)) (fun _ _ => 0)
    case atStart => exact ⟨rfl, rfl⟩
    case round =>
      obtain ⟨rfl, rfl⟩ := hrel
      go_wp2
      go_ret
      refine ⟨by simp, ?_, World.grownBy.refl _ _⟩
      have h5 := HO.out
      rw [HZ.out] at h5
      exact h5
  · obtain ⟨g, cap, hv, hbg, hgl⟩ := HO.out.2.form h0
    obtain rfl : A = some ⟨g, 0, none⟩ := by injection hv
    clear hv
    go_enter Tryz.func23, Tryz.ntmps23
    go_wp2_with fail
    go_loopw [1, 5] (fun a i wr => ∃ j : Nat, j ≤ n ∧ a = .int .i64 (k + j) ∧ i = .int .i64 j ∧ Hid (OwnI wr base (some ⟨g, 0, none⟩) n c ((marksI k n).take j ++ zs.drop j)) ∧ Hid (w.grownBy wr (some g))) (fun _ i _ => n - (intOf i).toNat)
    case atStart => exact ⟨0, Nat.zero_le _, by simp, rfl, by simpa using HO, World.grownBy.refl _ _⟩
    case round =>
      obtain ⟨j, hj, rfl, rfl, HI, HG⟩ := hrel
      by_cases hlt : j < n
      · have hc : ∃ u, wr.cell? ⟨g, j, none⟩ = some u := by
          have h5 := HI.out.2.1
          exact ⟨_, (HI.out.2.cellAt j (by omega)).trans (List.getElem?_eq_getElem (by omega))⟩
        obtain ⟨u, hu⟩ := hc
        have hf := HI.out.2.frozenAt j
        obtain ⟨hs1, hs2⟩ := HI.out.2.stored j (.int .i64 (k + j))
        have HN : Hid (OwnI (wr.setCell ⟨g, j, none⟩ (.int .i64 (k + j))) base (some ⟨g, 0, none⟩) n c ((marksI k n).take (j + 1) ++ zs.drop (j + 1))) := by
          rw [← marks_step k n j zs hlt HL.out]
          refine ⟨by rw [List.length_set]; exact HI.out.1, ?_⟩
          rw [List.map_set]
          exact hs1
        have HG2 : Hid (w.grownBy (wr.setCell ⟨g, j, none⟩ (.int .i64 (k + j))) (some g)) := HG.out.andThen hs2 (fun q hq => by cases hq; exact Or.inr rfl)
        clear hs1 hs2
        go_wp2
        go_roundw
        case rel => exact ⟨j + 1, by omega, by go_num, by go_num, HN, HG2⟩
        case measure => simp [intOf]; omega
      · have HJ : Hid (j = n) := (by omega : j = n)
        go_wp2
        go_ret
        refine ⟨by rw [HJ.out]; rfl, ?_, HG.out⟩
        have h5 := HI.out
        rw [HJ.out, List.take_of_length_le (by rw [marksI_len]; exact Nat.le_refl _), List.drop_eq_nil_of_le (by rw [HL.out]; exact Nat.le_refl _), List.append_nil] at h5
        exact h5

set_option maxHeartbeats 800000 in
theorem heldIntS_any (A : Option Addr) (n c : Nat) (k : Int) (B : Nat) (w : World) (hr : IsInts w B A n (marksI k n)) (hn : n ≤ 1048576) (hk0 : 0 ≤ k) (hk1 : k ≤ 300000000) :
    Calls Tryz.prog 26 #[.slice A n c, .int .i64 k] w fun e w' => e = .returned (.int .i64 (k + n)) ∧ w' = w := by
  have HR := Lib.hid hr
  clear hr
  go_enter Tryz.func26, Tryz.ntmps26
  go_wp2_with fail
  go_loop [1, 5] (fun a i => ∃ j : Nat, j ≤ n ∧ a = .int .i64 (k + j) ∧ i = .int .i64 j) (fun _ i => n - (intOf i).toNat)
  case atStart => exact ⟨0, Nat.zero_le _, by simp, rfl⟩
  case round =>
    obtain ⟨j, hj, rfl, rfl⟩ := hrel
    by_cases hlt : j < n
    · obtain ⟨b, off, z, rfl, hbB, hz, hc⟩ := HR.out.at_ hlt
      rw [marksI_at k n j hlt] at hz
      subst hz
      go_wp2
      go_round
      case rel => exact ⟨j + 1, by omega, by go_num, by go_num⟩
      case measure => simp [intOf]; omega
    · have HJ : Hid (j = n) := (by omega : j = n)
      go_wp2
      go_ret
      exact ⟨by rw [HJ.out]; rfl, rfl⟩



/-- What a law is told of a record's numbers. -/
def IsRec (w : World) (A : Option Addr) (n : Nat) (zs : List Int) : Prop := IsInts w w.heap.size A n zs ∧ n ≤ maxLen

end Go.Proofs.YtdefckbgcggnoaaGreat.Rec
