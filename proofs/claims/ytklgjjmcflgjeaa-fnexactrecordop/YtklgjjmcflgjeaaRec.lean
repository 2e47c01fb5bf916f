/-
  RECORDS: a number and a list of ints; the contracts of the laws' toRecord, szRecord, eqRecord, markRecord, heldRecord over this seat's translation; and how a record comes in as an argument of a law.
-/
import Derived.Test.YtklgjjmcflgjeaaHas
import Derived.Test.YtklgjjmcflgjeaaIntCopy
import Derived.Maps.Range
import Derived.Lib.SmallJoins
import Derived.Deep.Slices
namespace Go.Proofs.Ytklgjjmcflgjeaa.Rec
open Go.ChangeShapes Go.WideShapes Go.ChangeAt Go.RowKit Go.Joins Go.Deep
open Go.Proofs.Ytklgjjmcflgjeaa.Ints Go.Proofs.Ytklgjjmcflgjeaa.Has
set_option linter.unusedVariables false

theorem below_a1 (w : World) (o : Obj) : Below w.heap.size w (w.alloc o) := (Below.refl _ _).alloc (Nat.le_refl _) _
theorem below_a2 (w : World) (o p : Obj) : Below w.heap.size w ((w.alloc o).alloc p) := (below_a1 w o).alloc (by simp) _
theorem below_a3 (w : World) (o p q : Obj) : Below w.heap.size w (((w.alloc o).alloc p).alloc q) := (below_a2 w o p).alloc (by simp; omega) _
theorem below_alloc3 {w w4 : World} {o p q : Obj} (h : Below (((w.alloc o).alloc p).alloc q).heap.size (((w.alloc o).alloc p).alloc q) w4) : Below w.heap.size w w4 :=
  (below_a3 w o p q).trans (h.mono (by simp; omega))
theorem below_alloc1 {w w4 : World} {o : Obj} (h : Below (w.alloc o).heap.size (w.alloc o) w4) : Below w.heap.size w w4 :=
  (below_a1 w o).trans (h.mono (by simp))
theorem heap_new (w : World) (o : Obj) : (w.alloc o).heap[w.heap.size]? = some o := heap_alloc_new w o
theorem blk2 {w : World} {g : Nat} {a b : Value} {t : TypeId} (h : w.heap[g]? = some (.cells #[a, b] t (0, 0))) :
    w.cell? ⟨g, 0, none⟩ = some a ∧ w.cell? ⟨g, 1, none⟩ = some b ∧ w.frozen? ⟨g, 0, none⟩ = false ∧ w.frozen? ⟨g, 1, none⟩ = false := by
  refine ⟨?_, ?_, ?_, ?_⟩ <;> simp [World.cell?, World.frozen?, h]
theorem old3 {w w4 : World} {o p q : Obj} (h : Below (((w.alloc o).alloc p).alloc q).heap.size (((w.alloc o).alloc p).alloc q) w4) :
    w4.heap[w.heap.size]? = some o ∧ w4.heap[w.heap.size + 1]? = some p ∧ w4.heap[w.heap.size + 1 + 1]? = some q := by
  have h1 : (w.alloc o).heap[w.heap.size]? = some o := heap_new w o
  have h2 : ((w.alloc o).alloc p).heap[w.heap.size + 1]? = some p := by have := heap_new (w.alloc o) p; simpa using this
  have h3 : (((w.alloc o).alloc p).alloc q).heap[w.heap.size + 1 + 1]? = some q := by have := heap_new ((w.alloc o).alloc p) q; simpa using this
  refine ⟨?_, ?_, ?_⟩
  · rw [h.block _ (by simp; omega), Below.heap_alloc _ _ _ (by simp; omega), Below.heap_alloc _ _ _ (by simp), h1]
  · rw [h.block _ (by simp), Below.heap_alloc _ _ _ (by simp), h2]
  · rw [h.block _ (by simp), h3]
theorem own_base {w : World} {b b' : Nat} {e : TypeId} {size : Nat} {v : Value} {n : Nat} {xs : List Value} (h : w.ownsRow b e size v n xs) (hb : b' ≤ b) : w.ownsRow b' e size v n xs := by
  refine ⟨h.1, ?_⟩
  rcases h.2 with h2 | ⟨g, cap, cur, h3, h4, h5⟩
  · exact .inl h2
  · exact .inr ⟨g, cap, cur, h3, by omega, h5⟩
theorem ownI_base {w : World} {b b' : Nat} {A : Option Addr} {n c : Nat} {zs : List Int} (h : OwnI w b A n c zs) (hb : b' ≤ b) : OwnI w b' A n c zs := ⟨h.1, own_base h.2 hb⟩
theorem grown_set (w : World) (p : Addr) (u : Value) : w.grownBy (w.setCell p u) (some p.block) :=
  ⟨rfl, rfl, rfl, by simp [World.setCell], fun k _ ho => Below.heap_setCell w p u k (by intro e; exact ho (by rw [e]))⟩
/-- A cell below a row's blocks is written. -/
theorem ownI_setLow {w : World} {lo : Nat} {A : Option Addr} {n c : Nat} {zs : List Int} (h : OwnI w lo A n c zs) {p : Addr} (hp : p.block < lo) (u : Value) : OwnI (w.setCell p u) lo A n c zs := by
  refine h.grown (grown_set w p u) ?_
  cases hb : (Value.slice A n c).ownBlock with
  | none => exact .inl rfl
  | some q =>
    refine .inr fun e => ?_
    injection e with e
    have := (h.lt q hb).1
    omega

/-- What a copy leaves: ints of one's own; nothing older has turned. -/
def CopiedI (w : World) (zs : List Int) (e : Ending) (w' : World) : Prop :=
  ∃ g, e = .returned (.slice (some ⟨g, 0, none⟩) zs.length zs.length) ∧ OwnI w' w.heap.size (some ⟨g, 0, none⟩) zs.length zs.length zs ∧ Below w.heap.size w w'
theorem Part_whole (zs : List Int) : Part zs zs.length = zs.map (Value.int .i64) := by simp [Part]

set_option maxHeartbeats 1600000 in
theorem toIntS_own (A : Option Addr) (n cap : Nat) (zs : List Int) (B : Nat) (w : World) (hr : IsInts w B A n zs) (hB : B ≤ w.heap.size) (hn : n ≤ 1048576) :
    Calls Try.prog 39 #[.slice A n cap] w (CopiedI w zs) := by
  obtain ⟨i0, hi, hz0, hz1, hz2⟩ := info_parts info3
  have HLen : Hid (zs.length = n) := hr.1
  go_enter Try.func39, Try.ntmps39
  go_wp2_with (at_make; refine wpList_make_full _ rfl _ _ 43 rfl w.heap.size 3 i0 (.int .i64 0) 1 Try.underlying43 hi hz0 hz1 _ _ _ _ n rfl rfl rfl rfl ?b1 ?b2 ?b3 ?_)
  case b1 => rw [hz2]; omega
  case b2 => unfold maxLen; omega
  case b3 => exact Nat.le_refl _
  intro w1 hown hgrow
  have hbel : Below w.heap.size w w1 := (Below.refl _ _).grown hgrow (Nat.le_refl _) (by intro k h; cases h)
  have hP0 : (madeCells #[Value.int IntKind.i64 0] n).toList = Part zs 0 := by rw [Part_zero, toList_madeCells_one, HLen.out]
  rw [hP0] at hown
  have hsz : w.heap.size < w1.heap.size := own_lt hown
  clear hP0 hgrow hi hz0 hz1 hz2
  go_wp2_with fail
  go_loopw [4] (fun i wr => ∃ k : Nat, k ≤ n ∧ i = .int .i64 k ∧ wr.ownsRow w.heap.size 3 1 (.slice (some ⟨w.heap.size, 0, none⟩) n n) n (Part zs k) ∧ Below w.heap.size w wr ∧ w.heap.size < wr.heap.size) (fun i _ => n - (intOf i).toNat)
  case atStart => exact ⟨0, Nat.zero_le _, rfl, hown, hbel, hsz⟩
  case round =>
    obtain ⟨k, hk, rfl, hownr, hbr, hszr⟩ := hrel
    by_cases hlt : k < n
    · obtain ⟨b, off, z, rfl, hbB, hz, hc⟩ := (hr.below hbr hB).at_ hlt
      have hcell := (hownr.cellAt k (by omega)).trans (List.getElem?_eq_getElem (by rw [Part_len _ _ (by rw [HLen.out]; omega), HLen.out]; omega))
      have hfr := hownr.frozenAt k
      have hst := hownr.stored k (.int .i64 z)
      have HZ : Hid (z = zs.getD k 0) := hz
      clear hz
      have HS := hst
      clear hst
      go_wp2
      go_roundw
      case rel =>
        refine ⟨k + 1, by omega, by go_num, ?_, hbr.setCell (p := ⟨w.heap.size, k, none⟩) (Nat.le_refl _) _, by simpa [World.setCell] using hszr⟩
        have h1 := HS.1
        rw [HZ.out, Part_set zs k (by rw [HLen.out]; omega)] at h1
        rw [HZ.out]
        exact h1
      case measure => simp [intOf]; omega
    · have HK : Hid (k = n) := (by omega : k = n)
      go_wp2
      go_ret
      have hl := HLen.out
      refine ⟨w.heap.size, by rw [hl]; rfl, ⟨rfl, ?_⟩, hbr⟩
      have h1 := hownr
      rw [HK.out, ← hl, Part_whole] at h1
      exact h1

/-- What a function that answers a record leaves. -/
def CopiedR (w : World) (kd : Int) (zs : List Int) (e : Ending) (w' : World) : Prop :=
  ∃ A c, e = .returned (.agg #[.int .i64 kd, .slice A zs.length c]) ∧ OwnI w' w.heap.size A zs.length c zs ∧ Below w.heap.size w w'

set_option maxHeartbeats 1600000 in
theorem toRecord_any (kd : Int) (A : Option Addr) (n cap : Nat) (zs : List Int) (B : Nat) (w : World) (hr : IsInts w B A n zs) (hB : B ≤ w.heap.size) (hn : n ≤ 1048576) :
    Calls Try.prog 20 #[.agg #[.int .i64 kd, .slice A n cap]] w (CopiedR w kd zs) := by
  have HR := Lib.hid hr
  clear hr
  go_enter Try.func20, Try.ntmps20
  go_wp2_with fail
  refine (toIntS_own A n cap zs B _ (HR.out.below (below_a3 _ _ _ _) hB) (by simp; omega) hn).mono ?_
  rintro e w4 ⟨g1, rfl, hO, hb⟩
  obtain ⟨k0, k1, k2⟩ := old3 hb
  obtain ⟨c10, c11, f10, f11⟩ := blk2 k1
  obtain ⟨c20, c21, f20, f21⟩ := blk2 k2
  have hb4 := below_alloc3 hb
  have hs4 : w.heap.size + 1 + 1 < w4.heap.size := (Array.getElem?_eq_some_iff.1 k2).1
  have hO4 : OwnI w4 (w.heap.size + 1 + 1 + 1) (some ⟨g1, 0, none⟩) zs.length zs.length zs := by simpa using hO
  have HO := Lib.hid hO4
  have hl : zs.length = n := HR.out.1
  rw [hl] at HO ⊢
  have HL := Lib.hid hl
  clear hO hb k0 k1 k2 hO4 hl
  go_wp2
  refine bodyPost_ret (v := .agg #[.int .i64 kd, .slice (some ⟨g1, 0, none⟩) n n]) (by simp [results, Try.results20, go_sem, c10, c11]) rfl ⟨some ⟨g1, 0, none⟩, n, by rw [HL.out], ?_, ?_⟩
  · have h1 := ownI_setLow (ownI_setLow (ownI_setLow HO.out (p := ⟨w.heap.size + 1 + 1, 1, none⟩) (by show w.heap.size + 1 + 1 < _; omega) (.slice (some ⟨g1, 0, none⟩) n n)) (p := ⟨w.heap.size + 1, 0, none⟩) (by show w.heap.size + 1 < _; omega) (.int .i64 kd)) (p := ⟨w.heap.size + 1, 1, none⟩) (by show w.heap.size + 1 < _; omega) (.slice (some ⟨g1, 0, none⟩) n n)
    rw [HL.out]
    exact ownI_base h1 (by omega)
  · exact ((hb4.setCell (p := ⟨w.heap.size + 1 + 1, 1, none⟩) (by show _ ≤ w.heap.size + 1 + 1; omega) _).setCell (p := ⟨w.heap.size + 1, 0, none⟩) (by show _ ≤ w.heap.size + 1; omega) _).setCell (p := ⟨w.heap.size + 1, 1, none⟩) (by show _ ≤ w.heap.size + 1; omega) _

def szV (k : Int) (n : Nat) : Int := if k < n then -1 else k - n
theorem szV_f {k : Int} {n : Nat} (h : k < n) : szV k n = -1 := by rw [szV, if_pos h]
theorem szV_t {k : Int} {n : Nat} (h : ¬ k < n) : szV k n = k - n := by rw [szV, if_neg h]
theorem szIntS_any (A : Option Addr) (n c : Nat) (k : Int) (w : World) (hn : n ≤ maxLen) (hk0 : 0 ≤ k) (hk1 : k ≤ 1048576) :
    Calls Try.prog 38 #[.slice A n c, .int .i64 k] w fun e w' => e = .returned (.int .i64 (szV k n)) ∧ w' = w := by
  have hm : (n : Int) ≤ 9223372036854775807 := by unfold maxLen at hn; omega
  by_cases h : k < n
  · have hd : decide (k - (n : Int) < 0) = true := by simp; omega
    rw [szV_f h]
    go_enter Try.func38, Try.ntmps38
    go_wp2
    go_ret
    exact ⟨rfl, rfl⟩
  · have hd : decide (k - (n : Int) < 0) = false := by simp; omega
    rw [szV_t h]
    go_enter Try.func38, Try.ntmps38
    go_wp2
    go_ret
    exact ⟨rfl, rfl⟩

theorem szRecord_any (kd : Int) (A : Option Addr) (n c : Nat) (k : Int) (w : World) (hn : n ≤ maxLen) (hk0 : 0 ≤ k) (hk1 : k ≤ 1048576) :
    Calls Try.prog 18 #[.agg #[.int .i64 kd, .slice A n c], .int .i64 k] w fun e w' => ∃ r : Int, e = .returned (.int .i64 r) ∧ Below w.heap.size w w' ∧ (r = -1 ∨ (0 ≤ r ∧ r = k - n)) := by
  go_enter Try.func18, Try.ntmps18
  go_wp2_with fail
  refine (szIntS_any A n c k _ hn hk0 hk1).mono ?_
  rintro e w4 ⟨rfl, rfl⟩
  by_cases h : k < n
  · rw [szV_f h]
    go_wp2
    go_ret
    exact ⟨-1, rfl, below_a1 _ _, .inl rfl⟩
  · rw [szV_t h]
    have hd : decide (k - (n : Int) < 0) = false := by simp; omega
    go_wp2
    go_ret
    exact ⟨k - n, rfl, below_a1 _ _, .inr ⟨by omega, rfl⟩⟩

/-- It answers true and turns nothing that was there. -/
def SaysTrue (w : World) (e : Ending) (w' : World) : Prop := e = .returned (.bool true) ∧ Below w.heap.size w w'

set_option maxHeartbeats 800000 in
theorem eqRecord_same (kd : Int) (A C : Option Addr) (n cap cap' : Nat) (zs : List Int) (B B' : Nat) (w : World) (hr : IsInts w B A n zs) (hs : IsInts w B' C n zs) (hB : B ≤ w.heap.size) (hB' : B' ≤ w.heap.size) (hn : n ≤ 1048576) :
    Calls Try.prog 15 #[.agg #[.int .i64 kd, .slice A n cap], .agg #[.int .i64 kd, .slice C n cap']] w (SaysTrue w) := by
  have HR := Lib.hid hr
  have HS := Lib.hid hs
  clear hr hs
  go_enter Try.func15, Try.ntmps15
  go_wp2_with fail
  refine (eqIntS_same A C n cap cap' zs B B' _ (HR.out.below (below_a2 _ _ _) hB) (HS.out.below (below_a2 _ _ _) hB') hn).mono ?_
  rintro e w2 ⟨rfl, m, rfl⟩
  go_wp2
  go_ret
  exact ⟨rfl, below_drewN (below_a2 _ _ _) m⟩

/-- n numbers from k on. -/
def marksI (k : Int) (n : Nat) : List Int := (List.range n).map fun (i : Nat) => k + (i : Int)
theorem marksI_len (k : Int) (n : Nat) : (marksI k n).length = n := by simp [marksI]
theorem marksI_at (k : Int) (n j : Nat) (h : j < n) : (marksI k n).getD j 0 = k + (j : Int) := by simp [marksI, List.getD, h]
theorem marks_step (k : Int) (n j : Nat) (zs : List Int) (h : j < n) (hl : zs.length = n) : ((marksI k n).take j ++ zs.drop j).set j (k + (j : Int)) = (marksI k n).take (j + 1) ++ zs.drop (j + 1) := by
  have hj : ((marksI k n).take j).length = j := by rw [List.length_take, marksI_len]; omega
  rw [List.set_append_right _ _ (by omega), hj, Nat.sub_self, List.drop_eq_getElem_cons (by omega), List.set_cons_zero, List.take_succ_eq_append_getElem (by rw [marksI_len]; exact h), List.append_assoc]
  congr 1
  simp [marksI]

set_option maxHeartbeats 800000 in
theorem markIntS_any (A : Option Addr) (n c : Nat) (zs : List Int) (k : Int) (base : Nat) (w : World) (hO : OwnI w base A n c zs) (hn : n ≤ 1048576) (hk0 : 0 ≤ k) (hk1 : k ≤ 300000000) :
    Calls Try.prog 36 #[.slice A n c, .int .i64 k] w fun e w' => e = .returned (.int .i64 (k + n)) ∧ OwnI w' base A n c (marksI k n) ∧ w.grownBy w' (Value.slice A n c).ownBlock := by
  have HL : Hid (zs.length = n) := hO.1
  have HO := Lib.hid hO
  clear hO
  rcases Nat.eq_zero_or_pos n with h0 | h0
  · subst h0
    have HZ : Hid (zs = []) := List.eq_nil_of_length_eq_zero HL.out
    go_enter Try.func36, Try.ntmps36
    go_wp2_with fail
    go_loop [1, 5] (fun a i => a = .int .i64 k ∧ i = .int .i64 (0 : Int)) (fun _ _ => 0)
    case atStart => exact ⟨rfl, rfl⟩
    case round =>
      obtain ⟨rfl, rfl⟩ := hrel
      go_wp2
      go_ret
      refine ⟨by simp, ?_, World.grownBy.refl _ _⟩
      have h5 := HO.out
      rw [HZ.out] at h5
      exact h5
  · obtain ⟨g, cap, hv, hbg, hgl⟩ := HO.out.2.form h0
    obtain rfl : A = some ⟨g, 0, none⟩ := by injection hv
    clear hv
    go_enter Try.func36, Try.ntmps36
    go_wp2_with fail
    go_loopw [1, 5] (fun a i wr => ∃ j : Nat, j ≤ n ∧ a = .int .i64 (k + j) ∧ i = .int .i64 j ∧ Hid (OwnI wr base (some ⟨g, 0, none⟩) n c ((marksI k n).take j ++ zs.drop j)) ∧ Hid (w.grownBy wr (some g))) (fun _ i _ => n - (intOf i).toNat)
    case atStart => exact ⟨0, Nat.zero_le _, by simp, rfl, by simpa using HO, World.grownBy.refl _ _⟩
    case round =>
      obtain ⟨j, hj, rfl, rfl, HI, HG⟩ := hrel
      by_cases hlt : j < n
      · have hc : ∃ u, wr.cell? ⟨g, j, none⟩ = some u := by
          have h5 := HI.out.2.1
          exact ⟨_, (HI.out.2.cellAt j (by omega)).trans (List.getElem?_eq_getElem (by omega))⟩
        obtain ⟨u, hu⟩ := hc
        have hf := HI.out.2.frozenAt j
        obtain ⟨hs1, hs2⟩ := HI.out.2.stored j (.int .i64 (k + j))
        have HN : Hid (OwnI (wr.setCell ⟨g, j, none⟩ (.int .i64 (k + j))) base (some ⟨g, 0, none⟩) n c ((marksI k n).take (j + 1) ++ zs.drop (j + 1))) := by
          rw [← marks_step k n j zs hlt HL.out]
          refine ⟨by rw [List.length_set]; exact HI.out.1, ?_⟩
          rw [List.map_set]
          exact hs1
        have HG2 : Hid (w.grownBy (wr.setCell ⟨g, j, none⟩ (.int .i64 (k + j))) (some g)) := HG.out.andThen hs2 (fun q hq => by cases hq; exact Or.inr rfl)
        clear hs1 hs2
        go_wp2
        go_roundw
        case rel => exact ⟨j + 1, by omega, by go_num, by go_num, HN, HG2⟩
        case measure => simp [intOf]; omega
      · have HJ : Hid (j = n) := (by omega : j = n)
        go_wp2
        go_ret
        refine ⟨by rw [HJ.out]; rfl, ?_, HG.out⟩
        have h5 := HI.out
        rw [HJ.out, List.take_of_length_le (by rw [marksI_len]; exact Nat.le_refl _), List.drop_eq_nil_of_le (by rw [HL.out]; exact Nat.le_refl _), List.append_nil] at h5
        exact h5

set_option maxHeartbeats 800000 in
theorem heldIntS_any (A : Option Addr) (n c : Nat) (k : Int) (B : Nat) (w : World) (hr : IsInts w B A n (marksI k n)) (hn : n ≤ 1048576) (hk0 : 0 ≤ k) (hk1 : k ≤ 300000000) :
    Calls Try.prog 37 #[.slice A n c, .int .i64 k] w fun e w' => e = .returned (.int .i64 (k + n)) ∧ w' = w := by
  have HR := Lib.hid hr
  clear hr
  go_enter Try.func37, Try.ntmps37
  go_wp2_with fail
  go_loop [1, 5] (fun a i => ∃ j : Nat, j ≤ n ∧ a = .int .i64 (k + j) ∧ i = .int .i64 j) (fun _ i => n - (intOf i).toNat)
  case atStart => exact ⟨0, Nat.zero_le _, by simp, rfl⟩
  case round =>
    obtain ⟨j, hj, rfl, rfl⟩ := hrel
    by_cases hlt : j < n
    · obtain ⟨b, off, z, rfl, hbB, hz, hc⟩ := HR.out.at_ hlt
      rw [marksI_at k n j hlt] at hz
      subst hz
      go_wp2
      go_round
      case rel => exact ⟨j + 1, by omega, by go_num, by go_num⟩
      case measure => simp [intOf]; omega
    · have HJ : Hid (j = n) := (by omega : j = n)
      go_wp2
      go_ret
      exact ⟨by rw [HJ.out]; rfl, rfl⟩

set_option maxHeartbeats 800000 in
theorem markRecord_any (kd : Int) (A : Option Addr) (n c : Nat) (zs : List Int) (k : Int) (base : Nat) (w : World) (hO : OwnI w base A n c zs) (hn : n ≤ 1048576) (hk0 : 0 ≤ k) (hk1 : k ≤ 300000000) :
    Calls Try.prog 16 #[.agg #[.int .i64 kd, .slice A n c], .int .i64 k] w fun e w' => e = .returned (.int .i64 (k + n)) ∧ OwnI w' base A n c (marksI k n) ∧ w.grownBy w' (Value.slice A n c).ownBlock := by
  have HO := Lib.hid hO
  clear hO
  go_enter Try.func16, Try.ntmps16
  go_wp2_with fail
  refine (markIntS_any A n c zs k base _ (HO.out.alloc _) hn hk0 hk1).mono ?_
  rintro e w2 ⟨rfl, h2, hg2⟩
  have H2 := Lib.hid h2
  have HG := Lib.hid hg2
  clear h2 hg2
  go_wp2
  go_ret
  exact ⟨rfl, H2.out, (World.grownBy_alloc _ _ _).andThen HG.out (fun q hq => .inr hq)⟩

set_option maxHeartbeats 800000 in
theorem heldRecord_any (kd : Int) (A : Option Addr) (n c : Nat) (k : Int) (B : Nat) (w : World) (hr : IsInts w B A n (marksI k n)) (hB : B ≤ w.heap.size) (hn : n ≤ 1048576) (hk0 : 0 ≤ k) (hk1 : k ≤ 300000000) :
    Calls Try.prog 17 #[.agg #[.int .i64 kd, .slice A n c], .int .i64 k] w fun e w' => e = .returned (.int .i64 (k + n)) ∧ Below w.heap.size w w' := by
  have HR := Lib.hid hr
  clear hr
  have hd : decide (k + (n : Int) < 0) = false := by simp; omega
  go_enter Try.func17, Try.ntmps17
  go_wp2_with fail
  refine (heldIntS_any A n c k B _ (HR.out.below (below_a1 _ _) hB) hn hk0 hk1).mono ?_
  rintro e w2 ⟨rfl, rfl⟩
  go_wp2
  go_ret
  exact ⟨rfl, below_a1 _ _⟩

/-- What a law is told of a record's numbers. -/
def IsRec (w : World) (A : Option Addr) (n : Nat) (zs : List Int) : Prop := IsInts w w.heap.size A n zs ∧ n ≤ maxLen

section
variable {H : Type} {enc : TypeId × Value → H} {w : World} {base : Nat} {spare : Nat → Bool} {held : Bool}
theorem ints_read {fuel : Nat} {v : Value} {x : DataW H × List MemPlace} (h : DataW.trod enc Try.prog w base spare held fuel 43 [v] = some x) :
    ∃ A n c zs, v = .slice A n c ∧ IsRec w A n zs := by
  rcases open_ints Try.underlying43 Try.underlying3 (by kernel_rfl) h with ⟨hcs, _⟩ | ⟨x, l, c, zs, hcs, _, hl, hm, hz, _, hcell, hwz⟩
  · injection hcs with hcs
    exact ⟨none, 0, 0, [], hcs, ⟨rfl, fun h => absurd h (by omega)⟩, Nat.zero_le _⟩
  · injection hcs with hcs
    have hlz : l ≤ zs.length := by rw [hz]; split <;> omega
    refine ⟨_, _, _, zs.take l, hcs, ?_, by omega⟩
    refine ⟨by simp; omega, fun hp => ?_⟩
    have h0 := hcell 0 (by omega)
    obtain ⟨b, off, spot⟩ := x
    have hspot : spot = none := by simpa [Addr.add] using World.cell?_spot h0
    subst hspot
    have hb : b < w.heap.size := by simpa [Addr.add] using World.block_lt_of_cell? w _ h0
    refine ⟨b, off, rfl, hb, fun j hj => ?_⟩
    have hj' := hcell j (by omega)
    have he : (⟨b, off, none⟩ : Addr).add j = ⟨b, off + j, none⟩ := by
      unfold Addr.add
      split
      · subst_vars; rfl
      · rfl
    rw [he] at hj'
    rw [hj']
    simp [List.getD, hj]
set_option maxRecDepth 100000 in
theorem open_record {r : Reach} {b0 : Nat} {v : Value} {d : DataW H} {p : List MemPlace} (hv : Value.okWide Try.prog w r b0 53 v) (h : DataW.Trod enc Try.prog w base spare held 53 v d p) :
    ∃ kd A n c zs, v = .agg #[.int .i64 kd, .slice A n c] ∧ (Lit.int .i64 kd).wf = true ∧ IsRec w A n zs := by
  obtain ⟨v0, v1, y0, y1, n, rfl, _, _, h0, h1⟩ := open_agg2 Try.underlying53 (by kernel_rfl) (by kernel_rfl) hv h
  obtain ⟨x0, e0, hw0⟩ := DataW.trod_int Try.underlying3 h0
  obtain ⟨A, n', c, zs, rfl, hW⟩ := ints_read h1
  injection e0 with e0
  subst e0
  exact ⟨x0, A, n', c, zs, rfl, hw0.2, hW⟩
end
end Go.Proofs.Ytklgjjmcflgjeaa.Rec
