/-
  CONTRACTS of OpRecord and RecordOp, the program's and the model's, over this seat's translation.
-/
import Derived.Test.YtklgjjmcflgjeaaRecOk
import Derived.Test.YtklgjjmcflgjeaaRecTy
import Derived.Test.YtklgjjmcflgjeaaTick
import Derived.Test.YtklgjjmcflgjeaaSeg
namespace Go.Proofs.Ytklgjjmcflgjeaa.OpR
open Go.ChangeShapes Go.WideShapes Go.ChangeAt Go.RowKit
open Go.Proofs.Ytklgjjmcflgjeaa.LK Go.Proofs.Ytklgjjmcflgjeaa.Seg Go.Proofs.Ytklgjjmcflgjeaa.Ints Go.Proofs.Ytklgjjmcflgjeaa.Has Go.Proofs.Ytklgjjmcflgjeaa.Rec
open Go.Proofs.Ytklgjjmcflgjeaa.Tick (inB in_t in_f l01In_any)
open Go.Proofs.Ytklgjjmcflgjeaa.Bytes (numB num_t num_f numberOk_any)

set_option linter.unusedVariables false

theorem one2 (x : Int) (A : Option Addr) (n c : Nat) : ∀ v ∈ [Value.int .i64 x, .slice A n c], v.oneCell' = true := by simp [Value.oneCell']
theorem one4 (a b c d : Int) : ∀ v ∈ [Value.int .i64 a, .int .i64 b, .int .i64 c, .int .i64 d], v.oneCell' = true := by simp [Value.oneCell']
def opB (k a b c : Int) : Bool := inB k 0 2 && (numB a && (numB b && numB c))
/-- The record of an op. -/
def recO (k a b c : Int) : Int × List Int := if opB k a b c then (k, [a, b, c]) else (0, [])
theorem opB_rec (k a b c : Int) : opB k a b c = (inB k 0 2 && recB k [a, b, c]) := by
  cases h : inB k 0 2
  · simp [opB, h]
  · have := in_t h
    have h2 : inB k 0 99 = true := by simp [inB]; omega
    simp [opB, recB, h, h2]
/-- The op of a record. -/
def opV (k : Int) (zs : List Int) : Int × Int × Int × Int := match zs with
  | [a, b, c] => if opB k a b c then (k, a, b, c) else (0, 0, 0, 0)
  | _ => (0, 0, 0, 0)
def opW (k : Int) (zs : List Int) : Bool := match zs with
  | [a, b, c] => opB k a b c
  | _ => false
theorem op_len {k : Int} {zs : List Int} (h : zs.length ≠ 3) : opV k zs = (0, 0, 0, 0) ∧ opW k zs = false := by
  match zs, h with
  | [], _ => exact ⟨rfl, rfl⟩
  | [_], _ => exact ⟨rfl, rfl⟩
  | [_, _], _ => exact ⟨rfl, rfl⟩
  | [_, _, _], h => exact absurd rfl h
  | _ :: _ :: _ :: _ :: _, _ => exact ⟨rfl, rfl⟩
theorem three {zs : List Int} (h : zs.length = 3) : ∃ a b c, zs = [a, b, c] := by
  match zs, h with
  | [a, b, c], _ => exact ⟨a, b, c, rfl⟩
theorem own3 (w : World) (lo : Nat) (a b c : Int) (h : lo ≤ w.heap.size) : OwnI (w.alloc (.cells #[.int .i64 a, .int .i64 b, .int .i64 c] 3)) lo (some ⟨w.heap.size, 0, none⟩) 3 3 [a, b, c] :=
  ⟨rfl, World.ownsRow_lit (base := lo) (e := 3) (size := 1) w #[.int .i64 a, .int .i64 b, .int .i64 c] 3 h (by unfold maxLen; omega) rfl⟩
theorem made3 {w V W : World} {k a b c : Int} {g : Nat} {x : Value} (hO : OwnI V w.heap.size (some ⟨g, 0, none⟩) 3 3 [a, b, c]) (hb : Below w.heap.size w V) (hs : W.heap[g]? = V.heap[g]?) (hW : Below w.heap.size w W) (hz : V.heap.size ≤ W.heap.size) :
    Made1 RecTy.rty (k, [a, b, c]) x w (.returned (.tuple #[.agg #[.int .i64 k, .slice (some ⟨g, 0, none⟩) 3 3], x])) W := by
  refine ⟨_, fun q => w.heap.size ≤ q ∧ q < W.heap.size, rfl, ⟨⟨_, _, rfl, RecTy.ownI_zero (RecTy.ownI_same hO fun q hq => ?_), fun q hq => ?_⟩, fun q hq => hq, Nat.le_refl _⟩, hW⟩
  · have e : q = g := by injection hq with hq; exact hq.symm
    rw [e]; exact hs
  · have := hO.lt q hq; omega
theorem made0 {w W : World} {x : Value} (hW : Below w.heap.size w W) :
    Made1 RecTy.rty (0, []) x w (.returned (.tuple #[.agg #[.int .i64 0, .slice none 0 0], x])) W :=
  ⟨_, fun _ => False, rfl, ⟨⟨none, 0, rfl, ⟨rfl, by rfl, .inl ⟨rfl, rfl⟩⟩, fun q hq => by cases hq⟩, fun q hq => hq.elim, Nat.le_refl _⟩, hW⟩
theorem within_any (x lo hi : Int) (w : World) :
    Calls Try.prog 52 #[.int .i64 x, .int .i64 lo, .int .i64 hi] w fun e w' => e = .returned (.bool (inB x lo hi)) ∧ w = w' := by
  by_cases h0 : lo ≤ x <;> by_cases h1 : x ≤ hi
  all_goals
    go_enter Try.func52, Try.ntmps52
    go_wp2
    go_ret
    simp [inB, h0, h1]
set_option maxHeartbeats 1600000 in
theorem opOk_any (k a b c : Int) (w : World) :
    Calls Try.prog 34 #[.agg #[.int .i64 k, .int .i64 a, .int .i64 b, .int .i64 c]] w (Says (.bool (opB k a b c)) w) := by
  have H : opB k a b c = (inB k 0 2 && (numB a && (numB b && numB c))) := rfl
  rw [H]
  clear H
  cases h0 : inB k 0 2 <;> cases h1 : numB a <;> cases h2 : numB b
  all_goals
    go_enter Try.func34, Try.ntmps34
    go_wp2_with (first | (go_at_call 52; refine (within_any _ _ _ _).mono ?_; rintro e w' ⟨rfl, rfl⟩) | (go_at_call 53; refine (numberOk_any _ _).mono ?_; rintro e w' ⟨rfl, rfl⟩))
    go_ret
    first | exact ⟨rfl, bel1 _ _⟩ | (refine ⟨?_, bel1 _ _⟩; simp)
set_option maxRecDepth 100000 in
set_option maxHeartbeats 1600000 in
theorem opRecord_any (k a b c : Int) (w : World) :
    Calls Try.prog 14 #[.agg #[.int .i64 k, .int .i64 a, .int .i64 b, .int .i64 c]] w (Made1 RecTy.rty (recO k a b c) (.bool (opB k a b c)) w) := by
  obtain ⟨V, hV⟩ : ∃ V, V = (w.alloc (.cells [.int .i64 k, .int .i64 a, .int .i64 b, .int .i64 c].toArray 48)).alloc (.cells [.int .i64 0, .slice none 0 0].toArray 45) := ⟨_, rfl⟩
  have HB : Hid (Below w.heap.size w V) := by rw [hV]; exact bel2 _ _ _
  have K : Hid (V.heap[w.heap.size]? = some (.cells [.int .i64 k, .int .i64 a, .int .i64 b, .int .i64 c].toArray 48 (0, 0))) := by rw [hV]; exact box_alloc (box_new w _) _
  have KR : Hid (V.heap[w.heap.size + 1]? = some (.cells [.int .i64 0, .slice none 0 0].toArray 45 (0, 0))) := by rw [hV]; have h := box_new (w.alloc (.cells [.int .i64 k, .int .i64 a, .int .i64 b, .int .i64 c].toArray 48)) (.cells [.int .i64 0, .slice none 0 0].toArray 45); simp only [World.size_alloc] at h; exact h
  go_enter Try.func14, Try.ntmps14
  go_upto_region 1 with fail
  rw [← hV]
  clear hV
  go_wp2_with (refine wpList_get rfl 48 _ rfl w.heap.size 0 rfl K.out [.int .i64 k, .int .i64 a, .int .i64 b, .int .i64 c] List.take_length Try.underlying48 rfl (by kernel_rfl) ?_)
  refine (opOk_any k a b c _).mono ?_
  rintro e w1 ⟨rfl, hb⟩
  have K1 := Lib.hid (box_below K.out hb)
  have KR1 := Lib.hid (box_below KR.out hb)
  have HB1 := Lib.hid (bel_then HB.out hb HB.out.size)
  have hlt : w.heap.size + 1 < w1.heap.size := box_lt KR1.out
  clear K KR HB hb
  cases hq : opB k a b c
  · have HR : Hid (recO k a b c = (0, [])) := by show _ = _; simp [recO, hq]
    have HQ := Lib.hid hq
    clear hq
    go_wp2_with (refine wpList_put rfl rfl 45 _ _ rfl (w.heap.size + 1) 0 [.int .i64 0, .slice none 0 0] rfl rfl KR1.out (by kernel_rfl) [.int .i64 0, .slice none 0 0] rfl (Nat.le_of_ble_eq_true rfl) (one2 _ _ _ _) ?_)
    refine bodyPost_ret (v := .tuple #[.agg [.int .i64 0, .slice none 0 0].toArray, .bool false]) (results_box_tmp Try.results14 _ rfl rfl (row_box KR1.out) Try.underlying45 rfl (by kernel_rfl)) rfl ?_
    rw [HR.out, HQ.out]
    exact made0 (row_below HB1.out (w.heap.size + 1) _ (by omega) HB1.out.size)
  · have HR : Hid (recO k a b c = (k, [a, b, c])) := by show _ = _; simp [recO, hq]
    have HQ := Lib.hid hq
    clear hq
    have c0 : w1.cell? ⟨w.heap.size, 0, none⟩ = some (.int .i64 k) := box_cell K1.out 0 _ rfl
    have c1 : w1.cell? ⟨w.heap.size, 1, none⟩ = some (.int .i64 a) := box_cell K1.out 1 _ rfl
    have c2 : w1.cell? ⟨w.heap.size, 2, none⟩ = some (.int .i64 b) := box_cell K1.out 2 _ rfl
    have c3 : w1.cell? ⟨w.heap.size, 3, none⟩ = some (.int .i64 c) := box_cell K1.out 3 _ rfl
    have KX : Hid ((w1.alloc (.cells #[.int .i64 a, .int .i64 b, .int .i64 c] 3)).heap[w.heap.size + 1]? = some (.cells [.int .i64 0, .slice none 0 0].toArray 45 (0, 0))) := box_alloc KR1.out _
    go_wp2_with (refine wpList_put rfl rfl 45 _ _ rfl (w.heap.size + 1) 0 [.int .i64 k, .slice (some ⟨w1.heap.size, 0, none⟩) 3 3] rfl rfl KX.out (by kernel_rfl) [.int .i64 k, .slice (some ⟨w1.heap.size, 0, none⟩) 3 3] rfl (Nat.le_of_ble_eq_true rfl) (one2 _ _ _ _) ?_)
    refine bodyPost_ret (v := .tuple #[.agg [.int .i64 k, .slice (some ⟨w1.heap.size, 0, none⟩) 3 3].toArray, .bool true]) (results_box_tmp Try.results14 _ rfl rfl (row_box KX.out) Try.underlying45 rfl (by kernel_rfl)) rfl ?_
    rw [HR.out, HQ.out]
    refine made3 (V := w1.alloc (.cells #[.int .i64 a, .int .i64 b, .int .i64 c] 3)) (own3 w1 _ a b c (by omega)) (bel_then HB1.out (bel1 _ _) HB1.out.size) ?_ (row_below (bel_then HB1.out (bel1 _ _) HB1.out.size) (w.heap.size + 1) _ (by omega) (by simp; omega)) (by simp)
    exact setRow_other _ _ _ _ (by omega)
set_option maxRecDepth 100000 in
set_option maxHeartbeats 1600000 in
theorem specOpRecord_any (k a b c : Int) (w : World) :
    Calls Try.prog 12 #[.agg #[.int .i64 k, .int .i64 a, .int .i64 b, .int .i64 c]] w (Made1 RecTy.rty (recO k a b c) (.bool (opB k a b c)) w) := by
  obtain ⟨V, hV⟩ : ∃ V, V = (w.alloc (.cells [.int .i64 k, .int .i64 a, .int .i64 b, .int .i64 c].toArray 48)).alloc (.cells [.int .i64 0, .slice none 0 0].toArray 45) := ⟨_, rfl⟩
  have HB : Hid (Below w.heap.size w V) := by rw [hV]; exact bel2 _ _ _
  have K : Hid (V.heap[w.heap.size]? = some (.cells [.int .i64 k, .int .i64 a, .int .i64 b, .int .i64 c].toArray 48 (0, 0))) := by rw [hV]; exact box_alloc (box_new w _) _
  have KR : Hid (V.heap[w.heap.size + 1]? = some (.cells [.int .i64 0, .slice none 0 0].toArray 45 (0, 0))) := by rw [hV]; have h := box_new (w.alloc (.cells [.int .i64 k, .int .i64 a, .int .i64 b, .int .i64 c].toArray 48)) (.cells [.int .i64 0, .slice none 0 0].toArray 45); simp only [World.size_alloc] at h; exact h
  go_enter Try.func12, Try.ntmps12
  go_upto_region 1 with fail
  rw [← hV]
  clear hV
  have c0 : V.cell? ⟨w.heap.size, 0, none⟩ = some (.int .i64 k) := box_cell K.out 0 _ rfl
  have c1 : V.cell? ⟨w.heap.size, 1, none⟩ = some (.int .i64 a) := box_cell K.out 1 _ rfl
  have c2 : V.cell? ⟨w.heap.size, 2, none⟩ = some (.int .i64 b) := box_cell K.out 2 _ rfl
  have c3 : V.cell? ⟨w.heap.size, 3, none⟩ = some (.int .i64 c) := box_cell K.out 3 _ rfl
  have hlt : w.heap.size + 1 < V.heap.size := box_lt KR.out
  obtain ⟨X, hX⟩ : ∃ X, X = ((V.alloc (.cells #[.int .i64 a, .int .i64 b, .int .i64 c] 3)).alloc (.cells [.int .i64 0, .slice none 0 0].toArray 45)).setRow (V.heap.size + 1) [.int .i64 k, .slice (some ⟨V.heap.size, 0, none⟩) 3 3].toArray := ⟨_, rfl⟩
  have KN : Hid (((V.alloc (.cells #[.int .i64 a, .int .i64 b, .int .i64 c] 3)).alloc (.cells [.int .i64 0, .slice none 0 0].toArray 45)).heap[V.heap.size + 1]? = some (.cells [.int .i64 0, .slice none 0 0].toArray 45 (0, 0))) := by have h := box_new (V.alloc (.cells #[.int .i64 a, .int .i64 b, .int .i64 c] 3)) (.cells [.int .i64 0, .slice none 0 0].toArray 45); simp only [World.size_alloc] at h; exact h
  have KNX : Hid (X.heap[V.heap.size + 1]? = some (.cells [.int .i64 k, .slice (some ⟨V.heap.size, 0, none⟩) 3 3].toArray 45 (0, 0))) := by rw [hX]; exact row_box KN.out
  have HVX : Hid (Below V.heap.size V X) := by rw [hX]; exact row_below (bel2 _ _ _) (V.heap.size + 1) _ (by omega) (by simp; omega)
  have HOX : Hid (OwnI X w.heap.size (some ⟨V.heap.size, 0, none⟩) 3 3 [a, b, c]) := by
    rw [hX]
    refine RecTy.ownI_same ((own3 V w.heap.size a b c (by omega)).alloc (.cells [.int .i64 0, .slice none 0 0].toArray 45)) (fun q hq => ?_)
    have e : q = V.heap.size := by injection hq with hq; exact hq.symm
    exact setRow_other _ _ _ _ (by omega)
  go_upto_region 2 with (refine wpList_put rfl rfl 45 _ _ rfl (V.heap.size + 1) 0 [.int .i64 k, .slice (some ⟨V.heap.size, 0, none⟩) 3 3] rfl rfl KN.out (by kernel_rfl) [.int .i64 k, .slice (some ⟨V.heap.size, 0, none⟩) 3 3] rfl (Nat.le_of_ble_eq_true rfl) (one2 _ _ _ _) ?_)
  rw [← hX]
  clear hX KN c0 c1 c2 c3
  have K1 := Lib.hid (box_below K.out HVX.out)
  have KR1 := Lib.hid (box_below KR.out HVX.out)
  have HB1 := Lib.hid (bel_then HB.out HVX.out HB.out.size)
  have hX : V.heap.size + 1 < X.heap.size := box_lt KNX.out
  have c0 : X.cell? ⟨w.heap.size, 0, none⟩ = some (.int .i64 k) := box_cell K1.out 0 _ rfl
  clear K KR HB
  have NO : Hid (opB k a b c = false → ∀ W, Below X.heap.size X W → Made1 RecTy.rty (recO k a b c) (.bool (opB k a b c)) w (.returned (.tuple #[.agg [.int .i64 0, .slice none 0 0].toArray, .bool false])) (W.setRow (w.heap.size + 1) [.int .i64 0, .slice none 0 0].toArray)) := fun h W hW => by
    rw [h, show recO k a b c = (0, []) by simp [recO, h]]
    have hb := bel_then HB1.out hW HB1.out.size
    exact made0 (row_below hb (w.heap.size + 1) _ (by omega) hb.size)
  have HQ := Lib.hid (opB_rec k a b c)
  cases h0 : inB k 0 2
  · have HF : Hid (opB k a b c = false) := by show _ = _; rw [HQ.out, h0]; rfl
    go_wp2_with (first | (go_at_call 32; refine (l01In_any _ _ _ _).mono ?_; rintro e w' ⟨rfl, rfl⟩) | (refine wpList_put rfl rfl 45 _ _ rfl (w.heap.size + 1) 0 [.int .i64 0, .slice none 0 0] rfl rfl KR1.out (by kernel_rfl) [.int .i64 0, .slice none 0 0] rfl (Nat.le_of_ble_eq_true rfl) (one2 _ _ _ _) ?_))
    exact bodyPost_ret (v := .tuple #[.agg [.int .i64 0, .slice none 0 0].toArray, .bool false]) (results_box_tmp Try.results12 _ rfl rfl (row_box KR1.out) Try.underlying45 rfl (by kernel_rfl)) rfl (NO.out HF.out _ (Below.refl _ _))
  · have HE : Hid (opB k a b c = recB k [a, b, c]) := by show _ = _; rw [HQ.out, h0]; rfl
    have HH := Lib.hid h0
    clear h0
    go_wp2_with fail
    refine (l01In_any _ _ _ _).mono ?_
    rintro e w' ⟨rfl, rfl⟩
    rw [HH.out]
    clear c0
    go_wp2_with (refine wpList_getG (by rfl) 45 _ rfl (V.heap.size + 1) 0 rfl KNX.out [.int .i64 k, .slice (some ⟨V.heap.size, 0, none⟩) 3 3] List.take_length Try.underlying45 rfl (by kernel_rfl) ?_)
    refine (specRecordOk_any k _ 3 3 [a, b, c] X.heap.size _ HOX.out.ints (Nat.le_refl _) (by omega)).mono ?_
    rintro e w2 ⟨rfl, hb⟩
    have KR2 := Lib.hid (box_below KR1.out hb)
    have KN2 := Lib.hid (box_below KNX.out hb)
    have HB2 := Lib.hid (bel_then HB1.out hb HB1.out.size)
    have HO2 := Lib.hid (HOX.out.below hb)
    have HBX := Lib.hid hb
    have h2 : X.heap.size ≤ w2.heap.size := hb.size
    clear hb KR1 KNX K1
    cases hr : recB k [a, b, c]
    · have HF : Hid (opB k a b c = false) := by show _ = _; rw [HE.out, hr]
      clear hr
      go_wp2_with (refine wpList_put rfl rfl 45 _ _ rfl (w.heap.size + 1) 0 [.int .i64 0, .slice none 0 0] rfl rfl KR2.out (by kernel_rfl) [.int .i64 0, .slice none 0 0] rfl (Nat.le_of_ble_eq_true rfl) (one2 _ _ _ _) ?_)
      exact bodyPost_ret (v := .tuple #[.agg [.int .i64 0, .slice none 0 0].toArray, .bool false]) (results_box_tmp Try.results12 _ rfl rfl (row_box KR2.out) Try.underlying45 rfl (by kernel_rfl)) rfl (NO.out HF.out _ HBX.out)
    · have HF : Hid (opB k a b c = true) := by show _ = _; rw [HE.out, hr]
      clear hr
      go_wp2_with (first | (refine wpList_get rfl 45 _ rfl (V.heap.size + 1) 0 rfl KN2.out [.int .i64 k, .slice (some ⟨V.heap.size, 0, none⟩) 3 3] List.take_length Try.underlying45 rfl (by kernel_rfl) ?_) | (refine wpList_put rfl rfl 45 _ _ rfl (w.heap.size + 1) 0 [.int .i64 k, .slice (some ⟨V.heap.size, 0, none⟩) 3 3] rfl rfl KR2.out (by kernel_rfl) [.int .i64 k, .slice (some ⟨V.heap.size, 0, none⟩) 3 3] rfl (Nat.le_of_ble_eq_true rfl) (one2 _ _ _ _) ?_))
      refine bodyPost_ret (v := .tuple #[.agg [.int .i64 k, .slice (some ⟨V.heap.size, 0, none⟩) 3 3].toArray, .bool true]) (results_box_tmp Try.results12 _ rfl rfl (row_box KR2.out) Try.underlying45 rfl (by kernel_rfl)) rfl ?_
      rw [HF.out, show recO k a b c = (k, [a, b, c]) by simp [recO, HF.out]]
      refine made3 (V := w2) HO2.out HB2.out (setRow_other _ _ _ _ (by omega)) (row_below HB2.out (w.heap.size + 1) _ (by omega) HB2.out.size) (by simp)
end Go.Proofs.Ytklgjjmcflgjeaa.OpR
