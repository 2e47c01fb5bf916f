/-
  A POD'S TEXT: the contracts of PodText, the program's and the model's, over this seat's translation.
-/
import Derived.Test.YtpnlnekgekfhgaaDoorLawKit
import Derived.Test.YtpnlnekgekfhgaaDoorTick
import Derived.Test.YtpnlnekgekfhgaaDoorNum
import Derived.Test.YtpnlnekgekfhgaaDoorShelf
import Derived.Lib.AppendIntMem
import Derived.Lib.LaidTab
import Derived.Lib.ItoaNum
import Derived.Lib.ItoaLen
import Derived.Laws.Concat
import Derived.Deep.RegionHeld3
namespace Go.Proofs.YtpnlnekgekfhgaaDoor.PodText
open Go.ChangeShapes Go.WideShapes Go.ChangeAt Go.RowKit
open Go.Proofs.YtpnlnekgekfhgaaDoor.LK Go.Proofs.YtpnlnekgekfhgaaDoor.Num Go.Proofs.YtpnlnekgekfhgaaDoor.Str
open Go.Proofs.YtpnlnekgekfhgaaDoor.Tick (inB in_t in_f)
set_option linter.unusedVariables false
set_option linter.unusedSimpArgs false

def nmT (k : Int) : ByteArray := if k = 0 then ⟨#[110, 101, 119]⟩ else if k = 1 then ⟨#[114, 117, 110, 115]⟩ else if k = 2 then ⟨#[114, 101, 97, 100, 121]⟩ else if k = 3 then ⟨#[98, 114, 111, 107, 101, 110]⟩ else ⟨#[103, 111, 105, 110, 103]⟩
def podT (x0 x1 x2 x4 : Int) : ByteArray := if inB x2 0 4 = true then bstr (Lib.itoa x0) ++ ⟨#[64]⟩ ++ bstr (Lib.itoa x1) ++ ⟨#[32]⟩ ++ nmT x2 ++ ⟨#[32]⟩ ++ bstr (Lib.itoa x4) else ⟨#[]⟩
theorem itoa_size (x : Int) (h0 : -9223372036854775808 ≤ x) (h1 : x ≤ 9223372036854775807) : (bstr (Lib.itoa x)).size ≤ 21 := by
  rw [bstr_size]; exact Lib.itoa_length_le _ h0 h1
theorem wf_bd {x : Int} (h : (Lit.int .i64 x).wf = true) : -9223372036854775808 ≤ x ∧ x ≤ 9223372036854775807 := by
  simp [Lit.wf, IntKind.min, IntKind.max, IntKind.signed, IntKind.bits] at h
  omega
theorem itoa_any (x : Int) (h0 : -9223372036854775808 ≤ x) (h1 : x ≤ 9223372036854775807) (B : Nat) (w : World) (hB : B ≤ w.heap.size) (htab : Lib.TabBelow Tryd.prog B w "internal/strconv.uint64pow10" .u64 Lib.pow10Tab) :
    Calls Tryd.prog 10 #[.int .i64 x] w (NumSaid x w) := by
  refine (Tryd.strconv_Itoa x h0 h1 w (htab w (Below.refl _ _))).mono ?_
  rintro e w' ⟨rfl, k, os, rfl⟩
  exact ⟨rfl, Lib.below_grow _ _ (Nat.le_refl _) k os⟩
set_option maxHeartbeats 800000 in
theorem toPod_any (x0 x1 x2 x3 x4 : Int) (w : World) :
    Calls Tryd.prog 5 #[.agg #[.int .i64 x0, .int .i64 x1, .int .i64 x2, .int .i64 x3, .int .i64 x4]] w (Says (.agg #[.int .i64 x0, .int .i64 x1, .int .i64 x2, .int .i64 x3, .int .i64 x4]) w) := by
  go_enter Tryd.func5, Tryd.ntmps5
  go_wp2
  exact bodyPost_ret (v := .agg #[.int .i64 x0, .int .i64 x1, .int .i64 x2, .int .i64 x3, .int .i64 x4]) (by simp [results, Tryd.results5, go_sem]) rfl ⟨rfl, bel3 _ _ _ _⟩
set_option maxRecDepth 100000 in
set_option maxHeartbeats 6400000 in
theorem specPodText_any (x0 x1 x2 x3 x4 : Int) (w : World) (b0 : (Lit.int .i64 x0).wf = true) (b1 : (Lit.int .i64 x1).wf = true) (b4 : (Lit.int .i64 x4).wf = true) :
    Calls Tryd.prog 4 #[.agg #[.int .i64 x0, .int .i64 x1, .int .i64 x2, .int .i64 x3, .int .i64 x4]] w (Says (.string (podT x0 x1 x2 x4)) w) := by
  obtain ⟨a00, a01⟩ := wf_bd b0
  obtain ⟨a10, a11⟩ := wf_bd b1
  obtain ⟨a40, a41⟩ := wf_bd b4
  cases hin : inB x2 0 4
  · have HV : Hid (podT x0 x1 x2 x4 = ⟨#[]⟩) := by simp [Hid, podT, hin]
    go_enter Tryd.func4, Tryd.ntmps4
    go_wp2_with (go_at_call 7; refine (Tick.l01In_any _ _ _ _).mono ?_; rintro e w' ⟨rfl, rfl⟩; rw [hin])
    go_ret
    exact ⟨by rw [HV.out]; rfl, bel2 _ _ _⟩
  have hx2 : x2 = 0 ∨ x2 = 1 ∨ x2 = 2 ∨ x2 = 3 ∨ x2 = 4 := by have := in_t hin; omega
  obtain ⟨X1, hX1⟩ : ∃ X, X = bstr (Lib.itoa x0) := ⟨_, rfl⟩
  obtain ⟨X2, hX2⟩ : ∃ X, X = bstr (Lib.itoa x1) := ⟨_, rfl⟩
  obtain ⟨X3, hX3⟩ : ∃ X, X = bstr (Lib.itoa x4) := ⟨_, rfl⟩
  have s1 : X1.size ≤ 21 := by rw [hX1]; exact itoa_size x0 a00 a01
  have s2 : X2.size ≤ 21 := by rw [hX2]; exact itoa_size x1 a10 a11
  have s3 : X3.size ≤ 21 := by rw [hX3]; exact itoa_size x4 a40 a41
  have N1 : Hid (∀ e W W', NumSaid x0 W e W' → e = .returned (.string X1) ∧ Below W.heap.size W W') := fun e W W' h => by rw [hX1]; exact h
  have N2 : Hid (∀ e W W', NumSaid x1 W e W' → e = .returned (.string X2) ∧ Below W.heap.size W W') := fun e W W' h => by rw [hX2]; exact h
  have N3 : Hid (∀ e W W', NumSaid x4 W e W' → e = .returned (.string X3) ∧ Below W.heap.size W W') := fun e W W' h => by rw [hX3]; exact h
  obtain ⟨Y1, hY1⟩ : ∃ Y, Y = X1 ++ (⟨#[64]⟩ : ByteArray) := ⟨_, rfl⟩
  obtain ⟨Y2, hY2⟩ : ∃ Y, Y = Y1 ++ X2 := ⟨_, rfl⟩
  obtain ⟨Y3, hY3⟩ : ∃ Y, Y = Y2 ++ (⟨#[32]⟩ : ByteArray) := ⟨_, rfl⟩
  obtain ⟨Y4, hY4⟩ : ∃ Y, Y = Y3 ++ nmT x2 := ⟨_, rfl⟩
  obtain ⟨Y5, hY5⟩ : ∃ Y, Y = Y4 ++ (⟨#[32]⟩ : ByteArray) := ⟨_, rfl⟩
  obtain ⟨Y6, hY6⟩ : ∃ Y, Y = Y5 ++ X3 := ⟨_, rfl⟩
  have sn : (nmT x2).size ≤ 6 := by rcases hx2 with rfl | rfl | rfl | rfl | rfl <;> decide
  have g1 : Y1.size ≤ 22 := by rw [hY1, ByteArray.size_append]; have : (⟨#[64]⟩ : ByteArray).size = 1 := rfl; omega
  have g2 : Y2.size ≤ 43 := by rw [hY2, ByteArray.size_append]; omega
  have g3 : Y3.size ≤ 44 := by rw [hY3, ByteArray.size_append]; have : (⟨#[32]⟩ : ByteArray).size = 1 := rfl; omega
  have g4 : Y4.size ≤ 50 := by rw [hY4, ByteArray.size_append]; omega
  have g5 : Y5.size ≤ 51 := by rw [hY5, ByteArray.size_append]; have : (⟨#[32]⟩ : ByteArray).size = 1 := rfl; omega
  have HV : Hid (podT x0 x1 x2 x4 = Y6) := by
    show _ = _
    unfold podT
    rw [if_pos hin, hY6, hY5, hY4, hY3, hY2, hY1, hX1, hX2, hX3]
  have k1 : ∀ W : World, (Op.stringOp .add X1 ⟨#[64]⟩).run Tryd.prog W = .ok (.string Y1) W := fun W => by rw [hY1]; exact run_string_add W _ _ (by omega) (by show (1 : Int) ≤ _; omega)
  have k2 : ∀ W : World, (Op.stringOp .add Y1 X2).run Tryd.prog W = .ok (.string Y2) W := fun W => by rw [hY2]; exact run_string_add W _ _ (by omega) (by omega)
  have k3 : ∀ W : World, (Op.stringOp .add Y2 ⟨#[32]⟩).run Tryd.prog W = .ok (.string Y3) W := fun W => by rw [hY3]; exact run_string_add W _ _ (by omega) (by show (1 : Int) ≤ _; omega)
  have k5 : ∀ W : World, (Op.stringOp .add Y4 ⟨#[32]⟩).run Tryd.prog W = .ok (.string Y5) W := fun W => by rw [hY5]; exact run_string_add W _ _ (by omega) (by show (1 : Int) ≤ _; omega)
  have k6 : ∀ W : World, (Op.stringOp .add Y5 X3).run Tryd.prog W = .ok (.string Y6) W := fun W => by rw [hY6]; exact run_string_add W _ _ (by omega) (by omega)
  have k4 : ∀ W : World, (Op.stringOp .add Y3 (nmT x2)).run Tryd.prog W = .ok (.string Y4) W := fun W => by rw [hY4]; exact run_string_add W _ _ (by omega) (by omega)
  have HIN := Lib.hid hin
  clear hin hX1 hX2 hX3 hY1 hY2 hY3 hY4 hY5 hY6
  rcases hx2 with rfl | rfl | rfl | rfl | rfl
  · have k4' : ∀ W : World, (Op.stringOp .add Y3 ⟨#[110, 101, 119]⟩).run Tryd.prog W = .ok (.string Y4) W := k4
    clear k4
    go_enter Tryd.func4, Tryd.ntmps4
    go_wp2_with (go_at_call 7; refine (Tick.l01In_any _ _ _ _).mono ?_; rintro e w' ⟨rfl, rfl⟩; rw [HIN.out])
    obtain ⟨V, hV⟩ : ∃ V, V = (w.alloc (.cells #[.int .i64 x0, .int .i64 x1, .int .i64 0, .int .i64 x3, .int .i64 x4] 25)).alloc (.cells #[.string ⟨#[110, 101, 119]⟩, .string ⟨#[114, 117, 110, 115]⟩, .string ⟨#[114, 101, 97, 100, 121]⟩, .string ⟨#[98, 114, 111, 107, 101, 110]⟩, .string ⟨#[103, 111, 105, 110, 103]⟩] 9) := ⟨_, rfl⟩
    have hbV : Below w.heap.size w V := by rw [hV]; exact bel2 _ _ _
    have e0 := box_alloc (box_new w (.cells #[.int .i64 x0, .int .i64 x1, .int .i64 0, .int .i64 x3, .int .i64 x4] 25)) (.cells #[.string ⟨#[110, 101, 119]⟩, .string ⟨#[114, 117, 110, 115]⟩, .string ⟨#[114, 101, 97, 100, 121]⟩, .string ⟨#[98, 114, 111, 107, 101, 110]⟩, .string ⟨#[103, 111, 105, 110, 103]⟩] 9)
    have e1 := box_new (w.alloc (.cells #[.int .i64 x0, .int .i64 x1, .int .i64 0, .int .i64 x3, .int .i64 x4] 25)) (.cells #[.string ⟨#[110, 101, 119]⟩, .string ⟨#[114, 117, 110, 115]⟩, .string ⟨#[114, 101, 97, 100, 121]⟩, .string ⟨#[98, 114, 111, 107, 101, 110]⟩, .string ⟨#[103, 111, 105, 110, 103]⟩] 9)
    simp only [World.size_alloc] at e1
    rw [← hV] at e0 e1 ⊢
    clear hV

    have d0 := box_cell e0 0 _ rfl
    have d1 := box_cell e0 1 _ rfl
    have d2 := box_cell e0 2 _ rfl
    have d4 := box_cell e0 4 _ rfl
    have m0 := box_cell e1 0 _ rfl
    have m1 := box_cell e1 1 _ rfl
    have m2 := box_cell e1 2 _ rfl
    have m3 := box_cell e1 3 _ rfl
    have m4 := box_cell e1 4 _ rfl
    clear e0 e1
    go_region_held3 (fun w' => w'.cell? ⟨w.heap.size, 0, none⟩ = some (.int .i64 x0) ∧ w'.cell? ⟨w.heap.size, 1, none⟩ = some (.int .i64 x1) ∧ w'.cell? ⟨w.heap.size, 2, none⟩ = some (.int .i64 0) ∧ w'.cell? ⟨w.heap.size, 4, none⟩ = some (.int .i64 x4) ∧ w'.cell? ⟨w.heap.size + 1, 0, none⟩ = some (.string ⟨#[110, 101, 119]⟩) ∧ w'.cell? ⟨w.heap.size + 1, 1, none⟩ = some (.string ⟨#[114, 117, 110, 115]⟩) ∧ w'.cell? ⟨w.heap.size + 1, 2, none⟩ = some (.string ⟨#[114, 101, 97, 100, 121]⟩) ∧ w'.cell? ⟨w.heap.size + 1, 3, none⟩ = some (.string ⟨#[98, 114, 111, 107, 101, 110]⟩) ∧ w'.cell? ⟨w.heap.size + 1, 4, none⟩ = some (.string ⟨#[103, 111, 105, 110, 103]⟩)) (first | (go_keep; done) | (refine ⟨cell_keep hb7 ?_, cell_keep hb7 ?_, cell_keep hb7 ?_, cell_keep hb7 ?_, cell_keep hb7 ?_, cell_keep hb7 ?_, cell_keep hb7 ?_, cell_keep hb7 ?_, cell_keep hb7 ?_⟩ <;> simp only [*]; done) | (refine ⟨cell_keep hb6 ?_, cell_keep hb6 ?_, cell_keep hb6 ?_, cell_keep hb6 ?_, cell_keep hb6 ?_, cell_keep hb6 ?_, cell_keep hb6 ?_, cell_keep hb6 ?_, cell_keep hb6 ?_⟩ <;> simp only [*]; done) | (refine ⟨cell_keep hb5 ?_, cell_keep hb5 ?_, cell_keep hb5 ?_, cell_keep hb5 ?_, cell_keep hb5 ?_, cell_keep hb5 ?_, cell_keep hb5 ?_, cell_keep hb5 ?_, cell_keep hb5 ?_⟩ <;> simp only [*]; done))
      (first | (have hn6 := hb6; go_at_call 8; refine (l01Num_any x4 a40 a41 _).mono ?_; intro e w7 hA; obtain ⟨rfl, hb7⟩ := N3.out _ _ _ hA; clear hA; clear hn6) | (have hn5 := hb5; go_at_call 8; refine (l01Num_any x1 a10 a11 _).mono ?_; intro e w6 hA; obtain ⟨rfl, hb6⟩ := N2.out _ _ _ hA; clear hA; clear hn5) | (go_at_call 8; refine (l01Num_any x0 a00 a01 _).mono ?_; intro e w5 hA; obtain ⟨rfl, hb5⟩ := N1.out _ _ _ hA; clear hA; have hb5' : Below V.heap.size V w5 := undrew hb5))
    all_goals
      have hbf : Below w.heap.size w w7 := bel_then hbV (bel_then hb5' (bel_then hb6 hb7 hb6.size) hb5'.size) hbV.size
      go_wp2
      go_ret
      exact ⟨by rw [HV.out]; rfl, hbf⟩
  · have k4' : ∀ W : World, (Op.stringOp .add Y3 ⟨#[114, 117, 110, 115]⟩).run Tryd.prog W = .ok (.string Y4) W := k4
    clear k4
    go_enter Tryd.func4, Tryd.ntmps4
    go_wp2_with (go_at_call 7; refine (Tick.l01In_any _ _ _ _).mono ?_; rintro e w' ⟨rfl, rfl⟩; rw [HIN.out])
    obtain ⟨V, hV⟩ : ∃ V, V = (w.alloc (.cells #[.int .i64 x0, .int .i64 x1, .int .i64 1, .int .i64 x3, .int .i64 x4] 25)).alloc (.cells #[.string ⟨#[110, 101, 119]⟩, .string ⟨#[114, 117, 110, 115]⟩, .string ⟨#[114, 101, 97, 100, 121]⟩, .string ⟨#[98, 114, 111, 107, 101, 110]⟩, .string ⟨#[103, 111, 105, 110, 103]⟩] 9) := ⟨_, rfl⟩
    have hbV : Below w.heap.size w V := by rw [hV]; exact bel2 _ _ _
    have e0 := box_alloc (box_new w (.cells #[.int .i64 x0, .int .i64 x1, .int .i64 1, .int .i64 x3, .int .i64 x4] 25)) (.cells #[.string ⟨#[110, 101, 119]⟩, .string ⟨#[114, 117, 110, 115]⟩, .string ⟨#[114, 101, 97, 100, 121]⟩, .string ⟨#[98, 114, 111, 107, 101, 110]⟩, .string ⟨#[103, 111, 105, 110, 103]⟩] 9)
    have e1 := box_new (w.alloc (.cells #[.int .i64 x0, .int .i64 x1, .int .i64 1, .int .i64 x3, .int .i64 x4] 25)) (.cells #[.string ⟨#[110, 101, 119]⟩, .string ⟨#[114, 117, 110, 115]⟩, .string ⟨#[114, 101, 97, 100, 121]⟩, .string ⟨#[98, 114, 111, 107, 101, 110]⟩, .string ⟨#[103, 111, 105, 110, 103]⟩] 9)
    simp only [World.size_alloc] at e1
    rw [← hV] at e0 e1 ⊢
    clear hV

    have d0 := box_cell e0 0 _ rfl
    have d1 := box_cell e0 1 _ rfl
    have d2 := box_cell e0 2 _ rfl
    have d4 := box_cell e0 4 _ rfl
    have m0 := box_cell e1 0 _ rfl
    have m1 := box_cell e1 1 _ rfl
    have m2 := box_cell e1 2 _ rfl
    have m3 := box_cell e1 3 _ rfl
    have m4 := box_cell e1 4 _ rfl
    clear e0 e1
    go_region_held3 (fun w' => w'.cell? ⟨w.heap.size, 0, none⟩ = some (.int .i64 x0) ∧ w'.cell? ⟨w.heap.size, 1, none⟩ = some (.int .i64 x1) ∧ w'.cell? ⟨w.heap.size, 2, none⟩ = some (.int .i64 1) ∧ w'.cell? ⟨w.heap.size, 4, none⟩ = some (.int .i64 x4) ∧ w'.cell? ⟨w.heap.size + 1, 0, none⟩ = some (.string ⟨#[110, 101, 119]⟩) ∧ w'.cell? ⟨w.heap.size + 1, 1, none⟩ = some (.string ⟨#[114, 117, 110, 115]⟩) ∧ w'.cell? ⟨w.heap.size + 1, 2, none⟩ = some (.string ⟨#[114, 101, 97, 100, 121]⟩) ∧ w'.cell? ⟨w.heap.size + 1, 3, none⟩ = some (.string ⟨#[98, 114, 111, 107, 101, 110]⟩) ∧ w'.cell? ⟨w.heap.size + 1, 4, none⟩ = some (.string ⟨#[103, 111, 105, 110, 103]⟩)) (first | (go_keep; done) | (refine ⟨cell_keep hb7 ?_, cell_keep hb7 ?_, cell_keep hb7 ?_, cell_keep hb7 ?_, cell_keep hb7 ?_, cell_keep hb7 ?_, cell_keep hb7 ?_, cell_keep hb7 ?_, cell_keep hb7 ?_⟩ <;> simp only [*]; done) | (refine ⟨cell_keep hb6 ?_, cell_keep hb6 ?_, cell_keep hb6 ?_, cell_keep hb6 ?_, cell_keep hb6 ?_, cell_keep hb6 ?_, cell_keep hb6 ?_, cell_keep hb6 ?_, cell_keep hb6 ?_⟩ <;> simp only [*]; done) | (refine ⟨cell_keep hb5 ?_, cell_keep hb5 ?_, cell_keep hb5 ?_, cell_keep hb5 ?_, cell_keep hb5 ?_, cell_keep hb5 ?_, cell_keep hb5 ?_, cell_keep hb5 ?_, cell_keep hb5 ?_⟩ <;> simp only [*]; done))
      (first | (have hn6 := hb6; go_at_call 8; refine (l01Num_any x4 a40 a41 _).mono ?_; intro e w7 hA; obtain ⟨rfl, hb7⟩ := N3.out _ _ _ hA; clear hA; clear hn6) | (have hn5 := hb5; go_at_call 8; refine (l01Num_any x1 a10 a11 _).mono ?_; intro e w6 hA; obtain ⟨rfl, hb6⟩ := N2.out _ _ _ hA; clear hA; clear hn5) | (go_at_call 8; refine (l01Num_any x0 a00 a01 _).mono ?_; intro e w5 hA; obtain ⟨rfl, hb5⟩ := N1.out _ _ _ hA; clear hA; have hb5' : Below V.heap.size V w5 := undrew hb5))
    all_goals
      have hbf : Below w.heap.size w w7 := bel_then hbV (bel_then hb5' (bel_then hb6 hb7 hb6.size) hb5'.size) hbV.size
      go_wp2
      go_ret
      exact ⟨by rw [HV.out]; rfl, hbf⟩
  · have k4' : ∀ W : World, (Op.stringOp .add Y3 ⟨#[114, 101, 97, 100, 121]⟩).run Tryd.prog W = .ok (.string Y4) W := k4
    clear k4
    go_enter Tryd.func4, Tryd.ntmps4
    go_wp2_with (go_at_call 7; refine (Tick.l01In_any _ _ _ _).mono ?_; rintro e w' ⟨rfl, rfl⟩; rw [HIN.out])
    obtain ⟨V, hV⟩ : ∃ V, V = (w.alloc (.cells #[.int .i64 x0, .int .i64 x1, .int .i64 2, .int .i64 x3, .int .i64 x4] 25)).alloc (.cells #[.string ⟨#[110, 101, 119]⟩, .string ⟨#[114, 117, 110, 115]⟩, .string ⟨#[114, 101, 97, 100, 121]⟩, .string ⟨#[98, 114, 111, 107, 101, 110]⟩, .string ⟨#[103, 111, 105, 110, 103]⟩] 9) := ⟨_, rfl⟩
    have hbV : Below w.heap.size w V := by rw [hV]; exact bel2 _ _ _
    have e0 := box_alloc (box_new w (.cells #[.int .i64 x0, .int .i64 x1, .int .i64 2, .int .i64 x3, .int .i64 x4] 25)) (.cells #[.string ⟨#[110, 101, 119]⟩, .string ⟨#[114, 117, 110, 115]⟩, .string ⟨#[114, 101, 97, 100, 121]⟩, .string ⟨#[98, 114, 111, 107, 101, 110]⟩, .string ⟨#[103, 111, 105, 110, 103]⟩] 9)
    have e1 := box_new (w.alloc (.cells #[.int .i64 x0, .int .i64 x1, .int .i64 2, .int .i64 x3, .int .i64 x4] 25)) (.cells #[.string ⟨#[110, 101, 119]⟩, .string ⟨#[114, 117, 110, 115]⟩, .string ⟨#[114, 101, 97, 100, 121]⟩, .string ⟨#[98, 114, 111, 107, 101, 110]⟩, .string ⟨#[103, 111, 105, 110, 103]⟩] 9)
    simp only [World.size_alloc] at e1
    rw [← hV] at e0 e1 ⊢
    clear hV

    have d0 := box_cell e0 0 _ rfl
    have d1 := box_cell e0 1 _ rfl
    have d2 := box_cell e0 2 _ rfl
    have d4 := box_cell e0 4 _ rfl
    have m0 := box_cell e1 0 _ rfl
    have m1 := box_cell e1 1 _ rfl
    have m2 := box_cell e1 2 _ rfl
    have m3 := box_cell e1 3 _ rfl
    have m4 := box_cell e1 4 _ rfl
    clear e0 e1
    go_region_held3 (fun w' => w'.cell? ⟨w.heap.size, 0, none⟩ = some (.int .i64 x0) ∧ w'.cell? ⟨w.heap.size, 1, none⟩ = some (.int .i64 x1) ∧ w'.cell? ⟨w.heap.size, 2, none⟩ = some (.int .i64 2) ∧ w'.cell? ⟨w.heap.size, 4, none⟩ = some (.int .i64 x4) ∧ w'.cell? ⟨w.heap.size + 1, 0, none⟩ = some (.string ⟨#[110, 101, 119]⟩) ∧ w'.cell? ⟨w.heap.size + 1, 1, none⟩ = some (.string ⟨#[114, 117, 110, 115]⟩) ∧ w'.cell? ⟨w.heap.size + 1, 2, none⟩ = some (.string ⟨#[114, 101, 97, 100, 121]⟩) ∧ w'.cell? ⟨w.heap.size + 1, 3, none⟩ = some (.string ⟨#[98, 114, 111, 107, 101, 110]⟩) ∧ w'.cell? ⟨w.heap.size + 1, 4, none⟩ = some (.string ⟨#[103, 111, 105, 110, 103]⟩)) (first | (go_keep; done) | (refine ⟨cell_keep hb7 ?_, cell_keep hb7 ?_, cell_keep hb7 ?_, cell_keep hb7 ?_, cell_keep hb7 ?_, cell_keep hb7 ?_, cell_keep hb7 ?_, cell_keep hb7 ?_, cell_keep hb7 ?_⟩ <;> simp only [*]; done) | (refine ⟨cell_keep hb6 ?_, cell_keep hb6 ?_, cell_keep hb6 ?_, cell_keep hb6 ?_, cell_keep hb6 ?_, cell_keep hb6 ?_, cell_keep hb6 ?_, cell_keep hb6 ?_, cell_keep hb6 ?_⟩ <;> simp only [*]; done) | (refine ⟨cell_keep hb5 ?_, cell_keep hb5 ?_, cell_keep hb5 ?_, cell_keep hb5 ?_, cell_keep hb5 ?_, cell_keep hb5 ?_, cell_keep hb5 ?_, cell_keep hb5 ?_, cell_keep hb5 ?_⟩ <;> simp only [*]; done))
      (first | (have hn6 := hb6; go_at_call 8; refine (l01Num_any x4 a40 a41 _).mono ?_; intro e w7 hA; obtain ⟨rfl, hb7⟩ := N3.out _ _ _ hA; clear hA; clear hn6) | (have hn5 := hb5; go_at_call 8; refine (l01Num_any x1 a10 a11 _).mono ?_; intro e w6 hA; obtain ⟨rfl, hb6⟩ := N2.out _ _ _ hA; clear hA; clear hn5) | (go_at_call 8; refine (l01Num_any x0 a00 a01 _).mono ?_; intro e w5 hA; obtain ⟨rfl, hb5⟩ := N1.out _ _ _ hA; clear hA; have hb5' : Below V.heap.size V w5 := undrew hb5))
    all_goals
      have hbf : Below w.heap.size w w7 := bel_then hbV (bel_then hb5' (bel_then hb6 hb7 hb6.size) hb5'.size) hbV.size
      go_wp2
      go_ret
      exact ⟨by rw [HV.out]; rfl, hbf⟩
  · have k4' : ∀ W : World, (Op.stringOp .add Y3 ⟨#[98, 114, 111, 107, 101, 110]⟩).run Tryd.prog W = .ok (.string Y4) W := k4
    clear k4
    go_enter Tryd.func4, Tryd.ntmps4
    go_wp2_with (go_at_call 7; refine (Tick.l01In_any _ _ _ _).mono ?_; rintro e w' ⟨rfl, rfl⟩; rw [HIN.out])
    obtain ⟨V, hV⟩ : ∃ V, V = (w.alloc (.cells #[.int .i64 x0, .int .i64 x1, .int .i64 3, .int .i64 x3, .int .i64 x4] 25)).alloc (.cells #[.string ⟨#[110, 101, 119]⟩, .string ⟨#[114, 117, 110, 115]⟩, .string ⟨#[114, 101, 97, 100, 121]⟩, .string ⟨#[98, 114, 111, 107, 101, 110]⟩, .string ⟨#[103, 111, 105, 110, 103]⟩] 9) := ⟨_, rfl⟩
    have hbV : Below w.heap.size w V := by rw [hV]; exact bel2 _ _ _
    have e0 := box_alloc (box_new w (.cells #[.int .i64 x0, .int .i64 x1, .int .i64 3, .int .i64 x3, .int .i64 x4] 25)) (.cells #[.string ⟨#[110, 101, 119]⟩, .string ⟨#[114, 117, 110, 115]⟩, .string ⟨#[114, 101, 97, 100, 121]⟩, .string ⟨#[98, 114, 111, 107, 101, 110]⟩, .string ⟨#[103, 111, 105, 110, 103]⟩] 9)
    have e1 := box_new (w.alloc (.cells #[.int .i64 x0, .int .i64 x1, .int .i64 3, .int .i64 x3, .int .i64 x4] 25)) (.cells #[.string ⟨#[110, 101, 119]⟩, .string ⟨#[114, 117, 110, 115]⟩, .string ⟨#[114, 101, 97, 100, 121]⟩, .string ⟨#[98, 114, 111, 107, 101, 110]⟩, .string ⟨#[103, 111, 105, 110, 103]⟩] 9)
    simp only [World.size_alloc] at e1
    rw [← hV] at e0 e1 ⊢
    clear hV

    have d0 := box_cell e0 0 _ rfl
    have d1 := box_cell e0 1 _ rfl
    have d2 := box_cell e0 2 _ rfl
    have d4 := box_cell e0 4 _ rfl
    have m0 := box_cell e1 0 _ rfl
    have m1 := box_cell e1 1 _ rfl
    have m2 := box_cell e1 2 _ rfl
    have m3 := box_cell e1 3 _ rfl
    have m4 := box_cell e1 4 _ rfl
    clear e0 e1
    go_region_held3 (fun w' => w'.cell? ⟨w.heap.size, 0, none⟩ = some (.int .i64 x0) ∧ w'.cell? ⟨w.heap.size, 1, none⟩ = some (.int .i64 x1) ∧ w'.cell? ⟨w.heap.size, 2, none⟩ = some (.int .i64 3) ∧ w'.cell? ⟨w.heap.size, 4, none⟩ = some (.int .i64 x4) ∧ w'.cell? ⟨w.heap.size + 1, 0, none⟩ = some (.string ⟨#[110, 101, 119]⟩) ∧ w'.cell? ⟨w.heap.size + 1, 1, none⟩ = some (.string ⟨#[114, 117, 110, 115]⟩) ∧ w'.cell? ⟨w.heap.size + 1, 2, none⟩ = some (.string ⟨#[114, 101, 97, 100, 121]⟩) ∧ w'.cell? ⟨w.heap.size + 1, 3, none⟩ = some (.string ⟨#[98, 114, 111, 107, 101, 110]⟩) ∧ w'.cell? ⟨w.heap.size + 1, 4, none⟩ = some (.string ⟨#[103, 111, 105, 110, 103]⟩)) (first | (go_keep; done) | (refine ⟨cell_keep hb7 ?_, cell_keep hb7 ?_, cell_keep hb7 ?_, cell_keep hb7 ?_, cell_keep hb7 ?_, cell_keep hb7 ?_, cell_keep hb7 ?_, cell_keep hb7 ?_, cell_keep hb7 ?_⟩ <;> simp only [*]; done) | (refine ⟨cell_keep hb6 ?_, cell_keep hb6 ?_, cell_keep hb6 ?_, cell_keep hb6 ?_, cell_keep hb6 ?_, cell_keep hb6 ?_, cell_keep hb6 ?_, cell_keep hb6 ?_, cell_keep hb6 ?_⟩ <;> simp only [*]; done) | (refine ⟨cell_keep hb5 ?_, cell_keep hb5 ?_, cell_keep hb5 ?_, cell_keep hb5 ?_, cell_keep hb5 ?_, cell_keep hb5 ?_, cell_keep hb5 ?_, cell_keep hb5 ?_, cell_keep hb5 ?_⟩ <;> simp only [*]; done))
      (first | (have hn6 := hb6; go_at_call 8; refine (l01Num_any x4 a40 a41 _).mono ?_; intro e w7 hA; obtain ⟨rfl, hb7⟩ := N3.out _ _ _ hA; clear hA; clear hn6) | (have hn5 := hb5; go_at_call 8; refine (l01Num_any x1 a10 a11 _).mono ?_; intro e w6 hA; obtain ⟨rfl, hb6⟩ := N2.out _ _ _ hA; clear hA; clear hn5) | (go_at_call 8; refine (l01Num_any x0 a00 a01 _).mono ?_; intro e w5 hA; obtain ⟨rfl, hb5⟩ := N1.out _ _ _ hA; clear hA; have hb5' : Below V.heap.size V w5 := undrew hb5))
    all_goals
      have hbf : Below w.heap.size w w7 := bel_then hbV (bel_then hb5' (bel_then hb6 hb7 hb6.size) hb5'.size) hbV.size
      go_wp2
      go_ret
      exact ⟨by rw [HV.out]; rfl, hbf⟩
  · have k4' : ∀ W : World, (Op.stringOp .add Y3 ⟨#[103, 111, 105, 110, 103]⟩).run Tryd.prog W = .ok (.string Y4) W := k4
    clear k4
    go_enter Tryd.func4, Tryd.ntmps4
    go_wp2_with (go_at_call 7; refine (Tick.l01In_any _ _ _ _).mono ?_; rintro e w' ⟨rfl, rfl⟩; rw [HIN.out])
    obtain ⟨V, hV⟩ : ∃ V, V = (w.alloc (.cells #[.int .i64 x0, .int .i64 x1, .int .i64 4, .int .i64 x3, .int .i64 x4] 25)).alloc (.cells #[.string ⟨#[110, 101, 119]⟩, .string ⟨#[114, 117, 110, 115]⟩, .string ⟨#[114, 101, 97, 100, 121]⟩, .string ⟨#[98, 114, 111, 107, 101, 110]⟩, .string ⟨#[103, 111, 105, 110, 103]⟩] 9) := ⟨_, rfl⟩
    have hbV : Below w.heap.size w V := by rw [hV]; exact bel2 _ _ _
    have e0 := box_alloc (box_new w (.cells #[.int .i64 x0, .int .i64 x1, .int .i64 4, .int .i64 x3, .int .i64 x4] 25)) (.cells #[.string ⟨#[110, 101, 119]⟩, .string ⟨#[114, 117, 110, 115]⟩, .string ⟨#[114, 101, 97, 100, 121]⟩, .string ⟨#[98, 114, 111, 107, 101, 110]⟩, .string ⟨#[103, 111, 105, 110, 103]⟩] 9)
    have e1 := box_new (w.alloc (.cells #[.int .i64 x0, .int .i64 x1, .int .i64 4, .int .i64 x3, .int .i64 x4] 25)) (.cells #[.string ⟨#[110, 101, 119]⟩, .string ⟨#[114, 117, 110, 115]⟩, .string ⟨#[114, 101, 97, 100, 121]⟩, .string ⟨#[98, 114, 111, 107, 101, 110]⟩, .string ⟨#[103, 111, 105, 110, 103]⟩] 9)
    simp only [World.size_alloc] at e1
    rw [← hV] at e0 e1 ⊢
    clear hV

    have d0 := box_cell e0 0 _ rfl
    have d1 := box_cell e0 1 _ rfl
    have d2 := box_cell e0 2 _ rfl
    have d4 := box_cell e0 4 _ rfl
    have m0 := box_cell e1 0 _ rfl
    have m1 := box_cell e1 1 _ rfl
    have m2 := box_cell e1 2 _ rfl
    have m3 := box_cell e1 3 _ rfl
    have m4 := box_cell e1 4 _ rfl
    clear e0 e1
    go_region_held3 (fun w' => w'.cell? ⟨w.heap.size, 0, none⟩ = some (.int .i64 x0) ∧ w'.cell? ⟨w.heap.size, 1, none⟩ = some (.int .i64 x1) ∧ w'.cell? ⟨w.heap.size, 2, none⟩ = some (.int .i64 4) ∧ w'.cell? ⟨w.heap.size, 4, none⟩ = some (.int .i64 x4) ∧ w'.cell? ⟨w.heap.size + 1, 0, none⟩ = some (.string ⟨#[110, 101, 119]⟩) ∧ w'.cell? ⟨w.heap.size + 1, 1, none⟩ = some (.string ⟨#[114, 117, 110, 115]⟩) ∧ w'.cell? ⟨w.heap.size + 1, 2, none⟩ = some (.string ⟨#[114, 101, 97, 100, 121]⟩) ∧ w'.cell? ⟨w.heap.size + 1, 3, none⟩ = some (.string ⟨#[98, 114, 111, 107, 101, 110]⟩) ∧ w'.cell? ⟨w.heap.size + 1, 4, none⟩ = some (.string ⟨#[103, 111, 105, 110, 103]⟩)) (first | (go_keep; done) | (refine ⟨cell_keep hb7 ?_, cell_keep hb7 ?_, cell_keep hb7 ?_, cell_keep hb7 ?_, cell_keep hb7 ?_, cell_keep hb7 ?_, cell_keep hb7 ?_, cell_keep hb7 ?_, cell_keep hb7 ?_⟩ <;> simp only [*]; done) | (refine ⟨cell_keep hb6 ?_, cell_keep hb6 ?_, cell_keep hb6 ?_, cell_keep hb6 ?_, cell_keep hb6 ?_, cell_keep hb6 ?_, cell_keep hb6 ?_, cell_keep hb6 ?_, cell_keep hb6 ?_⟩ <;> simp only [*]; done) | (refine ⟨cell_keep hb5 ?_, cell_keep hb5 ?_, cell_keep hb5 ?_, cell_keep hb5 ?_, cell_keep hb5 ?_, cell_keep hb5 ?_, cell_keep hb5 ?_, cell_keep hb5 ?_, cell_keep hb5 ?_⟩ <;> simp only [*]; done))
      (first | (have hn6 := hb6; go_at_call 8; refine (l01Num_any x4 a40 a41 _).mono ?_; intro e w7 hA; obtain ⟨rfl, hb7⟩ := N3.out _ _ _ hA; clear hA; clear hn6) | (have hn5 := hb5; go_at_call 8; refine (l01Num_any x1 a10 a11 _).mono ?_; intro e w6 hA; obtain ⟨rfl, hb6⟩ := N2.out _ _ _ hA; clear hA; clear hn5) | (go_at_call 8; refine (l01Num_any x0 a00 a01 _).mono ?_; intro e w5 hA; obtain ⟨rfl, hb5⟩ := N1.out _ _ _ hA; clear hA; have hb5' : Below V.heap.size V w5 := undrew hb5))
    all_goals
      have hbf : Below w.heap.size w w7 := bel_then hbV (bel_then hb5' (bel_then hb6 hb7 hb6.size) hb5'.size) hbV.size
      go_wp2
      go_ret
      exact ⟨by rw [HV.out]; rfl, hbf⟩
theorem within_any (x lo hi : Int) (w : World) :
    Calls Tryd.prog 9 #[.int .i64 x, .int .i64 lo, .int .i64 hi] w fun e w' => e = .returned (.bool (inB x lo hi)) ∧ w = w' := by
  by_cases h0 : lo ≤ x <;> by_cases h1 : x ≤ hi
  all_goals
    go_enter Tryd.func9, Tryd.ntmps9
    go_wp2
    go_ret
    simp [inB, h0, h1]
set_option maxRecDepth 100000 in
set_option maxHeartbeats 6400000 in
theorem podText_any (x0 x1 x2 x3 x4 : Int) (w : World) (b0 : (Lit.int .i64 x0).wf = true) (b1 : (Lit.int .i64 x1).wf = true) (b4 : (Lit.int .i64 x4).wf = true) (htab : Lib.TabBelow Tryd.prog w.heap.size w "internal/strconv.uint64pow10" .u64 Lib.pow10Tab) :
    Calls Tryd.prog 6 #[.agg #[.int .i64 x0, .int .i64 x1, .int .i64 x2, .int .i64 x3, .int .i64 x4]] w (Says (.string (podT x0 x1 x2 x4)) w) := by
  obtain ⟨a00, a01⟩ := wf_bd b0
  obtain ⟨a10, a11⟩ := wf_bd b1
  obtain ⟨a40, a41⟩ := wf_bd b4
  have HT := Lib.hid htab
  clear htab
  cases hin : inB x2 0 4
  · have HV : Hid (podT x0 x1 x2 x4 = ⟨#[]⟩) := by simp [Hid, podT, hin]
    go_enter Tryd.func6, Tryd.ntmps6
    go_wp2_with (go_at_call 9; refine (within_any _ _ _ _).mono ?_; rintro e w' ⟨rfl, rfl⟩; rw [hin])
    go_ret
    exact ⟨by rw [HV.out]; rfl, bel2 _ _ _⟩
  have hx2 : x2 = 0 ∨ x2 = 1 ∨ x2 = 2 ∨ x2 = 3 ∨ x2 = 4 := by have := in_t hin; omega
  obtain ⟨X1, hX1⟩ : ∃ X, X = bstr (Lib.itoa x0) := ⟨_, rfl⟩
  obtain ⟨X2, hX2⟩ : ∃ X, X = bstr (Lib.itoa x1) := ⟨_, rfl⟩
  obtain ⟨X3, hX3⟩ : ∃ X, X = bstr (Lib.itoa x4) := ⟨_, rfl⟩
  have s1 : X1.size ≤ 21 := by rw [hX1]; exact itoa_size x0 a00 a01
  have s2 : X2.size ≤ 21 := by rw [hX2]; exact itoa_size x1 a10 a11
  have s3 : X3.size ≤ 21 := by rw [hX3]; exact itoa_size x4 a40 a41
  have N1 : Hid (∀ e W W', NumSaid x0 W e W' → e = .returned (.string X1) ∧ Below W.heap.size W W') := fun e W W' h => by rw [hX1]; exact h
  have N2 : Hid (∀ e W W', NumSaid x1 W e W' → e = .returned (.string X2) ∧ Below W.heap.size W W') := fun e W W' h => by rw [hX2]; exact h
  have N3 : Hid (∀ e W W', NumSaid x4 W e W' → e = .returned (.string X3) ∧ Below W.heap.size W W') := fun e W W' h => by rw [hX3]; exact h
  obtain ⟨Y1, hY1⟩ : ∃ Y, Y = X1 ++ (⟨#[64]⟩ : ByteArray) := ⟨_, rfl⟩
  obtain ⟨Y2, hY2⟩ : ∃ Y, Y = Y1 ++ X2 := ⟨_, rfl⟩
  obtain ⟨Y3, hY3⟩ : ∃ Y, Y = Y2 ++ (⟨#[32]⟩ : ByteArray) := ⟨_, rfl⟩
  obtain ⟨Y4, hY4⟩ : ∃ Y, Y = Y3 ++ nmT x2 := ⟨_, rfl⟩
  obtain ⟨Y5, hY5⟩ : ∃ Y, Y = Y4 ++ (⟨#[32]⟩ : ByteArray) := ⟨_, rfl⟩
  obtain ⟨Y6, hY6⟩ : ∃ Y, Y = Y5 ++ X3 := ⟨_, rfl⟩
  have sn : (nmT x2).size ≤ 6 := by rcases hx2 with rfl | rfl | rfl | rfl | rfl <;> decide
  have g1 : Y1.size ≤ 22 := by rw [hY1, ByteArray.size_append]; have : (⟨#[64]⟩ : ByteArray).size = 1 := rfl; omega
  have g2 : Y2.size ≤ 43 := by rw [hY2, ByteArray.size_append]; omega
  have g3 : Y3.size ≤ 44 := by rw [hY3, ByteArray.size_append]; have : (⟨#[32]⟩ : ByteArray).size = 1 := rfl; omega
  have g4 : Y4.size ≤ 50 := by rw [hY4, ByteArray.size_append]; omega
  have g5 : Y5.size ≤ 51 := by rw [hY5, ByteArray.size_append]; have : (⟨#[32]⟩ : ByteArray).size = 1 := rfl; omega
  have HV : Hid (podT x0 x1 x2 x4 = Y6) := by
    show _ = _
    unfold podT
    rw [if_pos hin, hY6, hY5, hY4, hY3, hY2, hY1, hX1, hX2, hX3]
  have k1 : ∀ W : World, (Op.stringOp .add X1 ⟨#[64]⟩).run Tryd.prog W = .ok (.string Y1) W := fun W => by rw [hY1]; exact run_string_add W _ _ (by omega) (by show (1 : Int) ≤ _; omega)
  have k2 : ∀ W : World, (Op.stringOp .add Y1 X2).run Tryd.prog W = .ok (.string Y2) W := fun W => by rw [hY2]; exact run_string_add W _ _ (by omega) (by omega)
  have k3 : ∀ W : World, (Op.stringOp .add Y2 ⟨#[32]⟩).run Tryd.prog W = .ok (.string Y3) W := fun W => by rw [hY3]; exact run_string_add W _ _ (by omega) (by show (1 : Int) ≤ _; omega)
  have k5 : ∀ W : World, (Op.stringOp .add Y4 ⟨#[32]⟩).run Tryd.prog W = .ok (.string Y5) W := fun W => by rw [hY5]; exact run_string_add W _ _ (by omega) (by show (1 : Int) ≤ _; omega)
  have k6 : ∀ W : World, (Op.stringOp .add Y5 X3).run Tryd.prog W = .ok (.string Y6) W := fun W => by rw [hY6]; exact run_string_add W _ _ (by omega) (by omega)
  have k4 : ∀ W : World, (Op.stringOp .add Y3 (nmT x2)).run Tryd.prog W = .ok (.string Y4) W := fun W => by rw [hY4]; exact run_string_add W _ _ (by omega) (by omega)
  have HIN := Lib.hid hin
  clear hin hX1 hX2 hX3 hY1 hY2 hY3 hY4 hY5 hY6
  rcases hx2 with rfl | rfl | rfl | rfl | rfl
  · have k4' : ∀ W : World, (Op.stringOp .add Y3 ⟨#[110, 101, 119]⟩).run Tryd.prog W = .ok (.string Y4) W := k4
    clear k4
    go_enter Tryd.func6, Tryd.ntmps6
    go_wp2_with (go_at_call 9; refine (within_any _ _ _ _).mono ?_; rintro e w' ⟨rfl, rfl⟩; rw [HIN.out])
    obtain ⟨V, hV⟩ : ∃ V, V = (w.alloc (.cells #[.int .i64 x0, .int .i64 x1, .int .i64 0, .int .i64 x3, .int .i64 x4] 25)).alloc (.cells #[.string ⟨#[110, 101, 119]⟩, .string ⟨#[114, 117, 110, 115]⟩, .string ⟨#[114, 101, 97, 100, 121]⟩, .string ⟨#[98, 114, 111, 107, 101, 110]⟩, .string ⟨#[103, 111, 105, 110, 103]⟩] 31) := ⟨_, rfl⟩
    have hbV : Below w.heap.size w V := by rw [hV]; exact bel2 _ _ _
    have e0 := box_alloc (box_new w (.cells #[.int .i64 x0, .int .i64 x1, .int .i64 0, .int .i64 x3, .int .i64 x4] 25)) (.cells #[.string ⟨#[110, 101, 119]⟩, .string ⟨#[114, 117, 110, 115]⟩, .string ⟨#[114, 101, 97, 100, 121]⟩, .string ⟨#[98, 114, 111, 107, 101, 110]⟩, .string ⟨#[103, 111, 105, 110, 103]⟩] 31)
    have e1 := box_new (w.alloc (.cells #[.int .i64 x0, .int .i64 x1, .int .i64 0, .int .i64 x3, .int .i64 x4] 25)) (.cells #[.string ⟨#[110, 101, 119]⟩, .string ⟨#[114, 117, 110, 115]⟩, .string ⟨#[114, 101, 97, 100, 121]⟩, .string ⟨#[98, 114, 111, 107, 101, 110]⟩, .string ⟨#[103, 111, 105, 110, 103]⟩] 31)
    simp only [World.size_alloc] at e1
    rw [← hV] at e0 e1 ⊢
    clear hV
    have HTV := Lib.hid (HT.out.on hbV)
    have d0 := box_cell e0 0 _ rfl
    have d1 := box_cell e0 1 _ rfl
    have d2 := box_cell e0 2 _ rfl
    have d4 := box_cell e0 4 _ rfl
    have m0 := box_cell e1 0 _ rfl
    have m1 := box_cell e1 1 _ rfl
    have m2 := box_cell e1 2 _ rfl
    have m3 := box_cell e1 3 _ rfl
    have m4 := box_cell e1 4 _ rfl
    clear e0 e1
    go_region_held3 (fun w' => w'.cell? ⟨w.heap.size, 0, none⟩ = some (.int .i64 x0) ∧ w'.cell? ⟨w.heap.size, 1, none⟩ = some (.int .i64 x1) ∧ w'.cell? ⟨w.heap.size, 2, none⟩ = some (.int .i64 0) ∧ w'.cell? ⟨w.heap.size, 4, none⟩ = some (.int .i64 x4) ∧ w'.cell? ⟨w.heap.size + 1, 0, none⟩ = some (.string ⟨#[110, 101, 119]⟩) ∧ w'.cell? ⟨w.heap.size + 1, 1, none⟩ = some (.string ⟨#[114, 117, 110, 115]⟩) ∧ w'.cell? ⟨w.heap.size + 1, 2, none⟩ = some (.string ⟨#[114, 101, 97, 100, 121]⟩) ∧ w'.cell? ⟨w.heap.size + 1, 3, none⟩ = some (.string ⟨#[98, 114, 111, 107, 101, 110]⟩) ∧ w'.cell? ⟨w.heap.size + 1, 4, none⟩ = some (.string ⟨#[103, 111, 105, 110, 103]⟩)) (first | (go_keep; done) | (refine ⟨cell_keep hb7 ?_, cell_keep hb7 ?_, cell_keep hb7 ?_, cell_keep hb7 ?_, cell_keep hb7 ?_, cell_keep hb7 ?_, cell_keep hb7 ?_, cell_keep hb7 ?_, cell_keep hb7 ?_⟩ <;> simp only [*]; done) | (refine ⟨cell_keep hb6 ?_, cell_keep hb6 ?_, cell_keep hb6 ?_, cell_keep hb6 ?_, cell_keep hb6 ?_, cell_keep hb6 ?_, cell_keep hb6 ?_, cell_keep hb6 ?_, cell_keep hb6 ?_⟩ <;> simp only [*]; done) | (refine ⟨cell_keep hb5 ?_, cell_keep hb5 ?_, cell_keep hb5 ?_, cell_keep hb5 ?_, cell_keep hb5 ?_, cell_keep hb5 ?_, cell_keep hb5 ?_, cell_keep hb5 ?_, cell_keep hb5 ?_⟩ <;> simp only [*]; done))
      (first | (have hn6 := hb6; go_at_call 10; refine (itoa_any x4 a40 a41 w.heap.size _ (by exact Nat.le_trans hbV.size (Nat.le_trans hb5'.size hb6.size)) (by exact (HTV.out.on (hb5'.mono hbV.size)).on (hb6.mono (Nat.le_trans hbV.size hb5'.size)))).mono ?_; intro e w7 hA; obtain ⟨rfl, hb7⟩ := N3.out _ _ _ hA; clear hA; clear hn6) | (have hn5 := hb5; go_at_call 10; refine (itoa_any x1 a10 a11 w.heap.size _ (by exact Nat.le_trans hbV.size hb5'.size) (by exact HTV.out.on (hb5'.mono hbV.size))).mono ?_; intro e w6 hA; obtain ⟨rfl, hb6⟩ := N2.out _ _ _ hA; clear hA; clear hn5) | (go_at_call 10; refine (itoa_any x0 a00 a01 w.heap.size _ (by exact hbV.size) (by exact HT.out.on hbV.drew)).mono ?_; intro e w5 hA; obtain ⟨rfl, hb5⟩ := N1.out _ _ _ hA; clear hA; have hb5' : Below V.heap.size V w5 := undrew hb5))
    all_goals
      have hbf : Below w.heap.size w w7 := bel_then hbV (bel_then hb5' (bel_then hb6 hb7 hb6.size) hb5'.size) hbV.size
      go_wp2
      go_ret
      exact ⟨by rw [HV.out]; rfl, hbf⟩
  · have k4' : ∀ W : World, (Op.stringOp .add Y3 ⟨#[114, 117, 110, 115]⟩).run Tryd.prog W = .ok (.string Y4) W := k4
    clear k4
    go_enter Tryd.func6, Tryd.ntmps6
    go_wp2_with (go_at_call 9; refine (within_any _ _ _ _).mono ?_; rintro e w' ⟨rfl, rfl⟩; rw [HIN.out])
    obtain ⟨V, hV⟩ : ∃ V, V = (w.alloc (.cells #[.int .i64 x0, .int .i64 x1, .int .i64 1, .int .i64 x3, .int .i64 x4] 25)).alloc (.cells #[.string ⟨#[110, 101, 119]⟩, .string ⟨#[114, 117, 110, 115]⟩, .string ⟨#[114, 101, 97, 100, 121]⟩, .string ⟨#[98, 114, 111, 107, 101, 110]⟩, .string ⟨#[103, 111, 105, 110, 103]⟩] 31) := ⟨_, rfl⟩
    have hbV : Below w.heap.size w V := by rw [hV]; exact bel2 _ _ _
    have e0 := box_alloc (box_new w (.cells #[.int .i64 x0, .int .i64 x1, .int .i64 1, .int .i64 x3, .int .i64 x4] 25)) (.cells #[.string ⟨#[110, 101, 119]⟩, .string ⟨#[114, 117, 110, 115]⟩, .string ⟨#[114, 101, 97, 100, 121]⟩, .string ⟨#[98, 114, 111, 107, 101, 110]⟩, .string ⟨#[103, 111, 105, 110, 103]⟩] 31)
    have e1 := box_new (w.alloc (.cells #[.int .i64 x0, .int .i64 x1, .int .i64 1, .int .i64 x3, .int .i64 x4] 25)) (.cells #[.string ⟨#[110, 101, 119]⟩, .string ⟨#[114, 117, 110, 115]⟩, .string ⟨#[114, 101, 97, 100, 121]⟩, .string ⟨#[98, 114, 111, 107, 101, 110]⟩, .string ⟨#[103, 111, 105, 110, 103]⟩] 31)
    simp only [World.size_alloc] at e1
    rw [← hV] at e0 e1 ⊢
    clear hV
    have HTV := Lib.hid (HT.out.on hbV)
    have d0 := box_cell e0 0 _ rfl
    have d1 := box_cell e0 1 _ rfl
    have d2 := box_cell e0 2 _ rfl
    have d4 := box_cell e0 4 _ rfl
    have m0 := box_cell e1 0 _ rfl
    have m1 := box_cell e1 1 _ rfl
    have m2 := box_cell e1 2 _ rfl
    have m3 := box_cell e1 3 _ rfl
    have m4 := box_cell e1 4 _ rfl
    clear e0 e1
    go_region_held3 (fun w' => w'.cell? ⟨w.heap.size, 0, none⟩ = some (.int .i64 x0) ∧ w'.cell? ⟨w.heap.size, 1, none⟩ = some (.int .i64 x1) ∧ w'.cell? ⟨w.heap.size, 2, none⟩ = some (.int .i64 1) ∧ w'.cell? ⟨w.heap.size, 4, none⟩ = some (.int .i64 x4) ∧ w'.cell? ⟨w.heap.size + 1, 0, none⟩ = some (.string ⟨#[110, 101, 119]⟩) ∧ w'.cell? ⟨w.heap.size + 1, 1, none⟩ = some (.string ⟨#[114, 117, 110, 115]⟩) ∧ w'.cell? ⟨w.heap.size + 1, 2, none⟩ = some (.string ⟨#[114, 101, 97, 100, 121]⟩) ∧ w'.cell? ⟨w.heap.size + 1, 3, none⟩ = some (.string ⟨#[98, 114, 111, 107, 101, 110]⟩) ∧ w'.cell? ⟨w.heap.size + 1, 4, none⟩ = some (.string ⟨#[103, 111, 105, 110, 103]⟩)) (first | (go_keep; done) | (refine ⟨cell_keep hb7 ?_, cell_keep hb7 ?_, cell_keep hb7 ?_, cell_keep hb7 ?_, cell_keep hb7 ?_, cell_keep hb7 ?_, cell_keep hb7 ?_, cell_keep hb7 ?_, cell_keep hb7 ?_⟩ <;> simp only [*]; done) | (refine ⟨cell_keep hb6 ?_, cell_keep hb6 ?_, cell_keep hb6 ?_, cell_keep hb6 ?_, cell_keep hb6 ?_, cell_keep hb6 ?_, cell_keep hb6 ?_, cell_keep hb6 ?_, cell_keep hb6 ?_⟩ <;> simp only [*]; done) | (refine ⟨cell_keep hb5 ?_, cell_keep hb5 ?_, cell_keep hb5 ?_, cell_keep hb5 ?_, cell_keep hb5 ?_, cell_keep hb5 ?_, cell_keep hb5 ?_, cell_keep hb5 ?_, cell_keep hb5 ?_⟩ <;> simp only [*]; done))
      (first | (have hn6 := hb6; go_at_call 10; refine (itoa_any x4 a40 a41 w.heap.size _ (by exact Nat.le_trans hbV.size (Nat.le_trans hb5'.size hb6.size)) (by exact (HTV.out.on (hb5'.mono hbV.size)).on (hb6.mono (Nat.le_trans hbV.size hb5'.size)))).mono ?_; intro e w7 hA; obtain ⟨rfl, hb7⟩ := N3.out _ _ _ hA; clear hA; clear hn6) | (have hn5 := hb5; go_at_call 10; refine (itoa_any x1 a10 a11 w.heap.size _ (by exact Nat.le_trans hbV.size hb5'.size) (by exact HTV.out.on (hb5'.mono hbV.size))).mono ?_; intro e w6 hA; obtain ⟨rfl, hb6⟩ := N2.out _ _ _ hA; clear hA; clear hn5) | (go_at_call 10; refine (itoa_any x0 a00 a01 w.heap.size _ (by exact hbV.size) (by exact HT.out.on hbV.drew)).mono ?_; intro e w5 hA; obtain ⟨rfl, hb5⟩ := N1.out _ _ _ hA; clear hA; have hb5' : Below V.heap.size V w5 := undrew hb5))
    all_goals
      have hbf : Below w.heap.size w w7 := bel_then hbV (bel_then hb5' (bel_then hb6 hb7 hb6.size) hb5'.size) hbV.size
      go_wp2
      go_ret
      exact ⟨by rw [HV.out]; rfl, hbf⟩
  · have k4' : ∀ W : World, (Op.stringOp .add Y3 ⟨#[114, 101, 97, 100, 121]⟩).run Tryd.prog W = .ok (.string Y4) W := k4
    clear k4
    go_enter Tryd.func6, Tryd.ntmps6
    go_wp2_with (go_at_call 9; refine (within_any _ _ _ _).mono ?_; rintro e w' ⟨rfl, rfl⟩; rw [HIN.out])
    obtain ⟨V, hV⟩ : ∃ V, V = (w.alloc (.cells #[.int .i64 x0, .int .i64 x1, .int .i64 2, .int .i64 x3, .int .i64 x4] 25)).alloc (.cells #[.string ⟨#[110, 101, 119]⟩, .string ⟨#[114, 117, 110, 115]⟩, .string ⟨#[114, 101, 97, 100, 121]⟩, .string ⟨#[98, 114, 111, 107, 101, 110]⟩, .string ⟨#[103, 111, 105, 110, 103]⟩] 31) := ⟨_, rfl⟩
    have hbV : Below w.heap.size w V := by rw [hV]; exact bel2 _ _ _
    have e0 := box_alloc (box_new w (.cells #[.int .i64 x0, .int .i64 x1, .int .i64 2, .int .i64 x3, .int .i64 x4] 25)) (.cells #[.string ⟨#[110, 101, 119]⟩, .string ⟨#[114, 117, 110, 115]⟩, .string ⟨#[114, 101, 97, 100, 121]⟩, .string ⟨#[98, 114, 111, 107, 101, 110]⟩, .string ⟨#[103, 111, 105, 110, 103]⟩] 31)
    have e1 := box_new (w.alloc (.cells #[.int .i64 x0, .int .i64 x1, .int .i64 2, .int .i64 x3, .int .i64 x4] 25)) (.cells #[.string ⟨#[110, 101, 119]⟩, .string ⟨#[114, 117, 110, 115]⟩, .string ⟨#[114, 101, 97, 100, 121]⟩, .string ⟨#[98, 114, 111, 107, 101, 110]⟩, .string ⟨#[103, 111, 105, 110, 103]⟩] 31)
    simp only [World.size_alloc] at e1
    rw [← hV] at e0 e1 ⊢
    clear hV
    have HTV := Lib.hid (HT.out.on hbV)
    have d0 := box_cell e0 0 _ rfl
    have d1 := box_cell e0 1 _ rfl
    have d2 := box_cell e0 2 _ rfl
    have d4 := box_cell e0 4 _ rfl
    have m0 := box_cell e1 0 _ rfl
    have m1 := box_cell e1 1 _ rfl
    have m2 := box_cell e1 2 _ rfl
    have m3 := box_cell e1 3 _ rfl
    have m4 := box_cell e1 4 _ rfl
    clear e0 e1
    go_region_held3 (fun w' => w'.cell? ⟨w.heap.size, 0, none⟩ = some (.int .i64 x0) ∧ w'.cell? ⟨w.heap.size, 1, none⟩ = some (.int .i64 x1) ∧ w'.cell? ⟨w.heap.size, 2, none⟩ = some (.int .i64 2) ∧ w'.cell? ⟨w.heap.size, 4, none⟩ = some (.int .i64 x4) ∧ w'.cell? ⟨w.heap.size + 1, 0, none⟩ = some (.string ⟨#[110, 101, 119]⟩) ∧ w'.cell? ⟨w.heap.size + 1, 1, none⟩ = some (.string ⟨#[114, 117, 110, 115]⟩) ∧ w'.cell? ⟨w.heap.size + 1, 2, none⟩ = some (.string ⟨#[114, 101, 97, 100, 121]⟩) ∧ w'.cell? ⟨w.heap.size + 1, 3, none⟩ = some (.string ⟨#[98, 114, 111, 107, 101, 110]⟩) ∧ w'.cell? ⟨w.heap.size + 1, 4, none⟩ = some (.string ⟨#[103, 111, 105, 110, 103]⟩)) (first | (go_keep; done) | (refine ⟨cell_keep hb7 ?_, cell_keep hb7 ?_, cell_keep hb7 ?_, cell_keep hb7 ?_, cell_keep hb7 ?_, cell_keep hb7 ?_, cell_keep hb7 ?_, cell_keep hb7 ?_, cell_keep hb7 ?_⟩ <;> simp only [*]; done) | (refine ⟨cell_keep hb6 ?_, cell_keep hb6 ?_, cell_keep hb6 ?_, cell_keep hb6 ?_, cell_keep hb6 ?_, cell_keep hb6 ?_, cell_keep hb6 ?_, cell_keep hb6 ?_, cell_keep hb6 ?_⟩ <;> simp only [*]; done) | (refine ⟨cell_keep hb5 ?_, cell_keep hb5 ?_, cell_keep hb5 ?_, cell_keep hb5 ?_, cell_keep hb5 ?_, cell_keep hb5 ?_, cell_keep hb5 ?_, cell_keep hb5 ?_, cell_keep hb5 ?_⟩ <;> simp only [*]; done))
      (first | (have hn6 := hb6; go_at_call 10; refine (itoa_any x4 a40 a41 w.heap.size _ (by exact Nat.le_trans hbV.size (Nat.le_trans hb5'.size hb6.size)) (by exact (HTV.out.on (hb5'.mono hbV.size)).on (hb6.mono (Nat.le_trans hbV.size hb5'.size)))).mono ?_; intro e w7 hA; obtain ⟨rfl, hb7⟩ := N3.out _ _ _ hA; clear hA; clear hn6) | (have hn5 := hb5; go_at_call 10; refine (itoa_any x1 a10 a11 w.heap.size _ (by exact Nat.le_trans hbV.size hb5'.size) (by exact HTV.out.on (hb5'.mono hbV.size))).mono ?_; intro e w6 hA; obtain ⟨rfl, hb6⟩ := N2.out _ _ _ hA; clear hA; clear hn5) | (go_at_call 10; refine (itoa_any x0 a00 a01 w.heap.size _ (by exact hbV.size) (by exact HT.out.on hbV.drew)).mono ?_; intro e w5 hA; obtain ⟨rfl, hb5⟩ := N1.out _ _ _ hA; clear hA; have hb5' : Below V.heap.size V w5 := undrew hb5))
    all_goals
      have hbf : Below w.heap.size w w7 := bel_then hbV (bel_then hb5' (bel_then hb6 hb7 hb6.size) hb5'.size) hbV.size
      go_wp2
      go_ret
      exact ⟨by rw [HV.out]; rfl, hbf⟩
  · have k4' : ∀ W : World, (Op.stringOp .add Y3 ⟨#[98, 114, 111, 107, 101, 110]⟩).run Tryd.prog W = .ok (.string Y4) W := k4
    clear k4
    go_enter Tryd.func6, Tryd.ntmps6
    go_wp2_with (go_at_call 9; refine (within_any _ _ _ _).mono ?_; rintro e w' ⟨rfl, rfl⟩; rw [HIN.out])
    obtain ⟨V, hV⟩ : ∃ V, V = (w.alloc (.cells #[.int .i64 x0, .int .i64 x1, .int .i64 3, .int .i64 x3, .int .i64 x4] 25)).alloc (.cells #[.string ⟨#[110, 101, 119]⟩, .string ⟨#[114, 117, 110, 115]⟩, .string ⟨#[114, 101, 97, 100, 121]⟩, .string ⟨#[98, 114, 111, 107, 101, 110]⟩, .string ⟨#[103, 111, 105, 110, 103]⟩] 31) := ⟨_, rfl⟩
    have hbV : Below w.heap.size w V := by rw [hV]; exact bel2 _ _ _
    have e0 := box_alloc (box_new w (.cells #[.int .i64 x0, .int .i64 x1, .int .i64 3, .int .i64 x3, .int .i64 x4] 25)) (.cells #[.string ⟨#[110, 101, 119]⟩, .string ⟨#[114, 117, 110, 115]⟩, .string ⟨#[114, 101, 97, 100, 121]⟩, .string ⟨#[98, 114, 111, 107, 101, 110]⟩, .string ⟨#[103, 111, 105, 110, 103]⟩] 31)
    have e1 := box_new (w.alloc (.cells #[.int .i64 x0, .int .i64 x1, .int .i64 3, .int .i64 x3, .int .i64 x4] 25)) (.cells #[.string ⟨#[110, 101, 119]⟩, .string ⟨#[114, 117, 110, 115]⟩, .string ⟨#[114, 101, 97, 100, 121]⟩, .string ⟨#[98, 114, 111, 107, 101, 110]⟩, .string ⟨#[103, 111, 105, 110, 103]⟩] 31)
    simp only [World.size_alloc] at e1
    rw [← hV] at e0 e1 ⊢
    clear hV
    have HTV := Lib.hid (HT.out.on hbV)
    have d0 := box_cell e0 0 _ rfl
    have d1 := box_cell e0 1 _ rfl
    have d2 := box_cell e0 2 _ rfl
    have d4 := box_cell e0 4 _ rfl
    have m0 := box_cell e1 0 _ rfl
    have m1 := box_cell e1 1 _ rfl
    have m2 := box_cell e1 2 _ rfl
    have m3 := box_cell e1 3 _ rfl
    have m4 := box_cell e1 4 _ rfl
    clear e0 e1
    go_region_held3 (fun w' => w'.cell? ⟨w.heap.size, 0, none⟩ = some (.int .i64 x0) ∧ w'.cell? ⟨w.heap.size, 1, none⟩ = some (.int .i64 x1) ∧ w'.cell? ⟨w.heap.size, 2, none⟩ = some (.int .i64 3) ∧ w'.cell? ⟨w.heap.size, 4, none⟩ = some (.int .i64 x4) ∧ w'.cell? ⟨w.heap.size + 1, 0, none⟩ = some (.string ⟨#[110, 101, 119]⟩) ∧ w'.cell? ⟨w.heap.size + 1, 1, none⟩ = some (.string ⟨#[114, 117, 110, 115]⟩) ∧ w'.cell? ⟨w.heap.size + 1, 2, none⟩ = some (.string ⟨#[114, 101, 97, 100, 121]⟩) ∧ w'.cell? ⟨w.heap.size + 1, 3, none⟩ = some (.string ⟨#[98, 114, 111, 107, 101, 110]⟩) ∧ w'.cell? ⟨w.heap.size + 1, 4, none⟩ = some (.string ⟨#[103, 111, 105, 110, 103]⟩)) (first | (go_keep; done) | (refine ⟨cell_keep hb7 ?_, cell_keep hb7 ?_, cell_keep hb7 ?_, cell_keep hb7 ?_, cell_keep hb7 ?_, cell_keep hb7 ?_, cell_keep hb7 ?_, cell_keep hb7 ?_, cell_keep hb7 ?_⟩ <;> simp only [*]; done) | (refine ⟨cell_keep hb6 ?_, cell_keep hb6 ?_, cell_keep hb6 ?_, cell_keep hb6 ?_, cell_keep hb6 ?_, cell_keep hb6 ?_, cell_keep hb6 ?_, cell_keep hb6 ?_, cell_keep hb6 ?_⟩ <;> simp only [*]; done) | (refine ⟨cell_keep hb5 ?_, cell_keep hb5 ?_, cell_keep hb5 ?_, cell_keep hb5 ?_, cell_keep hb5 ?_, cell_keep hb5 ?_, cell_keep hb5 ?_, cell_keep hb5 ?_, cell_keep hb5 ?_⟩ <;> simp only [*]; done))
      (first | (have hn6 := hb6; go_at_call 10; refine (itoa_any x4 a40 a41 w.heap.size _ (by exact Nat.le_trans hbV.size (Nat.le_trans hb5'.size hb6.size)) (by exact (HTV.out.on (hb5'.mono hbV.size)).on (hb6.mono (Nat.le_trans hbV.size hb5'.size)))).mono ?_; intro e w7 hA; obtain ⟨rfl, hb7⟩ := N3.out _ _ _ hA; clear hA; clear hn6) | (have hn5 := hb5; go_at_call 10; refine (itoa_any x1 a10 a11 w.heap.size _ (by exact Nat.le_trans hbV.size hb5'.size) (by exact HTV.out.on (hb5'.mono hbV.size))).mono ?_; intro e w6 hA; obtain ⟨rfl, hb6⟩ := N2.out _ _ _ hA; clear hA; clear hn5) | (go_at_call 10; refine (itoa_any x0 a00 a01 w.heap.size _ (by exact hbV.size) (by exact HT.out.on hbV.drew)).mono ?_; intro e w5 hA; obtain ⟨rfl, hb5⟩ := N1.out _ _ _ hA; clear hA; have hb5' : Below V.heap.size V w5 := undrew hb5))
    all_goals
      have hbf : Below w.heap.size w w7 := bel_then hbV (bel_then hb5' (bel_then hb6 hb7 hb6.size) hb5'.size) hbV.size
      go_wp2
      go_ret
      exact ⟨by rw [HV.out]; rfl, hbf⟩
  · have k4' : ∀ W : World, (Op.stringOp .add Y3 ⟨#[103, 111, 105, 110, 103]⟩).run Tryd.prog W = .ok (.string Y4) W := k4
    clear k4
    go_enter Tryd.func6, Tryd.ntmps6
    go_wp2_with (go_at_call 9; refine (within_any _ _ _ _).mono ?_; rintro e w' ⟨rfl, rfl⟩; rw [HIN.out])
    obtain ⟨V, hV⟩ : ∃ V, V = (w.alloc (.cells #[.int .i64 x0, .int .i64 x1, .int .i64 4, .int .i64 x3, .int .i64 x4] 25)).alloc (.cells #[.string ⟨#[110, 101, 119]⟩, .string ⟨#[114, 117, 110, 115]⟩, .string ⟨#[114, 101, 97, 100, 121]⟩, .string ⟨#[98, 114, 111, 107, 101, 110]⟩, .string ⟨#[103, 111, 105, 110, 103]⟩] 31) := ⟨_, rfl⟩
    have hbV : Below w.heap.size w V := by rw [hV]; exact bel2 _ _ _
    have e0 := box_alloc (box_new w (.cells #[.int .i64 x0, .int .i64 x1, .int .i64 4, .int .i64 x3, .int .i64 x4] 25)) (.cells #[.string ⟨#[110, 101, 119]⟩, .string ⟨#[114, 117, 110, 115]⟩, .string ⟨#[114, 101, 97, 100, 121]⟩, .string ⟨#[98, 114, 111, 107, 101, 110]⟩, .string ⟨#[103, 111, 105, 110, 103]⟩] 31)
    have e1 := box_new (w.alloc (.cells #[.int .i64 x0, .int .i64 x1, .int .i64 4, .int .i64 x3, .int .i64 x4] 25)) (.cells #[.string ⟨#[110, 101, 119]⟩, .string ⟨#[114, 117, 110, 115]⟩, .string ⟨#[114, 101, 97, 100, 121]⟩, .string ⟨#[98, 114, 111, 107, 101, 110]⟩, .string ⟨#[103, 111, 105, 110, 103]⟩] 31)
    simp only [World.size_alloc] at e1
    rw [← hV] at e0 e1 ⊢
    clear hV
    have HTV := Lib.hid (HT.out.on hbV)
    have d0 := box_cell e0 0 _ rfl
    have d1 := box_cell e0 1 _ rfl
    have d2 := box_cell e0 2 _ rfl
    have d4 := box_cell e0 4 _ rfl
    have m0 := box_cell e1 0 _ rfl
    have m1 := box_cell e1 1 _ rfl
    have m2 := box_cell e1 2 _ rfl
    have m3 := box_cell e1 3 _ rfl
    have m4 := box_cell e1 4 _ rfl
    clear e0 e1
    go_region_held3 (fun w' => w'.cell? ⟨w.heap.size, 0, none⟩ = some (.int .i64 x0) ∧ w'.cell? ⟨w.heap.size, 1, none⟩ = some (.int .i64 x1) ∧ w'.cell? ⟨w.heap.size, 2, none⟩ = some (.int .i64 4) ∧ w'.cell? ⟨w.heap.size, 4, none⟩ = some (.int .i64 x4) ∧ w'.cell? ⟨w.heap.size + 1, 0, none⟩ = some (.string ⟨#[110, 101, 119]⟩) ∧ w'.cell? ⟨w.heap.size + 1, 1, none⟩ = some (.string ⟨#[114, 117, 110, 115]⟩) ∧ w'.cell? ⟨w.heap.size + 1, 2, none⟩ = some (.string ⟨#[114, 101, 97, 100, 121]⟩) ∧ w'.cell? ⟨w.heap.size + 1, 3, none⟩ = some (.string ⟨#[98, 114, 111, 107, 101, 110]⟩) ∧ w'.cell? ⟨w.heap.size + 1, 4, none⟩ = some (.string ⟨#[103, 111, 105, 110, 103]⟩)) (first | (go_keep; done) | (refine ⟨cell_keep hb7 ?_, cell_keep hb7 ?_, cell_keep hb7 ?_, cell_keep hb7 ?_, cell_keep hb7 ?_, cell_keep hb7 ?_, cell_keep hb7 ?_, cell_keep hb7 ?_, cell_keep hb7 ?_⟩ <;> simp only [*]; done) | (refine ⟨cell_keep hb6 ?_, cell_keep hb6 ?_, cell_keep hb6 ?_, cell_keep hb6 ?_, cell_keep hb6 ?_, cell_keep hb6 ?_, cell_keep hb6 ?_, cell_keep hb6 ?_, cell_keep hb6 ?_⟩ <;> simp only [*]; done) | (refine ⟨cell_keep hb5 ?_, cell_keep hb5 ?_, cell_keep hb5 ?_, cell_keep hb5 ?_, cell_keep hb5 ?_, cell_keep hb5 ?_, cell_keep hb5 ?_, cell_keep hb5 ?_, cell_keep hb5 ?_⟩ <;> simp only [*]; done))
      (first | (have hn6 := hb6; go_at_call 10; refine (itoa_any x4 a40 a41 w.heap.size _ (by exact Nat.le_trans hbV.size (Nat.le_trans hb5'.size hb6.size)) (by exact (HTV.out.on (hb5'.mono hbV.size)).on (hb6.mono (Nat.le_trans hbV.size hb5'.size)))).mono ?_; intro e w7 hA; obtain ⟨rfl, hb7⟩ := N3.out _ _ _ hA; clear hA; clear hn6) | (have hn5 := hb5; go_at_call 10; refine (itoa_any x1 a10 a11 w.heap.size _ (by exact Nat.le_trans hbV.size hb5'.size) (by exact HTV.out.on (hb5'.mono hbV.size))).mono ?_; intro e w6 hA; obtain ⟨rfl, hb6⟩ := N2.out _ _ _ hA; clear hA; clear hn5) | (go_at_call 10; refine (itoa_any x0 a00 a01 w.heap.size _ (by exact hbV.size) (by exact HT.out.on hbV.drew)).mono ?_; intro e w5 hA; obtain ⟨rfl, hb5⟩ := N1.out _ _ _ hA; clear hA; have hb5' : Below V.heap.size V w5 := undrew hb5))
    all_goals
      have hbf : Below w.heap.size w w7 := bel_then hbV (bel_then hb5' (bel_then hb6 hb7 hb6.size) hb5'.size) hbV.size
      go_wp2
      go_ret
      exact ⟨by rw [HV.out]; rfl, hbf⟩
end Go.Proofs.YtpnlnekgekfhgaaDoor.PodText
