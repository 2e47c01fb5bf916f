/-
  THE ENGINE's TEXT: the contracts of EngineText, the program's and the model's, over this seat's translation.
-/
import Derived.Test.YtlghdmakaocokaaGreatDoorEngOk
import Derived.Test.YtlghdmakaocokaaGreatDoorAv
import Derived.Test.YtlghdmakaocokaaGreatDoorNum
import Derived.Test.YtlghdmakaocokaaGreatDoorShelf
import Derived.Lib.AppendIntMem
import Derived.Lib.LaidTab
import Derived.Lib.ItoaNum
import Derived.Laws.Concat
namespace Go.Proofs.YtlghdmakaocokaaGreatDoor.EngText
open Go.ChangeShapes Go.WideShapes Go.ChangeAt Go.RowKit
open Go.Proofs.YtlghdmakaocokaaGreatDoor.LK Go.Proofs.YtlghdmakaocokaaGreatDoor.Pods Go.Proofs.YtlghdmakaocokaaGreatDoor.EngV Go.Proofs.YtlghdmakaocokaaGreatDoor.Seg Go.Proofs.YtlghdmakaocokaaGreatDoor.EngOk Go.Proofs.YtlghdmakaocokaaGreatDoor.Num Go.Proofs.YtlghdmakaocokaaGreatDoor.Str
set_option linter.unusedVariables false
set_option linter.unusedSimpArgs false

def nmT : Nat → ByteArray
  | 0 => ⟨#[105, 100, 108, 101]⟩
  | 1 => ⟨#[114, 111, 108, 108, 115]⟩
  | 2 => ⟨#[98, 97, 99, 107]⟩
  | _ => ⟨#[100, 101, 103, 114, 97, 100, 101, 100]⟩
theorem nm_size (k : Nat) : (nmT k).size ≤ 8 := by
  match k with
  | 0 => exact (by decide : (4 : Nat) ≤ 8)
  | 1 => exact (by decide : (5 : Nat) ≤ 8)
  | 2 => exact (by decide : (4 : Nat) ≤ 8)
  | _ + 3 => exact (by decide : (8 : Nat) ≤ 8)
def tx_to : ByteArray := ⟨#[32, 116, 111, 32]⟩
def tx_good : ByteArray := ⟨#[32, 103, 111, 111, 100, 32]⟩
def tx_pods : ByteArray := ⟨#[32, 112, 111, 100, 115, 32]⟩
def tx_avail : ByteArray := ⟨#[32, 97, 118, 97, 105, 108, 32]⟩
def avl (d : Eng) : Int := Av.availV d.sp.x0 d.sp.x1 d.sp.x2 d.sp.x3 d.sp.x4 d.sp.x5 d.sp.x6 d.sp.x7 d.sp.x8 d.sp.x9 d.sp.x10 0 d.now (d.ps, d.nx)
def etext (d : Eng) : ByteArray := if d.okB then nmT d.ph.toNat ++ tx_to ++ bstr (Lib.itoa d.tg) ++ tx_good ++ bstr (Lib.itoa d.gd) ++ tx_pods ++ bstr (Lib.itoa d.ps.length) ++ tx_avail ++ bstr (Lib.itoa (avl d)) else ⟨#[]⟩
theorem itoa_size (x : Int) (h0 : -9223372036854775808 ≤ x) (h1 : x ≤ 9223372036854775807) : (bstr (Lib.itoa x)).size ≤ 21 := by
  rw [bstr_size]; exact Lib.itoa_length_le _ h0 h1
theorem okB_t {e : Eng} (h : e.okB = true) : FleetV.FGood e.ps e.nx ∧ (0 ≤ e.ph ∧ e.ph ≤ 3) ∧ (1 ≤ e.tg ∧ e.tg ≤ 1000) ∧ (1 ≤ e.gd ∧ e.gd ≤ 1000) := by
  simp only [Eng.okB, Bool.and_eq_true, decide_eq_true_eq] at h
  obtain ⟨⟨⟨⟨⟨⟨⟨⟨h1, h2⟩, h3⟩, h4⟩, h5⟩, h6⟩, h7⟩, h8⟩, h9⟩ := h
  exact ⟨h2, Tick.in_t h6, Tick.in_t h7, Tick.in_t h8⟩
theorem avl_bd {d : Eng} (h : d.okB = true) : -1 ≤ avl d ∧ avl d ≤ 1000 := by
  have hl := (okB_t h).1.1
  simp only [avl, Av.availV]
  split
  · have : (Av.cntF (Av.avB d.sp.x0 d.sp.x1 d.sp.x2 d.sp.x3 d.sp.x4 d.sp.x5 d.sp.x6 d.sp.x7 d.sp.x8 d.sp.x9 d.sp.x10 0 d.now) d.ps : Nat) ≤ d.ps.length := List.length_filter_le _ _
    show -1 ≤ ((Av.cntF _ d.ps : Nat) : Int) ∧ ((Av.cntF _ d.ps : Nat) : Int) ≤ 1000
    omega
  · omega
theorem itoa_any (x : Int) (h0 : -9223372036854775808 ≤ x) (h1 : x ≤ 9223372036854775807) (B : Nat) (w : World) (hB : B ≤ w.heap.size) (htab : Lib.TabBelow Tryz.prog B w "internal/strconv.uint64pow10" .u64 Lib.pow10Tab) :
    Calls Tryz.prog 29 #[.int .i64 x] w (NumSaid x w) := by
  refine (Tryz.strconv_Itoa x h0 h1 w (htab w (Below.refl _ _))).mono ?_
  rintro e w' ⟨rfl, k, os, rfl⟩
  exact ⟨rfl, Lib.below_grow _ _ (Nat.le_refl _) k os⟩
theorem phaseName_any (k : Nat) (hk : k < 4) (w : World) : Calls Tryz.prog 28 #[.int .i64 (k : Int)] w (Says (.string (nmT k)) w) := by
  match k, hk with
  | 0, _ | 1, _ | 2, _ | 3, _ =>
    go_enter Tryz.func28, Tryz.ntmps28
    go_wp2
    go_ret
    exact ⟨rfl, bel1 _ _⟩
set_option maxRecDepth 100000 in
set_option maxHeartbeats 6400000 in
theorem engineText_any (A : Option Addr) (n c : Nat) (d : Eng) (B : Nat) (w : World) (B0 : Nat) (hBB : B0 ≤ w.heap.size) (htab : ∀ W : World, Below w.heap.size w W → Lib.TabBelow Tryz.prog B0 W "internal/strconv.uint64pow10" .u64 Lib.pow10Tab) (hr : IsPods w B A n d.ps) (hB : B ≤ w.heap.size) (hn : n ≤ 1048576) : Calls Tryz.prog 15 #[.agg (enL d A n c).toArray] w (Says (.string (etext d)) w) := by
  obtain ⟨R, hR⟩ : ∃ R, R = etext d := ⟨_, rfl⟩
  rw [← hR]
  have HR := Lib.hid hR
  have HP := Lib.hid hr
  have HL : Hid (d.ps.length = n) := hr.1
  have HTAB := Lib.hid htab
  have HBB := Lib.hid hBB
  clear htab hBB
  clear hR hr
  obtain ⟨V, hV⟩ : ∃ V, V = w.alloc (.cells (enL d A n c).toArray 42) := ⟨_, rfl⟩
  have HB : Hid (Below w.heap.size w V) := by rw [hV]; exact bel1 _ _
  have K : Hid (V.heap[w.heap.size]? = some (.cells (enL d A n c).toArray 42 (0, 0))) := by rw [hV]; exact box_new w _
  go_enter Tryz.func15, Tryz.ntmps15
  go_upto_region 1 with fail
  rw [← hV]
  clear hV
  go_wp2_with (refine wpList_get rfl 42 _ rfl w.heap.size 0 rfl K.out (enL d A n c) List.take_length Tryz.underlying42 rfl (by kernel_rfl) ?_)
  refine (engineOk_any A n c d B _ (HP.out.below HB.out hB) (Nat.le_trans hB HB.out.size) hn).mono ?_
  rintro e w1 ⟨rfl, hb⟩
  have K1 := Lib.hid (box_below K.out hb)
  have HB1 := Lib.hid (bel_then HB.out hb HB.out.size)
  clear K HB hb
  cases h0 : d.okB
  · have HF : Hid (R = ⟨#[]⟩) := by show _ = _; rw [HR.out]; simp [etext, h0]
    clear h0
    go_wp2
    go_ret
    exact ⟨by rw [HF.out]; rfl, HB1.out⟩
  obtain ⟨hgood, hph, htg, hgd⟩ := okB_t h0
  have hav := avl_bd h0
  obtain ⟨k, hk⟩ : ∃ k : Nat, (k : Int) = d.ph := ⟨d.ph.toNat, by omega⟩
  have hk4 : k < 4 := by omega
  have hki : (k : Int) < 4 := by omega
  have HK : Hid (d.ph = (k : Int)) := hk.symm
  obtain ⟨av, hav2⟩ : ∃ av, av = avl d := ⟨_, rfl⟩
  rw [← hav2] at hav
  obtain ⟨X0, hX0⟩ : ∃ Z, Z = nmT k := ⟨_, rfl⟩
  obtain ⟨X1, hX1⟩ : ∃ Z, Z = bstr (Lib.itoa d.tg) := ⟨_, rfl⟩
  obtain ⟨X2, hX2⟩ : ∃ Z, Z = bstr (Lib.itoa d.gd) := ⟨_, rfl⟩
  obtain ⟨X3, hX3⟩ : ∃ Z, Z = bstr (Lib.itoa (n : Int)) := ⟨_, rfl⟩
  obtain ⟨X4, hX4⟩ : ∃ Z, Z = bstr (Lib.itoa av) := ⟨_, rfl⟩
  have hl0 : X0.size ≤ 8 := by rw [hX0]; exact nm_size k
  have hl1 : X1.size ≤ 21 := by rw [hX1]; exact itoa_size _ (by omega) (by omega)
  have hl2 : X2.size ≤ 21 := by rw [hX2]; exact itoa_size _ (by omega) (by omega)
  have hl3 : X3.size ≤ 21 := by rw [hX3]; exact itoa_size _ (by omega) (by omega)
  have hl4 : X4.size ≤ 21 := by rw [hX4]; exact itoa_size _ (by omega) (by omega)
  have HN1 : Hid (∀ W e w', NumSaid d.tg W e w' → e = .returned (.string X1) ∧ Below W.heap.size W w') := by rw [hX1]; exact fun W e w' h => h
  have HN2 : Hid (∀ W e w', NumSaid d.gd W e w' → e = .returned (.string X2) ∧ Below W.heap.size W w') := by rw [hX2]; exact fun W e w' h => h
  have HN3 : Hid (∀ W e w', NumSaid (n : Int) W e w' → e = .returned (.string X3) ∧ Below W.heap.size W w') := by rw [hX3]; exact fun W e w' h => h
  have HN4 : Hid (∀ W e w', NumSaid av W e w' → e = .returned (.string X4) ∧ Below W.heap.size W w') := by rw [hX4]; exact fun W e w' h => h
  obtain ⟨Y1, hY1⟩ : ∃ Y, Y = X0 ++ tx_to := ⟨_, rfl⟩
  obtain ⟨Y2, hY2⟩ : ∃ Y, Y = Y1 ++ X1 := ⟨_, rfl⟩
  obtain ⟨Y3, hY3⟩ : ∃ Y, Y = Y2 ++ tx_good := ⟨_, rfl⟩
  obtain ⟨Y4, hY4⟩ : ∃ Y, Y = Y3 ++ X2 := ⟨_, rfl⟩
  obtain ⟨Y5, hY5⟩ : ∃ Y, Y = Y4 ++ tx_pods := ⟨_, rfl⟩
  obtain ⟨Y6, hY6⟩ : ∃ Y, Y = Y5 ++ X3 := ⟨_, rfl⟩
  obtain ⟨Y7, hY7⟩ : ∃ Y, Y = Y6 ++ tx_avail := ⟨_, rfl⟩
  obtain ⟨Y8, hY8⟩ : ∃ Y, Y = Y7 ++ X4 := ⟨_, rfl⟩
  have g1 : Y1.size ≤ 12 := by rw [hY1, ByteArray.size_append]; have : tx_to.size = 4 := rfl; omega
  have g2 : Y2.size ≤ 33 := by rw [hY2, ByteArray.size_append]; omega
  have g3 : Y3.size ≤ 39 := by rw [hY3, ByteArray.size_append]; have : tx_good.size = 6 := rfl; omega
  have g4 : Y4.size ≤ 60 := by rw [hY4, ByteArray.size_append]; omega
  have g5 : Y5.size ≤ 66 := by rw [hY5, ByteArray.size_append]; have : tx_pods.size = 6 := rfl; omega
  have g6 : Y6.size ≤ 87 := by rw [hY6, ByteArray.size_append]; omega
  have g7 : Y7.size ≤ 94 := by rw [hY7, ByteArray.size_append]; have : tx_avail.size = 7 := rfl; omega
  have k1 : ∀ W : World, (Op.stringOp .add X0 ⟨#[32, 116, 111, 32]⟩).run Tryz.prog W = .ok (.string Y1) W := fun W => by rw [hY1]; exact run_string_add W _ _ (by omega) (by show (4 : Int) ≤ _; omega)
  have k2 : ∀ W : World, (Op.stringOp .add Y1 X1).run Tryz.prog W = .ok (.string Y2) W := fun W => by rw [hY2]; exact run_string_add W _ _ (by omega) (by omega)
  have k3 : ∀ W : World, (Op.stringOp .add Y2 ⟨#[32, 103, 111, 111, 100, 32]⟩).run Tryz.prog W = .ok (.string Y3) W := fun W => by rw [hY3]; exact run_string_add W _ _ (by omega) (by show (6 : Int) ≤ _; omega)
  have k4 : ∀ W : World, (Op.stringOp .add Y3 X2).run Tryz.prog W = .ok (.string Y4) W := fun W => by rw [hY4]; exact run_string_add W _ _ (by omega) (by omega)
  have k5 : ∀ W : World, (Op.stringOp .add Y4 ⟨#[32, 112, 111, 100, 115, 32]⟩).run Tryz.prog W = .ok (.string Y5) W := fun W => by rw [hY5]; exact run_string_add W _ _ (by omega) (by show (6 : Int) ≤ _; omega)
  have k6 : ∀ W : World, (Op.stringOp .add Y5 X3).run Tryz.prog W = .ok (.string Y6) W := fun W => by rw [hY6]; exact run_string_add W _ _ (by omega) (by omega)
  have k7 : ∀ W : World, (Op.stringOp .add Y6 ⟨#[32, 97, 118, 97, 105, 108, 32]⟩).run Tryz.prog W = .ok (.string Y7) W := fun W => by rw [hY7]; exact run_string_add W _ _ (by omega) (by show (7 : Int) ≤ _; omega)
  have k8 : ∀ W : World, (Op.stringOp .add Y7 X4).run Tryz.prog W = .ok (.string Y8) W := fun W => by rw [hY8]; exact run_string_add W _ _ (by omega) (by omega)
  have HFIN : Hid (R = Y8) := by
    show _ = _
    have hkk : d.ph.toNat = k := by omega
    rw [HR.out, etext, if_pos h0, hkk, HL.out, hY8, hY7, hY6, hY5, hY4, hY3, hY2, hY1, hX4, hX3, hX2, hX1, hX0, hav2]
  have HAV := Lib.hid (show av = Av.availV d.sp.x0 d.sp.x1 d.sp.x2 d.sp.x3 d.sp.x4 d.sp.x5 d.sp.x6 d.sp.x7 d.sp.x8 d.sp.x9 d.sp.x10 0 d.now (d.ps, d.nx) from hav2)
  have HX0 := Lib.hid hX0
  clear hY1 hY2 hY3 hY4 hY5 hY6 hY7 hY8 hX0 hX1 hX2 hX3 hX4 hav2 h0 hgood hph hk
  go_wp2_with fail
  refine wp_region_held_drew (S := fun w' => w'.cell? ⟨w.heap.size, 12, none⟩ = some (.int .i64 (k : Int)) ∧ w'.cell? ⟨w.heap.size, 13, none⟩ = some (.int .i64 d.tg) ∧ w'.cell? ⟨w.heap.size, 14, none⟩ = some (.int .i64 d.gd) ∧ w'.cell? ⟨w.heap.size, 15, none⟩ = some (.slice A n c) ∧ w'.cell? ⟨w.heap.size, 11, none⟩ = some (.int .i64 d.now) ∧ w'.rangeAt w.heap.size 0 (spL d.sp) ∧ w'.rangeAt w.heap.size 15 (flL A n c d.nx)) (by kernel_rfl) ⟨(show _ = some (Value.int .i64 (k : Int)) from by rw [← HK.out]; exact box_cell K1.out 12 _ rfl), box_cell K1.out 13 _ rfl, box_cell K1.out 14 _ rfl, box_cell K1.out 15 _ rfl, box_cell K1.out 11 _ rfl, range_of K1.out (enL_sp d A n c), range_of K1.out (enL_fl d A n c)⟩ (fun hHeld => ?_)
  refine wpAnyH_take (i := 0) (v := ?v1) rfl (by kernel_rfl) (by kernel_rfl) (by kernel_rfl) (fun _ _ _ h => h) (Or.inl ⟨by rfl, ?hy1⟩) (by assumption) ?_
  case hy1 => (intro w0 hSw; (try dsimp only at hSw); go_simp <;> with_reducible rfl)
  try simp only [Act.put, List.getElem_toArray, List.getElem_cons_zero, List.getElem_cons_succ, List.setIfInBounds_toArray, List.set_cons_zero, List.set_cons_succ]
  refine wpAnyH_take (i := 1) (v := ?v2) rfl (by kernel_rfl) (by kernel_rfl) (by kernel_rfl) (fun _ _ _ h => h) (Or.inl ⟨by rfl, ?hy2⟩) (by assumption) ?_
  case hy2 => (intro w0 hSw; (try dsimp only at hSw); go_simp <;> with_reducible rfl)
  try simp only [Act.put, List.getElem_toArray, List.getElem_cons_zero, List.getElem_cons_succ, List.setIfInBounds_toArray, List.set_cons_zero, List.set_cons_succ]
  refine wpAnyH_take (i := 4) (v := ?v3) rfl (by kernel_rfl) (by kernel_rfl) (by kernel_rfl) (fun _ _ _ h => h) (Or.inl ⟨by rfl, ?hy3⟩) (by assumption) ?_
  case hy3 => (intro w0 hSw; (try dsimp only at hSw); go_simp <;> with_reducible rfl)
  try simp only [Act.put, List.getElem_toArray, List.getElem_cons_zero, List.getElem_cons_succ, List.setIfInBounds_toArray, List.set_cons_zero, List.set_cons_succ]
  refine wpAnyH_take (i := 5) (v := ?v4) rfl (by kernel_rfl) (by kernel_rfl) (by kernel_rfl) (fun _ _ _ h => h) (Or.inl ⟨by rfl, ?hy4⟩) (by assumption) ?_
  case hy4 => (intro w0 hSw; (try dsimp only at hSw); go_simp <;> with_reducible rfl)
  try simp only [Act.put, List.getElem_toArray, List.getElem_cons_zero, List.getElem_cons_succ, List.setIfInBounds_toArray, List.set_cons_zero, List.set_cons_succ]
  refine wpAnyH_take (i := 9) (v := ?v5) rfl (by kernel_rfl) (by kernel_rfl) (by kernel_rfl) (fun _ _ _ h => h) (Or.inl ⟨by rfl, ?hy5⟩) (by assumption) ?_
  case hy5 => (intro w0 hSw; (try dsimp only at hSw); go_simp <;> with_reducible rfl)
  try simp only [Act.put, List.getElem_toArray, List.getElem_cons_zero, List.getElem_cons_succ, List.setIfInBounds_toArray, List.set_cons_zero, List.set_cons_succ]
  refine wpAnyH_take (i := 10) (v := ?v6) rfl (by kernel_rfl) (by kernel_rfl) (by kernel_rfl) (fun _ _ _ h => h) (Or.inl ⟨by rfl, ?hy6⟩) (by assumption) ?_
  case hy6 => (intro w0 hSw; (try dsimp only at hSw); go_simp <;> with_reducible rfl)
  try simp only [Act.put, List.getElem_toArray, List.getElem_cons_zero, List.getElem_cons_succ, List.setIfInBounds_toArray, List.set_cons_zero, List.set_cons_succ]
  refine wpAnyH_take (i := 14) (v := ?v7) rfl (by kernel_rfl) (by kernel_rfl) (by kernel_rfl) (fun _ _ _ h => h) (Or.inl ⟨by rfl, ?hy7⟩) (by assumption) ?_
  case hy7 => (intro w0 hSw; (try dsimp only at hSw); go_simp <;> with_reducible rfl)
  try simp only [Act.put, List.getElem_toArray, List.getElem_cons_zero, List.getElem_cons_succ, List.setIfInBounds_toArray, List.set_cons_zero, List.set_cons_succ]
  refine wpAnyH_take (i := 15) (v := ?v8) rfl (by kernel_rfl) (by kernel_rfl) (by kernel_rfl) (fun _ _ _ h => h) (Or.inl ⟨by rfl, ?hy8⟩) (by assumption) ?_
  case hy8 => (intro w0 hSw; (try dsimp only at hSw); go_simp <;> with_reducible rfl)
  try simp only [Act.put, List.getElem_toArray, List.getElem_cons_zero, List.getElem_cons_succ, List.setIfInBounds_toArray, List.set_cons_zero, List.set_cons_succ]
  refine wpAnyH_take (i := 16) (v := ?v9) rfl (by kernel_rfl) (by kernel_rfl) (by kernel_rfl) (fun _ _ _ h => h) (Or.inl ⟨by rfl, ?hy9⟩) (by assumption) ?_
  case hy9 => (intro w0 hSw; (try dsimp only at hSw); go_simp <;> with_reducible rfl)
  try simp only [Act.put, List.getElem_toArray, List.getElem_cons_zero, List.getElem_cons_succ, List.setIfInBounds_toArray, List.set_cons_zero, List.set_cons_succ]
  refine wpAnyH_take (i := 17) (v := ?v10) rfl (by kernel_rfl) (by kernel_rfl) (by kernel_rfl) (fun _ _ _ h => h) (Or.inl ⟨by rfl, ?hy10⟩) (by assumption) ?_
  case hy10 => (intro w0 hSw; (try dsimp only at hSw); go_simp <;> with_reducible rfl)
  try simp only [Act.put, List.getElem_toArray, List.getElem_cons_zero, List.getElem_cons_succ, List.setIfInBounds_toArray, List.set_cons_zero, List.set_cons_succ]
  refine wpAnyH_take (i := 21) (v := ?v11) rfl (by kernel_rfl) (by kernel_rfl) (by kernel_rfl) (fun _ _ _ h => h) (Or.inl ⟨by rfl, ?hy11⟩) (by assumption) ?_
  case hy11 => (intro w0 hSw; (try dsimp only at hSw); go_simp <;> with_reducible rfl)
  try simp only [Act.put, List.getElem_toArray, List.getElem_cons_zero, List.getElem_cons_succ, List.setIfInBounds_toArray, List.set_cons_zero, List.set_cons_succ]
  refine wpAnyH_take (i := 22) (v := .agg (spL d.sp).toArray) rfl (by kernel_rfl) (by kernel_rfl) (by kernel_rfl) (fun _ _ _ h => h) (yieldsIf_load_mid (by rfl) 36 _ rfl w.heap.size 0 rfl (spL d.sp) _ (fun w' h => h.2.2.2.2.2.1) Tryz.underlying36 rfl (by kernel_rfl)) (by assumption) ?_
  try simp only [Act.put, List.getElem_toArray, List.getElem_cons_zero, List.getElem_cons_succ, List.setIfInBounds_toArray, List.set_cons_zero, List.set_cons_succ]
  refine wpAnyH_take (i := 23) (v := ?v12) rfl (by kernel_rfl) (by kernel_rfl) (by kernel_rfl) (fun _ _ _ h => h) (Or.inl ⟨by rfl, ?hy12⟩) (by assumption) ?_
  case hy12 => (intro w0 hSw; (try dsimp only at hSw); go_simp <;> with_reducible rfl)
  try simp only [Act.put, List.getElem_toArray, List.getElem_cons_zero, List.getElem_cons_succ, List.setIfInBounds_toArray, List.set_cons_zero, List.set_cons_succ]
  refine wpAnyH_take (i := 24) (v := .agg (flL A n c d.nx).toArray) rfl (by kernel_rfl) (by kernel_rfl) (by kernel_rfl) (fun _ _ _ h => h) (yieldsIf_load_mid (by rfl) 40 _ rfl w.heap.size 15 rfl (flL A n c d.nx) _ (fun w' h => h.2.2.2.2.2.2) Tryz.underlying40 rfl (by kernel_rfl)) (by assumption) ?_
  try simp only [Act.put, List.getElem_toArray, List.getElem_cons_zero, List.getElem_cons_succ, List.setIfInBounds_toArray, List.set_cons_zero, List.set_cons_succ]
  refine wpAnyH_take (i := 25) (v := ?v13) rfl (by kernel_rfl) (by kernel_rfl) (by kernel_rfl) (fun _ _ _ h => h) (Or.inl ⟨by rfl, ?hy13⟩) (by assumption) ?_
  case hy13 => (intro w0 hSw; (try dsimp only at hSw); go_simp <;> with_reducible rfl)
  try simp only [Act.put, List.getElem_toArray, List.getElem_cons_zero, List.getElem_cons_succ, List.setIfInBounds_toArray, List.set_cons_zero, List.set_cons_succ]
  refine wpAnyH_take (i := 26) (v := ?v14) rfl (by kernel_rfl) (by kernel_rfl) (by kernel_rfl) (fun _ _ _ h => h) (Or.inl ⟨by rfl, ?hy14⟩) (by assumption) ?_
  case hy14 => (intro w0 hSw; (try dsimp only at hSw); go_simp <;> with_reducible rfl)
  try simp only [Act.put, List.getElem_toArray, List.getElem_cons_zero, List.getElem_cons_succ, List.setIfInBounds_toArray, List.set_cons_zero, List.set_cons_succ]
  refine wpAnyH_ready (rs := [2]) (by kernel_rfl) (by simp) (AllReadyH.cons rfl (fun K hK => ?_) AllReadyH.nil)
  go_simp
  refine (phaseName_any k hk4 _).mono ?_
  rw [show nmT k = X0 from HX0.out.symm]
  rintro e w2 ⟨rfl, hb⟩
  have hb' : Below w1.heap.size w1 w2 := undrew hb
  have K2 := Lib.hid (box_below K1.out hb')
  have HB2 := Lib.hid (bel_then HB1.out hb' HB1.out.size)
  clear K1 HB1 hb hb' hHeld
  refine hK _ _ (by exact ⟨(show _ = some (Value.int .i64 (k : Int)) from by rw [← HK.out]; exact box_cell K2.out 12 _ rfl), box_cell K2.out 13 _ rfl, box_cell K2.out 14 _ rfl, box_cell K2.out 15 _ rfl, box_cell K2.out 11 _ rfl, range_of K2.out (enL_sp d A n c), range_of K2.out (enL_fl d A n c)⟩) (fun hHeld => ?_)
  clear hK K
  try simp only [Act.put, List.getElem_toArray, List.getElem_cons_zero, List.getElem_cons_succ, List.setIfInBounds_toArray, List.set_cons_zero, List.set_cons_succ]
  refine wpAnyH_take (i := 3) (v := ?v16) rfl (by kernel_rfl) (by kernel_rfl) (by kernel_rfl) (fun _ _ _ h => h) (Or.inl ⟨by rfl, ?hy16⟩) (by assumption) ?_
  case hy16 => (intro w0 hSw; (try dsimp only at hSw); go_simp <;> with_reducible rfl)
  try simp only [Act.put, List.getElem_toArray, List.getElem_cons_zero, List.getElem_cons_succ, List.setIfInBounds_toArray, List.set_cons_zero, List.set_cons_succ]
  refine wpAnyH_ready (rs := [6]) (by kernel_rfl) (by simp) (AllReadyH.cons rfl (fun K hK => ?_) AllReadyH.nil)
  go_simp
  refine (itoa_any d.tg (by omega) (by omega) B0 _ (by first | exact HB2.out.size | exact Nat.le_trans HBB.out HB2.out.size) (by exact HTAB.out _ HB2.out)).mono ?_
  rintro e w3 hns
  obtain ⟨rfl, hb⟩ := HN1.out _ _ _ hns
  clear hns
  have hb' := hb
  have K3 := Lib.hid (box_below K2.out hb')
  have HB3 := Lib.hid (bel_then HB2.out hb' HB2.out.size)
  clear K2 HB2 hb hb' hHeld
  refine hK _ _ (by exact ⟨(show _ = some (Value.int .i64 (k : Int)) from by rw [← HK.out]; exact box_cell K3.out 12 _ rfl), box_cell K3.out 13 _ rfl, box_cell K3.out 14 _ rfl, box_cell K3.out 15 _ rfl, box_cell K3.out 11 _ rfl, range_of K3.out (enL_sp d A n c), range_of K3.out (enL_fl d A n c)⟩) (fun hHeld => ?_)
  clear hK K
  try simp only [Act.put, List.getElem_toArray, List.getElem_cons_zero, List.getElem_cons_succ, List.setIfInBounds_toArray, List.set_cons_zero, List.set_cons_succ]
  refine wpAnyH_take (i := 7) (v := ?v18) rfl (by kernel_rfl) (by kernel_rfl) (by kernel_rfl) (fun _ _ _ h => h) (Or.inl ⟨by rfl, ?hy18⟩) (by assumption) ?_
  case hy18 => (intro w0 hSw; (try dsimp only at hSw); go_simp <;> with_reducible rfl)
  try simp only [Act.put, List.getElem_toArray, List.getElem_cons_zero, List.getElem_cons_succ, List.setIfInBounds_toArray, List.set_cons_zero, List.set_cons_succ]
  refine wpAnyH_take (i := 8) (v := ?v19) rfl (by kernel_rfl) (by kernel_rfl) (by kernel_rfl) (fun _ _ _ h => h) (Or.inl ⟨by rfl, ?hy19⟩) (by assumption) ?_
  case hy19 => (intro w0 hSw; (try dsimp only at hSw); go_simp <;> with_reducible rfl)
  try simp only [Act.put, List.getElem_toArray, List.getElem_cons_zero, List.getElem_cons_succ, List.setIfInBounds_toArray, List.set_cons_zero, List.set_cons_succ]
  refine wpAnyH_ready (rs := [11]) (by kernel_rfl) (by simp) (AllReadyH.cons rfl (fun K hK => ?_) AllReadyH.nil)
  go_simp
  refine (itoa_any d.gd (by omega) (by omega) B0 _ (by first | exact HB3.out.size | exact Nat.le_trans HBB.out HB3.out.size) (by exact HTAB.out _ HB3.out)).mono ?_
  rintro e w4 hns
  obtain ⟨rfl, hb⟩ := HN2.out _ _ _ hns
  clear hns
  have hb' := hb
  have K4 := Lib.hid (box_below K3.out hb')
  have HB4 := Lib.hid (bel_then HB3.out hb' HB3.out.size)
  clear K3 HB3 hb hb' hHeld
  refine hK _ _ (by exact ⟨(show _ = some (Value.int .i64 (k : Int)) from by rw [← HK.out]; exact box_cell K4.out 12 _ rfl), box_cell K4.out 13 _ rfl, box_cell K4.out 14 _ rfl, box_cell K4.out 15 _ rfl, box_cell K4.out 11 _ rfl, range_of K4.out (enL_sp d A n c), range_of K4.out (enL_fl d A n c)⟩) (fun hHeld => ?_)
  clear hK K
  try simp only [Act.put, List.getElem_toArray, List.getElem_cons_zero, List.getElem_cons_succ, List.setIfInBounds_toArray, List.set_cons_zero, List.set_cons_succ]
  refine wpAnyH_take (i := 12) (v := ?v21) rfl (by kernel_rfl) (by kernel_rfl) (by kernel_rfl) (fun _ _ _ h => h) (Or.inl ⟨by rfl, ?hy21⟩) (by assumption) ?_
  case hy21 => (intro w0 hSw; (try dsimp only at hSw); go_simp <;> with_reducible rfl)
  try simp only [Act.put, List.getElem_toArray, List.getElem_cons_zero, List.getElem_cons_succ, List.setIfInBounds_toArray, List.set_cons_zero, List.set_cons_succ]
  refine wpAnyH_take (i := 13) (v := ?v22) rfl (by kernel_rfl) (by kernel_rfl) (by kernel_rfl) (fun _ _ _ h => h) (Or.inl ⟨by rfl, ?hy22⟩) (by assumption) ?_
  case hy22 => (intro w0 hSw; (try dsimp only at hSw); go_simp <;> with_reducible rfl)
  try simp only [Act.put, List.getElem_toArray, List.getElem_cons_zero, List.getElem_cons_succ, List.setIfInBounds_toArray, List.set_cons_zero, List.set_cons_succ]
  refine wpAnyH_ready (rs := [18]) (by kernel_rfl) (by simp) (AllReadyH.cons rfl (fun K hK => ?_) AllReadyH.nil)
  go_simp
  refine (itoa_any (n : Int) (by omega) (by omega) B0 _ (by first | exact HB4.out.size | exact Nat.le_trans HBB.out HB4.out.size) (by exact HTAB.out _ HB4.out)).mono ?_
  rintro e w5 hns
  obtain ⟨rfl, hb⟩ := HN3.out _ _ _ hns
  clear hns
  have hb' := hb
  have K5 := Lib.hid (box_below K4.out hb')
  have HB5 := Lib.hid (bel_then HB4.out hb' HB4.out.size)
  clear K4 HB4 hb hb' hHeld
  refine hK _ _ (by exact ⟨(show _ = some (Value.int .i64 (k : Int)) from by rw [← HK.out]; exact box_cell K5.out 12 _ rfl), box_cell K5.out 13 _ rfl, box_cell K5.out 14 _ rfl, box_cell K5.out 15 _ rfl, box_cell K5.out 11 _ rfl, range_of K5.out (enL_sp d A n c), range_of K5.out (enL_fl d A n c)⟩) (fun hHeld => ?_)
  clear hK K
  try simp only [Act.put, List.getElem_toArray, List.getElem_cons_zero, List.getElem_cons_succ, List.setIfInBounds_toArray, List.set_cons_zero, List.set_cons_succ]
  refine wpAnyH_take (i := 19) (v := ?v24) rfl (by kernel_rfl) (by kernel_rfl) (by kernel_rfl) (fun _ _ _ h => h) (Or.inl ⟨by rfl, ?hy24⟩) (by assumption) ?_
  case hy24 => (intro w0 hSw; (try dsimp only at hSw); go_simp <;> with_reducible rfl)
  try simp only [Act.put, List.getElem_toArray, List.getElem_cons_zero, List.getElem_cons_succ, List.setIfInBounds_toArray, List.set_cons_zero, List.set_cons_succ]
  refine wpAnyH_take (i := 20) (v := ?v25) rfl (by kernel_rfl) (by kernel_rfl) (by kernel_rfl) (fun _ _ _ h => h) (Or.inl ⟨by rfl, ?hy25⟩) (by assumption) ?_
  case hy25 => (intro w0 hSw; (try dsimp only at hSw); go_simp <;> with_reducible rfl)
  try simp only [Act.put, List.getElem_toArray, List.getElem_cons_zero, List.getElem_cons_succ, List.setIfInBounds_toArray, List.set_cons_zero, List.set_cons_succ]
  refine wpAnyH_ready (rs := [27]) (by kernel_rfl) (by simp) (AllReadyH.cons rfl (fun K hK => ?_) AllReadyH.nil)
  go_simp
  refine (Av.availableOf_any d.sp.x0 d.sp.x1 d.sp.x2 d.sp.x3 d.sp.x4 d.sp.x5 d.sp.x6 d.sp.x7 d.sp.x8 d.sp.x9 d.sp.x10 0 d.now A n c d.nx d.ps B _ (HP.out.below HB5.out hB) (Nat.le_trans hB (by exact HB5.out.size)) hn).mono ?_
  rw [show Av.availV d.sp.x0 d.sp.x1 d.sp.x2 d.sp.x3 d.sp.x4 d.sp.x5 d.sp.x6 d.sp.x7 d.sp.x8 d.sp.x9 d.sp.x10 0 d.now (d.ps, d.nx) = av from HAV.out.symm]
  rintro e w6 ⟨rfl, hb⟩
  have hb' := hb
  have K6 := Lib.hid (box_below K5.out hb')
  have HB6 := Lib.hid (bel_then HB5.out hb' HB5.out.size)
  clear K5 HB5 hb hb' hHeld
  refine hK _ _ (by exact ⟨(show _ = some (Value.int .i64 (k : Int)) from by rw [← HK.out]; exact box_cell K6.out 12 _ rfl), box_cell K6.out 13 _ rfl, box_cell K6.out 14 _ rfl, box_cell K6.out 15 _ rfl, box_cell K6.out 11 _ rfl, range_of K6.out (enL_sp d A n c), range_of K6.out (enL_fl d A n c)⟩) (fun hHeld => ?_)
  clear hK K
  try simp only [Act.put, List.getElem_toArray, List.getElem_cons_zero, List.getElem_cons_succ, List.setIfInBounds_toArray, List.set_cons_zero, List.set_cons_succ]
  refine wpAnyH_ready (rs := [28]) (by kernel_rfl) (by simp) (AllReadyH.cons rfl (fun K hK => ?_) AllReadyH.nil)
  go_simp
  refine (itoa_any av (by omega) (by omega) B0 _ (by first | exact HB6.out.size | exact Nat.le_trans HBB.out HB6.out.size) (by exact HTAB.out _ HB6.out)).mono ?_
  rintro e w7 hns
  obtain ⟨rfl, hb⟩ := HN4.out _ _ _ hns
  clear hns
  have hb' := hb
  have K7 := Lib.hid (box_below K6.out hb')
  have HB7 := Lib.hid (bel_then HB6.out hb' HB6.out.size)
  clear K6 HB6 hb hb' hHeld
  refine hK _ _ (by exact ⟨(show _ = some (Value.int .i64 (k : Int)) from by rw [← HK.out]; exact box_cell K7.out 12 _ rfl), box_cell K7.out 13 _ rfl, box_cell K7.out 14 _ rfl, box_cell K7.out 15 _ rfl, box_cell K7.out 11 _ rfl, range_of K7.out (enL_sp d A n c), range_of K7.out (enL_fl d A n c)⟩) (fun hHeld => ?_)
  clear hK K
  try simp only [Act.put, List.getElem_toArray, List.getElem_cons_zero, List.getElem_cons_succ, List.setIfInBounds_toArray, List.set_cons_zero, List.set_cons_succ]
  refine wpAnyH_take (i := 29) (v := ?v28) rfl (by kernel_rfl) (by kernel_rfl) (by kernel_rfl) (fun _ _ _ h => h) (Or.inl ⟨by rfl, ?hy28⟩) (by assumption) ?_
  case hy28 => (intro w0 hSw; (try dsimp only at hSw); go_simp <;> with_reducible rfl)
  try simp only [Act.put, List.getElem_toArray, List.getElem_cons_zero, List.getElem_cons_succ, List.setIfInBounds_toArray, List.set_cons_zero, List.set_cons_succ]
  refine wpAnyH_take (i := 30) (v := ?v29) rfl (by kernel_rfl) (by kernel_rfl) (by kernel_rfl) (fun _ _ _ h => h) (Or.inl ⟨by rfl, ?hy29⟩) (by assumption) ?_
  case hy29 => (intro w0 hSw; (try dsimp only at hSw); go_simp <;> with_reducible rfl)
  try simp only [Act.put, List.getElem_toArray, List.getElem_cons_zero, List.getElem_cons_succ, List.setIfInBounds_toArray, List.set_cons_zero, List.set_cons_succ]
  refine wpAnyH_done (by kernel_rfl) ?_ _
  clear hHeld
  go_wp2
  go_ret
  exact ⟨by rw [HFIN.out]; rfl, HB7.out⟩
set_option maxRecDepth 100000 in
set_option maxHeartbeats 6400000 in
theorem specEngineText_any (A : Option Addr) (n c : Nat) (d : Eng) (B : Nat) (w : World) (hr : IsPods w B A n d.ps) (hB : B ≤ w.heap.size) (hn : n ≤ 1048576) : Calls Tryz.prog 11 #[.agg (enL d A n c).toArray] w (Says (.string (etext d)) w) := by
  obtain ⟨R, hR⟩ : ∃ R, R = etext d := ⟨_, rfl⟩
  rw [← hR]
  have HR := Lib.hid hR
  have HP := Lib.hid hr
  have HL : Hid (d.ps.length = n) := hr.1
  clear hR hr
  obtain ⟨V, hV⟩ : ∃ V, V = (w.alloc (.cells (enL d A n c).toArray 42)).alloc (.cells #[.string ⟨#[105, 100, 108, 101]⟩, .string ⟨#[114, 111, 108, 108, 115]⟩, .string ⟨#[98, 97, 99, 107]⟩, .string ⟨#[100, 101, 103, 114, 97, 100, 101, 100]⟩] 9) := ⟨_, rfl⟩
  have HB : Hid (Below w.heap.size w V) := by rw [hV]; exact bel2 _ _ _
  have K : Hid (V.heap[w.heap.size]? = some (.cells (enL d A n c).toArray 42 (0, 0))) := by rw [hV]; exact box_alloc (box_new w _) _
  have KN : Hid (V.heap[w.heap.size + 1]? = some (.cells #[.string ⟨#[105, 100, 108, 101]⟩, .string ⟨#[114, 111, 108, 108, 115]⟩, .string ⟨#[98, 97, 99, 107]⟩, .string ⟨#[100, 101, 103, 114, 97, 100, 101, 100]⟩] 9 (0, 0))) := by rw [hV]; have h := box_new (w.alloc (.cells (enL d A n c).toArray 42)) (.cells #[.string ⟨#[105, 100, 108, 101]⟩, .string ⟨#[114, 111, 108, 108, 115]⟩, .string ⟨#[98, 97, 99, 107]⟩, .string ⟨#[100, 101, 103, 114, 97, 100, 101, 100]⟩] 9); simp only [World.size_alloc] at h; exact h
  go_enter Tryz.func11, Tryz.ntmps11
  go_upto_region 2 with fail
  rw [← hV]
  clear hV
  go_wp2_with (refine wpList_get rfl 42 _ rfl w.heap.size 0 rfl K.out (enL d A n c) List.take_length Tryz.underlying42 rfl (by kernel_rfl) ?_)
  refine (specEngineOk_any A n c d B _ (HP.out.below HB.out hB) (Nat.le_trans hB HB.out.size) hn).mono ?_
  rintro e w1 ⟨rfl, hb⟩
  have K1 := Lib.hid (box_below K.out hb)
  have KN1 := Lib.hid (box_below KN.out hb)
  have HB1 := Lib.hid (bel_then HB.out hb HB.out.size)
  clear K HB hb KN
  cases h0 : d.okB
  · have HF : Hid (R = ⟨#[]⟩) := by show _ = _; rw [HR.out]; simp [etext, h0]
    clear h0
    go_wp2
    go_ret
    exact ⟨by rw [HF.out]; rfl, HB1.out⟩
  obtain ⟨hgood, hph, htg, hgd⟩ := okB_t h0
  have hav := avl_bd h0
  obtain ⟨k, hk⟩ : ∃ k : Nat, (k : Int) = d.ph := ⟨d.ph.toNat, by omega⟩
  have hk4 : k < 4 := by omega
  have hki : (k : Int) < 4 := by omega
  have HK : Hid (d.ph = (k : Int)) := hk.symm
  obtain ⟨av, hav2⟩ : ∃ av, av = avl d := ⟨_, rfl⟩
  rw [← hav2] at hav
  obtain ⟨X0, hX0⟩ : ∃ Z, Z = nmT k := ⟨_, rfl⟩
  obtain ⟨X1, hX1⟩ : ∃ Z, Z = bstr (Lib.itoa d.tg) := ⟨_, rfl⟩
  obtain ⟨X2, hX2⟩ : ∃ Z, Z = bstr (Lib.itoa d.gd) := ⟨_, rfl⟩
  obtain ⟨X3, hX3⟩ : ∃ Z, Z = bstr (Lib.itoa (n : Int)) := ⟨_, rfl⟩
  obtain ⟨X4, hX4⟩ : ∃ Z, Z = bstr (Lib.itoa av) := ⟨_, rfl⟩
  have hl0 : X0.size ≤ 8 := by rw [hX0]; exact nm_size k
  have hl1 : X1.size ≤ 21 := by rw [hX1]; exact itoa_size _ (by omega) (by omega)
  have hl2 : X2.size ≤ 21 := by rw [hX2]; exact itoa_size _ (by omega) (by omega)
  have hl3 : X3.size ≤ 21 := by rw [hX3]; exact itoa_size _ (by omega) (by omega)
  have hl4 : X4.size ≤ 21 := by rw [hX4]; exact itoa_size _ (by omega) (by omega)
  have HN1 : Hid (∀ W e w', NumSaid d.tg W e w' → e = .returned (.string X1) ∧ Below W.heap.size W w') := by rw [hX1]; exact fun W e w' h => h
  have HN2 : Hid (∀ W e w', NumSaid d.gd W e w' → e = .returned (.string X2) ∧ Below W.heap.size W w') := by rw [hX2]; exact fun W e w' h => h
  have HN3 : Hid (∀ W e w', NumSaid (n : Int) W e w' → e = .returned (.string X3) ∧ Below W.heap.size W w') := by rw [hX3]; exact fun W e w' h => h
  have HN4 : Hid (∀ W e w', NumSaid av W e w' → e = .returned (.string X4) ∧ Below W.heap.size W w') := by rw [hX4]; exact fun W e w' h => h
  obtain ⟨Y1, hY1⟩ : ∃ Y, Y = X0 ++ tx_to := ⟨_, rfl⟩
  obtain ⟨Y2, hY2⟩ : ∃ Y, Y = Y1 ++ X1 := ⟨_, rfl⟩
  obtain ⟨Y3, hY3⟩ : ∃ Y, Y = Y2 ++ tx_good := ⟨_, rfl⟩
  obtain ⟨Y4, hY4⟩ : ∃ Y, Y = Y3 ++ X2 := ⟨_, rfl⟩
  obtain ⟨Y5, hY5⟩ : ∃ Y, Y = Y4 ++ tx_pods := ⟨_, rfl⟩
  obtain ⟨Y6, hY6⟩ : ∃ Y, Y = Y5 ++ X3 := ⟨_, rfl⟩
  obtain ⟨Y7, hY7⟩ : ∃ Y, Y = Y6 ++ tx_avail := ⟨_, rfl⟩
  obtain ⟨Y8, hY8⟩ : ∃ Y, Y = Y7 ++ X4 := ⟨_, rfl⟩
  have g1 : Y1.size ≤ 12 := by rw [hY1, ByteArray.size_append]; have : tx_to.size = 4 := rfl; omega
  have g2 : Y2.size ≤ 33 := by rw [hY2, ByteArray.size_append]; omega
  have g3 : Y3.size ≤ 39 := by rw [hY3, ByteArray.size_append]; have : tx_good.size = 6 := rfl; omega
  have g4 : Y4.size ≤ 60 := by rw [hY4, ByteArray.size_append]; omega
  have g5 : Y5.size ≤ 66 := by rw [hY5, ByteArray.size_append]; have : tx_pods.size = 6 := rfl; omega
  have g6 : Y6.size ≤ 87 := by rw [hY6, ByteArray.size_append]; omega
  have g7 : Y7.size ≤ 94 := by rw [hY7, ByteArray.size_append]; have : tx_avail.size = 7 := rfl; omega
  have k1 : ∀ W : World, (Op.stringOp .add X0 ⟨#[32, 116, 111, 32]⟩).run Tryz.prog W = .ok (.string Y1) W := fun W => by rw [hY1]; exact run_string_add W _ _ (by omega) (by show (4 : Int) ≤ _; omega)
  have k2 : ∀ W : World, (Op.stringOp .add Y1 X1).run Tryz.prog W = .ok (.string Y2) W := fun W => by rw [hY2]; exact run_string_add W _ _ (by omega) (by omega)
  have k3 : ∀ W : World, (Op.stringOp .add Y2 ⟨#[32, 103, 111, 111, 100, 32]⟩).run Tryz.prog W = .ok (.string Y3) W := fun W => by rw [hY3]; exact run_string_add W _ _ (by omega) (by show (6 : Int) ≤ _; omega)
  have k4 : ∀ W : World, (Op.stringOp .add Y3 X2).run Tryz.prog W = .ok (.string Y4) W := fun W => by rw [hY4]; exact run_string_add W _ _ (by omega) (by omega)
  have k5 : ∀ W : World, (Op.stringOp .add Y4 ⟨#[32, 112, 111, 100, 115, 32]⟩).run Tryz.prog W = .ok (.string Y5) W := fun W => by rw [hY5]; exact run_string_add W _ _ (by omega) (by show (6 : Int) ≤ _; omega)
  have k6 : ∀ W : World, (Op.stringOp .add Y5 X3).run Tryz.prog W = .ok (.string Y6) W := fun W => by rw [hY6]; exact run_string_add W _ _ (by omega) (by omega)
  have k7 : ∀ W : World, (Op.stringOp .add Y6 ⟨#[32, 97, 118, 97, 105, 108, 32]⟩).run Tryz.prog W = .ok (.string Y7) W := fun W => by rw [hY7]; exact run_string_add W _ _ (by omega) (by show (7 : Int) ≤ _; omega)
  have k8 : ∀ W : World, (Op.stringOp .add Y7 X4).run Tryz.prog W = .ok (.string Y8) W := fun W => by rw [hY8]; exact run_string_add W _ _ (by omega) (by omega)
  have HFIN : Hid (R = Y8) := by
    show _ = _
    have hkk : d.ph.toNat = k := by omega
    rw [HR.out, etext, if_pos h0, hkk, HL.out, hY8, hY7, hY6, hY5, hY4, hY3, hY2, hY1, hX4, hX3, hX2, hX1, hX0, hav2]
  have HAV := Lib.hid (show av = Av.availV d.sp.x0 d.sp.x1 d.sp.x2 d.sp.x3 d.sp.x4 d.sp.x5 d.sp.x6 d.sp.x7 d.sp.x8 d.sp.x9 d.sp.x10 0 d.now (d.ps, d.nx) from hav2)
  have HX0 := Lib.hid hX0
  have hnames : ∀ W : World, W.heap[w.heap.size + 1]? = some (.cells #[.string ⟨#[105, 100, 108, 101]⟩, .string ⟨#[114, 111, 108, 108, 115]⟩, .string ⟨#[98, 97, 99, 107]⟩, .string ⟨#[100, 101, 103, 114, 97, 100, 101, 100]⟩] 9 (0, 0)) → k < 4 → W.cell? ⟨w.heap.size + 1, k, none⟩ = some (.string X0) := fun W h hk => by
    rw [HX0.out]
    match k, hk with
    | 0, _ => exact box_cell h 0 _ rfl
    | 1, _ => exact box_cell h 1 _ rfl
    | 2, _ => exact box_cell h 2 _ rfl
    | 3, _ => exact box_cell h 3 _ rfl
  have HNM := Lib.hid hnames
  clear hnames
  clear hY1 hY2 hY3 hY4 hY5 hY6 hY7 hY8 hX0 hX1 hX2 hX3 hX4 hav2 h0 hgood hph hk
  go_wp2_with fail
  refine wp_region_held_drew (S := fun w' => w'.cell? ⟨w.heap.size, 12, none⟩ = some (.int .i64 (k : Int)) ∧ w'.cell? ⟨w.heap.size, 13, none⟩ = some (.int .i64 d.tg) ∧ w'.cell? ⟨w.heap.size, 14, none⟩ = some (.int .i64 d.gd) ∧ w'.cell? ⟨w.heap.size, 15, none⟩ = some (.slice A n c) ∧ w'.cell? ⟨w.heap.size, 11, none⟩ = some (.int .i64 d.now) ∧ w'.rangeAt w.heap.size 0 (spL d.sp) ∧ w'.rangeAt w.heap.size 15 (flL A n c d.nx) ∧ w'.cell? ⟨w.heap.size + 1, k, none⟩ = some (.string X0)) (by kernel_rfl) ⟨(show _ = some (Value.int .i64 (k : Int)) from by rw [← HK.out]; exact box_cell K1.out 12 _ rfl), box_cell K1.out 13 _ rfl, box_cell K1.out 14 _ rfl, box_cell K1.out 15 _ rfl, box_cell K1.out 11 _ rfl, range_of K1.out (enL_sp d A n c), range_of K1.out (enL_fl d A n c), HNM.out _ KN1.out hk4⟩ (fun hHeld => ?_)
  refine wpAnyH_take (i := 0) (v := ?v30) rfl (by kernel_rfl) (by kernel_rfl) (by kernel_rfl) (fun _ _ _ h => h) (Or.inl ⟨by rfl, ?hy30⟩) (by assumption) ?_
  case hy30 => (intro w0 hSw; (try dsimp only at hSw); go_simp <;> with_reducible rfl)
  try simp only [Act.put, List.getElem_toArray, List.getElem_cons_zero, List.getElem_cons_succ, List.setIfInBounds_toArray, List.set_cons_zero, List.set_cons_succ]
  refine wpAnyH_take (i := 1) (v := ?v31) rfl (by kernel_rfl) (by kernel_rfl) (by kernel_rfl) (fun _ _ _ h => h) (Or.inl ⟨by rfl, ?hy31⟩) (by assumption) ?_
  case hy31 => (intro w0 hSw; (try dsimp only at hSw); go_simp <;> with_reducible rfl)
  try simp only [Act.put, List.getElem_toArray, List.getElem_cons_zero, List.getElem_cons_succ, List.setIfInBounds_toArray, List.set_cons_zero, List.set_cons_succ]
  refine wpAnyH_take (i := 2) (v := ?v32) rfl (by kernel_rfl) (by kernel_rfl) (by kernel_rfl) (fun _ _ _ h => h) (Or.inl ⟨by rfl, ?hy32⟩) (by assumption) ?_
  case hy32 => (intro w0 hSw; (try dsimp only at hSw); go_simp <;> with_reducible rfl)
  try simp only [Act.put, List.getElem_toArray, List.getElem_cons_zero, List.getElem_cons_succ, List.setIfInBounds_toArray, List.set_cons_zero, List.set_cons_succ]
  refine wpAnyH_take (i := 3) (v := ?v33) rfl (by kernel_rfl) (by kernel_rfl) (by kernel_rfl) (fun _ _ _ h => h) (Or.inl ⟨by rfl, ?hy33⟩) (by assumption) ?_
  case hy33 => (intro w0 hSw; (try dsimp only at hSw); go_simp <;> with_reducible rfl)
  try simp only [Act.put, List.getElem_toArray, List.getElem_cons_zero, List.getElem_cons_succ, List.setIfInBounds_toArray, List.set_cons_zero, List.set_cons_succ]
  refine wpAnyH_take (i := 4) (v := ?v34) rfl (by kernel_rfl) (by kernel_rfl) (by kernel_rfl) (fun _ _ _ h => h) (Or.inl ⟨by rfl, ?hy34⟩) (by assumption) ?_
  case hy34 => (intro w0 hSw; (try dsimp only at hSw); go_simp <;> with_reducible rfl)
  try simp only [Act.put, List.getElem_toArray, List.getElem_cons_zero, List.getElem_cons_succ, List.setIfInBounds_toArray, List.set_cons_zero, List.set_cons_succ]
  refine wpAnyH_take (i := 5) (v := ?v35) rfl (by kernel_rfl) (by kernel_rfl) (by kernel_rfl) (fun _ _ _ h => h) (Or.inl ⟨by rfl, ?hy35⟩) (by assumption) ?_
  case hy35 => (intro w0 hSw; (try dsimp only at hSw); go_simp <;> with_reducible rfl)
  try simp only [Act.put, List.getElem_toArray, List.getElem_cons_zero, List.getElem_cons_succ, List.setIfInBounds_toArray, List.set_cons_zero, List.set_cons_succ]
  refine wpAnyH_take (i := 6) (v := ?v36) rfl (by kernel_rfl) (by kernel_rfl) (by kernel_rfl) (fun _ _ _ h => h) (Or.inl ⟨by rfl, ?hy36⟩) (by assumption) ?_
  case hy36 => (intro w0 hSw; (try dsimp only at hSw); go_simp <;> with_reducible rfl)
  try simp only [Act.put, List.getElem_toArray, List.getElem_cons_zero, List.getElem_cons_succ, List.setIfInBounds_toArray, List.set_cons_zero, List.set_cons_succ]
  refine wpAnyH_take (i := 7) (v := ?v37) rfl (by kernel_rfl) (by kernel_rfl) (by kernel_rfl) (fun _ _ _ h => h) (Or.inl ⟨by rfl, ?hy37⟩) (by assumption) ?_
  case hy37 => (intro w0 hSw; (try dsimp only at hSw); go_simp <;> with_reducible rfl)
  try simp only [Act.put, List.getElem_toArray, List.getElem_cons_zero, List.getElem_cons_succ, List.setIfInBounds_toArray, List.set_cons_zero, List.set_cons_succ]
  refine wpAnyH_take (i := 11) (v := ?v38) rfl (by kernel_rfl) (by kernel_rfl) (by kernel_rfl) (fun _ _ _ h => h) (Or.inl ⟨by rfl, ?hy38⟩) (by assumption) ?_
  case hy38 => (intro w0 hSw; (try dsimp only at hSw); go_simp <;> with_reducible rfl)
  try simp only [Act.put, List.getElem_toArray, List.getElem_cons_zero, List.getElem_cons_succ, List.setIfInBounds_toArray, List.set_cons_zero, List.set_cons_succ]
  refine wpAnyH_take (i := 12) (v := ?v39) rfl (by kernel_rfl) (by kernel_rfl) (by kernel_rfl) (fun _ _ _ h => h) (Or.inl ⟨by rfl, ?hy39⟩) (by assumption) ?_
  case hy39 => (intro w0 hSw; (try dsimp only at hSw); go_simp <;> with_reducible rfl)
  try simp only [Act.put, List.getElem_toArray, List.getElem_cons_zero, List.getElem_cons_succ, List.setIfInBounds_toArray, List.set_cons_zero, List.set_cons_succ]
  refine wpAnyH_take (i := 16) (v := ?v40) rfl (by kernel_rfl) (by kernel_rfl) (by kernel_rfl) (fun _ _ _ h => h) (Or.inl ⟨by rfl, ?hy40⟩) (by assumption) ?_
  case hy40 => (intro w0 hSw; (try dsimp only at hSw); go_simp <;> with_reducible rfl)
  try simp only [Act.put, List.getElem_toArray, List.getElem_cons_zero, List.getElem_cons_succ, List.setIfInBounds_toArray, List.set_cons_zero, List.set_cons_succ]
  refine wpAnyH_take (i := 17) (v := ?v41) rfl (by kernel_rfl) (by kernel_rfl) (by kernel_rfl) (fun _ _ _ h => h) (Or.inl ⟨by rfl, ?hy41⟩) (by assumption) ?_
  case hy41 => (intro w0 hSw; (try dsimp only at hSw); go_simp <;> with_reducible rfl)
  try simp only [Act.put, List.getElem_toArray, List.getElem_cons_zero, List.getElem_cons_succ, List.setIfInBounds_toArray, List.set_cons_zero, List.set_cons_succ]
  refine wpAnyH_take (i := 18) (v := ?v42) rfl (by kernel_rfl) (by kernel_rfl) (by kernel_rfl) (fun _ _ _ h => h) (Or.inl ⟨by rfl, ?hy42⟩) (by assumption) ?_
  case hy42 => (intro w0 hSw; (try dsimp only at hSw); go_simp <;> with_reducible rfl)
  try simp only [Act.put, List.getElem_toArray, List.getElem_cons_zero, List.getElem_cons_succ, List.setIfInBounds_toArray, List.set_cons_zero, List.set_cons_succ]
  refine wpAnyH_take (i := 19) (v := ?v43) rfl (by kernel_rfl) (by kernel_rfl) (by kernel_rfl) (fun _ _ _ h => h) (Or.inl ⟨by rfl, ?hy43⟩) (by assumption) ?_
  case hy43 => (intro w0 hSw; (try dsimp only at hSw); go_simp <;> with_reducible rfl)
  try simp only [Act.put, List.getElem_toArray, List.getElem_cons_zero, List.getElem_cons_succ, List.setIfInBounds_toArray, List.set_cons_zero, List.set_cons_succ]
  refine wpAnyH_take (i := 23) (v := ?v44) rfl (by kernel_rfl) (by kernel_rfl) (by kernel_rfl) (fun _ _ _ h => h) (Or.inl ⟨by rfl, ?hy44⟩) (by assumption) ?_
  case hy44 => (intro w0 hSw; (try dsimp only at hSw); go_simp <;> with_reducible rfl)
  try simp only [Act.put, List.getElem_toArray, List.getElem_cons_zero, List.getElem_cons_succ, List.setIfInBounds_toArray, List.set_cons_zero, List.set_cons_succ]
  refine wpAnyH_take (i := 24) (v := .agg (spL d.sp).toArray) rfl (by kernel_rfl) (by kernel_rfl) (by kernel_rfl) (fun _ _ _ h => h) (yieldsIf_load_mid (by rfl) 36 _ rfl w.heap.size 0 rfl (spL d.sp) _ (fun w' h => h.2.2.2.2.2.1) Tryz.underlying36 rfl (by kernel_rfl)) (by assumption) ?_
  try simp only [Act.put, List.getElem_toArray, List.getElem_cons_zero, List.getElem_cons_succ, List.setIfInBounds_toArray, List.set_cons_zero, List.set_cons_succ]
  refine wpAnyH_take (i := 25) (v := ?v45) rfl (by kernel_rfl) (by kernel_rfl) (by kernel_rfl) (fun _ _ _ h => h) (Or.inl ⟨by rfl, ?hy45⟩) (by assumption) ?_
  case hy45 => (intro w0 hSw; (try dsimp only at hSw); go_simp <;> with_reducible rfl)
  try simp only [Act.put, List.getElem_toArray, List.getElem_cons_zero, List.getElem_cons_succ, List.setIfInBounds_toArray, List.set_cons_zero, List.set_cons_succ]
  refine wpAnyH_take (i := 26) (v := .agg (flL A n c d.nx).toArray) rfl (by kernel_rfl) (by kernel_rfl) (by kernel_rfl) (fun _ _ _ h => h) (yieldsIf_load_mid (by rfl) 40 _ rfl w.heap.size 15 rfl (flL A n c d.nx) _ (fun w' h => h.2.2.2.2.2.2.1) Tryz.underlying40 rfl (by kernel_rfl)) (by assumption) ?_
  try simp only [Act.put, List.getElem_toArray, List.getElem_cons_zero, List.getElem_cons_succ, List.setIfInBounds_toArray, List.set_cons_zero, List.set_cons_succ]
  refine wpAnyH_take (i := 27) (v := ?v46) rfl (by kernel_rfl) (by kernel_rfl) (by kernel_rfl) (fun _ _ _ h => h) (Or.inl ⟨by rfl, ?hy46⟩) (by assumption) ?_
  case hy46 => (intro w0 hSw; (try dsimp only at hSw); go_simp <;> with_reducible rfl)
  try simp only [Act.put, List.getElem_toArray, List.getElem_cons_zero, List.getElem_cons_succ, List.setIfInBounds_toArray, List.set_cons_zero, List.set_cons_succ]
  refine wpAnyH_take (i := 28) (v := ?v47) rfl (by kernel_rfl) (by kernel_rfl) (by kernel_rfl) (fun _ _ _ h => h) (Or.inl ⟨by rfl, ?hy47⟩) (by assumption) ?_
  case hy47 => (intro w0 hSw; (try dsimp only at hSw); go_simp <;> with_reducible rfl)
  try simp only [Act.put, List.getElem_toArray, List.getElem_cons_zero, List.getElem_cons_succ, List.setIfInBounds_toArray, List.set_cons_zero, List.set_cons_succ]
  refine wpAnyH_ready (rs := [8]) (by kernel_rfl) (by simp) (AllReadyH.cons rfl (fun K hK => ?_) AllReadyH.nil)
  go_simp
  refine (l01Num_any d.tg (by omega) (by omega) _).mono ?_
  rintro e w2 hns
  obtain ⟨rfl, hb⟩ := HN1.out _ _ _ hns
  clear hns
  have hb' : Below w1.heap.size w1 w2 := undrew hb
  have K2 := Lib.hid (box_below K1.out hb')
  have KN2 := Lib.hid (box_below KN1.out hb')
  have HB2 := Lib.hid (bel_then HB1.out hb' HB1.out.size)
  clear K1 HB1 hb hb' hHeld KN1
  refine hK _ _ (by exact ⟨(show _ = some (Value.int .i64 (k : Int)) from by rw [← HK.out]; exact box_cell K2.out 12 _ rfl), box_cell K2.out 13 _ rfl, box_cell K2.out 14 _ rfl, box_cell K2.out 15 _ rfl, box_cell K2.out 11 _ rfl, range_of K2.out (enL_sp d A n c), range_of K2.out (enL_fl d A n c), HNM.out _ KN2.out hk4⟩) (fun hHeld => ?_)
  clear hK K
  try simp only [Act.put, List.getElem_toArray, List.getElem_cons_zero, List.getElem_cons_succ, List.setIfInBounds_toArray, List.set_cons_zero, List.set_cons_succ]
  refine wpAnyH_take (i := 9) (v := ?v49) rfl (by kernel_rfl) (by kernel_rfl) (by kernel_rfl) (fun _ _ _ h => h) (Or.inl ⟨by rfl, ?hy49⟩) (by assumption) ?_
  case hy49 => (intro w0 hSw; (try dsimp only at hSw); go_simp <;> with_reducible rfl)
  try simp only [Act.put, List.getElem_toArray, List.getElem_cons_zero, List.getElem_cons_succ, List.setIfInBounds_toArray, List.set_cons_zero, List.set_cons_succ]
  refine wpAnyH_take (i := 10) (v := ?v50) rfl (by kernel_rfl) (by kernel_rfl) (by kernel_rfl) (fun _ _ _ h => h) (Or.inl ⟨by rfl, ?hy50⟩) (by assumption) ?_
  case hy50 => (intro w0 hSw; (try dsimp only at hSw); go_simp <;> with_reducible rfl)
  try simp only [Act.put, List.getElem_toArray, List.getElem_cons_zero, List.getElem_cons_succ, List.setIfInBounds_toArray, List.set_cons_zero, List.set_cons_succ]
  refine wpAnyH_ready (rs := [13]) (by kernel_rfl) (by simp) (AllReadyH.cons rfl (fun K hK => ?_) AllReadyH.nil)
  go_simp
  refine (l01Num_any d.gd (by omega) (by omega) _).mono ?_
  rintro e w3 hns
  obtain ⟨rfl, hb⟩ := HN2.out _ _ _ hns
  clear hns
  have hb' := hb
  have K3 := Lib.hid (box_below K2.out hb')
  have KN3 := Lib.hid (box_below KN2.out hb')
  have HB3 := Lib.hid (bel_then HB2.out hb' HB2.out.size)
  clear K2 HB2 hb hb' hHeld KN2
  refine hK _ _ (by exact ⟨(show _ = some (Value.int .i64 (k : Int)) from by rw [← HK.out]; exact box_cell K3.out 12 _ rfl), box_cell K3.out 13 _ rfl, box_cell K3.out 14 _ rfl, box_cell K3.out 15 _ rfl, box_cell K3.out 11 _ rfl, range_of K3.out (enL_sp d A n c), range_of K3.out (enL_fl d A n c), HNM.out _ KN3.out hk4⟩) (fun hHeld => ?_)
  clear hK K
  try simp only [Act.put, List.getElem_toArray, List.getElem_cons_zero, List.getElem_cons_succ, List.setIfInBounds_toArray, List.set_cons_zero, List.set_cons_succ]
  refine wpAnyH_take (i := 14) (v := ?v52) rfl (by kernel_rfl) (by kernel_rfl) (by kernel_rfl) (fun _ _ _ h => h) (Or.inl ⟨by rfl, ?hy52⟩) (by assumption) ?_
  case hy52 => (intro w0 hSw; (try dsimp only at hSw); go_simp <;> with_reducible rfl)
  try simp only [Act.put, List.getElem_toArray, List.getElem_cons_zero, List.getElem_cons_succ, List.setIfInBounds_toArray, List.set_cons_zero, List.set_cons_succ]
  refine wpAnyH_take (i := 15) (v := ?v53) rfl (by kernel_rfl) (by kernel_rfl) (by kernel_rfl) (fun _ _ _ h => h) (Or.inl ⟨by rfl, ?hy53⟩) (by assumption) ?_
  case hy53 => (intro w0 hSw; (try dsimp only at hSw); go_simp <;> with_reducible rfl)
  try simp only [Act.put, List.getElem_toArray, List.getElem_cons_zero, List.getElem_cons_succ, List.setIfInBounds_toArray, List.set_cons_zero, List.set_cons_succ]
  refine wpAnyH_ready (rs := [20]) (by kernel_rfl) (by simp) (AllReadyH.cons rfl (fun K hK => ?_) AllReadyH.nil)
  go_simp
  refine (l01Num_any (n : Int) (by omega) (by omega) _).mono ?_
  rintro e w4 hns
  obtain ⟨rfl, hb⟩ := HN3.out _ _ _ hns
  clear hns
  have hb' := hb
  have K4 := Lib.hid (box_below K3.out hb')
  have KN4 := Lib.hid (box_below KN3.out hb')
  have HB4 := Lib.hid (bel_then HB3.out hb' HB3.out.size)
  clear K3 HB3 hb hb' hHeld KN3
  refine hK _ _ (by exact ⟨(show _ = some (Value.int .i64 (k : Int)) from by rw [← HK.out]; exact box_cell K4.out 12 _ rfl), box_cell K4.out 13 _ rfl, box_cell K4.out 14 _ rfl, box_cell K4.out 15 _ rfl, box_cell K4.out 11 _ rfl, range_of K4.out (enL_sp d A n c), range_of K4.out (enL_fl d A n c), HNM.out _ KN4.out hk4⟩) (fun hHeld => ?_)
  clear hK K
  try simp only [Act.put, List.getElem_toArray, List.getElem_cons_zero, List.getElem_cons_succ, List.setIfInBounds_toArray, List.set_cons_zero, List.set_cons_succ]
  refine wpAnyH_take (i := 21) (v := ?v55) rfl (by kernel_rfl) (by kernel_rfl) (by kernel_rfl) (fun _ _ _ h => h) (Or.inl ⟨by rfl, ?hy55⟩) (by assumption) ?_
  case hy55 => (intro w0 hSw; (try dsimp only at hSw); go_simp <;> with_reducible rfl)
  try simp only [Act.put, List.getElem_toArray, List.getElem_cons_zero, List.getElem_cons_succ, List.setIfInBounds_toArray, List.set_cons_zero, List.set_cons_succ]
  refine wpAnyH_take (i := 22) (v := ?v56) rfl (by kernel_rfl) (by kernel_rfl) (by kernel_rfl) (fun _ _ _ h => h) (Or.inl ⟨by rfl, ?hy56⟩) (by assumption) ?_
  case hy56 => (intro w0 hSw; (try dsimp only at hSw); go_simp <;> with_reducible rfl)
  try simp only [Act.put, List.getElem_toArray, List.getElem_cons_zero, List.getElem_cons_succ, List.setIfInBounds_toArray, List.set_cons_zero, List.set_cons_succ]
  refine wpAnyH_ready (rs := [29]) (by kernel_rfl) (by simp) (AllReadyH.cons rfl (fun K hK => ?_) AllReadyH.nil)
  go_simp
  refine (Av.specAvailableOf_any d.sp.x0 d.sp.x1 d.sp.x2 d.sp.x3 d.sp.x4 d.sp.x5 d.sp.x6 d.sp.x7 d.sp.x8 d.sp.x9 d.sp.x10 0 d.now A n c d.nx d.ps B _ (HP.out.below HB4.out hB) (Nat.le_trans hB (by exact HB4.out.size)) hn).mono ?_
  rw [show Av.availV d.sp.x0 d.sp.x1 d.sp.x2 d.sp.x3 d.sp.x4 d.sp.x5 d.sp.x6 d.sp.x7 d.sp.x8 d.sp.x9 d.sp.x10 0 d.now (d.ps, d.nx) = av from HAV.out.symm]
  rintro e w5 ⟨rfl, hb⟩
  have hb' := hb
  have K5 := Lib.hid (box_below K4.out hb')
  have KN5 := Lib.hid (box_below KN4.out hb')
  have HB5 := Lib.hid (bel_then HB4.out hb' HB4.out.size)
  clear K4 HB4 hb hb' hHeld KN4
  refine hK _ _ (by exact ⟨(show _ = some (Value.int .i64 (k : Int)) from by rw [← HK.out]; exact box_cell K5.out 12 _ rfl), box_cell K5.out 13 _ rfl, box_cell K5.out 14 _ rfl, box_cell K5.out 15 _ rfl, box_cell K5.out 11 _ rfl, range_of K5.out (enL_sp d A n c), range_of K5.out (enL_fl d A n c), HNM.out _ KN5.out hk4⟩) (fun hHeld => ?_)
  clear hK K
  try simp only [Act.put, List.getElem_toArray, List.getElem_cons_zero, List.getElem_cons_succ, List.setIfInBounds_toArray, List.set_cons_zero, List.set_cons_succ]
  refine wpAnyH_ready (rs := [30]) (by kernel_rfl) (by simp) (AllReadyH.cons rfl (fun K hK => ?_) AllReadyH.nil)
  go_simp
  refine (l01Num_any av (by omega) (by omega) _).mono ?_
  rintro e w6 hns
  obtain ⟨rfl, hb⟩ := HN4.out _ _ _ hns
  clear hns
  have hb' := hb
  have K6 := Lib.hid (box_below K5.out hb')
  have KN6 := Lib.hid (box_below KN5.out hb')
  have HB6 := Lib.hid (bel_then HB5.out hb' HB5.out.size)
  clear K5 HB5 hb hb' hHeld KN5
  refine hK _ _ (by exact ⟨(show _ = some (Value.int .i64 (k : Int)) from by rw [← HK.out]; exact box_cell K6.out 12 _ rfl), box_cell K6.out 13 _ rfl, box_cell K6.out 14 _ rfl, box_cell K6.out 15 _ rfl, box_cell K6.out 11 _ rfl, range_of K6.out (enL_sp d A n c), range_of K6.out (enL_fl d A n c), HNM.out _ KN6.out hk4⟩) (fun hHeld => ?_)
  clear hK K
  try simp only [Act.put, List.getElem_toArray, List.getElem_cons_zero, List.getElem_cons_succ, List.setIfInBounds_toArray, List.set_cons_zero, List.set_cons_succ]
  refine wpAnyH_take (i := 31) (v := ?v59) rfl (by kernel_rfl) (by kernel_rfl) (by kernel_rfl) (fun _ _ _ h => h) (Or.inl ⟨by rfl, ?hy59⟩) (by assumption) ?_
  case hy59 => (intro w0 hSw; (try dsimp only at hSw); go_simp <;> with_reducible rfl)
  try simp only [Act.put, List.getElem_toArray, List.getElem_cons_zero, List.getElem_cons_succ, List.setIfInBounds_toArray, List.set_cons_zero, List.set_cons_succ]
  refine wpAnyH_take (i := 32) (v := ?v60) rfl (by kernel_rfl) (by kernel_rfl) (by kernel_rfl) (fun _ _ _ h => h) (Or.inl ⟨by rfl, ?hy60⟩) (by assumption) ?_
  case hy60 => (intro w0 hSw; (try dsimp only at hSw); go_simp <;> with_reducible rfl)
  try simp only [Act.put, List.getElem_toArray, List.getElem_cons_zero, List.getElem_cons_succ, List.setIfInBounds_toArray, List.set_cons_zero, List.set_cons_succ]
  refine wpAnyH_done (by kernel_rfl) ?_ _
  clear hHeld
  go_wp2
  go_ret
  exact ⟨by rw [HFIN.out]; rfl, HB6.out⟩
end Go.Proofs.YtlghdmakaocokaaGreatDoor.EngText
