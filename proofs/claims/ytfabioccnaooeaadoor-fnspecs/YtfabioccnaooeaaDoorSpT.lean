/-
  A SPEC'S TEXT over this seat's translation: what SpecText answers, the program's and the model's.
-/
import Derived.Test.YtfabioccnaooeaaDoorSp
import Derived.Test.YtfabioccnaooeaaDoorNum
import Derived.Test.YtfabioccnaooeaaDoorParts
import Derived.Test.YtfabioccnaooeaaDoorInts
import Derived.Test.YtfabioccnaooeaaDoorShelf
import Derived.Lib.Join
import Derived.Lib.AppendIntMem
import Derived.Lib.LaidTab
import Derived.Lib.ItoaNum
import Derived.Lib.ItoaLen
import Derived.Laws.Concat
import Derived.StillTailTactics
namespace Go.Proofs.YtfabioccnaooeaaDoor.SpT
open Go.ChangeShapes Go.WideShapes Go.ChangeAt Go.RowKit
open Go.Proofs.YtfabioccnaooeaaDoor.LK Go.Proofs.YtfabioccnaooeaaDoor.Sp Go.Proofs.YtfabioccnaooeaaDoor.Num Go.Proofs.YtfabioccnaooeaaDoor.Str Go.Proofs.YtfabioccnaooeaaDoor.Ints
open Go.Proofs.YtfabioccnaooeaaDoor.Parts (strs strs_snoc info9)
set_option linter.unusedVariables false
set_option linter.unusedSimpArgs false
theorem row_form {w : World} {base : Nat} {e : TypeId} {size : Nat} {v : Value} {n : Nat} {xs : List Value} (h : w.ownsRow base e size v n xs) (hn : 0 < n) : ∃ g cap, v = .slice (some ⟨g, 0, none⟩) n cap ∧ base ≤ g ∧ g < w.heap.size ∧ n ≤ cap := by
  rcases h.2 with ⟨_, h0⟩ | ⟨g, cap, cur, hv, hb, hg, hc, _⟩
  · omega
  · exact ⟨g, cap, hv, hb, box_lt hg, hc⟩
theorem ownsRow_below {w w' : World} {base n sz : Nat} {t : TypeId} {v : Value} {l : List Value} (h : w.ownsRow base t sz v n l) (hb : Below w.heap.size w w') : w'.ownsRow base t sz v n l := by
  rcases h with ⟨h1, h2⟩
  refine ⟨h1, ?_⟩
  rcases h2 with ⟨h3, h4⟩ | ⟨g, cap, cur, h3, h4, h5, h6⟩
  · exact .inl ⟨h3, h4⟩
  · exact .inr ⟨g, cap, cur, h3, h4, box_below h5 hb, h6⟩
/-- The numbers' texts with a blank between each two. -/
def textL (L : List Int) : List UInt8 := Lib.join (L.map Lib.itoa) [32]
theorem join_snoc (a : List UInt8) (r : List (List UInt8)) (x s : List UInt8) : Lib.join ((a :: r) ++ [x]) s = Lib.join (a :: r) s ++ s ++ x := by
  rw [List.cons_append, Lib.join_cons, Lib.join_cons]
  simp [Lib.joinTail, List.append_assoc]
theorem text_one (x : Int) : textL [x] = Lib.itoa x := Lib.join_one _ _
theorem text_snoc (L : List Int) (x : Int) (h : 0 < L.length) : textL (L ++ [x]) = textL L ++ [32] ++ Lib.itoa x := by
  cases L with
  | nil => simp at h
  | cons a r => unfold textL; rw [List.map_append, List.map_cons, List.map_cons, List.map_nil, join_snoc]
theorem itoa_size (x : Int) (h0 : -9223372036854775808 ≤ x) (h1 : x ≤ 9223372036854775807) : (Lib.itoa x).length ≤ 21 := Lib.itoa_length_le _ h0 h1
theorem text_len (L : List Int) (h : ∀ x ∈ L, -9223372036854775808 ≤ x ∧ x ≤ 9223372036854775807) : (textL L).length ≤ 22 * L.length := by
  suffices hh : ∀ n, n ≤ L.length → (textL (L.take n)).length ≤ 22 * n by
    have := hh L.length (Nat.le_refl _)
    rwa [List.take_length] at this
  intro n
  induction n with
  | zero => intro _; simp [textL, Lib.join_nil]
  | succ n ih =>
    intro hn
    have hx := h L[n] (List.getElem_mem (by omega))
    have hs := itoa_size _ hx.1 hx.2
    have e1 : L.take (n + 1) = L.take n ++ [L[n]] := List.take_succ_eq_append_getElem (by omega)
    rw [e1]
    rcases Nat.eq_zero_or_pos n with h0 | h0
    · subst h0
      simp only [List.take_zero, List.nil_append]
      rw [text_one]; omega
    · rw [text_snoc _ _ (by simp; omega)]
      have := ih (by omega)
      simp; omega
theorem itoa_any (x : Int) (h0 : -9223372036854775808 ≤ x) (h1 : x ≤ 9223372036854775807) (B : Nat) (w : World) (hB : B ≤ w.heap.size) (htab : Lib.TabBelow Tryd.prog B w "internal/strconv.uint64pow10" .u64 Lib.pow10Tab) :
    Calls Tryd.prog 22 #[.int .i64 x] w (NumSaid x w) := by
  refine (Tryd.strconv_Itoa x h0 h1 w (htab w (Below.refl _ _))).mono ?_
  rintro e w' ⟨rfl, k, os, rfl⟩
  exact ⟨rfl, Lib.below_grow _ _ (Nat.le_refl _) k os⟩
set_option maxRecDepth 100000 in
set_option maxHeartbeats 3200000 in
theorem numbersOf_any (b : Nat) (w : World) : Calls Tryd.prog 21 #[.pointer (some ⟨b, 0, none⟩)] w (Says (.agg #[.pointer (some ⟨b, 0, none⟩), .pointer (some ⟨b, 1, none⟩), .pointer (some ⟨b, 2, none⟩), .pointer (some ⟨b, 3, none⟩), .pointer (some ⟨b, 4, none⟩), .pointer (some ⟨b, 5, none⟩), .pointer (some ⟨b, 6, none⟩), .pointer (some ⟨b, 7, none⟩), .pointer (some ⟨b, 8, none⟩), .pointer (some ⟨b, 9, none⟩), .pointer (some ⟨b, 10, none⟩)]) w) := by
  go_enter Tryd.func21, Tryd.ntmps21
  go_wp2_with fail
  go_still_tail 34, (by kernel_rfl)
  change wpList _ _ _ _ _ (w.drew.alloc (.cells #[.pointer none, .pointer none, .pointer none, .pointer none, .pointer none, .pointer none, .pointer none, .pointer none, .pointer none, .pointer none, .pointer none] 47))
  go_wp2
  exact bodyPost_ret (v := .agg #[.pointer (some ⟨b, 0, none⟩), .pointer (some ⟨b, 1, none⟩), .pointer (some ⟨b, 2, none⟩), .pointer (some ⟨b, 3, none⟩), .pointer (some ⟨b, 4, none⟩), .pointer (some ⟨b, 5, none⟩), .pointer (some ⟨b, 6, none⟩), .pointer (some ⟨b, 7, none⟩), .pointer (some ⟨b, 8, none⟩), .pointer (some ⟨b, 9, none⟩), .pointer (some ⟨b, 10, none⟩)]) (by simp [results, Tryd.results21, go_sem]) rfl ⟨rfl, ((Below.refl w.heap.size w).drew).alloc (Nat.le_refl _) _⟩
def numsV (b : Nat) : Value := .agg #[.pointer (some ⟨b, 0, none⟩), .pointer (some ⟨b, 1, none⟩), .pointer (some ⟨b, 2, none⟩), .pointer (some ⟨b, 3, none⟩), .pointer (some ⟨b, 4, none⟩), .pointer (some ⟨b, 5, none⟩), .pointer (some ⟨b, 6, none⟩), .pointer (some ⟨b, 7, none⟩), .pointer (some ⟨b, 8, none⟩), .pointer (some ⟨b, 9, none⟩), .pointer (some ⟨b, 10, none⟩)]
theorem nums_at (b k : Nat) (hk : k < 11) (w : World) : (Instr.index 47 (numsV b) (.int .i64 (k : Int))).run Tryd.prog w = .ok (.pointer (some ⟨b, k, none⟩)) w :=
  match k, hk with
  | 0, _ => by kernel_rfl
  | 1, _ => by kernel_rfl
  | 2, _ => by kernel_rfl
  | 3, _ => by kernel_rfl
  | 4, _ => by kernel_rfl
  | 5, _ => by kernel_rfl
  | 6, _ => by kernel_rfl
  | 7, _ => by kernel_rfl
  | 8, _ => by kernel_rfl
  | 9, _ => by kernel_rfl
  | 10, _ => by kernel_rfl
theorem cell_at {w : World} {b : Nat} {x0 x1 x2 x3 x4 x5 x6 x7 x8 x9 x10 : Int} {t : TypeId} (h : w.heap[b]? = some (.cells #[.int .i64 x0, .int .i64 x1, .int .i64 x2, .int .i64 x3, .int .i64 x4, .int .i64 x5, .int .i64 x6, .int .i64 x7, .int .i64 x8, .int .i64 x9, .int .i64 x10] t (0, 0))) (k : Nat) (hk : k < 11) : w.cell? ⟨b, k, none⟩ = some (.int .i64 (([x0, x1, x2, x3, x4, x5, x6, x7, x8, x9, x10] : List Int).getD k 0)) := by
  refine box_cell h k _ ?_
  match k, hk with
  | 0, _ => rfl
  | 1, _ => rfl
  | 2, _ => rfl
  | 3, _ => rfl
  | 4, _ => rfl
  | 5, _ => rfl
  | 6, _ => rfl
  | 7, _ => rfl
  | 8, _ => rfl
  | 9, _ => rfl
  | 10, _ => rfl
def textV (x0 x1 x2 x3 x4 x5 x6 x7 x8 x9 x10 : Int) : ByteArray × Bool := if specB x0 x1 x2 x3 x4 x5 x6 x7 x8 x9 x10 then (bstr (textL [x0, x1, x2, x3, x4, x5, x6, x7, x8, x9, x10]), true) else (⟨#[]⟩, false)
theorem spec_wf {x0 x1 x2 x3 x4 x5 x6 x7 x8 x9 x10 : Int} (h : specB x0 x1 x2 x3 x4 x5 x6 x7 x8 x9 x10 = true) : ∀ x ∈ ([x0, x1, x2, x3, x4, x5, x6, x7, x8, x9, x10] : List Int), -9223372036854775808 ≤ x ∧ x ≤ 9223372036854775807 := by
  intro x hx
  have h := specB_t h
  simp only [List.mem_cons, List.not_mem_nil, or_false] at hx
  omega
set_option maxRecDepth 100000 in
set_option maxHeartbeats 3200000 in
theorem values_any (x0 x1 x2 x3 x4 x5 x6 x7 x8 x9 x10 : Int) (w : World) : Calls Tryd.prog 27 #[.agg #[.int .i64 x0, .int .i64 x1, .int .i64 x2, .int .i64 x3, .int .i64 x4, .int .i64 x5, .int .i64 x6, .int .i64 x7, .int .i64 x8, .int .i64 x9, .int .i64 x10]] w fun e w' => ∃ g, e = .returned (.slice (some ⟨g, 0, none⟩) 11 11) ∧ w.heap.size ≤ g ∧ w'.heap[g]? = some (.cells #[.int .i64 x0, .int .i64 x1, .int .i64 x2, .int .i64 x3, .int .i64 x4, .int .i64 x5, .int .i64 x6, .int .i64 x7, .int .i64 x8, .int .i64 x9, .int .i64 x10] 3) ∧ Below w.heap.size w w' := by
  go_enter Tryd.func27, Tryd.ntmps27
  go_wp2
  go_ret
  exact ⟨w.heap.size + 1, rfl, by omega, by have h := box_new (w.alloc (.cells #[.int .i64 x0, .int .i64 x1, .int .i64 x2, .int .i64 x3, .int .i64 x4, .int .i64 x5, .int .i64 x6, .int .i64 x7, .int .i64 x8, .int .i64 x9, .int .i64 x10] 25)) (.cells #[.int .i64 x0, .int .i64 x1, .int .i64 x2, .int .i64 x3, .int .i64 x4, .int .i64 x5, .int .i64 x6, .int .i64 x7, .int .i64 x8, .int .i64 x9, .int .i64 x10] 3); simp only [World.size_alloc] at h; exact h, bel2 _ _ _⟩
set_option maxRecDepth 100000 in
set_option maxHeartbeats 6400000 in
theorem specSpecText_any (x0 x1 x2 x3 x4 x5 x6 x7 x8 x9 x10 : Int) (w : World) : Calls Tryd.prog 13 #[.agg #[.int .i64 x0, .int .i64 x1, .int .i64 x2, .int .i64 x3, .int .i64 x4, .int .i64 x5, .int .i64 x6, .int .i64 x7, .int .i64 x8, .int .i64 x9, .int .i64 x10]] w (Says (.tuple #[.string (textV x0 x1 x2 x3 x4 x5 x6 x7 x8 x9 x10).1, .bool (textV x0 x1 x2 x3 x4 x5 x6 x7 x8 x9 x10).2]) w) := by
  obtain ⟨R, hR⟩ : ∃ R, R = textV x0 x1 x2 x3 x4 x5 x6 x7 x8 x9 x10 := ⟨_, rfl⟩
  rw [← hR]
  have HR := Lib.hid hR
  clear hR
  obtain ⟨V, hV⟩ : ∃ V, V = (w.alloc (.cells #[.int .i64 x0, .int .i64 x1, .int .i64 x2, .int .i64 x3, .int .i64 x4, .int .i64 x5, .int .i64 x6, .int .i64 x7, .int .i64 x8, .int .i64 x9, .int .i64 x10] 25)) := ⟨_, rfl⟩
  have hbV : Below w.heap.size w V := by rw [hV]; exact bel1 _ _
  have BS : Hid (V.heap[w.heap.size]? = some (.cells #[.int .i64 x0, .int .i64 x1, .int .i64 x2, .int .i64 x3, .int .i64 x4, .int .i64 x5, .int .i64 x6, .int .i64 x7, .int .i64 x8, .int .i64 x9, .int .i64 x10] 25)) := by have h := box_new w (.cells #[.int .i64 x0, .int .i64 x1, .int .i64 x2, .int .i64 x3, .int .i64 x4, .int .i64 x5, .int .i64 x6, .int .i64 x7, .int .i64 x8, .int .i64 x9, .int .i64 x10] 25); (try simp only [World.size_alloc] at h); rw [hV]; exact h
  go_enter Tryd.func13, Tryd.ntmps13
  go_wp2_with fail
  rw [← hV]
  clear hV
  refine (specSpecOk_any x0 x1 x2 x3 x4 x5 x6 x7 x8 x9 x10 _).mono ?_
  rintro e w1 ⟨rfl, hbs⟩
  have BS' := Lib.hid (box_below BS.out hbs)
  have hbn1 : Below w.heap.size w w1 := bel_then hbV hbs hbV.size
  clear BS
  have BS := BS'
  clear BS'
  clear hbs
  cases hs : specB x0 x1 x2 x3 x4 x5 x6 x7 x8 x9 x10
  · have HV : Hid (R = (⟨#[]⟩, false)) := by show R = _; rw [HR.out]; simp [textV, hs]
    go_wp2
    go_ret2
    exact ⟨by rw [HV.out]; rfl, hbn1⟩
  have HV : Hid (R = (bstr (textL [x0, x1, x2, x3, x4, x5, x6, x7, x8, x9, x10]), true)) := by show R = _; rw [HR.out]; simp [textV, hs]
  have HW := Lib.hid (spec_wf hs)
  clear HR hs
  obtain ⟨L, hL⟩ : ∃ L : List Int, L = [x0, x1, x2, x3, x4, x5, x6, x7, x8, x9, x10] := ⟨_, rfl⟩
  have hl : L.length = 11 := by rw [hL]; rfl
  have cBS_0 : w1.cell? ⟨w.heap.size, 0, none⟩ = some (.int .i64 x0) := box_cell BS.out 0 _ rfl
  have cBS_1 : w1.cell? ⟨w.heap.size, 1, none⟩ = some (.int .i64 x1) := box_cell BS.out 1 _ rfl
  have cBS_2 : w1.cell? ⟨w.heap.size, 2, none⟩ = some (.int .i64 x2) := box_cell BS.out 2 _ rfl
  have cBS_3 : w1.cell? ⟨w.heap.size, 3, none⟩ = some (.int .i64 x3) := box_cell BS.out 3 _ rfl
  have cBS_4 : w1.cell? ⟨w.heap.size, 4, none⟩ = some (.int .i64 x4) := box_cell BS.out 4 _ rfl
  have cBS_5 : w1.cell? ⟨w.heap.size, 5, none⟩ = some (.int .i64 x5) := box_cell BS.out 5 _ rfl
  have cBS_6 : w1.cell? ⟨w.heap.size, 6, none⟩ = some (.int .i64 x6) := box_cell BS.out 6 _ rfl
  have cBS_7 : w1.cell? ⟨w.heap.size, 7, none⟩ = some (.int .i64 x7) := box_cell BS.out 7 _ rfl
  have cBS_8 : w1.cell? ⟨w.heap.size, 8, none⟩ = some (.int .i64 x8) := box_cell BS.out 8 _ rfl
  have cBS_9 : w1.cell? ⟨w.heap.size, 9, none⟩ = some (.int .i64 x9) := box_cell BS.out 9 _ rfl
  have cBS_10 : w1.cell? ⟨w.heap.size, 10, none⟩ = some (.int .i64 x10) := box_cell BS.out 10 _ rfl
  go_wp2_with fail
  refine (values_any x0 x1 x2 x3 x4 x5 x6 x7 x8 x9 x10 _).mono ?_
  rintro e w2 ⟨g, rfl, hg, hbx, hb2⟩
  clear cBS_0 cBS_1 cBS_2 cBS_3 cBS_4 cBS_5 cBS_6 cBS_7 cBS_8 cBS_9 cBS_10
  have hb02 := bel_then hbn1 hb2 hbn1.size
  have HC : Hid (∀ j, j < 11 → w2.cell? ⟨g, j, none⟩ = some (.int .i64 (L.getD j 0))) := fun j hj => by rw [hL]; exact cell_at hbx j hj
  have hgl : g < w2.heap.size := box_lt hbx
  rw [← hL] at HV HW
  clear hbx hb2 BS hbn1 hL
  go_wp2_with fail
  go_loopw [4, 6] (fun q i wr => ∃ k : Nat, k ≤ 11 ∧ i = .int .i64 k ∧ q = .string (bstr (textL (L.take k))) ∧ Below w2.heap.size w2 wr) (fun _ i _ => 11 - (intOf i).toNat)
  case atStart => exact ⟨0, by omega, rfl, by simp [textL, Lib.join_nil, bstr], Below.refl _ _⟩
  case round =>
    obtain ⟨k, hk, rfl, rfl, hbr⟩ := hrel
    by_cases hlt : k < 11
    case neg =>
      have HK : Hid (L.take k = L) := List.take_of_length_le (by omega)
      have HB := Lib.hid (hb02.trans (hbr.mono hb02.size))
      clear hb02 hbr
      go_wp2
      go_ret2
      exact ⟨by rw [HV.out, HK.out]; rfl, HB.out⟩
    have hcl : wr.cell? ⟨g, k, none⟩ = some (.int .i64 (L.getD k 0)) := (hbr.cell hgl).trans (HC.out k hlt)
    have hgd : L.getD k 0 = L[k] := by simp [List.getD, hl, hlt]
    obtain ⟨x, hx⟩ : ∃ x, x = L.getD k 0 := ⟨_, rfl⟩
    have hxw := HW.out x (by rw [hx, hgd]; exact List.getElem_mem (by omega))
    rw [← hx] at hcl
    have HT : Hid (L.take (k + 1) = L.take k ++ [x]) := by show _ = _; rw [hx, hgd]; exact List.take_succ_eq_append_getElem (by omega)
    have hsl : (textL (L.take k)).length ≤ 22 * k := by have h := text_len (L.take k) (fun y hy => HW.out y (List.mem_of_mem_take hy)); rwa [List.length_take, Nat.min_eq_left (by omega)] at h
    have hxl := itoa_size x hxw.1 hxw.2
    clear hgd hx
    obtain ⟨t0, ht0⟩ : ∃ t, t = textL (L.take k) := ⟨_, rfl⟩
    rw [← ht0] at hsl ⊢
    have hbx := bstr_size t0
    have hbi := bstr_size (Lib.itoa x)
    have hb1 := bstr_size (t0 ++ [32])
    obtain ⟨X1, hX1⟩ : ∃ X, X = bstr (Lib.itoa x) := ⟨_, rfl⟩
    obtain ⟨Y0, hY0⟩ : ∃ X, X = bstr t0 := ⟨_, rfl⟩
    obtain ⟨Y1, hY1⟩ : ∃ X, X = Y0 ++ (⟨#[32]⟩ : ByteArray) := ⟨_, rfl⟩
    obtain ⟨Y2, hY2⟩ : ∃ X, X = Y1 ++ X1 := ⟨_, rfl⟩
    obtain ⟨Z2, hZ2⟩ : ∃ X, X = Y0 ++ X1 := ⟨_, rfl⟩
    have s1 : X1.size ≤ 21 := by rw [hX1, hbi]; omega
    have s0 : Y0.size ≤ 242 := by rw [hY0, hbx]; omega
    have sY1 : Y1.size ≤ 243 := by rw [hY1, ByteArray.size_append]; have : (⟨#[32]⟩ : ByteArray).size = 1 := rfl; omega
    have k1 : ∀ W : World, (Op.stringOp .add Y0 ⟨#[32]⟩).run Tryd.prog W = .ok (.string Y1) W := fun W => by rw [hY1]; exact run_string_add W _ _ (by omega) (by show (1 : Int) ≤ _; omega)
    have k2 : ∀ W : World, (Op.stringOp .add Y1 X1).run Tryd.prog W = .ok (.string Y2) W := fun W => by rw [hY2]; exact run_string_add W _ _ (by omega) (by omega)
    have k3 : ∀ W : World, (Op.stringOp .add Y0 X1).run Tryd.prog W = .ok (.string Z2) W := fun W => by rw [hZ2]; exact run_string_add W _ _ (by omega) (by omega)
    have HE : Hid (0 < k → Y2 = bstr (textL (L.take (k + 1)))) := fun h => by rw [HT.out, text_snoc _ _ (by simp; omega), ← ht0, hY2, hY1, hY0, hX1]; show bstr t0 ++ bstr [32] ++ bstr (Lib.itoa x) = _; rw [bstr_append, bstr_append]
    have HE0 : Hid (k = 0 → Z2 = bstr (textL (L.take (k + 1)))) := fun h => by rw [HT.out]; subst h; rw [hZ2, hY0, ht0, hX1]; simp only [List.take_zero, List.nil_append]; rw [text_one, bstr_append]; simp [textL, Lib.join_nil]
    have HN : Hid (∀ W : World, Calls Tryd.prog 28 #[.int .i64 x] W (Says (.string X1) W)) := fun W => by rw [hX1]; exact l01Num_any x hxw.1 hxw.2 W
    rw [← hY0]
    clear hbx hbi hb1 hX1 hY0 hY1 hY2 hZ2 ht0 hxw hxl hsl
    rcases Nat.eq_zero_or_pos k with hk0 | hk0
    · have HZ : Hid (Z2 = bstr (textL (L.take (k + 1)))) := HE0.out hk0
      clear HE HE0
      subst hk0
      go_wp2_with fail
      refine (HN.out _).mono ?_
      rintro e w3 ⟨rfl, hb3⟩
      have hbr3 : Below w2.heap.size w2 w3 := hbr.trans (hb3.mono hbr.size)
      clear hb3 hbr
      go_wp2
      go_roundw
      case rel => exact ⟨0 + 1, by omega, by go_num, by rw [HZ.out], hbr3⟩
      case measure => first | (simp [intOf]; done) | (simp [intOf]; omega)
    · have HZ : Hid (Y2 = bstr (textL (L.take (k + 1)))) := HE.out hk0
      clear HE HE0
      have hkd : decide ((0 : Int) < (k : Int)) = true := by simp; omega
      go_wp2_with fail
      refine (HN.out _).mono ?_
      rintro e w3 ⟨rfl, hb3⟩
      have hbr3 : Below w2.heap.size w2 w3 := hbr.trans (hb3.mono hbr.size)
      clear hb3 hbr
      go_wp2
      go_roundw
      case rel => exact ⟨k + 1, by omega, by go_num, by rw [HZ.out], hbr3⟩
      case measure => first | (simp [intOf]; done) | (simp [intOf]; omega)
set_option maxRecDepth 100000 in
set_option maxHeartbeats 6400000 in
theorem specText_any (x0 x1 x2 x3 x4 x5 x6 x7 x8 x9 x10 : Int) (w : World) (htab : Lib.TabBelow Tryd.prog w.heap.size w "internal/strconv.uint64pow10" .u64 Lib.pow10Tab) : Calls Tryd.prog 8 #[.agg #[.int .i64 x0, .int .i64 x1, .int .i64 x2, .int .i64 x3, .int .i64 x4, .int .i64 x5, .int .i64 x6, .int .i64 x7, .int .i64 x8, .int .i64 x9, .int .i64 x10]] w (Says (.tuple #[.string (textV x0 x1 x2 x3 x4 x5 x6 x7 x8 x9 x10).1, .bool (textV x0 x1 x2 x3 x4 x5 x6 x7 x8 x9 x10).2]) w) := by
  obtain ⟨R, hR⟩ : ∃ R, R = textV x0 x1 x2 x3 x4 x5 x6 x7 x8 x9 x10 := ⟨_, rfl⟩
  rw [← hR]
  have HR := Lib.hid hR
  clear hR
  have HTB := Lib.hid htab
  clear htab
  obtain ⟨i0, hi, hz0, hz1, hz2⟩ := info_parts info9
  obtain ⟨V, hV⟩ : ∃ V, V = (w.alloc (.cells #[.int .i64 x0, .int .i64 x1, .int .i64 x2, .int .i64 x3, .int .i64 x4, .int .i64 x5, .int .i64 x6, .int .i64 x7, .int .i64 x8, .int .i64 x9, .int .i64 x10] 25)) := ⟨_, rfl⟩
  have hbV : Below w.heap.size w V := by rw [hV]; exact bel1 _ _
  have BS : Hid (V.heap[w.heap.size]? = some (.cells #[.int .i64 x0, .int .i64 x1, .int .i64 x2, .int .i64 x3, .int .i64 x4, .int .i64 x5, .int .i64 x6, .int .i64 x7, .int .i64 x8, .int .i64 x9, .int .i64 x10] 25)) := by have h := box_new w (.cells #[.int .i64 x0, .int .i64 x1, .int .i64 x2, .int .i64 x3, .int .i64 x4, .int .i64 x5, .int .i64 x6, .int .i64 x7, .int .i64 x8, .int .i64 x9, .int .i64 x10] 25); (try simp only [World.size_alloc] at h); rw [hV]; exact h
  go_enter Tryd.func8, Tryd.ntmps8
  go_wp2_with fail
  rw [← hV]
  clear hV
  refine (specOk_any x0 x1 x2 x3 x4 x5 x6 x7 x8 x9 x10 _).mono ?_
  rintro e w1 ⟨rfl, hbs⟩
  have BS' := Lib.hid (box_below BS.out hbs)
  have hbn1 : Below w.heap.size w w1 := bel_then hbV hbs hbV.size
  clear BS
  have BS := BS'
  clear BS'
  clear hbs
  cases hs : specB x0 x1 x2 x3 x4 x5 x6 x7 x8 x9 x10
  · have HV : Hid (R = (⟨#[]⟩, false)) := by show R = _; rw [HR.out]; simp [textV, hs]
    go_wp2
    go_ret2
    exact ⟨by rw [HV.out]; rfl, hbn1⟩
  have HV : Hid (R = (bstr (textL [x0, x1, x2, x3, x4, x5, x6, x7, x8, x9, x10]), true)) := by show R = _; rw [HR.out]; simp [textV, hs]
  have HW := Lib.hid (spec_wf hs)
  clear HR hs
  obtain ⟨L, hL⟩ : ∃ L : List Int, L = [x0, x1, x2, x3, x4, x5, x6, x7, x8, x9, x10] := ⟨_, rfl⟩
  have hl : L.length = 11 := by rw [hL]; rfl
  have HC : Hid (∀ j, j < 11 → w1.cell? ⟨w.heap.size, j, none⟩ = some (.int .i64 (L.getD j 0))) := fun j hj => by rw [hL]; exact cell_at BS.out j hj
  have hsl1 : w.heap.size < w1.heap.size := box_lt BS.out
  rw [← hL] at HV HW
  clear hL BS
  go_wp2_with fail
  have hown0 : (w1.alloc (Obj.cells #[] 9)).ownsRow w1.heap.size 9 1 (.slice (some ⟨w1.heap.size, 0, none⟩) 0 0) 0 (strs []) := World.ownsRow_lit w1 #[] 0 (Nat.le_refl _) (by unfold maxLen; omega) rfl
  refine (numbersOf_any w.heap.size _).mono ?_
  rintro e w2 ⟨rfl, hb2⟩
  rw [show (.agg #[.pointer (some ⟨w.heap.size, 0, none⟩), .pointer (some ⟨w.heap.size, 1, none⟩), .pointer (some ⟨w.heap.size, 2, none⟩), .pointer (some ⟨w.heap.size, 3, none⟩), .pointer (some ⟨w.heap.size, 4, none⟩), .pointer (some ⟨w.heap.size, 5, none⟩), .pointer (some ⟨w.heap.size, 6, none⟩), .pointer (some ⟨w.heap.size, 7, none⟩), .pointer (some ⟨w.heap.size, 8, none⟩), .pointer (some ⟨w.heap.size, 9, none⟩), .pointer (some ⟨w.heap.size, 10, none⟩)] : Value) = numsV w.heap.size from rfl]
  have hbA : Below w1.heap.size w1 w2 := bel_then (bel1 w1 _) hb2 (by simp)
  have hown2 : w2.ownsRow w1.heap.size 9 1 (.slice (some ⟨w1.heap.size, 0, none⟩) 0 0) 0 (strs []) := ownsRow_below hown0 hb2
  clear hown0 hb2
  obtain ⟨NV, hNV⟩ : ∃ v, v = numsV w.heap.size := ⟨_, rfl⟩
  rw [← hNV]
  have HNA : Hid (∀ k : Nat, k < 11 → ∀ W : World, (Instr.index 47 NV (.int .i64 (k : Int))).run Tryd.prog W = .ok (.pointer (some ⟨w.heap.size, k, none⟩)) W) := fun k hk W => by rw [hNV]; exact nums_at _ k hk W
  clear hNV
  go_wp2_with fail
  go_loopw [4, 12] (fun q i wr => ∃ k : Nat, k ≤ 11 ∧ i = .int .i64 k ∧ Hid (wr.ownsRow w1.heap.size 9 1 q k (strs ((L.take k).map Lib.itoa))) ∧ Below w1.heap.size w1 wr) (fun _ i _ => 11 - (intOf i).toNat)
  case atStart => exact ⟨0, by omega, rfl, hown2, hbA⟩
  case round =>
    rename_i q
    obtain ⟨k, hk, rfl, HO, hbr⟩ := hrel
    clear hown2 hbA
    by_cases hlt : k < 11
    case neg =>
      have HK : Hid (L.take k = L) := List.take_of_length_le (by omega)
      have hk11 : k = 11 := by omega
      subst hk11
      rw [HK.out] at HO
      obtain ⟨bk, cap, rfl, hge, hltc, hcap⟩ := row_form HO.out (by omega)
      have hcells : ∀ (j : Nat) (x : ByteArray), (L.map fun x => bstr (Lib.itoa x))[j]? = some x → wr.cell? ⟨bk, 0 + j, none⟩ = some (.string x) := fun j x hj => by
        have hjl : j < 11 := by have := (List.getElem?_eq_some_iff.1 hj).1; simp [hl] at this; exact this
        rw [Nat.zero_add, HO.out.cellAt j (by omega)]
        simp only [Parts.strs, List.map_map, List.getD_eq_getElem?_getD, List.getElem?_map] at hj ⊢
        cases hq : L[j]? with
        | none => rw [hq] at hj; simp at hj
        | some y => rw [hq] at hj; simp at hj; subst hj; simp [hq]
      have hlen : (L.map fun x => bstr (Lib.itoa x)).length = 11 := by simp [hl]
      have HJ : Hid (Lib.join ((L.map fun x => bstr (Lib.itoa x)).map (·.data.toList)) (⟨#[32]⟩ : ByteArray).data.toList = textL L) := by show _ = _; simp [textL, List.map_map, Function.comp_def, bstr]
      have hJl : (textL L).length ≤ 242 := by have h := text_len L HW.out; rw [hl] at h; exact h
      have hJoin := Tryd.strings_Join bk 0 cap (L.map fun x => bstr (Lib.itoa x)) ⟨#[32]⟩ wr hcells (by omega) (by omega) (by omega) (by rw [HJ.out]; omega)
      rw [HJ.out, hlen] at hJoin
      have HJN := Lib.hid hJoin
      clear hJoin hcells HJ hJl
      go_wp2_with fail
      refine HJN.out.mono ?_
      rintro e w5 ⟨rfl, hb5⟩
      have HB := Lib.hid (bel_then (bel_then hbn1 hbr hbn1.size) hb5 (Nat.le_trans hbn1.size hbr.size))
      clear hb5 hbr
      go_wp2
      go_ret2
      exact ⟨by rw [HV.out]; rfl, HB.out⟩
    have hix := HNA.out k hlt
    have hcl : wr.cell? ⟨w.heap.size, k, none⟩ = some (.int .i64 (L.getD k 0)) := (hbr.cell hsl1).trans (HC.out k hlt)
    have hgd : L.getD k 0 = L[k] := by simp [List.getD, hl, hlt]
    obtain ⟨x, hx⟩ : ∃ x, x = L.getD k 0 := ⟨_, rfl⟩
    have hxw := HW.out x (by rw [hx, hgd]; exact List.getElem_mem (by omega))
    rw [← hx] at hcl
    have HT : Hid (strs ((L.take (k + 1)).map Lib.itoa) = strs ((L.take k).map Lib.itoa) ++ [.string (bstr (Lib.itoa x))]) := by show _ = _; rw [← strs_snoc, hx, hgd, List.take_succ_eq_append_getElem (by omega), List.map_append]; rfl
    clear hgd hx
    obtain ⟨X1, hX1⟩ : ∃ X, X = bstr (Lib.itoa x) := ⟨_, rfl⟩
    rw [← hX1] at HT
    have HN : Hid (∀ W : World, Lib.TabBelow Tryd.prog W.heap.size W "internal/strconv.uint64pow10" .u64 Lib.pow10Tab → Calls Tryd.prog 22 #[.int .i64 x] W (Says (.string X1) W)) := fun W h => by rw [hX1]; exact itoa_any x hxw.1 hxw.2 W.heap.size W (Nat.le_refl _) h
    clear hX1 hxw
    have hbw := bel_then hbn1 hbr hbn1.size
    obtain ⟨T, hT⟩ : ∃ T, T = strs ((L.take k).map Lib.itoa) := ⟨_, rfl⟩
    rw [← hT] at HO HT
    clear hT
    go_wp2_with fail
    refine (HN.out _ (fun w' h' => (HTB.out.on hbw) w' (h'.mono hbw.size))).mono ?_
    rintro e w3 ⟨rfl, hb3⟩
    have hbr3 : Below w1.heap.size w1 w3 := hbr.trans (hb3.mono hbr.size)
    have HO3 := Lib.hid (ownsRow_below HO.out hb3)
    clear hb3 hbr HO hbw hcl hix
    go_wp2_with (at_builtin; refine wpList_append_own _ rfl (.tmp 15) (.tmp 20) 45 rfl w1.heap.size 9 i0 (.string ⟨#[]⟩) 1 16 Tryd.underlying45 hi hz0 hz1 hz2 rfl (by decide) _ _ _ rfl (HO3.out.alloc _) ⟨w3.heap.size, 0, none⟩ 1 1 [.string X1] rfl rfl ?ca1 ?ca2 ?ca3 ?ca4 ?ca5 ?_)
    case ca1 =>
      intro j u hj
      match j, hj with
      | 0, hj => simp at hj; subst hj; simp [Addr.add]
    case ca2 => intro u hu; simp at hu; subst hu; rfl
    case ca3 => unfold maxLen; omega
    case ca4 => omega
    case ca5 => have := hbr3.size; simp; omega
    intro v' w4 hown' hgrow _
    have hb4 : Below w1.heap.size w1 w4 := (hbr3.alloc hbr3.size _).grown hgrow (by have := hbr3.size; simp; omega) (by
      intro g hg
      rcases HO3.out.2 with ⟨rfl, _⟩ | ⟨g', cap', cur, rfl, hge, _⟩
      · simp [Value.ownBlock] at hg
      · simp [Value.ownBlock] at hg; omega)
    have HO4 : Hid (w4.ownsRow w1.heap.size 9 1 v' (k + 1) (strs ((L.take (k + 1)).map Lib.itoa))) := (by rw [HT.out]; exact hown')
    clear hown' hgrow hbr3
    go_wp2
    go_roundw
    case rel => exact ⟨k + 1, by omega, by go_num, HO4, hb4⟩
    case measure => first | (simp [intOf]; done) | (simp [intOf]; omega)
end Go.Proofs.YtfabioccnaooeaaDoor.SpT
