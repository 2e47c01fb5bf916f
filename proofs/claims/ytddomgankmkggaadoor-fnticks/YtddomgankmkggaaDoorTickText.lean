/-
  CONTRACTS of TickText, the program's and the model's, over this seat's translation: at a tick its text, else the empty text; nothing that was there has turned.
-/
import Derived.Test.YtddomgankmkggaaDoorTick2
import Derived.Test.YtddomgankmkggaaDoorNum
import Derived.Test.YtddomgankmkggaaDoorShelf
import Derived.Deep.RegionWith
import Derived.Lib.AppendIntMem
namespace Go.Proofs.YtddomgankmkggaaDoor.TickText
open Go.ChangeShapes Go.WideShapes Go.ChangeAt Go.RowKit
open Go.Proofs.YtddomgankmkggaaDoor.Tick Go.Proofs.YtddomgankmkggaaDoor.Num Go.Proofs.YtddomgankmkggaaDoor.Str
set_option linter.unusedVariables false

def d3 (r : Nat) : List UInt8 := [UInt8.ofNat (48 + r / 100), UInt8.ofNat (48 + r / 10 % 10), UInt8.ofNat (48 + r % 10)]
def tickT (t : Nat) : List UInt8 := Lib.decDigits (t / 1000) ++ (46 :: d3 (t % 1000))
def textV (x : Int) : List UInt8 := if tokB x then tickT x.toNat else []

def TextSaid (x : Int) (w : World) (e : Ending) (w' : World) : Prop := e = .returned (.string (bstr (textV x))) ∧ Below w.heap.size w w'

theorem bcell {W w1 : World} (hb : Below W.heap.size W w1) : (∀ b o, b < W.heap.size → w1.cell? ⟨b, o, none⟩ = W.cell? ⟨b, o, none⟩) :=
  fun b o h => hb.cell (p := ⟨b, o, none⟩) h

/-- 'string(b)' at three bytes, wherever they lie. -/
theorem conv3 (c0 c1 c2 : UInt8) (z0 z1 z2 : Int) (h0 : (c0.toNat : Int) = z0) (h1 : (c1.toNat : Int) = z1) (h2 : (c2.toNat : Int) = z2) :
    ∀ (W : World) (g : Nat), W.cell? ⟨g, 0, none⟩ = some (.int .u8 z0) → W.cell? ⟨g, 1, none⟩ = some (.int .u8 z1) → W.cell? ⟨g, 2, none⟩ = some (.int .u8 z2) →
      (convert 22 9 (.slice (some ⟨g, 0, none⟩) 3 3)).run Tryd.prog W = .ok (.string (bstr [c0, c1, c2])) W := by
  intro W g e0 e1 e2
  refine run_convert_bytes_back (P := Tryd.prog) _ 22 9 5 ⟨g, 0, none⟩ 3 [c0, c1, c2] Tryd.underlying22 Tryd.underlying5 Tryd.underlying9 ?_
  intro j hj
  match j, hj with
  | 0, _ => simpa [Addr.add, h0] using e0
  | 1, _ => simpa [Addr.add, h1] using e1
  | 2, _ => simpa [Addr.add, h2] using e2

set_option maxHeartbeats 400000 in
theorem specText_no (x : Int) (h : tokB x = false) (w : World) : Calls Tryd.prog 19 #[.int .i64 x] w (TextSaid x w) := by
  have HV : Hid (textV x = []) := (by simp [textV, h] : textV x = [])
  go_enter Tryd.func19, Tryd.ntmps19
  go_wp2_with (go_at_call 8; refine (specTickOk_any _ _).mono ?_; rintro e w' ⟨rfl, rfl⟩)
  go_ret
  exact ⟨ret_str (by rw [HV.out]; rfl), Below.refl _ _⟩

theorem wrapIn (z : Int) (h0 : -9223372036854775808 ≤ z) (h1 : z ≤ 9223372036854775807) : IntKind.i64.wrap z = z := IntWalk.i64_in z ⟨h0, h1⟩

theorem u8_in (c : UInt8) : IntKind.u8.wrap (c.toNat : Int) = (c.toNat : Int) := by
  have := c.toNat_lt
  rw [IntKind.wrap_u8]; omega
theorem num_len (q : Nat) (h : q ≤ 1000000) : (bstr (Lib.itoa (q : Int))).size ≤ 21 := by
  rw [bstr_size]; exact Lib.itoa_length_le _ (by omega) (by omega)

theorem text_eq {t q r : Nat} {c0 c1 c2 : UInt8} (hq : q = t / 1000) (hr : r = t % 1000) (hd : d3 r = [c0, c1, c2]) : bstr (Lib.itoa (q : Int)) ++ bstr [46] ++ bstr [c0, c1, c2] = bstr (tickT t) := by
  rw [bstr_append, bstr_append, ← hd, tickT, hr, hq]
  congr 1
  rw [show Lib.itoa ((t / 1000 : Nat) : Int) = Lib.decDigits (t / 1000) by unfold Lib.itoa; rw [if_neg (by omega), Int.toNat_natCast]]
  simp

theorem b_drew {w w1 : World} (hb : Below w.drew.heap.size w.drew w1) : Below w.heap.size w w1 := ⟨hb.os, hb.tape, hb.output, hb.size, hb.block⟩
theorem b_after {w w1 : World} (hb : Below w.drew.heap.size w.drew w1) (O : Obj) : Below w.heap.size w (w1.alloc O) := (b_drew hb).alloc hb.size O
theorem b_before {w w1 : World} {O : Obj} (hb : Below (w.alloc O).drew.heap.size (w.alloc O).drew w1) : Below w.heap.size w w1 :=
  ((Below.refl _ w).alloc (Nat.le_refl _) O).trans ((b_drew hb).mono (by simp))

set_option maxHeartbeats 1600000 in
theorem specText_yes (t : Nat) (h : t ≤ 1000000000) (w : World) : Calls Tryd.prog 19 #[.int .i64 t] w (TextSaid t w) := by
  have ht : tokB (t : Int) = true := by simp [tokB]; omega
  have HV : Hid (textV t = tickT t) := (by simp [textV, ht] : textV t = tickT t)
  go_enter Tryd.func19, Tryd.ntmps19
  go_wp2_with (go_at_call 8; refine (specTickOk_any _ _).mono ?_; rintro e w' ⟨rfl, rfl⟩)
  obtain ⟨r, hr⟩ : ∃ r : Nat, r = t % 1000 := ⟨_, rfl⟩
  have hr1 : r ≤ 999 := by omega
  have hri : (t : Int) % 1000 = (r : Int) := by omega
  rw [hri]
  have HR : Hid (r = t % 1000) := hr
  clear hr hri
  obtain ⟨q, hq⟩ : ∃ q : Nat, q = t / 1000 := ⟨_, rfl⟩
  obtain ⟨c0, hc0⟩ : ∃ c, c = UInt8.ofNat (48 + r / 100) := ⟨_, rfl⟩
  obtain ⟨c1, hc1⟩ : ∃ c, c = UInt8.ofNat (48 + r / 10 % 10) := ⟨_, rfl⟩
  obtain ⟨c2, hc2⟩ : ∃ c, c = UInt8.ofNat (48 + r % 10) := ⟨_, rfl⟩
  have hn0 : c0.toNat = 48 + r / 100 := by rw [hc0]; simp; omega
  have hn1 : c1.toNat = 48 + r / 10 % 10 := by rw [hc1]; simp; omega
  have hn2 : c2.toNat = 48 + r % 10 := by rw [hc2]; simp; omega
  have H0 : Hid (d3 r = [c0, c1, c2]) := (by rw [hc0, hc1, hc2]; rfl : d3 r = [c0, c1, c2])
  have hcv := conv3 c0 c1 c2 c0.toNat c1.toNat c2.toNat rfl rfl rfl
  have hq0 : -9223372036854775808 ≤ (q : Int) := by omega
  have hq1 : (q : Int) ≤ 9223372036854775807 := by omega
  have HL := num_len q (by omega)
  have HB : (bstr [c0, c1, c2]).size ≤ 3 := by rw [bstr_size]; simp
  have HQ : Hid (q = t / 1000) := hq
  obtain ⟨a0, ha0⟩ : ∃ a : Int, a = (r : Int) / 100 := ⟨_, rfl⟩
  obtain ⟨a1, ha1⟩ : ∃ a : Int, a = (r : Int) / 10 := ⟨_, rfl⟩
  obtain ⟨a2, ha2⟩ : ∃ a : Int, a = a1.tmod 10 := ⟨_, rfl⟩
  obtain ⟨a3, ha3⟩ : ∃ a : Int, a = (r : Int).tmod 10 := ⟨_, rfl⟩
  have e1 : IntKind.i64.wrap ((t : Int) / 1000) = (q : Int) := by rw [wrapIn _ (by omega) (by omega)]; omega
  have e2 : IntKind.i64.wrap ((r : Int) / 100) = a0 := by rw [wrapIn _ (by omega) (by omega)]; omega
  have e3 : IntKind.i64.wrap (48 + a0) = (c0.toNat : Int) := by rw [wrapIn _ (by omega) (by omega)]; omega
  have e4 : IntKind.i64.wrap ((r : Int) / 10) = a1 := by rw [wrapIn _ (by omega) (by omega)]; omega
  have m2 : a2 = (r : Int) / 10 % 10 := by rw [ha2, ha1, Int.tmod_eq_emod_of_nonneg (by omega)]
  have m3 : a3 = (r : Int) % 10 := by rw [ha3, Int.tmod_eq_emod_of_nonneg (by omega)]
  have e5 : IntKind.i64.wrap (48 + a2) = (c1.toNat : Int) := by rw [wrapIn _ (by omega) (by omega)]; omega
  have e6 : IntKind.i64.wrap (48 + a3) = (c2.toNat : Int) := by rw [wrapIn _ (by omega) (by omega)]; omega
  have u0 := u8_in c0
  have u1 := u8_in c1
  have u2 := u8_in c2
  have e7 : a1.tmod 10 = a2 := ha2.symm
  have e8 : (r : Int).tmod 10 = a3 := ha3.symm
  clear hc0 hc1 hc2 hn0 hn1 hn2 hq ha0 ha1 ha2 ha3 m2 m3 hr1 h
  go_region_with (go_at_call 31; refine (l01Num_any _ hq0 hq1 _).mono ?_; rintro e w1 ⟨rfl, hb⟩; have hcl := bcell hb)
  all_goals go_wp2
  all_goals go_ret
  all_goals refine ⟨ret_str (a := bstr (Lib.itoa (q : Int)) ++ bstr [46] ++ bstr [c0, c1, c2]) (by rw [HV.out]; exact text_eq HQ.out HR.out H0.out), ?_⟩
  all_goals first | exact b_after hb _ | exact b_before hb

theorem specText_any (x : Int) (w : World) : Calls Tryd.prog 19 #[.int .i64 x] w (TextSaid x w) := by
  cases h : tokB x
  · exact specText_no x h w
  · have hb := tok_t h
    obtain ⟨t, rfl⟩ : ∃ t : Nat, x = (t : Int) := ⟨x.toNat, by omega⟩
    exact specText_yes t (by omega) w

theorem itoa_nat (n : Nat) : Lib.itoa (n : Int) = Lib.decDigits n := by
  unfold Lib.itoa; rw [if_neg (by omega), Int.toNat_natCast]
theorem dig1 {x y : Nat} (h : x % 10 = y) : UInt8.ofNat (48 + x % 10) = UInt8.ofNat (48 + y) := by rw [h]
theorem thousand (r : Nat) (h : r ≤ 999) : Lib.decDigits (1000 + r) = 49 :: d3 r := by
  rw [Lib.decDigits, dif_neg (by omega), Lib.decDigits, dif_neg (by omega), Lib.decDigits, dif_neg (by omega), Lib.decDigits, dif_pos (by omega)]
  rw [show (1000 + r) / 10 / 10 / 10 = 1 by omega, show (1000 + r) / 10 / 10 % 10 = r / 100 by omega, show (1000 + r) / 10 % 10 = r / 10 % 10 by omega, show (1000 + r) % 10 = r % 10 by omega]
  rfl

def ItoaSaid (n : Nat) (w : World) (e : Ending) (w' : World) : Prop := e = .returned (.string (bstr (Lib.decDigits n))) ∧ Below w.heap.size w w'
theorem itoa_any (x : Int) (n : Nat) (hx : x = (n : Int)) (hn : (n : Int) ≤ 9223372036854775807) (B : Nat) (w : World) (hB : B ≤ w.heap.size) (htab : Lib.TabBelow Tryd.prog B w "internal/strconv.uint64pow10" .u64 Lib.pow10Tab) :
    Calls Tryd.prog 40 #[.int .i64 x] w (ItoaSaid n w) := by
  subst hx
  refine (Tryd.strconv_Itoa (n : Int) (by omega) hn w (htab w (Below.refl _ _))).mono ?_
  rintro e w' ⟨rfl, k, os, rfl⟩
  exact ⟨by rw [itoa_nat]; rfl, Lib.below_grow _ _ (Nat.le_refl _) k os⟩
theorem slice1 (c c0 c1 c2 : UInt8) (w : World) : (Instr.slice 9 (.string (bstr [c, c0, c1, c2])) (some (.int .i64 1)) none none).run Tryd.prog w = .ok (.string (bstr [c0, c1, c2])) w := by
  have h := run_slice_string_l (P := Tryd.prog) (w := w) (t := 9) (s := bstr [c, c0, c1, c2]) (ht := Tryd.underlying9) .i64 1 (by omega) (by rw [bstr_size]; simp)
  rw [h]
  rfl

set_option maxHeartbeats 800000 in
theorem text_no (x : Int) (h : tokB x = false) (w : World) : Calls Tryd.prog 29 #[.int .i64 x] w (TextSaid x w) := by
  have HV : Hid (textV x = []) := (by simp [textV, h] : textV x = [])
  go_enter Tryd.func29, Tryd.ntmps29
  go_wp2_with (go_at_call 25; refine (ok_any _ _).mono ?_; rintro e w' ⟨rfl, rfl⟩)
  go_ret
  exact ⟨ret_str (by rw [HV.out]; rfl), Below.refl _ _⟩

set_option maxHeartbeats 1600000 in
theorem text_yes (t : Nat) (h : t ≤ 1000000000) (B : Nat) (w : World) (hB : B ≤ w.heap.size) (htab : Lib.TabBelow Tryd.prog B w "internal/strconv.uint64pow10" .u64 Lib.pow10Tab) :
    Calls Tryd.prog 29 #[.int .i64 t] w (TextSaid t w) := by
  have ht : tokB (t : Int) = true := by simp [tokB]; omega
  have HV : Hid (textV t = tickT t) := (by simp [textV, ht] : textV t = tickT t)
  have HT : Hid (Lib.TabBelow Tryd.prog B w "internal/strconv.uint64pow10" .u64 Lib.pow10Tab) := htab
  clear htab
  obtain ⟨q, hq⟩ : ∃ q : Nat, q = t / 1000 := ⟨_, rfl⟩
  obtain ⟨r, hr⟩ : ∃ r : Nat, r = t % 1000 := ⟨_, rfl⟩
  have eq1 : (t : Int) / 1000 = (q : Int) := by omega
  have eq2 : (t : Int) % 1000 = (r : Int) := by omega
  have hr1 : r ≤ 999 := by omega
  have hq1 : q ≤ 1000000 := by omega
  have HQ : Hid (q = t / 1000) := hq
  have HR : Hid (r = t % 1000) := hr
  clear hq hr
  go_enter Tryd.func29, Tryd.ntmps29
  go_wp2_with (go_at_call 25; refine (ok_any _ _).mono ?_; rintro e w' ⟨rfl, rfl⟩)
  refine (itoa_any _ q (by omega) (by omega) B _ hB HT.out).mono ?_
  rintro e w1 ⟨rfl, hb1⟩
  have hL1 : (bstr (Lib.decDigits q)).size ≤ 21 := by rw [bstr_size, ← itoa_nat]; exact Lib.itoa_length_le _ (by omega) (by omega)
  go_wp2_with fail
  refine (itoa_any _ (1000 + r) (by omega) (by omega) B _ (Nat.le_trans hB hb1.size) (HT.out.on (hb1.mono hB))).mono ?_
  rintro e w2 ⟨rfl, hb2⟩
  rw [thousand r hr1]
  obtain ⟨c0, c1, c2, hc⟩ : ∃ c0 c1 c2, d3 r = [c0, c1, c2] := ⟨_, _, _, rfl⟩
  have HC : Hid (d3 r = [c0, c1, c2]) := hc
  rw [hc]
  clear hc
  have hsl := fun w => slice1 49 c0 c1 c2 w
  have hL2 : (bstr [c0, c1, c2]).size ≤ 3 := by rw [bstr_size]; simp
  go_wp2
  go_ret
  refine ⟨ret_str (a := bstr (Lib.decDigits q) ++ bstr [46] ++ bstr [c0, c1, c2]) ?_, hb1.trans (hb2.mono hb1.size)⟩
  rw [HV.out, ← itoa_nat]; exact text_eq HQ.out HR.out HC.out

theorem text_any (x : Int) (B : Nat) (w : World) (hB : B ≤ w.heap.size) (htab : Lib.TabBelow Tryd.prog B w "internal/strconv.uint64pow10" .u64 Lib.pow10Tab) : Calls Tryd.prog 15 #[.int .i64 x] w (TextSaid x w) := by
  have H : Calls Tryd.prog 29 #[.int .i64 x] w (TextSaid x w) := by
    cases h : tokB x
    · exact text_no x h w
    · have hb := tok_t h
      obtain ⟨t, rfl⟩ : ∃ t : Nat, x = (t : Int) := ⟨x.toNat, by omega⟩
      exact text_yes t (by omega) B w hB htab
  have H1 : Hid (Calls Tryd.prog 29 #[.int .i64 x] w (TextSaid x w)) := H
  clear H htab
  go_enter Tryd.func15, Tryd.ntmps15
  go_wp2_with fail
  refine H1.out.mono ?_
  rintro e w1 ⟨rfl, hb1⟩
  go_wp2_with fail
  go_ret
  exact ⟨rfl, hb1⟩
end Go.Proofs.YtddomgankmkggaaDoor.TickText
