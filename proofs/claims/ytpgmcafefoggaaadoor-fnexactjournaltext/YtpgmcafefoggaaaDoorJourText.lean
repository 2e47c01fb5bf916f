/-
  THE JOURNAL's TEXT: the contracts of JournalText, the program's and the model's, over this seat's translation.
-/
import Derived.Test.YtpgmcafefoggaaaDoorJourMend
import Derived.Test.YtpgmcafefoggaaaDoorNum
import Derived.Test.YtpgmcafefoggaaaDoorShelf
import Derived.Lib.AppendIntMem
import Derived.Lib.LaidTab
import Derived.Lib.ItoaNum
import Derived.Laws.Concat
namespace Go.Proofs.YtpgmcafefoggaaaDoor.Jour
open Go.ChangeShapes Go.WideShapes Go.ChangeAt Go.RowKit
open Go.Proofs.YtpgmcafefoggaaaDoor.Bytes Go.Proofs.YtpgmcafefoggaaaDoor.LK Go.Proofs.YtpgmcafefoggaaaDoor.Num Go.Proofs.YtpgmcafefoggaaaDoor.Str
open Go.Proofs.YtpgmcafefoggaaaDoor.JourC (CRd CRd.rd)
set_option linter.unusedVariables false
set_option linter.unusedSimpArgs false

def tx1 : ByteArray := ⟨#[115, 110, 97, 112, 32]⟩
def tx2 : ByteArray := ⟨#[32, 116, 97, 105, 108, 32]⟩
def tx3 : ByteArray := ⟨#[32, 115, 97, 102, 101, 32]⟩
def jtext (d : JD) : ByteArray := if jok d then tx1 ++ bstr (Lib.itoa (Rd.scanV d.1).1.length) ++ tx2 ++ bstr (Lib.itoa (Rd.scanV d.2.1).1.length) ++ tx3 ++ bstr (Lib.itoa d.2.2) else ⟨#[]⟩
theorem jtext_f {d : JD} (h : jok d = false) : jtext d = ⟨#[]⟩ := by simp [jtext, h]
theorem jtext_t {d : JD} (h : jok d = true) : jtext d = tx1 ++ bstr (Lib.itoa (Rd.scanV d.1).1.length) ++ tx2 ++ bstr (Lib.itoa (Rd.scanV d.2.1).1.length) ++ tx3 ++ bstr (Lib.itoa d.2.2) := by simp [jtext, h]
theorem itoa_size (x : Int) (h0 : -9223372036854775808 ≤ x) (h1 : x ≤ 9223372036854775807) : (bstr (Lib.itoa x)).size ≤ 21 := by
  rw [bstr_size]; exact Lib.itoa_length_le _ h0 h1

theorem itoa_any (x : Int) (h0 : -9223372036854775808 ≤ x) (h1 : x ≤ 9223372036854775807) (B : Nat) (w : World) (hB : B ≤ w.heap.size) (htab : Lib.TabBelow Tryd.prog B w "internal/strconv.uint64pow10" .u64 Lib.pow10Tab) :
    Calls Tryd.prog 53 #[.int .i64 x] w (NumSaid x w) := by
  refine (Tryd.strconv_Itoa x h0 h1 w (htab w (Below.refl _ _))).mono ?_
  rintro e w' ⟨rfl, k, os, rfl⟩
  exact ⟨rfl, Lib.below_grow _ _ (Nat.le_refl _) k os⟩

set_option maxRecDepth 100000 in
set_option maxHeartbeats 1600000 in
theorem specJournalText_any (w : World) (B : Nat) (v : Value) (d : JD) (hr : CRd w B v d) (hB : B ≤ w.heap.size) (hf : jty.Few d) :
    Calls Tryd.prog 28 #[v] w (Says (.string (jtext d)) w) := by
  have hr0 := hr.rd
  obtain ⟨x, y, s⟩ := d
  obtain ⟨A1, c1, A2, c2, rfl, h1, h2, r1, r2⟩ := hr
  have HR := Lib.hid hr0
  have HF := Lib.hid hf
  have hf : x.length + y.length ≤ 1048576 := hf
  obtain ⟨m, hm⟩ : ∃ m, m = (x, y, s).1.length := ⟨_, rfl⟩
  obtain ⟨n, hn⟩ : ∃ n, n = (x, y, s).2.1.length := ⟨_, rfl⟩
  rw [← hm, ← hn] at HR ⊢
  rw [← hm] at h1 r1
  rw [← hn] at h2 r2
  have hx : m ≤ 1048576 := by have : m = x.length := hm; omega
  have hy : n ≤ 1048576 := by have : n = y.length := hn; omega
  have H1 : Hid (IsBytes w B A1 m x) := h1
  have H2 : Hid (IsBytes w B A2 n y) := h2
  have R1 := Lib.hid r1
  have R2 := Lib.hid r2
  have hX : Rec.endR 1 (Rd.scanV x).1 + 3 * ((Rd.scanV x).1.length : Int) ≤ 1 + (x.length : Int) := (JourC.scan_in h1.2.1).2.1
  have hY : Rec.endR 1 (Rd.scanV y).1 + 3 * ((Rd.scanV y).1.length : Int) ≤ 1 + (y.length : Int) := (JourC.scan_in h2.2.1).2.1
  obtain ⟨p, hp⟩ : ∃ p, p = (Rd.scanV x).1.length := ⟨_, rfl⟩
  obtain ⟨q, hq⟩ : ∃ q, q = (Rd.scanV y).1.length := ⟨_, rfl⟩
  have hp1 : (p : Int) ≤ 9223372036854775807 := by
    have h5 := Rec.endR_le (Rd.scanV x).1 1
    rw [← hp] at hX; have : m = x.length := hm; omega
  have hq1 : (q : Int) ≤ 9223372036854775807 := by
    have h5 := Rec.endR_le (Rd.scanV y).1 1
    rw [← hq] at hY; have : n = y.length := hn; omega
  have hjs : jok (x, y, s) = true → 0 ≤ s ∧ s ≤ 9223372036854775807 := fun h => by
    have h5 := jok_t h
    have h6 : y.length ≤ 3000 := h5.2.1
    have h7 : 0 ≤ s := h5.2.2.1
    have h8 : s ≤ y.length := h5.2.2.2
    omega
  obtain ⟨X1, hX1⟩ : ∃ X1, X1 = bstr (Lib.itoa (p : Int)) := ⟨_, rfl⟩
  obtain ⟨X2, hX2⟩ : ∃ X2, X2 = bstr (Lib.itoa (q : Int)) := ⟨_, rfl⟩
  obtain ⟨X3, hX3⟩ : ∃ X3, X3 = bstr (Lib.itoa s) := ⟨_, rfl⟩
  have HN1 : Hid (∀ W e w', NumSaid (p : Int) W e w' → e = .returned (.string X1) ∧ Below W.heap.size W w') := by rw [hX1]; exact fun W e w' h => h
  have HN2 : Hid (∀ W e w', NumSaid (q : Int) W e w' → e = .returned (.string X2) ∧ Below W.heap.size W w') := by rw [hX2]; exact fun W e w' h => h
  have HN3 : Hid (∀ W e w', NumSaid s W e w' → e = .returned (.string X3) ∧ Below W.heap.size W w') := by rw [hX3]; exact fun W e w' h => h
  have hl1 : X1.size ≤ 21 := by rw [hX1]; exact itoa_size _ (by omega) hp1
  have hl2 : X2.size ≤ 21 := by rw [hX2]; exact itoa_size _ (by omega) hq1
  have HT : Hid (jok (x, y, s) = true → jtext (x, y, s) = tx1 ++ X1 ++ tx2 ++ X2 ++ tx3 ++ X3) := fun h => by rw [jtext_t h, hX1, hX2, hX3, hp, hq]
  have HL3 : Hid (jok (x, y, s) = true → X3.size ≤ 21) := fun h => by rw [hX3]; exact itoa_size _ (by have := hjs h; omega) (hjs h).2
  have HJS := Lib.hid hjs
  have HA1 : Hid (∀ (W : World) (e : Ending) (w' : World), Rd.AnsS W x e w' → ∃ (A : Option Addr) (c : Nat) (a b : Int), e = .returned (.tuple #[.slice A p c, .int .i64 a, .int .i64 b]) ∧ Below W.heap.size W w') := by
    rw [hp]
    intro W e w' h
    obtain ⟨A, c, e1, _, e3⟩ := h
    exact ⟨A, c, _, _, e1, e3⟩
  have HA2 : Hid (∀ (W : World) (e : Ending) (w' : World), Rd.AnsS W y e w' → ∃ (A : Option Addr) (c : Nat) (a b : Int), e = .returned (.tuple #[.slice A q c, .int .i64 a, .int .i64 b]) ∧ Below W.heap.size W w') := by
    rw [hq]
    intro W e w' h
    obtain ⟨A, c, e1, _, e3⟩ := h
    exact ⟨A, c, _, _, e1, e3⟩
  clear hr0 h1 h2 r1 r2 hm hn hf hp hq hX hY hX1 hX2 hX3 hjs
  go_enter Tryd.func28, Tryd.ntmps28
  go_wp2_with fail
  refine (specJournalOk_any _ B _ (x, y, s) (jty.rd_below HR.out (bel1 _ _) hB) HF.out).mono ?_
  rintro e w1 ⟨rfl, hb1⟩
  have k1 := box_below (box_new w (.cells #[.slice A1 m c1, .slice A2 n c2, .int .i64 s] 25)) hb1
  have hb01 : Below w.heap.size w w1 := bel_then (bel1 _ _) hb1 (by simp)
  obtain ⟨p0, p1, p2, _⟩ := box3 k1
  have K1 := Lib.hid k1
  clear hb1 k1
  cases hj : jok (x, y, s)
  · go_wp2
    go_ret
    exact ⟨by rw [jtext_f hj]; rfl, hb01⟩
  · have hl3 := HL3.out hj
    have HTT := Lib.hid (HT.out hj)
    obtain ⟨hs0, hs1⟩ := HJS.out hj
    obtain ⟨Y1, hY1⟩ : ∃ Y, Y = tx1 ++ X1 := ⟨_, rfl⟩
    obtain ⟨Y2, hY2⟩ : ∃ Y, Y = Y1 ++ tx2 := ⟨_, rfl⟩
    obtain ⟨Y3, hY3⟩ : ∃ Y, Y = Y2 ++ X2 := ⟨_, rfl⟩
    obtain ⟨Y4, hY4⟩ : ∃ Y, Y = Y3 ++ tx3 := ⟨_, rfl⟩
    obtain ⟨Y5, hY5⟩ : ∃ Y, Y = Y4 ++ X3 := ⟨_, rfl⟩
    have g1 : Y1.size ≤ 26 := by rw [hY1, ByteArray.size_append]; have : tx1.size = 5 := rfl; omega
    have g2 : Y2.size ≤ 32 := by rw [hY2, ByteArray.size_append]; have : tx2.size = 6 := rfl; omega
    have g3 : Y3.size ≤ 53 := by rw [hY3, ByteArray.size_append]; omega
    have g4 : Y4.size ≤ 59 := by rw [hY4, ByteArray.size_append]; have : tx3.size = 6 := rfl; omega
    have k1 : ∀ W : World, (Op.stringOp .add ⟨#[115, 110, 97, 112, 32]⟩ X1).run Tryd.prog W = .ok (.string Y1) W := fun W => by rw [hY1]; exact run_string_add W _ _ (by show (5 : Int) ≤ _; omega) (by omega)
    have k2 : ∀ W : World, (Op.stringOp .add Y1 ⟨#[32, 116, 97, 105, 108, 32]⟩).run Tryd.prog W = .ok (.string Y2) W := fun W => by rw [hY2]; exact run_string_add W _ _ (by omega) (by show (6 : Int) ≤ _; omega)
    have k3 : ∀ W : World, (Op.stringOp .add Y2 X2).run Tryd.prog W = .ok (.string Y3) W := fun W => by rw [hY3]; exact run_string_add W _ _ (by omega) (by omega)
    have k4 : ∀ W : World, (Op.stringOp .add Y3 ⟨#[32, 115, 97, 102, 101, 32]⟩).run Tryd.prog W = .ok (.string Y4) W := fun W => by rw [hY4]; exact run_string_add W _ _ (by omega) (by show (6 : Int) ≤ _; omega)
    have k5 : ∀ W : World, (Op.stringOp .add Y4 X3).run Tryd.prog W = .ok (.string Y5) W := fun W => by rw [hY5]; exact run_string_add W _ _ (by omega) (by omega)
    have HT5 : Hid (jtext (x, y, s) = Y5) := by show _ = _; rw [HTT.out, hY5, hY4, hY3, hY2, hY1]
    clear hj HL3 HT HJS hY1 hY2 hY3 hY4 hY5 HTT
    go_wp2_with fail
    refine (Rd.specScan_any A1 m c1 x B _ (H1.out.below hb01 hB) (Nat.le_trans hB hb01.size) hx R1.out).mono ?_
    intro e w2 hA
    obtain ⟨D1, d1, a1, b1, rfl, hb2⟩ := HA1.out _ _ _ hA
    have K2 := Lib.hid (box_below K1.out hb2)
    have hb02 := bel_then hb01 hb2 hb01.size
    obtain ⟨q0, q1, q2, _⟩ := box3 K2.out
    clear hA hb2 hb01 p0 p1 p2 K1
    go_wp2_with fail
    refine (Rd.specScan_any A2 n c2 y B _ (H2.out.below hb02 hB) (Nat.le_trans hB hb02.size) hy R2.out).mono ?_
    intro e w3 hA
    obtain ⟨D2, d2, a2, b2, rfl, hb3⟩ := HA2.out _ _ _ hA
    have K3 := Lib.hid (box_below K2.out hb3)
    have hb03 := bel_then hb02 hb3 hb02.size
    obtain ⟨u0, u1, u2, _⟩ := box3 K3.out
    clear hA hb3 hb02 q0 q1 q2 K2
    go_wp2_with fail
    go_region_held3 (fun w' => w'.cell? ⟨w.heap.size, 2, none⟩ = some (.int .i64 s))
      (first | (go_keep; done) | (refine cell_keep hb7 ?_; simp only [*]; done) | (refine cell_keep hb6 ?_; simp only [*]; done) | (refine cell_keep hb5 ?_; simp only [*]; done))
      (first | (have hn6 := hb6; go_at_call 52; refine (l01Num_any s (by omega) hs1 _).mono ?_; intro e w7 hA; obtain ⟨rfl, hb7⟩ := HN3.out _ _ _ hA; clear hA; clear hn6) | (have hn5 := hb5; go_at_call 52; refine (l01Num_any (q : Int) (by omega) hq1 _).mono ?_; intro e w6 hA; obtain ⟨rfl, hb6⟩ := HN2.out _ _ _ hA; clear hA; clear hn5) | (go_at_call 52; refine (l01Num_any (p : Int) (by omega) hp1 _).mono ?_; intro e w5 hA; obtain ⟨rfl, hb5⟩ := HN1.out _ _ _ hA; clear hA; have hb5' : Below w3.heap.size w3 w5 := undrew hb5))
    all_goals
      have hbf : Below w.heap.size w w7 := bel_then hb03 (bel_then hb5' (bel_then hb6 hb7 hb6.size) hb5'.size) hb03.size
      go_wp2
      go_ret
      exact ⟨by rw [HT5.out]; rfl, hbf⟩
set_option maxRecDepth 100000 in
set_option maxHeartbeats 1600000 in
theorem journalText_any (aT aB aO : Addr) (w : World) (B : Nat) (v : Value) (d : JD) (hr : CRd w B v d) (hB : B ≤ w.heap.size) (hf : jty.Few d) (hE : Rd.Errs w.heap.size w aT aB aO) (hK : Rd.ErrBlk w.heap.size w aT aB) (htab : Lib.TabBelow Tryd.prog w.heap.size w "internal/strconv.uint64pow10" .u64 Lib.pow10Tab) :
    Calls Tryd.prog 29 #[v] w (Says (.string (jtext d)) w) := by
  have hr0 := hr.rd
  have HE := Lib.hid hE
  have HEK := Lib.hid hK
  have HTAB := Lib.hid htab
  clear hE hK htab
  obtain ⟨x, y, s⟩ := d
  obtain ⟨A1, c1, A2, c2, rfl, h1, h2, r1, r2⟩ := hr
  have HR := Lib.hid hr0
  have HF := Lib.hid hf
  have hf : x.length + y.length ≤ 1048576 := hf
  obtain ⟨m, hm⟩ : ∃ m, m = (x, y, s).1.length := ⟨_, rfl⟩
  obtain ⟨n, hn⟩ : ∃ n, n = (x, y, s).2.1.length := ⟨_, rfl⟩
  rw [← hm, ← hn] at HR ⊢
  rw [← hm] at h1 r1
  rw [← hn] at h2 r2
  have hx : m ≤ 1048576 := by have : m = x.length := hm; omega
  have hy : n ≤ 1048576 := by have : n = y.length := hn; omega
  have H1 : Hid (IsBytes w B A1 m x) := h1
  have H2 : Hid (IsBytes w B A2 n y) := h2
  have R1 := Lib.hid r1
  have R2 := Lib.hid r2
  have hX : Rec.endR 1 (Rd.scanV x).1 + 3 * ((Rd.scanV x).1.length : Int) ≤ 1 + (x.length : Int) := (JourC.scan_in h1.2.1).2.1
  have hY : Rec.endR 1 (Rd.scanV y).1 + 3 * ((Rd.scanV y).1.length : Int) ≤ 1 + (y.length : Int) := (JourC.scan_in h2.2.1).2.1
  obtain ⟨p, hp⟩ : ∃ p, p = (Rd.scanV x).1.length := ⟨_, rfl⟩
  obtain ⟨q, hq⟩ : ∃ q, q = (Rd.scanV y).1.length := ⟨_, rfl⟩
  have hp1 : (p : Int) ≤ 9223372036854775807 := by
    have h5 := Rec.endR_le (Rd.scanV x).1 1
    rw [← hp] at hX; have : m = x.length := hm; omega
  have hq1 : (q : Int) ≤ 9223372036854775807 := by
    have h5 := Rec.endR_le (Rd.scanV y).1 1
    rw [← hq] at hY; have : n = y.length := hn; omega
  have hjs : jok (x, y, s) = true → 0 ≤ s ∧ s ≤ 9223372036854775807 := fun h => by
    have h5 := jok_t h
    have h6 : y.length ≤ 3000 := h5.2.1
    have h7 : 0 ≤ s := h5.2.2.1
    have h8 : s ≤ y.length := h5.2.2.2
    omega
  obtain ⟨X1, hX1⟩ : ∃ X1, X1 = bstr (Lib.itoa (p : Int)) := ⟨_, rfl⟩
  obtain ⟨X2, hX2⟩ : ∃ X2, X2 = bstr (Lib.itoa (q : Int)) := ⟨_, rfl⟩
  obtain ⟨X3, hX3⟩ : ∃ X3, X3 = bstr (Lib.itoa s) := ⟨_, rfl⟩
  have HN1 : Hid (∀ W e w', NumSaid (p : Int) W e w' → e = .returned (.string X1) ∧ Below W.heap.size W w') := by rw [hX1]; exact fun W e w' h => h
  have HN2 : Hid (∀ W e w', NumSaid (q : Int) W e w' → e = .returned (.string X2) ∧ Below W.heap.size W w') := by rw [hX2]; exact fun W e w' h => h
  have HN3 : Hid (∀ W e w', NumSaid s W e w' → e = .returned (.string X3) ∧ Below W.heap.size W w') := by rw [hX3]; exact fun W e w' h => h
  have hl1 : X1.size ≤ 21 := by rw [hX1]; exact itoa_size _ (by omega) hp1
  have hl2 : X2.size ≤ 21 := by rw [hX2]; exact itoa_size _ (by omega) hq1
  have HT : Hid (jok (x, y, s) = true → jtext (x, y, s) = tx1 ++ X1 ++ tx2 ++ X2 ++ tx3 ++ X3) := fun h => by rw [jtext_t h, hX1, hX2, hX3, hp, hq]
  have HL3 : Hid (jok (x, y, s) = true → X3.size ≤ 21) := fun h => by rw [hX3]; exact itoa_size _ (by have := hjs h; omega) (hjs h).2
  have HJS := Lib.hid hjs
  have HA1 : Hid (∀ (W : World) (e : Ending) (w' : World), Rd.AnsS W x e w' → ∃ (A : Option Addr) (c : Nat) (a b : Int), e = .returned (.tuple #[.slice A p c, .int .i64 a, .int .i64 b]) ∧ Below W.heap.size W w') := by
    rw [hp]
    intro W e w' h
    obtain ⟨A, c, e1, _, e3⟩ := h
    exact ⟨A, c, _, _, e1, e3⟩
  have HA2 : Hid (∀ (W : World) (e : Ending) (w' : World), Rd.AnsS W y e w' → ∃ (A : Option Addr) (c : Nat) (a b : Int), e = .returned (.tuple #[.slice A q c, .int .i64 a, .int .i64 b]) ∧ Below W.heap.size W w') := by
    rw [hq]
    intro W e w' h
    obtain ⟨A, c, e1, _, e3⟩ := h
    exact ⟨A, c, _, _, e1, e3⟩
  clear hr0 h1 h2 r1 r2 hm hn hf hp hq hX hY hX1 hX2 hX3 hjs
  go_enter Tryd.func29, Tryd.ntmps29
  go_wp2_with fail
  refine (journalOk_any _ B _ (x, y, s) (jty.rd_below HR.out (bel1 _ _) hB) HF.out).mono ?_
  rintro e w1 ⟨rfl, hb1⟩
  have k1 := box_below (box_new w (.cells #[.slice A1 m c1, .slice A2 n c2, .int .i64 s] 25)) hb1
  have hb01 : Below w.heap.size w w1 := bel_then (bel1 _ _) hb1 (by simp)
  obtain ⟨p0, p1, p2, _⟩ := box3 k1
  have K1 := Lib.hid k1
  clear hb1 k1
  cases hj : jok (x, y, s)
  · go_wp2
    go_ret
    exact ⟨by rw [jtext_f hj]; rfl, hb01⟩
  · have hl3 := HL3.out hj
    have HTT := Lib.hid (HT.out hj)
    obtain ⟨hs0, hs1⟩ := HJS.out hj
    obtain ⟨Y1, hY1⟩ : ∃ Y, Y = tx1 ++ X1 := ⟨_, rfl⟩
    obtain ⟨Y2, hY2⟩ : ∃ Y, Y = Y1 ++ tx2 := ⟨_, rfl⟩
    obtain ⟨Y3, hY3⟩ : ∃ Y, Y = Y2 ++ X2 := ⟨_, rfl⟩
    obtain ⟨Y4, hY4⟩ : ∃ Y, Y = Y3 ++ tx3 := ⟨_, rfl⟩
    obtain ⟨Y5, hY5⟩ : ∃ Y, Y = Y4 ++ X3 := ⟨_, rfl⟩
    have g1 : Y1.size ≤ 26 := by rw [hY1, ByteArray.size_append]; have : tx1.size = 5 := rfl; omega
    have g2 : Y2.size ≤ 32 := by rw [hY2, ByteArray.size_append]; have : tx2.size = 6 := rfl; omega
    have g3 : Y3.size ≤ 53 := by rw [hY3, ByteArray.size_append]; omega
    have g4 : Y4.size ≤ 59 := by rw [hY4, ByteArray.size_append]; have : tx3.size = 6 := rfl; omega
    have k1 : ∀ W : World, (Op.stringOp .add ⟨#[115, 110, 97, 112, 32]⟩ X1).run Tryd.prog W = .ok (.string Y1) W := fun W => by rw [hY1]; exact run_string_add W _ _ (by show (5 : Int) ≤ _; omega) (by omega)
    have k2 : ∀ W : World, (Op.stringOp .add Y1 ⟨#[32, 116, 97, 105, 108, 32]⟩).run Tryd.prog W = .ok (.string Y2) W := fun W => by rw [hY2]; exact run_string_add W _ _ (by omega) (by show (6 : Int) ≤ _; omega)
    have k3 : ∀ W : World, (Op.stringOp .add Y2 X2).run Tryd.prog W = .ok (.string Y3) W := fun W => by rw [hY3]; exact run_string_add W _ _ (by omega) (by omega)
    have k4 : ∀ W : World, (Op.stringOp .add Y3 ⟨#[32, 115, 97, 102, 101, 32]⟩).run Tryd.prog W = .ok (.string Y4) W := fun W => by rw [hY4]; exact run_string_add W _ _ (by omega) (by show (6 : Int) ≤ _; omega)
    have k5 : ∀ W : World, (Op.stringOp .add Y4 X3).run Tryd.prog W = .ok (.string Y5) W := fun W => by rw [hY5]; exact run_string_add W _ _ (by omega) (by omega)
    have HT5 : Hid (jtext (x, y, s) = Y5) := by show _ = _; rw [HTT.out, hY5, hY4, hY3, hY2, hY1]
    clear hj HL3 HT HJS hY1 hY2 hY3 hY4 hY5 HTT
    go_wp2_with fail
    refine (Rd.scanFrames_any A1 m c1 x w.heap.size aT aB aO _ (HE.out.below hb01 (Nat.le_refl _)) (HEK.out.below hb01 (Nat.le_refl _)) ((H1.out.below hb01 hB).more hB) hb01.size hx R1.out).mono ?_
    intro e w2 hA
    obtain ⟨D1, d1, a1, b1, rfl, hb2⟩ := HA1.out _ _ _ hA
    have K2 := Lib.hid (box_below K1.out hb2)
    have hb02 := bel_then hb01 hb2 hb01.size
    obtain ⟨q0, q1, q2, _⟩ := box3 K2.out
    clear hA hb2 hb01 p0 p1 p2 K1
    go_wp2_with fail
    refine (Rd.scanFrames_any A2 n c2 y w.heap.size aT aB aO _ (HE.out.below hb02 (Nat.le_refl _)) (HEK.out.below hb02 (Nat.le_refl _)) ((H2.out.below hb02 hB).more hB) hb02.size hy R2.out).mono ?_
    intro e w3 hA
    obtain ⟨D2, d2, a2, b2, rfl, hb3⟩ := HA2.out _ _ _ hA
    have K3 := Lib.hid (box_below K2.out hb3)
    have hb03 := bel_then hb02 hb3 hb02.size
    obtain ⟨u0, u1, u2, _⟩ := box3 K3.out
    clear hA hb3 hb02 q0 q1 q2 K2
    go_wp2_with fail
    go_region_held3 (fun w' => w'.cell? ⟨w.heap.size, 2, none⟩ = some (.int .i64 s))
      (first | (go_keep; done) | (refine cell_keep hb7 ?_; simp only [*]; done) | (refine cell_keep hb6 ?_; simp only [*]; done) | (refine cell_keep hb5 ?_; simp only [*]; done))
      (first | (have hn6 := hb6; go_at_call 53; refine (itoa_any s (by omega) hs1 w.heap.size _ (by exact Nat.le_trans hb03.size (Nat.le_trans hb5'.size hb6.size)) (by exact HTAB.out.on (hb03.trans ((bel_then hb5' hb6 hb5'.size).mono hb03.size)))).mono ?_; intro e w7 hA; obtain ⟨rfl, hb7⟩ := HN3.out _ _ _ hA; clear hA; clear hn6) | (have hn5 := hb5; go_at_call 53; refine (itoa_any (q : Int) (by omega) hq1 w.heap.size _ (by exact Nat.le_trans hb03.size hb5'.size) (by exact HTAB.out.on (hb03.trans (hb5'.mono hb03.size)))).mono ?_; intro e w6 hA; obtain ⟨rfl, hb6⟩ := HN2.out _ _ _ hA; clear hA; clear hn5) | (go_at_call 53; refine (itoa_any (p : Int) (by omega) hp1 w.heap.size _ (by exact hb03.size) (by exact HTAB.out.on hb03.drew)).mono ?_; intro e w5 hA; obtain ⟨rfl, hb5⟩ := HN1.out _ _ _ hA; clear hA; have hb5' : Below w3.heap.size w3 w5 := undrew hb5))
    all_goals
      have hbf : Below w.heap.size w w7 := bel_then hb03 (bel_then hb5' (bel_then hb6 hb7 hb6.size) hb5'.size) hb03.size
      go_wp2
      go_ret
      exact ⟨by rw [HT5.out]; rfl, hbf⟩
end Go.Proofs.YtpgmcafefoggaaaDoor.Jour
