/-
  THE CONTRACT of the book's crash, over this seat's translation.
-/
import Derived.Test.YtpghccbknlokcaaDoorJourBook
namespace Go.Proofs.YtpghccbknlokcaaDoor.Jour
open Go.ChangeShapes Go.WideShapes Go.ChangeAt Go.RowKit
open Go.Proofs.YtpghccbknlokcaaDoor.Bytes Go.Proofs.YtpghccbknlokcaaDoor.LK
open Go.Proofs.YtpghccbknlokcaaDoor.Tick (inB in_t in_f l01In_any)
set_option linter.unusedVariables false
set_option linter.unusedSimpArgs false

set_option maxRecDepth 100000 in
set_option maxHeartbeats 1600000 in
theorem crash_any (kp : Int) (w : World) (lo pb pf : Nat) (A1 A2 : Option Addr) (c1 c2 : Nat) (d : JD) (h : Book w lo pb pf A1 A2 c1 c2 d) (hlo : lo ≤ w.heap.size) (hj : jok d = true) :
    Calls Tryd.prog 29 #[.pointer (some ⟨pb, 0, none⟩), .int .i64 kp] w (BookCut w lo pb pf A1 c1 (crashD d kp)) := by
  obtain ⟨x, y, s⟩ := d
  obtain ⟨n, hn⟩ : ∃ n, n = y.length := ⟨_, rfl⟩
  obtain ⟨_, j2, j3, j4⟩ := jok_t hj
  have j2 : n ≤ 3000 := by rw [hn]; exact j2
  have j3 : 0 ≤ s := j3
  have j4 : s ≤ n := by rw [hn]; exact j4
  obtain ⟨q, hq⟩ : ∃ q, q = keepN (x, y, s) kp := ⟨_, rfl⟩
  have hqe : (q : Int) = s + min (max kp 0) (n - s) := by
    have h5 : q = (s + min (max kp 0) ((y.length : Int) - s)).toNat := hq
    omega
  have hqn : q ≤ n := by omega
  have e5 : crashD (x, y, s) kp = (x, y.take q, (q : Int)) := by
    simp only [crashD, hj, ← hq]
    rfl
  rw [e5]
  have H := Lib.hid h
  have k2 : w.heap[pf]? = some (fileO A2 n c2 s) := by rw [hn]; exact h.hf
  have hby : IsBytes w w.heap.size A2 n y := by rw [hn]; exact h.o2.bytes
  have HBY := Lib.hid hby
  have HN := Lib.hid hn
  have HQ := Lib.hid hqe
  obtain ⟨b0, b1, _, _⟩ := box2 h.hb
  have KF := Lib.hid k2
  clear h k2 hby hn hq hqe e5 hj
  have m1 := mHeld
  have m2 := mSynced
  have m3 := mCut
  obtain ⟨L, hL⟩ : ∃ L : Int, L = n - s := ⟨_, rfl⟩
  have hwr : IntKind.i64.wrap ((n : Int) - s) = L := by rw [hL, IntKind.wrap_i64]; omega
  have HLL := Lib.hid hL
  clear hL
  obtain ⟨K1, hK1⟩ : ∃ K1 : Int, (if kp < 0 then 0 else kp) = K1 := ⟨_, rfl⟩
  obtain ⟨K2, hK2⟩ : ∃ K2 : Int, (if L < K1 then L else K1) = K2 := ⟨_, rfl⟩
  have hsum : s + K2 = (q : Int) := by
    have h5 := HQ.out
    have h6 := HLL.out
    split at hK1 <;> split at hK2 <;> omega
  have hlt := box_lt KF.out
  have hwq : IntKind.i64.wrap (q : Int) = (q : Int) := by rw [IntKind.wrap_i64]; omega
  go_enter Tryd.func29, Tryd.ntmps29
  go_wp2_with fail
  go_region_held3 (fun w' => w'.cell? ⟨pb, 0, none⟩ = some (.iface 71 (fp pf)))
    (go_keep)
    (first | (go_at_call 83; refine (held_any pf A2 n c2 s _ (by exact KF.out)).mono ?_; rintro e w1 ⟨rfl, rfl⟩) | (go_at_call 86; refine (synced_any pf A2 n c2 s _ (by exact KF.out)).mono ?_; rintro e w2 ⟨rfl, rfl⟩))
  go_wp2_with fail
  go_region_held3 (fun w' => w'.cell? ⟨pb, 0, none⟩ = some (.iface 71 (fp pf)))
    (go_keep)
    (first | (go_at_call 86; refine (synced_any pf A2 n c2 s _ (by exact KF.out)).mono ?_; rintro e w2 ⟨rfl, rfl⟩) | (go_at_call 82; refine (cut_any pf A2 n c2 s y w.heap.size q _ (by exact KF.out) (by exact HBY.out.below (((Below.refl w.heap.size w).drew).drew) (Nat.le_refl _)) (by exact Nat.le_refl _) (by omega) hqn).mono ?_; rintro e w3 ⟨A', rfl, hf3, ho3, ht3⟩; have ht3' : Turned (fun k => k = pf) w w3 := ht3.undrew.undrew; have c03 := (box2 (box_turned H.out.hb ht3' H.out.ne)).1))
  all_goals
    have HB3 := Lib.hid (H.out.cut (by have := HN.out; show q ≤ y.length; omega) hlo hf3 ho3 ht3')
    clear hf3 ho3 ht3
    go_wp2
    go_end0
    exact ⟨rfl, A', q, HB3.out, ht3'⟩
theorem crashD_f {d : JD} (h : jok d = false) (k : Int) : crashD d k = d := by simp [crashD, h]

set_option maxRecDepth 100000 in
set_option maxHeartbeats 1600000 in
theorem crashTail_any (kp : Int) (w : World) (B : Nat) (v : Value) (d : JD) (hr : JRd w B v d) (hB : B ≤ w.heap.size) (hf : jty.Few d) :
    Calls Tryd.prog 9 #[v, .int .i64 kp] w (Made1 jty (crashD d kp) (.bool (jok d)) w) := by
  have hr0 := hr
  obtain ⟨x, y, s⟩ := d
  obtain ⟨A1, c1, A2, c2, rfl, h1, h2⟩ := hr
  have HR := Lib.hid hr0
  have HF := Lib.hid hf
  have hn2 : y.length ≤ 1048576 := by have : x.length + y.length ≤ 1048576 := hf; omega
  obtain ⟨m, hm⟩ : ∃ m, m = (x, y, s).1.length := ⟨_, rfl⟩
  obtain ⟨n, hn⟩ : ∃ n, n = (x, y, s).2.1.length := ⟨_, rfl⟩
  have hn3 : n ≤ 1048576 := by rw [hn]; exact hn2
  rw [← hm, ← hn] at HR ⊢
  have HN := Lib.hid hn
  clear hr0 h1 h2 hf hm hn hn2
  obtain ⟨b, hb⟩ : ∃ b, b = jok (x, y, s) := ⟨_, rfl⟩
  have HJ := Lib.hid hb
  rw [← hb]
  clear hb
  go_enter Tryd.func9, Tryd.ntmps9
  go_wp2_with fail
  refine (bookOf_any _ B _ (x, y, s) (jty.rd_below HR.out (bel2 _ _ _) hB) (by simp; omega) HF.out).mono ?_
  rintro e w1 (⟨hj, rfl, hb1⟩ | ⟨hj, pb, pf, C1, C2, e1, e2, rfl, hk, hb1⟩)
  · have k0 : w1.heap[w.heap.size]? = some (.cells #[.slice A1 m c1, .slice A2 n c2, .int .i64 s] 25) := box_below (box_alloc (box_new _ _) _) hb1
    have k1 : w1.heap[w.heap.size + 1]? = some (.cells #[.slice none 0 0, .slice none 0 0, .int .i64 0] 25) := box_below (by have h := box_new (w.alloc (.cells #[.slice A1 m c1, .slice A2 n c2, .int .i64 s] 25)) (.cells #[.slice none 0 0, .slice none 0 0, .int .i64 0] 25); simpa using h) hb1
    have hb01 : Below w.heap.size w w1 := bel_then (bel2 _ _ _) hb1 (by simp; omega)
    have hlt := box_lt k1
    obtain rfl : b = false := HJ.out.trans hj
    obtain ⟨p0, p1, p2, _⟩ := box3 k0
    have K1 := Lib.hid k1
    clear hb1 k0 k1
    go_wp2_with fail
    refine (sameJournal_any _ B _ (x, y, s) (jty.rd_below HR.out hb01 hB) (Nat.le_trans hB hb01.size) HF.out).mono ?_
    rintro e w2 ⟨v2, S2, rfl, hO2, hb2⟩
    obtain ⟨D1, n1, d1, D2, n2, d2, s2, rfl⟩ := shape hO2
    obtain ⟨r0, r1, r2, f0, f1, f2⟩ := box3 (box_below K1.out hb2)
    have HO2 := Lib.hid hO2
    have HI2 := Lib.hid hO2.inn
    have HB2 := Lib.hid (bel_then hb01 hb2 hb01.size)
    have HS := Lib.hid (crashD_f hj kp)
    have hs2 := hb2.size
    clear hb2 hb01 hO2 hj
    go_wp2
    refine bodyPost_ret (v := .tuple #[.agg #[.slice D1 n1 d1, .slice D2 n2 d2, .int .i64 s2], .bool false]) (by simp [results, Tryd.results9, go_sem, r0, r1, r2]) rfl ?_
    rw [HS.out]
    exact made1_of HO2.out HB2.out (sets3 (S := fun k => k = w.heap.size + 1) rfl rfl rfl) (by omega) (fun k hk => by omega) (fun k hk e => by have := HI2.out k hk; omega)
  · have k1 : w1.heap[w.heap.size + 1]? = some (.cells #[.slice none 0 0, .slice none 0 0, .int .i64 0] 25) := box_below (by have h := box_new (w.alloc (.cells #[.slice A1 m c1, .slice A2 n c2, .int .i64 s] 25)) (.cells #[.slice none 0 0, .slice none 0 0, .int .i64 0] 25); simpa using h) hb1
    have hb01 : Below w.heap.size w w1 := bel_then (bel2 _ _ _) hb1 (by simp; omega)
    have hlt := box_lt k1
    obtain rfl : b = true := HJ.out.trans hj
    obtain ⟨b0, b1, _, _⟩ := box2 hk.hb
    have hlb : w.heap.size + 1 + 1 ≤ pf := by have := hk.lf; simp at this; omega
    have HK := Lib.hid hk
    have K1 := Lib.hid k1
    have HJ2 := Lib.hid hj
    clear hb1 hk k1 hj
    go_wp2_with fail
    refine (crash_any kp w1 _ pb pf C1 C2 e1 e2 (x, y, s) HK.out (by simp; omega) HJ2.out).mono ?_
    rintro e V ⟨rfl, A', q', hk2, ht2⟩
    have hsV := ht2.size
    have hbV : Below w.heap.size w V := Turned.low hb01 ht2 (fun k hk => by rw [hk]; omega) hb01.size
    have KV1 := Lib.hid (box_turned K1.out ht2 (by show ¬ (w.heap.size + 1 = pf); omega))
    have HK2 := Lib.hid hk2
    clear hk2 ht2 b0 b1
    go_wp2_with fail
    refine (journal_any V _ pb pf C1 A' e1 q' _ HK2.out (by simp; omega)).mono ?_
    rintro e w3 ⟨v3, rfl, hO3, hb3⟩
    obtain ⟨D1, n1, d1, D2, n2, d2, s2, rfl⟩ := shape hO3
    obtain ⟨r0, r1, r2, f0, f1, f2⟩ := box3 (box_below KV1.out hb3)
    have HO3 := Lib.hid hO3
    have HI3 : Hid (∀ k, (((w.alloc (.cells #[.slice A1 m c1, .slice A2 n c2, .int .i64 s] 25)).alloc (.cells #[.slice none 0 0, .slice none 0 0, .int .i64 0] 25)).heap.size ≤ k ∧ k < w3.heap.size) → w.heap.size + 1 < k) := fun k hk => by have h := hk.1; simp at h; omega
    have HB3 := Lib.hid (bel_then hbV hb3 hbV.size)
    clear hb3 hO3
    go_wp2
    refine bodyPost_ret (v := .tuple #[.agg #[.slice D1 n1 d1, .slice D2 n2 d2, .int .i64 s2], .bool true]) (by simp [results, Tryd.results9, go_sem, r0, r1, r2]) rfl ?_
    exact made1_of HO3.out HB3.out (sets3 (S := fun k => k = w.heap.size + 1) rfl rfl rfl) (by simp; omega) (fun k hk => by omega) (fun k hk e => by have := HI3.out k hk; omega)
end Go.Proofs.YtpghccbknlokcaaDoor.Jour
