/-
  CONTRACTS of the program's SyncTail, RoomLeft over this seat's translation.
-/
import Derived.Test.YtpghccbknlokcaaDoorJourBook
namespace Go.Proofs.YtpghccbknlokcaaDoor.Jour
open Go.ChangeShapes Go.WideShapes Go.ChangeAt Go.RowKit
open Go.Proofs.YtpghccbknlokcaaDoor.Bytes Go.Proofs.YtpghccbknlokcaaDoor.LK
set_option linter.unusedVariables false
set_option linter.unusedSimpArgs false

theorem syncD_t {d : JD} (h : jok d = true) : syncD d = (d.1, d.2.1.take d.2.1.length, (d.2.1.length : Int)) := by simp [syncD, h]
theorem syncD_f {d : JD} (h : jok d = false) : syncD d = d := by simp [syncD, h]
/-- The file's Safe is set. -/
theorem Book.sync {w : World} {lo pb pf : Nat} {A1 A2 : Option Addr} {c1 c2 : Nat} {d : JD} (h : Book w lo pb pf A1 A2 c1 c2 d) (s : Int) : Book (w.setCell ⟨pf, 1, none⟩ (.int .i64 s)) lo pb pf A1 A2 c1 c2 (d.1, d.2.1, s) :=
  ⟨box_other h.hb _ _ h.ne, box_set (i := 1) h.hf _, own_same h.o1 (fun k hk => Below.heap_setCell _ _ _ _ (h.n1 k hk).2), own_same h.o2 (fun k hk => Below.heap_setCell _ _ _ _ (h.n2 k hk).2), h.ap, h.lb, h.lf⟩

set_option maxRecDepth 100000 in
set_option maxHeartbeats 1600000 in
theorem roomLeft_any (w : World) (B : Nat) (v : Value) (d : JD) (hr : JRd w B v d) (hB : B ≤ w.heap.size) (hf : jty.Few d) :
    Calls Tryd.prog 14 #[v] w (Says (.int .i64 (roomV d)) w) := by
  have hr0 := hr
  obtain ⟨x, y, s⟩ := d
  obtain ⟨A1, c1, A2, c2, rfl, h1, h2⟩ := hr
  have HR := Lib.hid hr0
  have HF := Lib.hid hf
  have hn2 : y.length ≤ 1048576 := by have : x.length + y.length ≤ 1048576 := hf; omega
  obtain ⟨m, hm⟩ : ∃ m, m = (x, y, s).1.length := ⟨_, rfl⟩
  obtain ⟨n, hn⟩ : ∃ n, n = (x, y, s).2.1.length := ⟨_, rfl⟩
  have hn3 : n ≤ 1048576 := by rw [hn]; exact hn2
  rw [← hm, ← hn] at HR ⊢
  have HRM : Hid (roomV (x, y, s) = if jok (x, y, s) then 3000 - (n : Int) else -1) := by rw [hn]; rfl
  have HN := Lib.hid hn
  clear hr0 h1 h2 hf hm hn hn2
  have m1 := mRoom
  go_enter Tryd.func14, Tryd.ntmps14
  go_wp2_with fail
  refine (bookOf_any _ B _ (x, y, s) (jty.rd_below HR.out (bel1 _ _) hB) (by simp; omega) HF.out).mono ?_
  rintro e w1 (⟨hj, rfl, hb1⟩ | ⟨hj, pb, pf, C1, C2, e1, e2, rfl, hk, hb1⟩)
  · have HB1 := Lib.hid (bel_then (bel1 _ _) hb1 (by simp))
    have HJ := Lib.hid hj
    clear hb1 hj
    go_wp2
    go_ret
    exact ⟨by rw [HRM.out, HJ.out]; rfl, HB1.out⟩
  · have HB1 := Lib.hid (bel_then (bel1 _ _) hb1 (by simp))
    have HJ := Lib.hid hj
    obtain ⟨b0, b1, _, _⟩ := box2 hk.hb
    have KF : Hid (w1.heap[pf]? = some (fileO C2 n e2 s)) := by rw [HN.out]; exact hk.hf
    clear hb1 hj hk
    go_wp2_with fail
    refine (room_any pf C2 n e2 s _ KF.out hn3).mono ?_
    rintro e w2 ⟨rfl, rfl⟩
    go_wp2
    go_ret
    exact ⟨by rw [HRM.out, HJ.out]; rfl, HB1.out⟩

set_option maxRecDepth 100000 in
set_option maxHeartbeats 1600000 in
theorem syncTail_any (w : World) (B : Nat) (v : Value) (d : JD) (hr : JRd w B v d) (hB : B ≤ w.heap.size) (hf : jty.Few d) :
    Calls Tryd.prog 8 #[v] w (Made1 jty (syncD d) (.bool (jok d)) w) := by
  have hr0 := hr
  obtain ⟨x, y, s⟩ := d
  obtain ⟨A1, c1, A2, c2, rfl, h1, h2⟩ := hr
  have HR := Lib.hid hr0
  have HF := Lib.hid hf
  have hn2 : y.length ≤ 1048576 := by have : x.length + y.length ≤ 1048576 := hf; omega
  obtain ⟨m, hm⟩ : ∃ m, m = (x, y, s).1.length := ⟨_, rfl⟩
  obtain ⟨n, hn⟩ : ∃ n, n = (x, y, s).2.1.length := ⟨_, rfl⟩
  have hn3 : n ≤ 1048576 := by rw [hn]; exact hn2
  rw [← hm, ← hn] at HR ⊢
  have HN := Lib.hid hn
  clear hr0 h1 h2 hf hm hn hn2
  obtain ⟨b, hb⟩ : ∃ b, b = jok (x, y, s) := ⟨_, rfl⟩
  have HJ := Lib.hid hb
  rw [← hb]
  clear hb
  have m1 := mSync
  go_enter Tryd.func8, Tryd.ntmps8
  go_wp2_with fail
  refine (bookOf_any _ B _ (x, y, s) (jty.rd_below HR.out (bel2 _ _ _) hB) (by simp; omega) HF.out).mono ?_
  rintro e w1 (⟨hj, rfl, hb1⟩ | ⟨hj, pb, pf, C1, C2, e1, e2, rfl, hk, hb1⟩)
  · have k0 : w1.heap[w.heap.size]? = some (.cells #[.slice A1 m c1, .slice A2 n c2, .int .i64 s] 25) := box_below (box_alloc (box_new _ _) _) hb1
    have k1 : w1.heap[w.heap.size + 1]? = some (.cells #[.slice none 0 0, .slice none 0 0, .int .i64 0] 25) := box_below (by have h := box_new (w.alloc (.cells #[.slice A1 m c1, .slice A2 n c2, .int .i64 s] 25)) (.cells #[.slice none 0 0, .slice none 0 0, .int .i64 0] 25); simpa using h) hb1
    have hb01 : Below w.heap.size w w1 := bel_then (bel2 _ _ _) hb1 (by simp; omega)
    have hlt := box_lt k1
    obtain rfl : b = false := HJ.out.trans hj
    obtain ⟨p0, p1, p2, _⟩ := box3 k0
    have K1 := Lib.hid k1
    clear hb1 k0 k1
    go_wp2_with fail
    refine (sameJournal_any _ B _ (x, y, s) (jty.rd_below HR.out hb01 hB) (Nat.le_trans hB hb01.size) HF.out).mono ?_
    rintro e w2 ⟨v2, S2, rfl, hO2, hb2⟩
    obtain ⟨D1, n1, d1, D2, n2, d2, s2, rfl⟩ := shape hO2
    obtain ⟨r0, r1, r2, f0, f1, f2⟩ := box3 (box_below K1.out hb2)
    have HO2 := Lib.hid hO2
    have HI2 := Lib.hid hO2.inn
    have HB2 := Lib.hid (bel_then hb01 hb2 hb01.size)
    have HS := Lib.hid (syncD_f hj)
    have hs2 := hb2.size
    clear hb2 hb01 hO2 hj
    go_wp2
    refine bodyPost_ret (v := .tuple #[.agg #[.slice D1 n1 d1, .slice D2 n2 d2, .int .i64 s2], .bool false]) (by simp [results, Tryd.results8, go_sem, r0, r1, r2]) rfl ?_
    rw [HS.out]
    exact made1_of HO2.out HB2.out (sets3 (S := fun k => k = w.heap.size + 1) rfl rfl rfl) (by omega) (fun k hk => by omega) (fun k hk e => by have := HI2.out k hk; omega)
  · have k1 : w1.heap[w.heap.size + 1]? = some (.cells #[.slice none 0 0, .slice none 0 0, .int .i64 0] 25) := box_below (by have h := box_new (w.alloc (.cells #[.slice A1 m c1, .slice A2 n c2, .int .i64 s] 25)) (.cells #[.slice none 0 0, .slice none 0 0, .int .i64 0] 25); simpa using h) hb1
    have hb01 : Below w.heap.size w w1 := bel_then (bel2 _ _ _) hb1 (by simp; omega)
    have hlt := box_lt k1
    obtain rfl : b = true := HJ.out.trans hj
    obtain ⟨b0, b1, _, _⟩ := box2 hk.hb
    have KF : Hid (w1.heap[pf]? = some (fileO C2 n e2 s)) := by rw [HN.out]; exact hk.hf
    have hlb : w.heap.size + 1 + 1 ≤ pf := by have := hk.lf; simp at this; omega
    have HK := Lib.hid hk
    have K1 := Lib.hid k1
    have HJ2 := Lib.hid hj
    clear hb1 hk k1 hj
    go_wp2_with fail
    refine (sync_any pf C2 n e2 s _ KF.out hn3).mono ?_
    rintro e w2 ⟨rfl, rfl⟩
    have hk2 := HK.out.sync n
    obtain ⟨V, hV⟩ : ∃ V, V = w1.setCell ⟨pf, 1, none⟩ (.int .i64 n) := ⟨_, rfl⟩
    have hsV : V.heap.size = w1.heap.size := by rw [hV]; simp [World.setCell]
    have hbV : Below w.heap.size w V := by rw [hV]; exact hb01.setCell (p := ⟨pf, 1, none⟩) (by show w.heap.size ≤ pf; omega) _
    have k1V : V.heap[w.heap.size + 1]? = _ := (by rw [hV]; exact box_other K1.out _ _ (by show w.heap.size + 1 ≠ pf; omega) : V.heap[w.heap.size + 1]? = some (.cells #[.slice none 0 0, .slice none 0 0, .int .i64 0] 25))
    rw [← hV] at hk2 ⊢
    have HK2 := Lib.hid hk2
    have KV1 := Lib.hid k1V
    clear hV hk2 k1V
    go_wp2_with fail
    refine (journal_any V _ pb pf C1 C2 e1 e2 _ HK2.out (by simp; omega)).mono ?_
    rintro e w3 ⟨v3, rfl, hO3, hb3⟩
    obtain ⟨D1, n1, d1, D2, n2, d2, s2, rfl⟩ := shape hO3
    obtain ⟨r0, r1, r2, f0, f1, f2⟩ := box3 (box_below KV1.out hb3)
    have HO3 := Lib.hid hO3
    have HI3 : Hid (∀ k, (((w.alloc (.cells #[.slice A1 m c1, .slice A2 n c2, .int .i64 s] 25)).alloc (.cells #[.slice none 0 0, .slice none 0 0, .int .i64 0] 25)).heap.size ≤ k ∧ k < w3.heap.size) → w.heap.size + 1 < k) := fun k hk => by have h := hk.1; simp at h; omega
    have HB3 := Lib.hid (bel_then hbV hb3 hbV.size)
    clear hb3 hO3
    go_wp2
    refine bodyPost_ret (v := .tuple #[.agg #[.slice D1 n1 d1, .slice D2 n2 d2, .int .i64 s2], .bool true]) (by simp [results, Tryd.results8, go_sem, r0, r1, r2]) rfl ?_
    have e5 : syncD (x, y, s) = (x, y, (n : Int)) := by rw [syncD_t HJ2.out, List.take_of_length_le (Nat.le_refl _), HN.out]
    rw [e5]
    exact made1_of HO3.out HB3.out (sets3 (S := fun k => k = w.heap.size + 1) rfl rfl rfl) (by simp; omega) (fun k hk => by omega) (fun k hk e => by have := HI3.out k hk; omega)
end Go.Proofs.YtpghccbknlokcaaDoor.Jour
