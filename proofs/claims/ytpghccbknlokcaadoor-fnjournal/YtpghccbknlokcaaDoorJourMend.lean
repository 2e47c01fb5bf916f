/-
  MENDING: the contracts of the model's MendTail, of the book's mend and of the program's MendTail over this seat's translation.
-/
import Derived.Test.YtpghccbknlokcaaDoorJourC
import Derived.Test.YtpghccbknlokcaaDoorJourTop
import Derived.Test.YtpghccbknlokcaaDoorSpecScan
import Derived.Test.YtpghccbknlokcaaDoorImplScan
namespace Go.Proofs.YtpghccbknlokcaaDoor.Jour
open Go.ChangeShapes Go.WideShapes Go.ChangeAt Go.RowKit
open Go.Proofs.YtpghccbknlokcaaDoor.Bytes Go.Proofs.YtpghccbknlokcaaDoor.LK
open Go.Proofs.YtpghccbknlokcaaDoor.JourC (CRd CRd.rd)
set_option linter.unusedVariables false
set_option linter.unusedSimpArgs false

theorem sets3d {S : Nat → Prop} {w : World} {p1 p2 p3 : Addr} {u1 u2 u3 : Value} (h1 : S p1.block) (h2 : S p2.block) (h3 : S p3.block) :
    Turned S w ((((w.setCell p1 u1).setCell p2 u2).setCell p3 u3).drew) := by
  have h := sets3 (w := w) (u1 := u1) (u2 := u2) (u3 := u3) h1 h2 h3
  exact ⟨h.os, h.tape, h.output, h.size, h.block⟩
def mendD (d : JD) : JD := if jok d then (d.1, d.2.1.take (Rd.scanV d.2.1).2.1, (Rd.scanV d.2.1).2.1) else d
def lostV (d : JD) : Int := if jok d then d.2.1.length - (Rd.scanV d.2.1).2.1 else -1
theorem mendD_f {d : JD} (h : jok d = false) : mendD d = d := by simp [mendD, h]
theorem lostV_f {d : JD} (h : jok d = false) : lostV d = -1 := by simp [lostV, h]
theorem mendD_t {d : JD} (h : jok d = true) : mendD d = (d.1, d.2.1.take (Rd.scanV d.2.1).2.1, ((Rd.scanV d.2.1).2.1 : Int)) := by simp [mendD, h]
theorem lostV_t {d : JD} (h : jok d = true) : lostV d = d.2.1.length - (Rd.scanV d.2.1).2.1 := by simp [lostV, h]
theorem few_mend {d : JD} (h : jty.Few d) : jty.Few (mendD d) := by
  have h : d.1.length + d.2.1.length ≤ 1048576 := h
  unfold mendD
  split
  · show d.1.length + (d.2.1.take _).length ≤ 1048576
    rw [List.length_take]; omega
  · exact h


theorem blk_up {w : World} {B C : Nat} {aT aB : Addr} (h : Rd.ErrBlk B w aT aB) (hC : B ≤ C) : Rd.ErrBlk C w aT aB := ⟨⟨Nat.lt_of_lt_of_le h.lt.1 hC, Nat.lt_of_lt_of_le h.lt.2 hC⟩, h.ne, h.hT, h.hB⟩
/-- What the book's mend leaves. -/
def BookMend (w : World) (lo pb pf : Nat) (A1 : Option Addr) (c1 : Nat) (d : JD) (x : Int) (e : Ending) (w' : World) : Prop :=
  e = .returned (.int .i64 x) ∧ ∃ A' q, Book w' lo pb pf A1 A' c1 q d ∧ Turned (fun k => k = pf) w w'

set_option maxRecDepth 100000 in
set_option maxHeartbeats 1600000 in
theorem mend_any (w : World) (lo pb pf : Nat) (A1 A2 : Option Addr) (c1 c2 : Nat) (d : JD) (aT aB aO : Addr) (h : Book w lo pb pf A1 A2 c1 c2 d) (hlo : lo ≤ w.heap.size) (hj : jok d = true) (hfew : jty.Few d) (hE : Rd.Errs w.heap.size w aT aB aO) (hK : Rd.ErrBlk w.heap.size w aT aB) :
    Calls Tryd.prog 30 #[.pointer (some ⟨pb, 0, none⟩)] w (BookMend w lo pb pf A1 c1 (mendD d) (d.2.1.length - (Rd.scanV d.2.1).2.1)) := by
  obtain ⟨x, y, s⟩ := d
  show Calls Tryd.prog 30 #[.pointer (some ⟨pb, 0, none⟩)] w (BookMend w lo pb pf A1 c1 (mendD (x, y, s)) ((y.length : Int) - ((Rd.scanV y).2.1 : Int)))
  obtain ⟨n, hn⟩ : ∃ n, n = y.length := ⟨_, rfl⟩
  obtain ⟨q, hq⟩ : ∃ q, q = (Rd.scanV y).2.1 := ⟨_, rfl⟩
  obtain ⟨rl, hrl⟩ : ∃ rl, rl = (Rd.scanV y).1.length := ⟨_, rfl⟩
  obtain ⟨tk, htk⟩ : ∃ tk, tk = (Rd.scanV y).2.2 := ⟨_, rfl⟩
  have hby : ∀ z ∈ y, 0 ≤ z ∧ z < 256 := h.o2.2.1
  have hqn : q ≤ n := by rw [hq, hn]; exact (JourC.scan_in hby).1
  have hn2 : n ≤ 1048576 := by have h6 : x.length + y.length ≤ 1048576 := hfew; omega
  have e5 : mendD (x, y, s) = (x, y.take q, (q : Int)) := by rw [mendD_t hj, hq]
  rw [e5, ← hn, ← hq]
  have HAN : Hid (∀ (W : World) (e : Ending) (w' : World), Rd.AnsS W y e w' → ∃ A c, e = .returned (.tuple #[.slice A rl c, .int .i64 (q : Int), .int .i64 tk]) ∧ Below W.heap.size W w') := by
    rw [hq, hrl, htk]
    intro W e w' h
    obtain ⟨A, c, e1, _, e3⟩ := h
    exact ⟨A, c, e1, e3⟩
  have H := Lib.hid h
  have k2 : w.heap[pf]? = some (fileO A2 n c2 s) := by rw [hn]; exact h.hf
  have hbt : IsBytes w w.heap.size A2 n y := by rw [hn]; exact h.o2.bytes
  have hroom : n ≤ c2 := by rw [hn]; exact JourC.own_room h.o2
  have HBT := Lib.hid hbt
  have HN := Lib.hid hn
  obtain ⟨b0, b1, _, _⟩ := box2 h.hb
  have KF := Lib.hid k2
  have HE := Lib.hid hE
  have HEK := Lib.hid hK
  clear h k2 hbt hn hq hrl htk e5 hj hfew hby hE hK
  have m1 := mHeld
  have m3 := mCut
  obtain ⟨L, hL⟩ : ∃ L : Int, L = (n : Int) - (q : Int) := ⟨_, rfl⟩
  have hwr : IntKind.i64.wrap ((n : Int) - (q : Int)) = L := by rw [hL, IntKind.wrap_i64]; omega
  rw [← hL]
  clear hL
  go_enter Tryd.func30, Tryd.ntmps30
  go_wp2_with fail
  refine (held_any pf A2 n c2 s _ KF.out).mono ?_
  rintro e w1 ⟨rfl, rfl⟩
  go_wp2_with fail
  refine (Rd.scanFrames_any A2 n c2 y w1.heap.size aT aB aO _ HE.out HEK.out HBT.out (Nat.le_refl _) hn2 hroom).mono ?_
  intro e w2 hA
  obtain ⟨D, dc, rfl, hb2⟩ := HAN.out _ _ _ hA
  have H2 := Lib.hid (H.out.below hb2)
  have KF2 := Lib.hid (box_below KF.out hb2)
  have HBT2 := Lib.hid (HBT.out.below hb2 (Nat.le_refl _))
  obtain ⟨d0, d1, _, _⟩ := box2 H2.out.hb
  have hs2 := hb2.size
  have HB2 := Lib.hid hb2
  clear hA hb2 b0 b1
  go_wp2_with fail
  refine (held_any pf A2 n c2 s _ KF2.out).mono ?_
  rintro e w3 ⟨rfl, rfl⟩
  go_wp2_with fail
  refine (cut_any pf A2 n c2 s y w1.heap.size q _ KF2.out HBT2.out hs2 hn2 hqn).mono ?_
  rintro e w4 ⟨A', rfl, hf3, ho3, ht3⟩
  have HB3 := Lib.hid (H2.out.cut (by have := HN.out; show q ≤ y.length; omega) (Nat.le_trans hlo hs2) hf3 ho3 ht3)
  have HT3 := Lib.hid ((Turned.of_below HB2.out).trans ht3)
  clear hf3 ho3 ht3
  go_wp2
  go_ret
  exact ⟨rfl, A', q, HB3.out, HT3.out⟩
set_option maxRecDepth 100000 in
set_option maxHeartbeats 1600000 in
theorem mendTail_any (aT aB aO : Addr) (w : World) (B : Nat) (v : Value) (d : JD) (hr : JRd w B v d) (hB : B ≤ w.heap.size) (hf : jty.Few d) (hE : Rd.Errs w.heap.size w aT aB aO) (hK : Rd.ErrBlk w.heap.size w aT aB) :
    Calls Tryd.prog 10 #[v] w (Made1 jty (mendD d) (.int .i64 (lostV d)) w) := by
  have hr0 := hr
  obtain ⟨x, y, s⟩ := d
  obtain ⟨A1, c1, A2, c2, rfl, h1, h2⟩ := hr
  have HR := Lib.hid hr0
  have HF := Lib.hid hf
  have hn2 : y.length ≤ 1048576 := by have : x.length + y.length ≤ 1048576 := hf; omega
  obtain ⟨m, hm⟩ : ∃ m, m = (x, y, s).1.length := ⟨_, rfl⟩
  obtain ⟨n, hn⟩ : ∃ n, n = (x, y, s).2.1.length := ⟨_, rfl⟩
  have hn3 : n ≤ 1048576 := by rw [hn]; exact hn2
  rw [← hm, ← hn] at HR ⊢
  have HN := Lib.hid hn
  clear hr0 h1 h2 hf hm hn hn2
  obtain ⟨b, hb⟩ : ∃ b, b = jok (x, y, s) := ⟨_, rfl⟩
  have HJ := Lib.hid hb
  clear hb
  have HE := Lib.hid hE
  have HEK := Lib.hid hK
  clear hE hK
  go_enter Tryd.func10, Tryd.ntmps10
  go_wp2_with fail
  refine (bookOf_any _ B _ (x, y, s) (jty.rd_below HR.out (bel2 _ _ _) hB) (by simp; omega) HF.out).mono ?_
  rintro e w1 (⟨hj, rfl, hb1⟩ | ⟨hj, pb, pf, C1, C2, e1, e2, rfl, hk, hb1⟩)
  · have k0 : w1.heap[w.heap.size]? = some (.cells #[.slice A1 m c1, .slice A2 n c2, .int .i64 s] 25) := box_below (box_alloc (box_new _ _) _) hb1
    have k1 : w1.heap[w.heap.size + 1]? = some (.cells #[.slice none 0 0, .slice none 0 0, .int .i64 0] 25) := box_below (by have h := box_new (w.alloc (.cells #[.slice A1 m c1, .slice A2 n c2, .int .i64 s] 25)) (.cells #[.slice none 0 0, .slice none 0 0, .int .i64 0] 25); simpa using h) hb1
    have hb01 : Below w.heap.size w w1 := bel_then (bel2 _ _ _) hb1 (by simp; omega)
    have hlt := box_lt k1
    obtain rfl : b = false := HJ.out.trans hj
    obtain ⟨p0, p1, p2, _⟩ := box3 k0
    have K1 := Lib.hid k1
    clear hb1 k0 k1
    go_wp2_with fail
    refine (sameJournal_any _ B _ (x, y, s) (jty.rd_below HR.out hb01 hB) (Nat.le_trans hB hb01.size) HF.out).mono ?_
    rintro e w2 ⟨v2, S2, rfl, hO2, hb2⟩
    obtain ⟨D1, n1, d1, D2, n2, d2, s2, rfl⟩ := shape hO2
    obtain ⟨r0, r1, r2, f0, f1, f2⟩ := box3 (box_below K1.out hb2)
    have HO2 := Lib.hid hO2
    have HI2 := Lib.hid hO2.inn
    have HB2 := Lib.hid (bel_then hb01 hb2 hb01.size)
    have HS := Lib.hid (mendD_f hj)
    have hs2 := hb2.size
    clear hb2 hb01 hO2 hj
    go_wp2
    refine bodyPost_ret (v := .tuple #[.agg #[.slice D1 n1 d1, .slice D2 n2 d2, .int .i64 s2], .int .i64 (-1)]) (by simp [results, Tryd.results10, go_sem, r0, r1, r2]) rfl ?_
    rw [HS.out, lostV_f HJ.out.symm]
    exact made1_of HO2.out HB2.out (sets3 (S := fun k => k = w.heap.size + 1) rfl rfl rfl) (by omega) (fun k hk => by omega) (fun k hk e => by have := HI2.out k hk; omega)
  · have k1 : w1.heap[w.heap.size + 1]? = some (.cells #[.slice none 0 0, .slice none 0 0, .int .i64 0] 25) := box_below (by have h := box_new (w.alloc (.cells #[.slice A1 m c1, .slice A2 n c2, .int .i64 s] 25)) (.cells #[.slice none 0 0, .slice none 0 0, .int .i64 0] 25); simpa using h) hb1
    have hb01 : Below w.heap.size w w1 := bel_then (bel2 _ _ _) hb1 (by simp; omega)
    have hlt := box_lt k1
    obtain rfl : b = true := HJ.out.trans hj
    obtain ⟨b0, b1, _, _⟩ := box2 hk.hb
    have hlb : w.heap.size + 1 + 1 ≤ pf := by have := hk.lf; simp at this; omega
    have HK := Lib.hid hk
    have K1 := Lib.hid k1
    have HJ2 := Lib.hid hj
    clear hb1 hk k1 hj
    go_wp2_with fail
    refine (mend_any w1 _ pb pf C1 C2 e1 e2 (x, y, s) aT aB aO HK.out (by simp; omega) HJ2.out HF.out (Rd.errs_up (HE.out.below hb01 (Nat.le_refl _)) hb01.size) (blk_up (HEK.out.below hb01 (Nat.le_refl _)) hb01.size)).mono ?_
    rintro e V ⟨rfl, A', q', hk2, ht2⟩
    have hsV := ht2.size
    have hbV : Below w.heap.size w V := Turned.low hb01 ht2 (fun k hk => by rw [hk]; omega) hb01.size
    have KV1 := Lib.hid (box_turned K1.out ht2 (by show ¬ (w.heap.size + 1 = pf); omega))
    have HK2 := Lib.hid hk2
    have HLV : Hid (lostV (x, y, s) = y.length - (Rd.scanV y).2.1) := lostV_t HJ2.out
    obtain ⟨L, hL⟩ : ∃ L : Int, L = (y.length : Int) - ((Rd.scanV y).2.1 : Int) := ⟨_, rfl⟩
    rw [← hL] at HLV ⊢
    clear hk2 ht2 b0 b1 hL
    go_wp2_with fail
    refine (journal_any V _ pb pf C1 A' e1 q' _ HK2.out (by simp; omega)).mono ?_
    rintro e w3 ⟨v3, rfl, hO3, hb3⟩
    obtain ⟨D1, n1, d1, D2, n2, d2, s2, rfl⟩ := shape hO3
    obtain ⟨r0, r1, r2, f0, f1, f2⟩ := box3 (box_below KV1.out hb3)
    have HO3 := Lib.hid hO3
    have HI3 : Hid (∀ k, (((w.alloc (.cells #[.slice A1 m c1, .slice A2 n c2, .int .i64 s] 25)).alloc (.cells #[.slice none 0 0, .slice none 0 0, .int .i64 0] 25)).heap.size ≤ k ∧ k < w3.heap.size) → w.heap.size + 1 < k) := fun k hk => by have h := hk.1; simp at h; omega
    have HB3 := Lib.hid (bel_then hbV hb3 hbV.size)
    clear hb3 hO3
    go_wp2
    refine bodyPost_ret (v := .tuple #[.agg #[.slice D1 n1 d1, .slice D2 n2 d2, .int .i64 s2], .int .i64 L]) (by simp [results, Tryd.results10, go_sem, r0, r1, r2]) rfl ?_
    rw [HLV.out]
    exact made1_of HO3.out HB3.out (sets3 (S := fun k => k = w.heap.size + 1) rfl rfl rfl) (by simp; omega) (fun k hk => by omega) (fun k hk e => by have := HI3.out k hk; omega)
end Go.Proofs.YtpghccbknlokcaaDoor.Jour
