/-
  STORES as a kind of data: the contracts of the laws' eqStore, markStore, heldStore over this seat's translation.
-/
import Derived.Test.YtklgjjmcflgjeaaEngTy
import Derived.Test.YtklgjjmcflgjeaaJour
namespace Go.Proofs.Ytklgjjmcflgjeaa.StoTy
open Go.ChangeShapes Go.WideShapes Go.ChangeAt Go.RowKit Go.Joins Go.Deep
open Go.Proofs.Ytklgjjmcflgjeaa.LK Go.Proofs.Ytklgjjmcflgjeaa.Pods Go.Proofs.Ytklgjjmcflgjeaa.EngV Go.Proofs.Ytklgjjmcflgjeaa.Seg Go.Proofs.Ytklgjjmcflgjeaa.EngTy
open Go.Proofs.Ytklgjjmcflgjeaa.Jour (jty JD)
set_option linter.unusedVariables false

/-- A Store. -/
structure Sto where
  sp : Spc
  rv : Int
  j : JD
  e : Eng
  ct : Int
def zeroS : Sto := ⟨Spc.zero, 0, ([], [], 0), zeroE, 0⟩
def joL (j : JD) (A1 : Option Addr) (n1 c1 : Nat) (A2 : Option Addr) (n2 c2 : Nat) : List Value := [.slice A1 n1 c1, .slice A2 n2 c2, .int .i64 j.2.2]
def stL (d : Sto) (A1 : Option Addr) (n1 c1 : Nat) (A2 : Option Addr) (n2 c2 : Nat) (A : Option Addr) (n c : Nat) : List Value := [.int .i64 d.sp.x0, .int .i64 d.sp.x1, .int .i64 d.sp.x2, .int .i64 d.sp.x3, .int .i64 d.sp.x4, .int .i64 d.sp.x5, .int .i64 d.sp.x6, .int .i64 d.sp.x7, .int .i64 d.sp.x8, .int .i64 d.sp.x9, .int .i64 d.sp.x10, .int .i64 d.rv, .slice A1 n1 c1, .slice A2 n2 c2, .int .i64 d.j.2.2, .int .i64 d.e.sp.x0, .int .i64 d.e.sp.x1, .int .i64 d.e.sp.x2, .int .i64 d.e.sp.x3, .int .i64 d.e.sp.x4, .int .i64 d.e.sp.x5, .int .i64 d.e.sp.x6, .int .i64 d.e.sp.x7, .int .i64 d.e.sp.x8, .int .i64 d.e.sp.x9, .int .i64 d.e.sp.x10,
  .int .i64 d.e.now, .int .i64 d.e.ph, .int .i64 d.e.tg, .int .i64 d.e.gd, .slice A n c, .int .i64 d.e.nx, .int .i64 d.e.st, .int .i64 d.e.tr, .int .i64 d.e.wt, .int .i64 d.ct]
section
variable (d : Sto) (A1 : Option Addr) (n1 c1 : Nat) (A2 : Option Addr) (n2 c2 : Nat) (A : Option Addr) (n c : Nat)
theorem stL_sp : ((stL d A1 n1 c1 A2 n2 c2 A n c).drop 0).take (spL d.sp).length = spL d.sp := rfl
theorem stL_jo : ((stL d A1 n1 c1 A2 n2 c2 A n c).drop 12).take (joL d.j A1 n1 c1 A2 n2 c2).length = joL d.j A1 n1 c1 A2 n2 c2 := rfl
theorem stL_en : ((stL d A1 n1 c1 A2 n2 c2 A n c).drop 15).take (enL d.e A n c).length = enL d.e A n c := rfl
theorem stL_all : ((stL d A1 n1 c1 A2 n2 c2 A n c).drop 0).take (stL d A1 n1 c1 A2 n2 c2 A n c).length = stL d A1 n1 c1 A2 n2 c2 A n c := rfl
theorem stL_one : ∀ v ∈ stL d A1 n1 c1 A2 n2 c2 A n c, v.oneCell' = true := by simp [stL, Value.oneCell']
theorem joL_one (j : JD) : ∀ v ∈ joL j A1 n1 c1 A2 n2 c2, v.oneCell' = true := by simp [joL, Value.oneCell']
end
def SRd (w : World) (B : Nat) (v : Value) (d : Sto) : Prop := ∃ A1 n1 c1 A2 n2 c2 A n c, v = .agg (stL d A1 n1 c1 A2 n2 c2 A n c).toArray ∧ jty.Rd w B (.agg (joL d.j A1 n1 c1 A2 n2 c2).toArray) d.j ∧ ety.Rd w B (enV d.e A n c) d.e
def SOwn (w : World) (S : Nat → Prop) (v : Value) (d : Sto) : Prop := ∃ A1 n1 c1 A2 n2 c2 A n c, ∃ SJ SE : Nat → Prop, v = .agg (stL d A1 n1 c1 A2 n2 c2 A n c).toArray ∧ jty.Own w SJ (.agg (joL d.j A1 n1 c1 A2 n2 c2).toArray) d.j ∧ ety.Own w SE (enV d.e A n c) d.e ∧ (∀ k, SJ k → S k) ∧ (∀ k, SE k → S k) ∧ (∀ k, SJ k → ¬ SE k)
def sty : Ty where
  D := Sto
  Rd := SRd
  Own := SOwn
  Few := fun d => d.j.1.length + d.j.2.1.length ≤ 1048576 ∧ d.e.ps.length ≤ 1048576
  cnt := fun d => d.j.1.length + d.j.2.1.length + 5 * d.e.ps.length
  mark := fun k d => { d with j := jty.mark k d.j, e := ety.mark (k + jty.cnt d.j) d.e }
  rd_below := by
    rintro w w' B C v d ⟨A1, n1, c1, A2, n2, c2, A, n, c, rfl, h1, h2⟩ hb hC
    exact ⟨A1, n1, c1, A2, n2, c2, A, n, c, rfl, jty.rd_below h1 hb hC, ety.rd_below h2 hb hC⟩
  own_rd := by
    rintro w S v d B ⟨A1, n1, c1, A2, n2, c2, A, n, c, SJ, SE, rfl, h1, h2, s1, s2, _⟩ hB
    exact ⟨A1, n1, c1, A2, n2, c2, A, n, c, rfl, jty.own_rd B h1 (fun k hk => hB k (s1 k hk)), ety.own_rd B h2 (fun k hk => hB k (s2 k hk))⟩
  own_same := by
    rintro w w' S v d ⟨A1, n1, c1, A2, n2, c2, A, n, c, SJ, SE, rfl, h1, h2, s1, s2, s3⟩ hs
    exact ⟨A1, n1, c1, A2, n2, c2, A, n, c, SJ, SE, rfl, jty.own_same h1 (fun k hk => hs k (s1 k hk)), ety.own_same h2 (fun k hk => hs k (s2 k hk)), s1, s2, s3⟩
  few_cnt := by intro d h; omega
theorem shape {w : World} {lo hi : Nat} {S : Nat → Prop} {v : Value} {d : Sto} (h : Has sty w lo hi S v d) : ∃ A1 n1 c1 A2 n2 c2 A n c, v = .agg (stL d A1 n1 c1 A2 n2 c2 A n c).toArray := by
  obtain ⟨A1, n1, c1, A2, n2, c2, A, n, c, SJ, SE, e, _⟩ := h.own
  exact ⟨A1, n1, c1, A2, n2, c2, A, n, c, e⟩
set_option maxRecDepth 100000 in
set_option maxHeartbeats 3200000 in
theorem eqStore_any : EqC 9 sty := by
  rintro w B B' v v' d ⟨A1, n1, c1, A2, n2, c2, A, n, c, rfl, h1, h2⟩ ⟨D1, m1, e1, D2, m2, e2, D, m, e, rfl, g1, g2⟩ hB hB' hf
  have hf1 : jty.Few d.j := hf.1
  have hf2 : ety.Few d.e := hf.2
  show Calls _ _ #[.agg (stL d A1 n1 c1 A2 n2 c2 A n c).toArray, .agg (stL d D1 m1 e1 D2 m2 e2 D m e).toArray] _ _
  have H1 := Lib.hid h1
  have H2 := Lib.hid h2
  have G1 := Lib.hid g1
  have G2 := Lib.hid g2
  have F1 := Lib.hid hf1
  have F2 := Lib.hid hf2
  clear h1 h2 g1 g2 hf hf1 hf2
  have KA : Hid (((w.alloc (.cells (stL d A1 n1 c1 A2 n2 c2 A n c).toArray 34)).alloc (.cells (stL d D1 m1 e1 D2 m2 e2 D m e).toArray 34)).heap[w.heap.size]? = some (.cells (stL d A1 n1 c1 A2 n2 c2 A n c).toArray 34)) := box_alloc (box_new w _) _
  have KC : Hid (((w.alloc (.cells (stL d A1 n1 c1 A2 n2 c2 A n c).toArray 34)).alloc (.cells (stL d D1 m1 e1 D2 m2 e2 D m e).toArray 34)).heap[w.heap.size + 1]? = some (.cells (stL d D1 m1 e1 D2 m2 e2 D m e).toArray 34)) := by have h := box_new (w.alloc (.cells (stL d A1 n1 c1 A2 n2 c2 A n c).toArray 34)) (.cells (stL d D1 m1 e1 D2 m2 e2 D m e).toArray 34); simp only [World.size_alloc] at h; exact h
  have HB : Hid (Below w.heap.size w ((w.alloc (.cells (stL d A1 n1 c1 A2 n2 c2 A n c).toArray 34)).alloc (.cells (stL d D1 m1 e1 D2 m2 e2 D m e).toArray 34))) := bel2 _ _ _
  go_enter Try.func9, Try.ntmps9
  go_wp2_with (first | (refine wpList_get rfl 24 _ rfl w.heap.size 0 rfl KA.out (spL d.sp) (stL_sp d A1 n1 c1 A2 n2 c2 A n c) Try.underlying24 rfl (by kernel_rfl) ?_) | (refine wpList_get rfl 24 _ rfl (w.heap.size + 1) 0 rfl KC.out (spL d.sp) (stL_sp d D1 m1 e1 D2 m2 e2 D m e) Try.underlying24 rfl (by kernel_rfl) ?_))
  refine (Sp.eqSpec_same d.sp.x0 d.sp.x1 d.sp.x2 d.sp.x3 d.sp.x4 d.sp.x5 d.sp.x6 d.sp.x7 d.sp.x8 d.sp.x9 d.sp.x10 _).mono ?_
  rintro q w1 ⟨rfl, hb⟩
  have KA1 := Lib.hid (box_below KA.out hb)
  have KC1 := Lib.hid (box_below KC.out hb)
  have HB1 := Lib.hid (bel_then HB.out hb HB.out.size)
  clear KA KC HB hb
  have ca : w1.cell? ⟨w.heap.size, 11, none⟩ = some (.int .i64 d.rv) := box_cell KA1.out 11 _ rfl
  have cc : w1.cell? ⟨w.heap.size + 1, 11, none⟩ = some (.int .i64 d.rv) := box_cell KC1.out 11 _ rfl
  go_wp2_with (first | (refine wpList_get rfl 27 _ rfl w.heap.size 12 rfl KA1.out (joL d.j A1 n1 c1 A2 n2 c2) (stL_jo d A1 n1 c1 A2 n2 c2 A n c) Try.underlying27 rfl (by kernel_rfl) ?_) | (refine wpList_get rfl 27 _ rfl (w.heap.size + 1) 12 rfl KC1.out (joL d.j D1 m1 e1 D2 m2 e2) (stL_jo d D1 m1 e1 D2 m2 e2 D m e) Try.underlying27 rfl (by kernel_rfl) ?_))
  refine (Jour.eqJournal_any _ B B' _ _ d.j (jty.rd_below H1.out HB1.out hB) (jty.rd_below G1.out HB1.out hB') (Nat.le_trans hB HB1.out.size) (Nat.le_trans hB' HB1.out.size) F1.out).mono ?_
  rintro q w2 ⟨rfl, hb⟩
  have KA2 := Lib.hid (box_below KA1.out hb)
  have KC2 := Lib.hid (box_below KC1.out hb)
  have HB2 := Lib.hid (bel_then HB1.out hb HB1.out.size)
  clear KA1 KC1 HB1 hb ca cc
  go_wp2_with (first | (refine wpList_get rfl 32 _ rfl w.heap.size 15 rfl KA2.out (enL d.e A n c) (stL_en d A1 n1 c1 A2 n2 c2 A n c) Try.underlying32 rfl (by kernel_rfl) ?_) | (refine wpList_get rfl 32 _ rfl (w.heap.size + 1) 15 rfl KC2.out (enL d.e D m e) (stL_en d D1 m1 e1 D2 m2 e2 D m e) Try.underlying32 rfl (by kernel_rfl) ?_))
  refine (EngTy.eqEngine_any _ B B' _ _ d.e (ety.rd_below H2.out HB2.out hB) (ety.rd_below G2.out HB2.out hB') (Nat.le_trans hB HB2.out.size) (Nat.le_trans hB' HB2.out.size) F2.out).mono ?_
  rintro q w3 ⟨rfl, hb⟩
  have KA3 := Lib.hid (box_below KA2.out hb)
  have KC3 := Lib.hid (box_below KC2.out hb)
  have HB3 := Lib.hid (bel_then HB2.out hb HB2.out.size)
  clear KA2 KC2 HB2 hb
  have ca : w3.cell? ⟨w.heap.size, 35, none⟩ = some (.int .i64 d.ct) := box_cell KA3.out 35 _ rfl
  have cc : w3.cell? ⟨w.heap.size + 1, 35, none⟩ = some (.int .i64 d.ct) := box_cell KC3.out 35 _ rfl
  go_wp2
  go_ret
  exact ⟨rfl, HB3.out⟩
set_option maxRecDepth 100000 in
set_option maxHeartbeats 3200000 in
theorem markStore_any (w : World) (lo hi : Nat) (S : Nat → Prop) (v : Value) (d : Sto) (k : Int) (hH : Has sty w lo hi S v d) (hf : sty.Few d) (hk0 : 0 ≤ k) (hk1 : k ≤ 100000000) :
    Calls Try.prog 10 #[v, .int .i64 k] w fun e w' => e = .returned (.int .i64 (k + sty.cnt d)) ∧ Has sty w' lo hi S v (sty.mark k d) ∧ Turned S w w' := by
  obtain ⟨⟨A1, n1, c1, A2, n2, c2, A, n, c, SJ, SE, rfl, h1, h2, s1, s2, s3⟩, hin, hhi⟩ := hH
  have F1 : Hid (jty.Few d.j) := hf.1
  have F2 : Hid (ety.Few d.e) := hf.2
  have HJ : Hid (Has jty (w.alloc (.cells (stL d A1 n1 c1 A2 n2 c2 A n c).toArray 34)) lo hi SJ (.agg (joL d.j A1 n1 c1 A2 n2 c2).toArray) d.j) := (⟨h1, fun k hk => hin k (s1 k hk), hhi⟩ : Has jty w lo hi SJ _ d.j).alloc _
  have HE : Hid (Has ety (w.alloc (.cells (stL d A1 n1 c1 A2 n2 c2 A n c).toArray 34)) lo hi SE (enV d.e A n c) d.e) := (⟨h2, fun k hk => hin k (s2 k hk), hhi⟩ : Has ety w lo hi SE _ d.e).alloc _
  have KB : Hid ((w.alloc (.cells (stL d A1 n1 c1 A2 n2 c2 A n c).toArray 34)).heap[w.heap.size]? = some (.cells (stL d A1 n1 c1 A2 n2 c2 A n c).toArray 34)) := box_new w _
  have HS1 := Lib.hid s1
  have HS2 := Lib.hid s2
  have HS3 := Lib.hid s3
  have HIN := Lib.hid hin
  clear h1 h2 s1 s2 s3 hin
  obtain ⟨q, hq⟩ : ∃ q : Int, q = k + (jty.cnt d.j : Int) := ⟨_, rfl⟩
  have hc1 : (jty.cnt d.j : Int) ≤ 1048576 := by have h : d.j.1.length + d.j.2.1.length ≤ 1048576 := F1.out; show ((d.j.1.length + d.j.2.1.length : Nat) : Int) ≤ _; omega
  have hq0 : 0 ≤ q := by omega
  have hq1 : q ≤ 200000000 := by omega
  have HQ := Lib.hid hq
  clear hq hc1
  show Calls _ _ #[.agg (stL d A1 n1 c1 A2 n2 c2 A n c).toArray, _] _ _
  go_enter Try.func10, Try.ntmps10
  go_wp2_with (refine wpList_get rfl 27 _ rfl _ 12 rfl KB.out (joL d.j A1 n1 c1 A2 n2 c2) (stL_jo d A1 n1 c1 A2 n2 c2 A n c) Try.underlying27 rfl (by kernel_rfl) ?_)
  refine (Jour.markJournal_any _ lo hi SJ _ d.j k HJ.out F1.out hk0 (by omega)).mono ?_
  rintro e w2 ⟨rfl, hO, ht⟩
  rw [show (k + ((jty.cnt d.j : Nat) : Int)) = q from HQ.out.symm]
  have HJ2 := Lib.hid hO
  have HE2 := Lib.hid (HE.out.turned ht (fun q h1 h2 => HS3.out q h2 h1))
  have KB2 := Lib.hid (box_turned KB.out ht (fun h => by have := HIN.out _ (HS1.out _ h); omega))
  have HT2 : Hid (Turned S w w2) := (Turned.of_below (bel1 w _)).trans (ht.wide HS1.out)
  clear hO ht HJ HE KB
  go_wp2_with (refine wpList_get rfl 32 _ rfl _ 15 rfl KB2.out (enL d.e A n c) (stL_en d A1 n1 c1 A2 n2 c2 A n c) Try.underlying32 rfl (by kernel_rfl) ?_)
  refine (EngTy.markEngine_any _ lo hi SE _ d.e q HE2.out F2.out hq0 hq1).mono ?_
  rintro e w3 ⟨rfl, hO, ht⟩
  have HE3 := Lib.hid hO
  have HJ3 := Lib.hid (HJ2.out.turned ht (fun q h1 h2 => HS3.out q h1 h2))
  have HT3 : Hid (Turned S w w3) := HT2.out.trans (ht.wide HS2.out)
  have HIN3 : Hid (hi ≤ w3.heap.size) := Nat.le_trans HE2.out.hi ht.size
  clear hO ht HJ2 HE2 KB2 HT2
  go_wp2
  go_ret
  obtain ⟨jA1, jc1, jA2, jc2, je, jr⟩ := HJ3.out.own
  obtain ⟨eA, ec, ee, er⟩ := HE3.out.own
  have e1 : (k + ((sty.cnt d : Nat) : Int)) = q + ((ety.cnt d.e : Nat) : Int) := by
    rw [HQ.out]
    show k + ((d.j.1.length + d.j.2.1.length + 5 * d.e.ps.length : Nat) : Int) = k + ((d.j.1.length + d.j.2.1.length : Nat) : Int) + ((5 * d.e.ps.length : Nat) : Int)
    omega
  refine ⟨by rw [e1]; rfl, ⟨⟨A1, n1, c1, A2, n2, c2, A, n, c, SJ, SE, rfl, HJ3.out.own, ?_, HS1.out, HS2.out, HS3.out⟩, HIN.out, HIN3.out⟩, HT3.out⟩
  show ety.Own w3 SE _ (ety.mark (k + jty.cnt d.j) d.e)
  rw [← HQ.out]
  exact HE3.out.own
set_option maxRecDepth 100000 in
set_option maxHeartbeats 3200000 in
theorem heldStore_any (w : World) (B : Nat) (v : Value) (d : Sto) (k : Int) (hR : sty.Rd w B v (sty.mark k d)) (hB : B ≤ w.heap.size) (hf : sty.Few d) (hk0 : 0 ≤ k) (hk1 : k ≤ 100000000) :
    Calls Try.prog 11 #[v, .int .i64 k] w (Says (.int .i64 (k + sty.cnt d)) w) := by
  obtain ⟨A1, n1, c1, A2, n2, c2, A, n, c, rfl, h1, h2⟩ := hR
  have F1 : Hid (jty.Few d.j) := hf.1
  have F2 : Hid (ety.Few d.e) := hf.2
  obtain ⟨D, hD⟩ : ∃ D, D = sty.mark k d := ⟨_, rfl⟩
  have h1 : jty.Rd w B (.agg (joL D.j A1 n1 c1 A2 n2 c2).toArray) (jty.mark k d.j) := by rw [hD]; exact h1
  have h2 : ety.Rd w B (enV D.e A n c) (ety.mark (k + jty.cnt d.j) d.e) := by rw [hD]; exact h2
  show Calls _ _ #[.agg (stL (sty.mark k d) A1 n1 c1 A2 n2 c2 A n c).toArray, _] _ _
  rw [← hD]
  clear hD
  have HJ : Hid (jty.Rd (w.alloc (.cells (stL D A1 n1 c1 A2 n2 c2 A n c).toArray 34)) B (.agg (joL D.j A1 n1 c1 A2 n2 c2).toArray) (jty.mark k d.j)) := jty.rd_below h1 (bel1 _ _) hB
  have HE : Hid (ety.Rd (w.alloc (.cells (stL D A1 n1 c1 A2 n2 c2 A n c).toArray 34)) B (enV D.e A n c) (ety.mark (k + jty.cnt d.j) d.e)) := ety.rd_below h2 (bel1 _ _) hB
  have KB : Hid ((w.alloc (.cells (stL D A1 n1 c1 A2 n2 c2 A n c).toArray 34)).heap[w.heap.size]? = some (.cells (stL D A1 n1 c1 A2 n2 c2 A n c).toArray 34)) := box_new w _
  obtain ⟨q, hq⟩ : ∃ q : Int, q = k + (jty.cnt d.j : Int) := ⟨_, rfl⟩
  have hc1 : (jty.cnt d.j : Int) ≤ 1048576 := by have h : d.j.1.length + d.j.2.1.length ≤ 1048576 := F1.out; show ((d.j.1.length + d.j.2.1.length : Nat) : Int) ≤ _; omega
  have hq0 : 0 ≤ q := by omega
  rw [← hq] at HE
  obtain ⟨z, hz⟩ : ∃ z : Int, z = q + (ety.cnt d.e : Int) := ⟨_, rfl⟩
  have hd1 : decide (q < 0) = false := by simp; omega
  have hd2 : decide (z < 0) = false := by simp; omega
  have HQ := Lib.hid hq
  have HZ := Lib.hid hz
  have hq1 : q ≤ 200000000 := by omega
  clear hq hz h1 h2 hc1
  go_enter Try.func11, Try.ntmps11
  go_wp2_with (refine wpList_get rfl 27 _ rfl _ 12 rfl KB.out (joL D.j A1 n1 c1 A2 n2 c2) (stL_jo D A1 n1 c1 A2 n2 c2 A n c) Try.underlying27 rfl (by kernel_rfl) ?_)
  refine (Jour.heldJournal_any _ B _ d.j k HJ.out (by simp; omega) F1.out hk0 (by omega)).mono ?_
  rintro e w2 ⟨rfl, hb⟩
  rw [show (k + ((jty.cnt d.j : Nat) : Int)) = q from HQ.out.symm]
  have HE2 := Lib.hid (ety.rd_below HE.out hb (by simp; omega))
  have KB2 := Lib.hid (box_below KB.out hb)
  have HB := Lib.hid (bel_then (bel1 w _) hb (by simp))
  have hs := hb.size
  simp only [World.size_alloc] at hs
  clear hb KB HE HJ
  go_wp2_with (refine wpList_get rfl 32 _ rfl _ 15 rfl KB2.out (enL D.e A n c) (stL_en D A1 n1 c1 A2 n2 c2 A n c) Try.underlying32 rfl (by kernel_rfl) ?_)
  refine (EngTy.heldEngine_any _ B _ d.e q HE2.out (by omega) F2.out hq0 hq1).mono ?_
  rintro e w3 ⟨rfl, hb⟩
  rw [show (q + ((ety.cnt d.e : Nat) : Int)) = z from HZ.out.symm]
  have HB3 := Lib.hid (bel_then HB.out hb HB.out.size)
  clear hb KB2
  go_wp2
  go_ret
  have e1 : (k + ((sty.cnt d : Nat) : Int)) = z := by
    rw [HZ.out, HQ.out]
    show k + ((d.j.1.length + d.j.2.1.length + 5 * d.e.ps.length : Nat) : Int) = k + ((d.j.1.length + d.j.2.1.length : Nat) : Int) + ((5 * d.e.ps.length : Nat) : Int)
    omega
  exact ⟨by rw [e1]; rfl, HB3.out⟩
end Go.Proofs.Ytklgjjmcflgjeaa.StoTy
