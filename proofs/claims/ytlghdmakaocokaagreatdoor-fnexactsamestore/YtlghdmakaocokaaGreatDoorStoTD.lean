/-
  STORES as a kind of data: the contracts of the laws' eqStore, markStore, heldStore over this seat's translation.
-/
import Derived.Test.YtlghdmakaocokaaGreatDoorEngTy
import Derived.Test.YtlghdmakaocokaaGreatDoorJour
namespace Go.Proofs.YtlghdmakaocokaaGreatDoor.StoTD
open Go.ChangeShapes Go.WideShapes Go.ChangeAt Go.RowKit Go.Joins Go.Deep
open Go.Proofs.YtlghdmakaocokaaGreatDoor.LK Go.Proofs.YtlghdmakaocokaaGreatDoor.Pods Go.Proofs.YtlghdmakaocokaaGreatDoor.EngV Go.Proofs.YtlghdmakaocokaaGreatDoor.Seg Go.Proofs.YtlghdmakaocokaaGreatDoor.EngTy
open Go.Proofs.YtlghdmakaocokaaGreatDoor.Jour (jty JD)
set_option linter.unusedVariables false

/-- A Store. -/
structure Sto where
  sp : Spc
  rv : Int
  j : JD
  e : Eng
  ct : Int
def zeroS : Sto := ⟨Spc.zero, 0, ([], [], 0), zeroE, 0⟩
def joL (j : JD) (A1 : Option Addr) (n1 c1 : Nat) (A2 : Option Addr) (n2 c2 : Nat) : List Value := [.slice A1 n1 c1, .slice A2 n2 c2, .int .i64 j.2.2]
def stL (d : Sto) (A1 : Option Addr) (n1 c1 : Nat) (A2 : Option Addr) (n2 c2 : Nat) (A : Option Addr) (n c : Nat) : List Value := [.int .i64 d.sp.x0, .int .i64 d.sp.x1, .int .i64 d.sp.x2, .int .i64 d.sp.x3, .int .i64 d.sp.x4, .int .i64 d.sp.x5, .int .i64 d.sp.x6, .int .i64 d.sp.x7, .int .i64 d.sp.x8, .int .i64 d.sp.x9, .int .i64 d.sp.x10, .int .i64 d.rv, .slice A1 n1 c1, .slice A2 n2 c2, .int .i64 d.j.2.2, .int .i64 d.e.sp.x0, .int .i64 d.e.sp.x1, .int .i64 d.e.sp.x2, .int .i64 d.e.sp.x3, .int .i64 d.e.sp.x4, .int .i64 d.e.sp.x5, .int .i64 d.e.sp.x6, .int .i64 d.e.sp.x7, .int .i64 d.e.sp.x8, .int .i64 d.e.sp.x9, .int .i64 d.e.sp.x10,
  .int .i64 d.e.now, .int .i64 d.e.ph, .int .i64 d.e.tg, .int .i64 d.e.gd, .slice A n c, .int .i64 d.e.nx, .int .i64 d.e.st, .int .i64 d.e.tr, .int .i64 d.e.wt, .int .i64 d.ct]
section
variable (d : Sto) (A1 : Option Addr) (n1 c1 : Nat) (A2 : Option Addr) (n2 c2 : Nat) (A : Option Addr) (n c : Nat)
theorem stL_sp : ((stL d A1 n1 c1 A2 n2 c2 A n c).drop 0).take (spL d.sp).length = spL d.sp := rfl
theorem stL_jo : ((stL d A1 n1 c1 A2 n2 c2 A n c).drop 12).take (joL d.j A1 n1 c1 A2 n2 c2).length = joL d.j A1 n1 c1 A2 n2 c2 := rfl
theorem stL_en : ((stL d A1 n1 c1 A2 n2 c2 A n c).drop 15).take (enL d.e A n c).length = enL d.e A n c := rfl
theorem stL_all : ((stL d A1 n1 c1 A2 n2 c2 A n c).drop 0).take (stL d A1 n1 c1 A2 n2 c2 A n c).length = stL d A1 n1 c1 A2 n2 c2 A n c := rfl
theorem stL_one : ∀ v ∈ stL d A1 n1 c1 A2 n2 c2 A n c, v.oneCell' = true := by simp [stL, Value.oneCell']
theorem joL_one (j : JD) : ∀ v ∈ joL j A1 n1 c1 A2 n2 c2, v.oneCell' = true := by simp [joL, Value.oneCell']
end
def SRd (w : World) (B : Nat) (v : Value) (d : Sto) : Prop := ∃ A1 n1 c1 A2 n2 c2 A n c, v = .agg (stL d A1 n1 c1 A2 n2 c2 A n c).toArray ∧ jty.Rd w B (.agg (joL d.j A1 n1 c1 A2 n2 c2).toArray) d.j ∧ ety.Rd w B (enV d.e A n c) d.e
def SOwn (w : World) (S : Nat → Prop) (v : Value) (d : Sto) : Prop := ∃ A1 n1 c1 A2 n2 c2 A n c, ∃ SJ SE : Nat → Prop, v = .agg (stL d A1 n1 c1 A2 n2 c2 A n c).toArray ∧ jty.Own w SJ (.agg (joL d.j A1 n1 c1 A2 n2 c2).toArray) d.j ∧ ety.Own w SE (enV d.e A n c) d.e ∧ (∀ k, SJ k → S k) ∧ (∀ k, SE k → S k) ∧ (∀ k, SJ k → ¬ SE k)
def sty : Ty where
  D := Sto
  Rd := SRd
  Own := SOwn
  Few := fun d => d.j.1.length + d.j.2.1.length ≤ 1048576 ∧ d.e.ps.length ≤ 1048576
  cnt := fun d => d.j.1.length + d.j.2.1.length + 5 * d.e.ps.length
  mark := fun k d => { d with j := jty.mark k d.j, e := ety.mark (k + jty.cnt d.j) d.e }
  rd_below := by
    rintro w w' B C v d ⟨A1, n1, c1, A2, n2, c2, A, n, c, rfl, h1, h2⟩ hb hC
    exact ⟨A1, n1, c1, A2, n2, c2, A, n, c, rfl, jty.rd_below h1 hb hC, ety.rd_below h2 hb hC⟩
  own_rd := by
    rintro w S v d B ⟨A1, n1, c1, A2, n2, c2, A, n, c, SJ, SE, rfl, h1, h2, s1, s2, _⟩ hB
    exact ⟨A1, n1, c1, A2, n2, c2, A, n, c, rfl, jty.own_rd B h1 (fun k hk => hB k (s1 k hk)), ety.own_rd B h2 (fun k hk => hB k (s2 k hk))⟩
  own_same := by
    rintro w w' S v d ⟨A1, n1, c1, A2, n2, c2, A, n, c, SJ, SE, rfl, h1, h2, s1, s2, s3⟩ hs
    exact ⟨A1, n1, c1, A2, n2, c2, A, n, c, SJ, SE, rfl, jty.own_same h1 (fun k hk => hs k (s1 k hk)), ety.own_same h2 (fun k hk => hs k (s2 k hk)), s1, s2, s3⟩
  few_cnt := by intro d h; omega
theorem shape {w : World} {lo hi : Nat} {S : Nat → Prop} {v : Value} {d : Sto} (h : Has sty w lo hi S v d) : ∃ A1 n1 c1 A2 n2 c2 A n c, v = .agg (stL d A1 n1 c1 A2 n2 c2 A n c).toArray := by
  obtain ⟨A1, n1, c1, A2, n2, c2, A, n, c, SJ, SE, e, _⟩ := h.own
  exact ⟨A1, n1, c1, A2, n2, c2, A, n, c, e⟩
set_option maxRecDepth 100000 in
set_option maxHeartbeats 3200000 in
theorem eqStore_any : EqC 8 sty := by
  rintro w B B' v v' d ⟨A1, n1, c1, A2, n2, c2, A, n, c, rfl, h1, h2⟩ ⟨D1, m1, e1, D2, m2, e2, D, m, e, rfl, g1, g2⟩ hB hB' hf
  have hf1 : jty.Few d.j := hf.1
  have hf2 : ety.Few d.e := hf.2
  show Calls _ _ #[.agg (stL d A1 n1 c1 A2 n2 c2 A n c).toArray, .agg (stL d D1 m1 e1 D2 m2 e2 D m e).toArray] _ _
  have H1 := Lib.hid h1
  have H2 := Lib.hid h2
  have G1 := Lib.hid g1
  have G2 := Lib.hid g2
  have F1 := Lib.hid hf1
  have F2 := Lib.hid hf2
  clear h1 h2 g1 g2 hf hf1 hf2
  have KA : Hid (((w.alloc (.cells (stL d A1 n1 c1 A2 n2 c2 A n c).toArray 44)).alloc (.cells (stL d D1 m1 e1 D2 m2 e2 D m e).toArray 44)).heap[w.heap.size]? = some (.cells (stL d A1 n1 c1 A2 n2 c2 A n c).toArray 44)) := box_alloc (box_new w _) _
  have KC : Hid (((w.alloc (.cells (stL d A1 n1 c1 A2 n2 c2 A n c).toArray 44)).alloc (.cells (stL d D1 m1 e1 D2 m2 e2 D m e).toArray 44)).heap[w.heap.size + 1]? = some (.cells (stL d D1 m1 e1 D2 m2 e2 D m e).toArray 44)) := by have h := box_new (w.alloc (.cells (stL d A1 n1 c1 A2 n2 c2 A n c).toArray 44)) (.cells (stL d D1 m1 e1 D2 m2 e2 D m e).toArray 44); simp only [World.size_alloc] at h; exact h
  have HB : Hid (Below w.heap.size w ((w.alloc (.cells (stL d A1 n1 c1 A2 n2 c2 A n c).toArray 44)).alloc (.cells (stL d D1 m1 e1 D2 m2 e2 D m e).toArray 44))) := bel2 _ _ _
  go_enter Tryz.func8, Tryz.ntmps8
  go_wp2_with (first | (refine wpList_get rfl 36 _ rfl w.heap.size 0 rfl KA.out (spL d.sp) (stL_sp d A1 n1 c1 A2 n2 c2 A n c) Tryz.underlying36 rfl (by kernel_rfl) ?_) | (refine wpList_get rfl 36 _ rfl (w.heap.size + 1) 0 rfl KC.out (spL d.sp) (stL_sp d D1 m1 e1 D2 m2 e2 D m e) Tryz.underlying36 rfl (by kernel_rfl) ?_))
  refine (Sp.eqSpec_same d.sp.x0 d.sp.x1 d.sp.x2 d.sp.x3 d.sp.x4 d.sp.x5 d.sp.x6 d.sp.x7 d.sp.x8 d.sp.x9 d.sp.x10 _).mono ?_
  rintro q w1 ⟨rfl, hb⟩
  have KA1 := Lib.hid (box_below KA.out hb)
  have KC1 := Lib.hid (box_below KC.out hb)
  have HB1 := Lib.hid (bel_then HB.out hb HB.out.size)
  clear KA KC HB hb
  have ca : w1.cell? ⟨w.heap.size, 11, none⟩ = some (.int .i64 d.rv) := box_cell KA1.out 11 _ rfl
  have cc : w1.cell? ⟨w.heap.size + 1, 11, none⟩ = some (.int .i64 d.rv) := box_cell KC1.out 11 _ rfl
  go_wp2_with (first | (refine wpList_get rfl 37 _ rfl w.heap.size 12 rfl KA1.out (joL d.j A1 n1 c1 A2 n2 c2) (stL_jo d A1 n1 c1 A2 n2 c2 A n c) Tryz.underlying37 rfl (by kernel_rfl) ?_) | (refine wpList_get rfl 37 _ rfl (w.heap.size + 1) 12 rfl KC1.out (joL d.j D1 m1 e1 D2 m2 e2) (stL_jo d D1 m1 e1 D2 m2 e2 D m e) Tryz.underlying37 rfl (by kernel_rfl) ?_))
  refine (Jour.eqJournal_any _ B B' _ _ d.j (jty.rd_below H1.out HB1.out hB) (jty.rd_below G1.out HB1.out hB') (Nat.le_trans hB HB1.out.size) (Nat.le_trans hB' HB1.out.size) F1.out).mono ?_
  rintro q w2 ⟨rfl, hb⟩
  have KA2 := Lib.hid (box_below KA1.out hb)
  have KC2 := Lib.hid (box_below KC1.out hb)
  have HB2 := Lib.hid (bel_then HB1.out hb HB1.out.size)
  clear KA1 KC1 HB1 hb ca cc
  go_wp2_with (first | (refine wpList_get rfl 42 _ rfl w.heap.size 15 rfl KA2.out (enL d.e A n c) (stL_en d A1 n1 c1 A2 n2 c2 A n c) Tryz.underlying42 rfl (by kernel_rfl) ?_) | (refine wpList_get rfl 42 _ rfl (w.heap.size + 1) 15 rfl KC2.out (enL d.e D m e) (stL_en d D1 m1 e1 D2 m2 e2 D m e) Tryz.underlying42 rfl (by kernel_rfl) ?_))
  refine (EngTy.eqEngine_any _ B B' _ _ d.e (ety.rd_below H2.out HB2.out hB) (ety.rd_below G2.out HB2.out hB') (Nat.le_trans hB HB2.out.size) (Nat.le_trans hB' HB2.out.size) F2.out).mono ?_
  rintro q w3 ⟨rfl, hb⟩
  have KA3 := Lib.hid (box_below KA2.out hb)
  have KC3 := Lib.hid (box_below KC2.out hb)
  have HB3 := Lib.hid (bel_then HB2.out hb HB2.out.size)
  clear KA2 KC2 HB2 hb
  have ca : w3.cell? ⟨w.heap.size, 35, none⟩ = some (.int .i64 d.ct) := box_cell KA3.out 35 _ rfl
  have cc : w3.cell? ⟨w.heap.size + 1, 35, none⟩ = some (.int .i64 d.ct) := box_cell KC3.out 35 _ rfl
  go_wp2
  go_ret
  exact ⟨rfl, HB3.out⟩
set_option maxRecDepth 100000 in
set_option maxHeartbeats 1600000 in
theorem szStore_any (A1 : Option Addr) (n1 c1 : Nat) (A2 : Option Addr) (n2 c2 : Nat) (A : Option Addr) (n c : Nat) (d : Sto) (w : World) (hj : SzC 9 jty (.agg (joL d.j A1 n1 c1 A2 n2 c2).toArray) d.j w) (he : SzC 10 ety (.agg (enL d.e A n c).toArray) d.e w) : SzC 4 sty (.agg (stL d A1 n1 c1 A2 n2 c2 A n c).toArray) d w := by
  intro W k hW hk0 hk1
  have HJ := Lib.hid hj
  have HE := Lib.hid he
  have HW := Lib.hid hW
  clear hj he hW
  have KB : Hid ((W.alloc (.cells (stL d A1 n1 c1 A2 n2 c2 A n c).toArray 33)).heap[W.heap.size]? = some (.cells (stL d A1 n1 c1 A2 n2 c2 A n c).toArray 33)) := box_new W (.cells (stL d A1 n1 c1 A2 n2 c2 A n c).toArray 33)
  show Calls _ _ #[.agg (stL d A1 n1 c1 A2 n2 c2 A n c).toArray, _] _ _
  go_enter Tryz.func4, Tryz.ntmps4
  go_wp2_with (refine wpList_get rfl 26 _ rfl _ 12 rfl KB.out (joL d.j A1 n1 c1 A2 n2 c2) (stL_jo d A1 n1 c1 A2 n2 c2 A n c) Tryz.underlying26 rfl (by kernel_rfl) ?_)
  refine (HJ.out _ k (bel_then HW.out (bel1 W _) HW.out.size) hk0 hk1).mono ?_
  rintro e w1 ⟨r, rfl, hb, hr⟩
  have HB := Lib.hid (bel_then (bel1 W _) hb (by simp))
  have KB1 := Lib.hid (box_below KB.out hb)
  clear hb KB
  rcases hr with rfl | ⟨hr, h2, h3⟩
  · go_wp2
    go_ret
    exact ⟨-1, rfl, HB.out, .inl rfl⟩
  have hd : decide (r < 0) = false := by simp; omega
  have H3 := Lib.hid h3
  clear h3
  go_wp2_with (refine wpList_get rfl 31 _ rfl _ 15 rfl KB1.out (enL d.e A n c) (stL_en d A1 n1 c1 A2 n2 c2 A n c) Tryz.underlying31 rfl (by kernel_rfl) ?_)
  refine (HE.out _ r (bel_then HW.out HB.out HW.out.size) hr h2).mono ?_
  rintro e w2 ⟨r2, rfl, hb, hr2⟩
  have HB2 := Lib.hid (bel_then HB.out hb HB.out.size)
  clear hb KB1
  rcases hr2 with rfl | ⟨hr2, h4, h5⟩
  · go_wp2
    go_ret
    exact ⟨-1, rfl, HB2.out, .inl rfl⟩
  have hd2 : decide (r2 < 0) = false := by simp; omega
  have HR2 := Lib.hid hr2
  have H4 := Lib.hid h4
  have H5 := Lib.hid h5
  clear hr2 h4 h5
  go_wp2
  go_ret
  exact ⟨r2, rfl, HB2.out, .inr ⟨HR2.out, H4.out, H3.out, H5.out⟩⟩
set_option maxRecDepth 100000 in
set_option maxHeartbeats 6400000 in
theorem toStore_any : ToC 6 sty := by
  rintro w B v d ⟨A1, n1, c1, A2, n2, c2, A, n, c, rfl, h1, h2⟩ hB hf
  have F1 : Hid (jty.Few d.j) := hf.1
  have F2 : Hid (ety.Few d.e) := hf.2
  have H1 := Lib.hid h1
  have H2 := Lib.hid h2
  clear h1 h2 hf
  show Calls _ _ #[.agg (stL d A1 n1 c1 A2 n2 c2 A n c).toArray] _ _
  obtain ⟨V, hV⟩ : ∃ V, V = (((w.alloc (.cells (stL d A1 n1 c1 A2 n2 c2 A n c).toArray 33)).alloc (.cells #[.int .i64 0, .int .i64 0, .int .i64 0, .int .i64 0, .int .i64 0, .int .i64 0, .int .i64 0, .int .i64 0, .int .i64 0, .int .i64 0, .int .i64 0, .int .i64 0, .slice none 0 0, .slice none 0 0, .int .i64 0, .int .i64 0, .int .i64 0, .int .i64 0, .int .i64 0, .int .i64 0, .int .i64 0, .int .i64 0, .int .i64 0, .int .i64 0, .int .i64 0, .int .i64 0, .int .i64 0, .int .i64 0, .int .i64 0, .int .i64 0, .slice none 0 0, .int .i64 0, .int .i64 0, .int .i64 0, .int .i64 0, .int .i64 0] 44)).alloc (.cells #[.int .i64 0, .int .i64 0, .int .i64 0, .int .i64 0, .int .i64 0, .int .i64 0, .int .i64 0, .int .i64 0, .int .i64 0, .int .i64 0, .int .i64 0, .int .i64 0, .slice none 0 0, .slice none 0 0, .int .i64 0, .int .i64 0, .int .i64 0, .int .i64 0, .int .i64 0, .int .i64 0, .int .i64 0, .int .i64 0, .int .i64 0, .int .i64 0, .int .i64 0, .int .i64 0, .int .i64 0, .int .i64 0, .int .i64 0, .int .i64 0, .slice none 0 0, .int .i64 0, .int .i64 0, .int .i64 0, .int .i64 0, .int .i64 0] 44)) := ⟨_, rfl⟩
  have HB : Hid (Below w.heap.size w V) := by rw [hV]; exact bel3 _ _ _ _
  have KA : Hid (V.heap[w.heap.size]? = some (.cells (stL d A1 n1 c1 A2 n2 c2 A n c).toArray 33)) := by rw [hV]; exact box_alloc (box_alloc (box_new w _) _) _
  have KR : Hid (V.heap[w.heap.size + 1]? = some (.cells (stL zeroS none 0 0 none 0 0 none 0 0).toArray 44 (0, 0))) := by rw [hV]; have h := box_alloc (box_new (w.alloc (.cells (stL d A1 n1 c1 A2 n2 c2 A n c).toArray 33)) (.cells #[.int .i64 0, .int .i64 0, .int .i64 0, .int .i64 0, .int .i64 0, .int .i64 0, .int .i64 0, .int .i64 0, .int .i64 0, .int .i64 0, .int .i64 0, .int .i64 0, .slice none 0 0, .slice none 0 0, .int .i64 0, .int .i64 0, .int .i64 0, .int .i64 0, .int .i64 0, .int .i64 0, .int .i64 0, .int .i64 0, .int .i64 0, .int .i64 0, .int .i64 0, .int .i64 0, .int .i64 0, .int .i64 0, .int .i64 0, .int .i64 0, .slice none 0 0, .int .i64 0, .int .i64 0, .int .i64 0, .int .i64 0, .int .i64 0] 44)) (.cells #[.int .i64 0, .int .i64 0, .int .i64 0, .int .i64 0, .int .i64 0, .int .i64 0, .int .i64 0, .int .i64 0, .int .i64 0, .int .i64 0, .int .i64 0, .int .i64 0, .slice none 0 0, .slice none 0 0, .int .i64 0, .int .i64 0, .int .i64 0, .int .i64 0, .int .i64 0, .int .i64 0, .int .i64 0, .int .i64 0, .int .i64 0, .int .i64 0, .int .i64 0, .int .i64 0, .int .i64 0, .int .i64 0, .int .i64 0, .int .i64 0, .slice none 0 0, .int .i64 0, .int .i64 0, .int .i64 0, .int .i64 0, .int .i64 0] 44); simp only [World.size_alloc] at h; exact h
  have KO : Hid (V.heap[w.heap.size + 1 + 1]? = some (.cells (stL zeroS none 0 0 none 0 0 none 0 0).toArray 44 (0, 0))) := by rw [hV]; have h := box_new ((w.alloc (.cells (stL d A1 n1 c1 A2 n2 c2 A n c).toArray 33)).alloc (.cells #[.int .i64 0, .int .i64 0, .int .i64 0, .int .i64 0, .int .i64 0, .int .i64 0, .int .i64 0, .int .i64 0, .int .i64 0, .int .i64 0, .int .i64 0, .int .i64 0, .slice none 0 0, .slice none 0 0, .int .i64 0, .int .i64 0, .int .i64 0, .int .i64 0, .int .i64 0, .int .i64 0, .int .i64 0, .int .i64 0, .int .i64 0, .int .i64 0, .int .i64 0, .int .i64 0, .int .i64 0, .int .i64 0, .int .i64 0, .int .i64 0, .slice none 0 0, .int .i64 0, .int .i64 0, .int .i64 0, .int .i64 0, .int .i64 0] 44)) (.cells #[.int .i64 0, .int .i64 0, .int .i64 0, .int .i64 0, .int .i64 0, .int .i64 0, .int .i64 0, .int .i64 0, .int .i64 0, .int .i64 0, .int .i64 0, .int .i64 0, .slice none 0 0, .slice none 0 0, .int .i64 0, .int .i64 0, .int .i64 0, .int .i64 0, .int .i64 0, .int .i64 0, .int .i64 0, .int .i64 0, .int .i64 0, .int .i64 0, .int .i64 0, .int .i64 0, .int .i64 0, .int .i64 0, .int .i64 0, .int .i64 0, .slice none 0 0, .int .i64 0, .int .i64 0, .int .i64 0, .int .i64 0, .int .i64 0] 44); simp only [World.size_alloc] at h; exact h
  go_enter Tryz.func6, Tryz.ntmps6
  go_upto_region 2 with fail
  rw [← hV]
  clear hV
  go_wp2_with (refine wpList_get rfl 23 _ rfl w.heap.size 0 rfl KA.out (spL d.sp) (stL_sp d A1 n1 c1 A2 n2 c2 A n c) Tryz.underlying23 rfl (by kernel_rfl) ?_)
  refine (Sp.toSpec_any d.sp.x0 d.sp.x1 d.sp.x2 d.sp.x3 d.sp.x4 d.sp.x5 d.sp.x6 d.sp.x7 d.sp.x8 d.sp.x9 d.sp.x10 _).mono ?_
  rintro e w1 ⟨rfl, hb⟩
  have KA1 := Lib.hid (box_below KA.out hb)
  have KR1 := Lib.hid (box_below KR.out hb)
  have KO1 := Lib.hid (box_below KO.out hb)
  have HB1 := Lib.hid (bel_then HB.out hb HB.out.size)
  clear KA KR KO HB hb
  have hn1 : w.heap.size + 1 + 1 < w1.heap.size := box_lt KO1.out
  go_upto_region 3 with (refine wpList_put rfl rfl 36 _ _ rfl (w.heap.size + 1 + 1) 0 (spL d.sp) rfl rfl KO1.out (by kernel_rfl) (stL { zeroS with sp := d.sp } none 0 0 none 0 0 none 0 0) rfl (Nat.le_of_ble_eq_true rfl) (spL_one _) ?_)
  obtain ⟨V2, hV2⟩ : ∃ V, V = w1.setRow (w.heap.size + 1 + 1) (stL { zeroS with sp := d.sp } none 0 0 none 0 0 none 0 0).toArray := ⟨_, rfl⟩
  have KO2 : Hid (V2.heap[w.heap.size + 1 + 1]? = some (.cells (stL { zeroS with sp := d.sp } none 0 0 none 0 0 none 0 0).toArray 44 (0, 0))) := by rw [hV2]; exact row_box KO1.out
  have KA2 : Hid (V2.heap[w.heap.size]? = some (.cells (stL d A1 n1 c1 A2 n2 c2 A n c).toArray 33)) := by rw [hV2]; exact row_far KA1.out (by omega)
  have KR2 : Hid (V2.heap[w.heap.size + 1]? = some (.cells (stL zeroS none 0 0 none 0 0 none 0 0).toArray 44 (0, 0))) := by rw [hV2]; exact row_far KR1.out (by omega)
  have HB2 : Hid (Below w.heap.size w V2) := by rw [hV2]; exact row_below HB1.out _ _ (by omega) HB1.out.size
  rw [← hV2]
  clear hV2 KA1 KR1 KO1 HB1 hn1
  have pa : V2.cell? ⟨w.heap.size, 11, none⟩ = some (.int .i64 d.rv) := box_cell KA2.out 11 _ rfl
  have po : V2.cell? ⟨w.heap.size + 1 + 1, 11, none⟩ = some (.int .i64 0) := box_cell KO2.out 11 _ rfl
  have pf := box_frozen KO2.out 11
  go_upto_region 4 with fail
  obtain ⟨V3, hV3⟩ : ∃ V, V = V2.setCell ⟨w.heap.size + 1 + 1, 11, none⟩ (.int .i64 d.rv) := ⟨_, rfl⟩
  have KO3 : Hid (V3.heap[w.heap.size + 1 + 1]? = some (.cells (stL { zeroS with sp := d.sp, rv := d.rv } none 0 0 none 0 0 none 0 0).toArray 44 (0, 0))) := by rw [hV3]; exact set_box KO2.out _
  have KA3 : Hid (V3.heap[w.heap.size]? = some (.cells (stL d A1 n1 c1 A2 n2 c2 A n c).toArray 33)) := by rw [hV3]; exact box_other KA2.out _ _ (by show w.heap.size ≠ w.heap.size + 1 + 1; omega)
  have KR3 : Hid (V3.heap[w.heap.size + 1]? = some (.cells (stL zeroS none 0 0 none 0 0 none 0 0).toArray 44 (0, 0))) := by rw [hV3]; exact box_other KR2.out _ _ (by show w.heap.size + 1 ≠ w.heap.size + 1 + 1; omega)
  have HB3 : Hid (Below w.heap.size w V3) := by rw [hV3]; exact set_below HB2.out _ _ _ (by omega) HB2.out.size
  rw [← hV3]
  clear hV3 KA2 KR2 KO2 HB2 pa po pf
  go_wp2_with (refine wpList_get rfl 26 _ rfl w.heap.size 12 rfl KA3.out (joL d.j A1 n1 c1 A2 n2 c2) (stL_jo d A1 n1 c1 A2 n2 c2 A n c) Tryz.underlying26 rfl (by kernel_rfl) ?_)
  refine (Jour.toJournal_any _ B _ d.j (jty.rd_below H1.out HB3.out hB) (Nat.le_trans hB HB3.out.size) F1.out).mono ?_
  have hn3 : w.heap.size + 1 + 1 < V3.heap.size := box_lt KO3.out
  rintro e w4 ⟨v4, SJ, rfl, hO, hb⟩
  have HJ := Lib.hid hO
  obtain ⟨X1, y1, X2, y2, rfl, -⟩ := hO.own
  have HJI : Hid (∀ k, SJ k → w.heap.size + 1 + 1 < k ∧ k < w4.heap.size) := fun k hk => by have := hO.inn k hk; omega
  clear hO
  have KA4 := Lib.hid (box_below KA3.out hb)
  have KR4 := Lib.hid (box_below KR3.out hb)
  have KO4 := Lib.hid (box_below KO3.out hb)
  have HB4 := Lib.hid (bel_then HB3.out hb HB3.out.size)
  clear KA3 KR3 KO3 HB3 hb
  have hn4 : w.heap.size + 1 + 1 < w4.heap.size := box_lt KO4.out
  go_upto_region 5 with (refine wpList_put rfl rfl 37 _ _ rfl (w.heap.size + 1 + 1) 12 (joL d.j X1 d.j.1.length y1 X2 d.j.2.1.length y2) rfl rfl KO4.out (by kernel_rfl) (stL { zeroS with sp := d.sp, rv := d.rv, j := d.j } X1 d.j.1.length y1 X2 d.j.2.1.length y2 none 0 0) rfl (Nat.le_of_ble_eq_true rfl) (joL_one _ _ _ _ _ _ _) ?_)
  obtain ⟨V5, hV5⟩ : ∃ V, V = w4.setRow (w.heap.size + 1 + 1) (stL { zeroS with sp := d.sp, rv := d.rv, j := d.j } X1 d.j.1.length y1 X2 d.j.2.1.length y2 none 0 0).toArray := ⟨_, rfl⟩
  have KO5 : Hid (V5.heap[w.heap.size + 1 + 1]? = some (.cells (stL { zeroS with sp := d.sp, rv := d.rv, j := d.j } X1 d.j.1.length y1 X2 d.j.2.1.length y2 none 0 0).toArray 44 (0, 0))) := by rw [hV5]; exact row_box KO4.out
  have KA5 : Hid (V5.heap[w.heap.size]? = some (.cells (stL d A1 n1 c1 A2 n2 c2 A n c).toArray 33)) := by rw [hV5]; exact row_far KA4.out (by omega)
  have KR5 : Hid (V5.heap[w.heap.size + 1]? = some (.cells (stL zeroS none 0 0 none 0 0 none 0 0).toArray 44 (0, 0))) := by rw [hV5]; exact row_far KR4.out (by omega)
  have HB5 : Hid (Below w.heap.size w V5) := by rw [hV5]; exact row_below HB4.out _ _ (by omega) HB4.out.size
  have HJ5 : Hid (jty.Own V5 SJ (.agg (joL d.j X1 d.j.1.length y1 X2 d.j.2.1.length y2).toArray) d.j) := by rw [hV5]; exact jty.own_same HJ.out.own (fun k hk => setRow_other _ _ _ _ (by have := HJI.out k hk; omega))
  have hz5 : V5.heap.size = w4.heap.size := by rw [hV5]; simp
  rw [← hV5]
  clear hV5 KA4 KR4 KO4 HB4 HJ
  go_wp2_with (refine wpList_get rfl 31 _ rfl w.heap.size 15 rfl KA5.out (enL d.e A n c) (stL_en d A1 n1 c1 A2 n2 c2 A n c) Tryz.underlying31 rfl (by kernel_rfl) ?_)
  refine (EngTy.toEngine_any _ B _ d.e (ety.rd_below H2.out HB5.out hB) (Nat.le_trans hB HB5.out.size) F2.out).mono ?_
  rintro e w6 ⟨v6, SE, rfl, hO, hb⟩
  have HE := Lib.hid hO
  obtain ⟨G, g, rfl, -⟩ := hO.own
  have HEI : Hid (∀ k, SE k → w4.heap.size ≤ k ∧ k < w6.heap.size) := fun k hk => by have := hO.inn k hk; omega
  have HJ6 : Hid (jty.Own w6 SJ (.agg (joL d.j X1 d.j.1.length y1 X2 d.j.2.1.length y2).toArray) d.j) := jty.own_same HJ5.out (fun k hk => hb.block k (by have := HJI.out k hk; omega))
  clear hO
  have KR6 := Lib.hid (box_below KR5.out hb)
  have KO6 := Lib.hid (box_below KO5.out hb)
  have KA6 := Lib.hid (box_below KA5.out hb)
  have HB6 := Lib.hid (bel_then HB5.out hb HB5.out.size)
  have hz6 : w4.heap.size ≤ w6.heap.size := by have := hb.size; omega
  clear KA5 KR5 KO5 HB5 hb HJ5
  go_upto_region 6 with (refine wpList_put rfl rfl 42 _ _ rfl (w.heap.size + 1 + 1) 15 (enL d.e G d.e.ps.length g) rfl rfl KO6.out (by kernel_rfl) (stL { zeroS with sp := d.sp, rv := d.rv, j := d.j, e := d.e } X1 d.j.1.length y1 X2 d.j.2.1.length y2 G d.e.ps.length g) rfl (Nat.le_of_ble_eq_true rfl) (enL_one _ _ _ _) ?_)
  obtain ⟨V7, hV7⟩ : ∃ V, V = w6.setRow (w.heap.size + 1 + 1) (stL { zeroS with sp := d.sp, rv := d.rv, j := d.j, e := d.e } X1 d.j.1.length y1 X2 d.j.2.1.length y2 G d.e.ps.length g).toArray := ⟨_, rfl⟩
  have KO7 : Hid (V7.heap[w.heap.size + 1 + 1]? = some (.cells (stL { zeroS with sp := d.sp, rv := d.rv, j := d.j, e := d.e } X1 d.j.1.length y1 X2 d.j.2.1.length y2 G d.e.ps.length g).toArray 44 (0, 0))) := by rw [hV7]; exact row_box KO6.out
  have KA7 : Hid (V7.heap[w.heap.size]? = some (.cells (stL d A1 n1 c1 A2 n2 c2 A n c).toArray 33)) := by rw [hV7]; exact row_far KA6.out (by omega)
  have KR7 : Hid (V7.heap[w.heap.size + 1]? = some (.cells (stL zeroS none 0 0 none 0 0 none 0 0).toArray 44 (0, 0))) := by rw [hV7]; exact row_far KR6.out (by omega)
  have HT7 : Hid (Turned (fun k => k = w.heap.size + 1 ∨ k = w.heap.size + 1 + 1) w6 V7) := by rw [hV7]; exact (row_turned _ _ _).wide (fun k hk => .inr hk)
  rw [← hV7]
  clear hV7 KA6 KR6 KO6
  have pa : V7.cell? ⟨w.heap.size, 35, none⟩ = some (.int .i64 d.ct) := box_cell KA7.out 35 _ rfl
  have po : V7.cell? ⟨w.heap.size + 1 + 1, 35, none⟩ = some (.int .i64 0) := box_cell KO7.out 35 _ rfl
  have pf := box_frozen KO7.out 35
  go_upto_region 7 with fail
  obtain ⟨V8, hV8⟩ : ∃ V, V = V7.setCell ⟨w.heap.size + 1 + 1, 35, none⟩ (.int .i64 d.ct) := ⟨_, rfl⟩
  have KO8 : Hid (V8.heap[w.heap.size + 1 + 1]? = some (.cells (stL d X1 d.j.1.length y1 X2 d.j.2.1.length y2 G d.e.ps.length g).toArray 44 (0, 0))) := by rw [hV8]; exact set_box KO7.out _
  have KR8 : Hid (V8.heap[w.heap.size + 1]? = some (.cells (stL zeroS none 0 0 none 0 0 none 0 0).toArray 44 (0, 0))) := by rw [hV8]; exact box_other KR7.out _ _ (by show w.heap.size + 1 ≠ w.heap.size + 1 + 1; omega)
  have HT8 : Hid (Turned (fun k => k = w.heap.size + 1 ∨ k = w.heap.size + 1 + 1) w6 V8) := by rw [hV8]; exact HT7.out.trans (Turned.set _ _ _ (.inr rfl))
  rw [← hV8]
  clear hV8 KA7 KR7 KO7 HT7 pa po pf
  go_wp2_with (first | (refine wpList_get rfl 44 _ rfl (w.heap.size + 1 + 1) 0 rfl KO8.out (stL d X1 d.j.1.length y1 X2 d.j.2.1.length y2 G d.e.ps.length g) (stL_all _ _ _ _ _ _ _ _ _ _) Tryz.underlying44 rfl (by kernel_rfl) ?_) | (refine wpList_put rfl rfl 44 _ _ rfl (w.heap.size + 1) 0 (stL d X1 d.j.1.length y1 X2 d.j.2.1.length y2 G d.e.ps.length g) rfl rfl KR8.out (by kernel_rfl) (stL d X1 d.j.1.length y1 X2 d.j.2.1.length y2 G d.e.ps.length g) rfl (Nat.le_of_ble_eq_true rfl) (stL_one _ _ _ _ _ _ _ _ _ _) ?_))
  refine bodyPost_ret (v := .agg (stL d X1 d.j.1.length y1 X2 d.j.2.1.length y2 G d.e.ps.length g).toArray) (results_box Tryz.results6 _ rfl (row_box KR8.out) Tryz.underlying44 rfl (by kernel_rfl)) rfl ?_
  have ht := HT8.out.trans ((row_turned V8 (w.heap.size + 1) (stL d X1 d.j.1.length y1 X2 d.j.2.1.length y2 G d.e.ps.length g).toArray).wide (S' := fun k => k = w.heap.size + 1 ∨ k = w.heap.size + 1 + 1) (fun k hk => .inl hk))
  have hz := ht.size
  refine ⟨_, fun k => SJ k ∨ SE k, rfl, ⟨⟨X1, _, y1, X2, _, y2, G, _, g, SJ, SE, rfl, jty.own_same HJ6.out (fun k hk => ht.block k ?_ ?_), ety.own_same HE.out.own (fun k hk => ht.block k ?_ ?_), fun k hk => .inl hk, fun k hk => .inr hk, fun k h1 h2 => ?_⟩, fun k hk => ?_, Nat.le_refl _⟩, Turned.low HB6.out ht (fun k hk => by omega) HB6.out.size⟩
  · have := HJI.out k hk; omega
  · have := HJI.out k hk; omega
  · have := HEI.out k hk; omega
  · have := HEI.out k hk; omega
  · have := HJI.out k h1; have := HEI.out k h2; omega
  · rcases hk with hk | hk
    · have := HJI.out k hk; omega
    · have := HEI.out k hk; omega
section
variable {H : Type} {enc : TypeId × Value → H} {w : World} {base : Nat} {spare : Nat → Bool} {held : Bool}
set_option maxRecDepth 100000 in
set_option maxHeartbeats 1600000 in
theorem engine_read {fuel : Nat} {cl : List Value} {x : DataW H × List MemPlace} (hl : cl.length = 20) (hf : DataW.trod enc Tryz.prog w base spare held fuel 31 cl = some x) :
    ∃ A n c dd, cl = enL dd A n c ∧ ety.Rd w w.heap.size (.agg (enL dd A n c).toArray) dd ∧ SzC 10 ety (.agg (enL dd A n c).toArray) dd w := by
  obtain ⟨xs, n, _, _, _, hlen, hfd⟩ := DataW.trod_struct Tryz.underlying31 hf
  have h1 : Tryz.prog.cellsOf 3 = 1 := by kernel_rfl
  have h2 : Tryz.prog.cellsOf 29 = 2 := by kernel_rfl
  have h3 : Tryz.prog.cellsOf 27 = 1 := by kernel_rfl
  have h11 : Tryz.prog.cellsOf 23 = 11 := by kernel_rfl
  match cl, hl with
  | [c0, c1, c2, c3, c4, c5, c6, c7, c8, c9, c10, c11, c12, c13, c14, c15, c16, c17, c18, c19], _ =>
  have hx : ∀ i, i < 9 → ∃ x, xs[i]? = some x := fun i hi => ⟨xs[i]'(by rw [hlen]; exact hi), List.getElem?_eq_getElem _⟩
  obtain ⟨q0, hq0⟩ := hx 0 (by omega)
  have g0 := (hfd 0 _ rfl).trans hq0
  obtain ⟨l, hl1, hl2, _⟩ := FlatOpen.trod_flat Tryz.underlying23 (by kernel_rfl) (fun i f hf => Sp.flat_fields (by kernel_rfl) hf) g0
  have hl3 : l.map (Value.int .i64) = [c0, c1, c2, c3, c4, c5, c6, c7, c8, c9, c10] := by rw [← hl2]; show List.take (Tryz.prog.cellsOf 23) [c0, c1, c2, c3, c4, c5, c6, c7, c8, c9, c10, c11, c12, c13, c14, c15, c16, c17, c18, c19] = _; rw [h11]; rfl
  obtain ⟨q1, hq1⟩ := hx 1 (by omega)
  obtain ⟨y1, rfl⟩ := int_one (c := c11) (by show List.take (Tryz.prog.cellsOf 3) _ = _; rw [h1]; rfl) ((hfd 1 _ rfl).trans hq1)
  obtain ⟨q2, hq2⟩ := hx 2 (by omega)
  obtain ⟨y2, rfl⟩ := int_one (c := c12) (by show List.take (Tryz.prog.cellsOf 3) _ = _; rw [h1]; rfl) ((hfd 2 _ rfl).trans hq2)
  obtain ⟨q3, hq3⟩ := hx 3 (by omega)
  obtain ⟨y3, rfl⟩ := int_one (c := c13) (by show List.take (Tryz.prog.cellsOf 3) _ = _; rw [h1]; rfl) ((hfd 3 _ rfl).trans hq3)
  obtain ⟨q4, hq4⟩ := hx 4 (by omega)
  obtain ⟨y4, rfl⟩ := int_one (c := c14) (by show List.take (Tryz.prog.cellsOf 3) _ = _; rw [h1]; rfl) ((hfd 4 _ rfl).trans hq4)
  obtain ⟨q6, hq6⟩ := hx 6 (by omega)
  obtain ⟨y6, rfl⟩ := int_one (c := c17) (by show List.take (Tryz.prog.cellsOf 3) _ = _; rw [h1]; rfl) ((hfd 6 _ rfl).trans hq6)
  obtain ⟨q7, hq7⟩ := hx 7 (by omega)
  obtain ⟨y7, rfl⟩ := int_one (c := c18) (by show List.take (Tryz.prog.cellsOf 3) _ = _; rw [h1]; rfl) ((hfd 7 _ rfl).trans hq7)
  obtain ⟨q8, hq8⟩ := hx 8 (by omega)
  obtain ⟨y8, rfl⟩ := int_one (c := c19) (by show List.take (Tryz.prog.cellsOf 3) _ = _; rw [h1]; rfl) ((hfd 8 _ rfl).trans hq8)
  obtain ⟨q5, hq5⟩ := hx 5 (by omega)
  have g5 := (hfd 5 _ rfl).trans hq5
  obtain ⟨xs5, n5, _, _, hl5, hlen5, hfd5⟩ := DataW.trod_struct Tryz.underlying29 g5
  have e5 : ∀ f : Field, f.type = 29 → f.offset = 15 → List.take (Tryz.prog.cellsOf f.type) (List.drop f.offset [c0, c1, c2, c3, c4, c5, c6, c7, c8, c9, c10, (.int .i64 y1), (.int .i64 y2), (.int .i64 y3), (.int .i64 y4), c15, c16, (.int .i64 y6), (.int .i64 y7), (.int .i64 y8)]) = [c15, c16] := by intro f e1 e2; rw [e1, e2, h2]; rfl
  have hy : ∀ i, i < 2 → ∃ x, xs5[i]? = some x := fun i hi => ⟨xs5[i]'(by rw [hlen5]; exact hi), List.getElem?_eq_getElem _⟩
  obtain ⟨p0, hp0⟩ := hy 0 (by omega)
  obtain ⟨p1, hp1⟩ := hy 1 (by omega)
  have k0 := (hfd5 0 _ rfl).trans hp0
  have k1 := (hfd5 1 _ rfl).trans hp1
  rw [e5 _ rfl rfl] at k0 k1
  obtain ⟨y5, rfl⟩ := int_one (c := c16) (by show List.take (Tryz.prog.cellsOf 3) _ = _; rw [h1]; rfl) k1
  have e6 : ([c15] : List Value) = List.take (Tryz.prog.cellsOf 27) [c15, .int .i64 y5] := by rw [h3]; rfl
  have k0' : DataW.trod enc Tryz.prog w base spare held n5 27 [c15] = some p0 := by rw [e6]; exact k0
  obtain ⟨A, m, c, ps, rfl, hP, hn⟩ := FleetTy.pods_read k0'
  match l, hl1, hl3 with
  | [x0, x1, x2, x3, x4, x5, x6, x7, x8, x9, x10], _, hl3 =>
    simp only [List.map_cons, List.map_nil, List.cons.injEq, and_true] at hl3
    obtain ⟨rfl, rfl, rfl, rfl, rfl, rfl, rfl, rfl, rfl, rfl, rfl⟩ := hl3
    obtain rfl : ps.length = m := hP.1
    exact ⟨A, _, c, ⟨⟨x0, x1, x2, x3, x4, x5, x6, x7, x8, x9, x10⟩, y1, y2, y3, y4, ps, y5, y6, y7, y8⟩, rfl, ⟨A, c, rfl, hP⟩, EngTy.szEngine_any A c ⟨⟨x0, x1, x2, x3, x4, x5, x6, x7, x8, x9, x10⟩, y1, y2, y3, y4, ps, y5, y6, y7, y8⟩ w hn⟩
set_option maxRecDepth 100000 in
set_option maxHeartbeats 1600000 in
theorem journal_read {fuel : Nat} {c0 c1 c2 : Value} {x : DataW H × List MemPlace} (hf : DataW.trod enc Tryz.prog w base spare held fuel 26 [c0, c1, c2] = some x) :
    ∃ A1 n1 k1 A2 n2 k2 dd, [c0, c1, c2] = joL dd A1 n1 k1 A2 n2 k2 ∧ jty.Rd w w.heap.size (.agg (joL dd A1 n1 k1 A2 n2 k2).toArray) dd ∧ SzC 9 jty (.agg (joL dd A1 n1 k1 A2 n2 k2).toArray) dd w := by
  obtain ⟨xs, n, _, _, _, hlen, hfd⟩ := DataW.trod_struct Tryz.underlying26 hf
  have h1 : Tryz.prog.cellsOf 3 = 1 := by kernel_rfl
  have h2 : Tryz.prog.cellsOf 24 = 1 := by kernel_rfl
  have hx : ∀ i, i < 3 → ∃ x, xs[i]? = some x := fun i hi => ⟨xs[i]'(by rw [hlen]; exact hi), List.getElem?_eq_getElem _⟩
  obtain ⟨q0, hq0⟩ := hx 0 (by omega)
  obtain ⟨q1, hq1⟩ := hx 1 (by omega)
  obtain ⟨q2, hq2⟩ := hx 2 (by omega)
  have g0 := (hfd 0 _ rfl).trans hq0
  have g1 := (hfd 1 _ rfl).trans hq1
  obtain ⟨s, rfl⟩ := int_one (c := c2) (by show List.take (Tryz.prog.cellsOf 3) _ = _; rw [h1]; rfl) ((hfd 2 _ rfl).trans hq2)
  have e0 : ([c0] : List Value) = List.take (Tryz.prog.cellsOf 24) [c0, c1, .int .i64 s] := by rw [h2]; rfl
  have e1 : ([c1] : List Value) = List.take (Tryz.prog.cellsOf 24) [c1, .int .i64 s] := by rw [h2]; rfl
  have k0 : DataW.trod enc Tryz.prog w base spare held n 24 [c0] = some q0 := by rw [e0]; exact g0
  have k1 : DataW.trod enc Tryz.prog w base spare held n 24 [c1] = some q1 := by rw [e1]; exact g1
  obtain ⟨A1, n1, m1, x, e1, r1, l1⟩ := Jour.bytes_read k0
  obtain ⟨A2, n2, m2, y, e2, r2, l2⟩ := Jour.bytes_read k1
  subst e1 e2
  obtain rfl : x.length = n1 := r1.1
  obtain rfl : y.length = n2 := r2.1
  exact ⟨A1, _, m1, A2, _, m2, (x, y, s), rfl, ⟨A1, m1, A2, m2, rfl, r1, r2⟩, Jour.szJournal_any A1 A2 m1 m2 (x, y, s) w l1 l2⟩
set_option maxRecDepth 100000 in
set_option maxHeartbeats 1600000 in
theorem open_store {r : Reach} {b0 : Nat} {v : Value} {d : DataW H} {p : List MemPlace} (hv : Value.okWide Tryz.prog w r b0 33 v) (h : DataW.Trod enc Tryz.prog w base spare held 33 v d p) :
    ∃ A1 n1 c1 A2 n2 c2 A n c dd, v = .agg (stL dd A1 n1 c1 A2 n2 c2 A n c).toArray ∧ sty.Rd w w.heap.size (.agg (stL dd A1 n1 c1 A2 n2 c2 A n c).toArray) dd ∧ SzC 4 sty (.agg (stL dd A1 n1 c1 A2 n2 c2 A n c).toArray) dd w := by
  obtain ⟨⟨cl⟩, rfl, hsz⟩ := okWide_struct Tryz.underlying33 hv
  obtain ⟨fuel, hf⟩ := h
  obtain ⟨xs, n, _, _, hl, hlen, hfd⟩ := DataW.trod_struct Tryz.underlying33 hf
  have hC : Tryz.prog.cellsOf 33 = 36 := by kernel_rfl
  have h1 : Tryz.prog.cellsOf 3 = 1 := by kernel_rfl
  have h3 : Tryz.prog.cellsOf 26 = 3 := by kernel_rfl
  have h20 : Tryz.prog.cellsOf 31 = 20 := by kernel_rfl
  have h11 : Tryz.prog.cellsOf 23 = 11 := by kernel_rfl
  have hl : cl.length = 36 := by rw [← hC, ← hl]; simp [Value.cells]
  match cl, hl with
  | c0 :: c1 :: c2 :: c3 :: c4 :: c5 :: c6 :: c7 :: c8 :: c9 :: c10 :: c11 :: c12 :: c13 :: c14 :: c15 :: c16 :: c17 :: rest, hl =>
  have hl : rest.length = 18 := by simp only [List.length_cons] at hl; omega
  match rest, hl with
  | [c18, c19, c20, c21, c22, c23, c24, c25, c26, c27, c28, c29, c30, c31, c32, c33, c34, c35], _ =>
  have hx : ∀ i, i < 5 → ∃ x, xs[i]? = some x := fun i hi => ⟨xs[i]'(by rw [hlen]; exact hi), List.getElem?_eq_getElem _⟩
  obtain ⟨q0, hq0⟩ := hx 0 (by omega)
  obtain ⟨q1, hq1⟩ := hx 1 (by omega)
  obtain ⟨q2, hq2⟩ := hx 2 (by omega)
  obtain ⟨q3, hq3⟩ := hx 3 (by omega)
  obtain ⟨q4, hq4⟩ := hx 4 (by omega)
  have g0 := (hfd 0 _ rfl).trans hq0
  obtain ⟨l, hl1, hl2, _⟩ := FlatOpen.trod_flat Tryz.underlying23 (by kernel_rfl) (fun i f hf => Sp.flat_fields (by kernel_rfl) hf) g0
  have hl3 : l.map (Value.int .i64) = [c0, c1, c2, c3, c4, c5, c6, c7, c8, c9, c10] := by rw [← hl2]; show List.take (Tryz.prog.cellsOf 23) [c0, c1, c2, c3, c4, c5, c6, c7, c8, c9, c10, c11, c12, c13, c14, c15, c16, c17, c18, c19, c20, c21, c22, c23, c24, c25, c26, c27, c28, c29, c30, c31, c32, c33, c34, c35] = _; rw [h11]; rfl
  obtain ⟨y1, rfl⟩ := int_one (c := c11) (by show List.take (Tryz.prog.cellsOf 3) _ = _; rw [h1]; rfl) ((hfd 1 _ rfl).trans hq1)
  obtain ⟨y4, rfl⟩ := int_one (c := c35) (by show List.take (Tryz.prog.cellsOf 3) _ = _; rw [h1]; rfl) ((hfd 4 _ rfl).trans hq4)
  have g2 : DataW.trod enc Tryz.prog w base spare held n 26 (List.take (Tryz.prog.cellsOf 26) [c12, c13, c14, c15, c16, c17, c18, c19, c20, c21, c22, c23, c24, c25, c26, c27, c28, c29, c30, c31, c32, c33, c34, .int .i64 y4]) = some q2 := (hfd 2 _ rfl).trans hq2
  rw [h3] at g2
  have g2' : DataW.trod enc Tryz.prog w base spare held n 26 [c12, c13, c14] = some q2 := g2
  have g3 : DataW.trod enc Tryz.prog w base spare held n 31 (List.take (Tryz.prog.cellsOf 31) [c15, c16, c17, c18, c19, c20, c21, c22, c23, c24, c25, c26, c27, c28, c29, c30, c31, c32, c33, c34, .int .i64 y4]) = some q3 := (hfd 3 _ rfl).trans hq3
  rw [h20] at g3
  have g3' : DataW.trod enc Tryz.prog w base spare held n 31 [c15, c16, c17, c18, c19, c20, c21, c22, c23, c24, c25, c26, c27, c28, c29, c30, c31, c32, c33, c34] = some q3 := g3
  obtain ⟨A1, n1, k1, A2, n2, k2, dj, ej, rj, zj⟩ := journal_read g2'
  obtain ⟨A, m, k, de, ee, re, ze⟩ := engine_read rfl g3'
  clear g2 g2' g3 g3'
  match l, hl1, hl3 with
  | [x0, x1, x2, x3, x4, x5, x6, x7, x8, x9, x10], _, hl3 =>
    simp only [List.map_cons, List.map_nil, List.cons.injEq, and_true] at hl3
    obtain ⟨rfl, rfl, rfl, rfl, rfl, rfl, rfl, rfl, rfl, rfl, rfl⟩ := hl3
    simp only [joL, List.cons.injEq, and_true] at ej
    obtain ⟨rfl, rfl, rfl⟩ := ej
    simp only [enL, List.cons.injEq, and_true] at ee
    obtain ⟨rfl, rfl, rfl, rfl, rfl, rfl, rfl, rfl, rfl, rfl, rfl, rfl, rfl, rfl, rfl, rfl, rfl, rfl, rfl, rfl⟩ := ee
    exact ⟨A1, n1, k1, A2, n2, k2, A, m, k, ⟨⟨x0, x1, x2, x3, x4, x5, x6, x7, x8, x9, x10⟩, y1, dj, de, y4⟩, rfl, ⟨A1, n1, k1, A2, n2, k2, A, m, k, rfl, rj, re⟩, szStore_any A1 n1 k1 A2 n2 k2 A m k ⟨⟨x0, x1, x2, x3, x4, x5, x6, x7, x8, x9, x10⟩, y1, dj, de, y4⟩ w zj ze⟩
end
end Go.Proofs.YtlghdmakaocokaaGreatDoor.StoTD
