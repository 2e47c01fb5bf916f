import Derived.Maps.AppendAt
import Derived.Test.YtklgjjmcflgjeaaGreatQ
import Derived.Test.YtklgjjmcflgjeaaGreatR01
import Derived.Test.YtklgjjmcflgjeaaGreatR03
import Derived.Test.YtklgjjmcflgjeaaGreatR08
import Derived.Test.YtklgjjmcflgjeaaGreatR09
import Derived.Test.YtklgjjmcflgjeaaGreatR13
import Derived.Test.YtklgjjmcflgjeaaGreatR32
import Derived.Test.YtklgjjmcflgjeaaGreatR36
set_option linter.unusedVariables false
set_option linter.unusedSimpArgs false
namespace Go.Proofs.YtklgjjmcflgjeaaGreat.Trail
open Go.ChangeShapes Go.WideShapes Go.ChangeAt Go.RowKit
open LK Pods EngV Seg
def markV (D : Eng) : Mks.X := (D.now, D.ph, D.tg, D.gd, (D.ps.length : Int), Crew.countV (D.ps, D.nx) 0 4, Av.availV D.sp.x0 D.sp.x1 D.sp.x2 D.sp.x3 D.sp.x4 D.sp.x5 D.sp.x6 D.sp.x7 D.sp.x8 D.sp.x9 D.sp.x10 0 D.now (D.ps, D.nx), Cnt.ceilV D.sp.x0 D.sp.x1 D.sp.x2 D.sp.x3 D.sp.x4 D.sp.x5 D.sp.x6 D.sp.x7 D.sp.x8 D.sp.x9 D.sp.x10)
set_option maxRecDepth 100000 in
set_option maxHeartbeats 1600000 in
theorem markOf_any (w : World) (D : Eng) (A : Option Addr) (n c : Nat) (hp : IsPods w w.heap.size A n D.ps) (hn : n ≤ 1048576) :
    Calls Tryz.prog 60 #[.agg (enL D A n c).toArray] w (Says (.agg (Mks.cells (markV D)).toArray) w) := by
  have HP := Lib.hid hp
  have HL : Hid (D.ps.length = n) := hp.1
  obtain ⟨V, hV⟩ : ∃ V, V = (w.alloc (.cells (enL D A n c).toArray 36)).alloc (.cells #[.int .i64 0, .int .i64 0, .int .i64 0, .int .i64 0, .int .i64 0, .int .i64 0, .int .i64 0, .int .i64 0] 97) := ⟨_, rfl⟩
  have HB : Hid (Below w.heap.size w V) := by rw [hV]; exact bel2 _ _ _
  have KE : Hid (V.heap[w.heap.size]? = some (.cells (enL D A n c).toArray 36 (0, 0))) := by rw [hV]; exact box_alloc (box_new w _) _
  have KR : Hid (V.heap[w.heap.size + 1]? = some (.cells [.int .i64 0, .int .i64 0, .int .i64 0, .int .i64 0, .int .i64 0, .int .i64 0, .int .i64 0, .int .i64 0].toArray 97 (0, 0))) := by rw [hV]; have h := box_new (w.alloc (.cells (enL D A n c).toArray 36)) (.cells #[.int .i64 0, .int .i64 0, .int .i64 0, .int .i64 0, .int .i64 0, .int .i64 0, .int .i64 0, .int .i64 0] 97); simp only [World.size_alloc] at h; exact h
  clear hp
  go_enter Tryz.func60, Tryz.ntmps60
  go_upto_region 1 with fail
  rw [← hV]
  clear hV
  have HS : Hid (∀ W : World, W.heap[w.heap.size]? = some (.cells (enL D A n c).toArray 36 (0, 0)) → W.cell? ⟨w.heap.size, 11, none⟩ = some (.int .i64 D.now) ∧ W.cell? ⟨w.heap.size, 12, none⟩ = some (.int .i64 D.ph) ∧ W.cell? ⟨w.heap.size, 13, none⟩ = some (.int .i64 D.tg) ∧ W.cell? ⟨w.heap.size, 14, none⟩ = some (.int .i64 D.gd) ∧ W.cell? ⟨w.heap.size, 15, none⟩ = some (.slice A n c) ∧ W.rangeAt w.heap.size 0 [.int .i64 D.sp.x0, .int .i64 D.sp.x1, .int .i64 D.sp.x2, .int .i64 D.sp.x3, .int .i64 D.sp.x4, .int .i64 D.sp.x5, .int .i64 D.sp.x6, .int .i64 D.sp.x7, .int .i64 D.sp.x8, .int .i64 D.sp.x9, .int .i64 D.sp.x10] ∧ W.rangeAt w.heap.size 15 [.slice A n c, .int .i64 D.nx]) := fun W h => ⟨box_cell h 11 _ rfl, box_cell h 12 _ rfl, box_cell h 13 _ rfl, box_cell h 14 _ rfl, box_cell h 15 _ rfl, range_of h rfl, range_of h rfl⟩
  refine wp_region_held_drew (S := fun w' => w'.cell? ⟨w.heap.size, 11, none⟩ = some (.int .i64 D.now) ∧ w'.cell? ⟨w.heap.size, 12, none⟩ = some (.int .i64 D.ph) ∧ w'.cell? ⟨w.heap.size, 13, none⟩ = some (.int .i64 D.tg) ∧ w'.cell? ⟨w.heap.size, 14, none⟩ = some (.int .i64 D.gd) ∧ w'.cell? ⟨w.heap.size, 15, none⟩ = some (.slice A n c) ∧ w'.rangeAt w.heap.size 0 [.int .i64 D.sp.x0, .int .i64 D.sp.x1, .int .i64 D.sp.x2, .int .i64 D.sp.x3, .int .i64 D.sp.x4, .int .i64 D.sp.x5, .int .i64 D.sp.x6, .int .i64 D.sp.x7, .int .i64 D.sp.x8, .int .i64 D.sp.x9, .int .i64 D.sp.x10] ∧ w'.rangeAt w.heap.size 15 [.slice A n c, .int .i64 D.nx]) (by kernel_rfl) (HS.out V.drew KE.out) (fun hHeld => ?_)
  refine tkk (i := 0) rfl ?_
  try simp only [Act.put, pj]
  refine tkk (i := 1) rfl ?_
  try simp only [Act.put, pj]
  refine tkk (i := 2) rfl ?_
  try simp only [Act.put, pj]
  refine tkk (i := 3) rfl ?_
  try simp only [Act.put, pj]
  refine tkk (i := 4) rfl ?_
  try simp only [Act.put, pj]
  refine tkk (i := 5) rfl ?_
  try simp only [Act.put, pj]
  refine tkk (i := 6) rfl ?_
  try simp only [Act.put, pj]
  refine tkk (i := 7) rfl ?_
  try simp only [Act.put, pj]
  refine tkk (i := 8) rfl ?_
  try simp only [Act.put, pj]
  refine tkk (i := 9) rfl ?_
  try simp only [Act.put, pj]
  refine tkk (i := 10) rfl ?_
  try simp only [Act.put, pj]
  refine tkk (i := 11) rfl ?_
  try simp only [Act.put, pj]
  refine tkk (i := 12) rfl ?_
  try simp only [Act.put, pj]
  refine tkj (i := 13) (v := .agg ([.slice A n c, .int .i64 D.nx]).toArray) rfl (yieldsIf_load_mid (by rfl) 34 _ rfl w.heap.size 15 rfl ([.slice A n c, .int .i64 D.nx]) _ (fun w' h => h.2.2.2.2.2.2) Tryz.underlying34 rfl (by kernel_rfl)) ?_
  try simp only [Act.put, pj]
  refine tkk (i := 15) rfl ?_
  try simp only [Act.put, pj]
  refine tkj (i := 16) (v := .agg ([.int .i64 D.sp.x0, .int .i64 D.sp.x1, .int .i64 D.sp.x2, .int .i64 D.sp.x3, .int .i64 D.sp.x4, .int .i64 D.sp.x5, .int .i64 D.sp.x6, .int .i64 D.sp.x7, .int .i64 D.sp.x8, .int .i64 D.sp.x9, .int .i64 D.sp.x10]).toArray) rfl (yieldsIf_load_mid (by rfl) 25 _ rfl w.heap.size 0 rfl ([.int .i64 D.sp.x0, .int .i64 D.sp.x1, .int .i64 D.sp.x2, .int .i64 D.sp.x3, .int .i64 D.sp.x4, .int .i64 D.sp.x5, .int .i64 D.sp.x6, .int .i64 D.sp.x7, .int .i64 D.sp.x8, .int .i64 D.sp.x9, .int .i64 D.sp.x10]) _ (fun w' h => h.2.2.2.2.2.1) Tryz.underlying25 rfl (by kernel_rfl)) ?_
  try simp only [Act.put, pj]
  refine tkk (i := 17) rfl ?_
  try simp only [Act.put, pj]
  refine tkj (i := 18) (v := .agg ([.slice A n c, .int .i64 D.nx]).toArray) rfl (yieldsIf_load_mid (by rfl) 34 _ rfl w.heap.size 15 rfl ([.slice A n c, .int .i64 D.nx]) _ (fun w' h => h.2.2.2.2.2.2) Tryz.underlying34 rfl (by kernel_rfl)) ?_
  try simp only [Act.put, pj]
  refine tkk (i := 19) rfl ?_
  try simp only [Act.put, pj]
  refine tkk (i := 20) rfl ?_
  try simp only [Act.put, pj]
  refine tkk (i := 22) rfl ?_
  try simp only [Act.put, pj]
  refine tkj (i := 23) (v := .agg ([.int .i64 D.sp.x0, .int .i64 D.sp.x1, .int .i64 D.sp.x2, .int .i64 D.sp.x3, .int .i64 D.sp.x4, .int .i64 D.sp.x5, .int .i64 D.sp.x6, .int .i64 D.sp.x7, .int .i64 D.sp.x8, .int .i64 D.sp.x9, .int .i64 D.sp.x10]).toArray) rfl (yieldsIf_load_mid (by rfl) 25 _ rfl w.heap.size 0 rfl ([.int .i64 D.sp.x0, .int .i64 D.sp.x1, .int .i64 D.sp.x2, .int .i64 D.sp.x3, .int .i64 D.sp.x4, .int .i64 D.sp.x5, .int .i64 D.sp.x6, .int .i64 D.sp.x7, .int .i64 D.sp.x8, .int .i64 D.sp.x9, .int .i64 D.sp.x10]) _ (fun w' h => h.2.2.2.2.2.1) Tryz.underlying25 rfl (by kernel_rfl)) ?_
  try simp only [Act.put, pj]
  refine wpAnyH_ready (rs := [14]) (by kernel_rfl) (by simp) (AllReadyH.cons rfl (fun K hK => ?_) AllReadyH.nil)
  go_simp
  refine (Crew.countPods_any A n c D.nx 0 4 D.ps w.heap.size _ (by exact HP.out.below (bel_then HB.out (undrew (Below.refl _ _)) HB.out.size) (Nat.le_refl _)) (by exact HB.out.size) hn).mono ?_
  rintro e w1 ⟨rfl, hb⟩
  have hb := undrew hb
  have KE1 := Lib.hid (box_below KE.out hb)
  have KR1 := Lib.hid (box_below KR.out hb)
  have HB1 := Lib.hid (bel_then HB.out hb HB.out.size)
  clear hb KE KR HB hHeld
  refine hK _ _ (by exact HS.out w1 KE1.out) (fun hHeld => ?_)
  clear hK K
  try simp only [Act.put, pj]
  refine wpAnyH_ready (rs := [21]) (by kernel_rfl) (by simp) (AllReadyH.cons rfl (fun K hK => ?_) AllReadyH.nil)
  go_simp
  refine (Av.availableOf_any D.sp.x0 D.sp.x1 D.sp.x2 D.sp.x3 D.sp.x4 D.sp.x5 D.sp.x6 D.sp.x7 D.sp.x8 D.sp.x9 D.sp.x10 0 D.now A n c D.nx D.ps w.heap.size _ (by exact HP.out.below HB1.out (Nat.le_refl _)) (by exact HB1.out.size) hn).mono ?_
  rintro e w2 ⟨rfl, hb⟩
  have KE2 := Lib.hid (box_below KE1.out hb)
  have KR2 := Lib.hid (box_below KR1.out hb)
  have HB2 := Lib.hid (bel_then HB1.out hb HB1.out.size)
  clear hb KE1 KR1 HB1 hHeld
  refine hK _ _ (by exact HS.out w2 KE2.out) (fun hHeld => ?_)
  clear hK K
  try simp only [Act.put, pj]
  refine wpAnyH_ready (rs := [24]) (by kernel_rfl) (by simp) (AllReadyH.cons rfl (fun K hK => ?_) AllReadyH.nil)
  go_simp
  refine (Cnt.Ceiling_any D.sp.x0 D.sp.x1 D.sp.x2 D.sp.x3 D.sp.x4 D.sp.x5 D.sp.x6 D.sp.x7 D.sp.x8 D.sp.x9 D.sp.x10 _).mono ?_
  rintro e w3 ⟨rfl, hb⟩
  have KE3 := Lib.hid (box_below KE2.out hb)
  have KR3 := Lib.hid (box_below KR2.out hb)
  have HB3 := Lib.hid (bel_then HB2.out hb HB2.out.size)
  clear hb KE2 KR2 HB2 hHeld
  refine hK _ _ (by exact HS.out w3 KE3.out) (fun hHeld => ?_)
  clear hK K
  try simp only [Act.put, pj]
  refine tkk (i := 25) rfl ?_
  try simp only [Act.put, pj]
  refine wpAnyH_ready (rs := [26]) (by kernel_rfl) (by simp) (AllReadyH.cons rfl (fun K hK => ?_) AllReadyH.nil)
  refine wp_put rfl 97 _ _ rfl (w.heap.size + 1) 0 (Mks.cells (markV D)) rfl (by simp only [markV, Mks.cells, HL.out]; rfl) KR3.out (by kernel_rfl) (Mks.cells (markV D)) rfl (Nat.le_of_ble_eq_true rfl) (by simp [Mks.cells, Value.oneCell']) ?_
  refine hK _ _ (by exact HS.out _ (row_far KE3.out (by omega))) (fun hHeld => ?_)
  clear hK K
  refine wpAnyH_done (by kernel_rfl) ?_ _
  clear hHeld
  go_wp2
  exact bodyPost_ret (results_box Tryz.results60 _ rfl (row_box KR3.out) Tryz.underlying97 rfl (by kernel_rfl)) rfl ⟨rfl, row_below HB3.out _ _ (by omega) HB3.out.size⟩
end Go.Proofs.YtklgjjmcflgjeaaGreat.Trail
namespace Go.Proofs.YtklgjjmcflgjeaaGreat.Trail
open Go.ChangeShapes Go.WideShapes Go.ChangeAt Go.RowKit
open LK Pods EngV Eng EngInv Seg Play
open Mach (maL MachAt Mach blks own_ne)
theorem wp_append {P : Program} {w : World} {o : Oper} {a : Act} {K : Act → World → Prop} {Q : Exit → Act → World → Prop} (s x : Operand) (t : TypeId)
    (ho : o.op = .call { callee := .builtin .append, args := #[s, x], argTypes := #[t, t] })
    (base : Nat) (e : TypeId) (i : TypeInfo) (z : Value) (size bytes : Nat) (ht : P.underlying t = some (.slice e)) (hi : P.info? e = some i) (hz : i.zero = some z)
    (hsize : i.size = size) (hby : i.bytes = bytes) (hzs : z.cells.size = size) (hsz : 0 < size)
    (v : Value) (n : Nat) (xs : List Value) (hs : a.eval s = v) (hown : w.ownsRow base e size v n xs)
    (ad : Addr) (m c : Nat) (news : List Value) (hx : a.eval x = .slice (some ad) m c) (hl : news.length = m * size) (hnews : ∀ j u, news[j]? = some u → w.cell? (ad.add j) = some u) (h1 : ∀ u ∈ news, u.oneCell' = true)
    (h63 : n + m ≤ maxLen) (hbytes : (n + m) * bytes ≤ 140737488355328) (hbase : base ≤ w.heap.size)
    (h : ∀ v' w', w'.ownsRow base e size v' (n + m) (xs ++ news) → w.grownBy w' v.ownBlock → K (a.put o.dst v') w') : o.wp P a w K Q := by
  obtain ⟨v', w', hr, h2, h3, h4, h5⟩ := run_append_own_at (P := P) w base t o.type e i z size bytes ht hi hz hsize hby hzs hsz v n xs hown ad m c news hl hnews h1 h63 hbytes hbase
  unfold Oper.wp execOp
  simp only [ho, resolve, invoke, builtin, Sem.run_bind, Sem.run_pure, Result.andThen_ok, List.map_toArray, List.map_cons, List.map_nil, hs, hx, hr]
  exact h v' w' h2 h3
def markK (s : Spc) (rev : Int) (ops : Ops.L) (k : Nat) : Mks.L := (List.range k).map fun i => markV (runK s rev ops (i + 1)).e
theorem markK_succ (s : Spc) (rev : Int) (ops : Ops.L) (k : Nat) : markK s rev ops (k + 1) = markK s rev ops k ++ [markV (runK s rev ops (k + 1)).e] := by simp [markK, List.range_succ]
theorem markK_len (s : Spc) (rev : Int) (ops : Ops.L) (k : Nat) : (markK s rev ops k).length = k := by simp [markK]
def Marks (w0 : World) (s : Spc) (rev : Int) (ops : Ops.L) (p : Nat) (k : Nat) (W : World) : Prop :=
  ∃ g c, W.heap[p]? = some (.cells #[.slice (some ⟨g, 0, none⟩) k c] 45 (0, 0)) ∧ Mks.OwnL W w0.heap.size (some ⟨g, 0, none⟩) k c (markK s rev ops k)
set_option maxRecDepth 100000 in
set_option maxHeartbeats 3200000 in
theorem marks_any (w0 : World) (s : Spc) (rev : Int) (ops : Ops.L) (n p b k : Nat) (x : Int) (W : World) (hp : w0.heap.size ≤ p) (hn : n ≤ 200) (hl : ops.length = n) (hk : k < n) (hnb : newB s rev = true) (hJ : Marks w0 s rev ops p k W) (hA : At w0 s rev ops b (k + 1) W) :
    Calls Tryz.prog 59 (.pointer (some ⟨b, 0, none⟩) :: .int .i64 x :: [.pointer (some ⟨p, 0, none⟩)]).toArray W (fun e W' => e = .returned (.tuple #[]) ∧ Marks w0 s rev ops p (k + 1) W' ∧ At w0 s rev ops b (k + 1) W') := by
  obtain ⟨i0, hi0, hz0, hz1, hz2⟩ := info_parts Mks.infoX
  obtain ⟨g, c3, hc, ho⟩ := hJ
  obtain ⟨A, n1, c1, E, m, j, hm, hlo, hb⟩ := hA
  obtain ⟨g1, g2, g3⟩ := runK_keep (s := s) (rev := rev) (ops := ops) (k := k + 1) hnb (by omega) (by omega)
  obtain ⟨r, hr⟩ : ∃ r, r = runK s rev ops (k + 1) := ⟨_, rfl⟩
  obtain ⟨T, hT⟩ : ∃ T, T = markK s rev ops k := ⟨_, rfl⟩
  have HS : Hid (markK s rev ops (k + 1) = T ++ [markV r.e]) := by show _ = _; rw [markK_succ, hT, hr]
  have HRR : Hid (r = runK s rev ops (k + 1)) := hr
  rw [← hr] at hm g1 g2
  rw [← hT] at ho
  obtain ⟨S, hS⟩ : ∃ S, S = blks b A n1 c1 E m j := ⟨_, rfl⟩
  have HNS : Hid (¬ S p ∧ (∀ q, (Value.slice (some ⟨g, 0, none⟩) k c3).ownBlock = some q → ¬ S q) ∧ (∀ q, S q → w0.heap.size ≤ q)) := by
    rw [hS]
    exact ⟨hm.not hc (by decide) (by decide) (by decide), fun q hq => hm.row_not ho.2 (by decide) (by decide) (by decide) q hq, hlo⟩
  rw [← hS] at hm
  have HG : Hid (r.e.ps.length ≤ 30 ∧ 0 ≤ r.e.tr ∧ r.e.tr ≤ 200) := ⟨g1.fl.1, g1.t0.1, g1.t0.2⟩
  have HM0 : Hid (Mach W S b 0 0 r) := ⟨_, _, _, _, _, _, hm⟩
  have HP0 := Lib.hid hc
  have HC0 := Lib.hid ho
  have HB0 := Lib.hid hb
  clear hc ho hm hlo hb g1 g2 g3 hr hT hS
  go_enter Tryz.func59, Tryz.ntmps59
  go_upto_region 0 with fail
  refine wp_region_held_drew (S := fun _ => True) (by kernel_rfl) trivial (fun hHeld => ?_)
  refine tkk (i := 1) rfl ?_
  try simp only [Act.put, pj]
  refine wpAnyH_ready (rs := [0, 2]) (by kernel_rfl) (by simp) (AllReadyH.cons rfl (fun K hK => ?_) (AllReadyH.cons rfl (fun K hK => ?_) AllReadyH.nil))
  · have c0 : W.cell? ⟨p, 0, none⟩ = some (.slice (some ⟨g, 0, none⟩) k c3) := box_cell HP0.out 0 _ rfl
    go_simp
    refine hK _ _ (by exact trivial) (fun hHeld => ?_)
    clear hK K
    try simp only [Act.put, pj]
    (try clear c0)
    refine wpAnyH_ready (rs := [2]) (by kernel_rfl) (by simp) (AllReadyH.cons rfl (fun K hK => ?_) AllReadyH.nil)
    go_simp
    obtain ⟨A1, n1, c1, E1, m1, k1, hmd⟩ := HM0.out
    have HMd := Lib.hid (Mach.MachAt.below hmd (undrew (Below.refl W.heap.size W.drew)))
    clear hmd
    refine (Mach.state_any _ _ b 0 r ⟨_, _, _, _, _, _, HMd.out⟩ (by have := HG.out.1; omega) ⟨HG.out.2.1, by have := HG.out.2.2; omega⟩).mono ?_
    rintro e w1 ⟨A3, n3, c3', rfl, hop, hm3, ht3, _⟩
    have ht3 := Turned.undrew ht3
    have HO1 := Lib.hid hop
    have HP1 : Hid (w1.heap[p]? = some (.cells #[.slice (some ⟨g, 0, none⟩) k c3] 45 (0, 0))) := (ht3.block _ (box_lt HP0.out) HNS.out.1).trans HP0.out
    have HC1 : Hid (Mks.OwnL w1 w0.heap.size (some ⟨g, 0, none⟩) k c3 T) := HC0.out.same fun q hq => ht3.block q (HC0.out.lt q hq).2 (HNS.out.2.1 q hq)
    have HB1 : Hid (Below w0.heap.size w0 w1) := Turned.low HB0.out ht3 (fun q h => HNS.out.2.2 q h) HB0.out.size
    have HM1 : Hid (Mach w1 S b 0 0 r) := hm3
    clear hop hm3 ht3 HMd HP0 HC0 HB0 HM0 hHeld
    refine hK _ _ (by exact trivial) (fun hHeld => ?_)
    clear hK K
    try simp only [Act.put, pj]
    refine wpAnyH_ready (rs := [3]) (by kernel_rfl) (by simp) (AllReadyH.cons rfl (fun K hK => ?_) AllReadyH.nil)
    go_simp
    refine (markOf_any _ r.e A3 n3 c3' (by exact HO1.out.podsAll) (by have := HG.out.1; have := HO1.out.1; omega)).mono ?_
    rintro e w2 ⟨rfl, hb⟩
    obtain ⟨y0, y1, y2, y3, y4, y5, y6, y7, hy⟩ : ∃ y0 y1 y2 y3 y4 y5 y6 y7, markV r.e = (y0, y1, y2, y3, y4, y5, y6, y7) := ⟨_, _, _, _, _, _, _, _, rfl⟩
    have hv : Value.agg (Mks.cells (markV r.e)).toArray = .agg #[.int .i64 y0, .int .i64 y1, .int .i64 y2, .int .i64 y3, .int .i64 y4, .int .i64 y5, .int .i64 y6, .int .i64 y7] := by rw [hy]; rfl
    rw [hv]
    rw [hy] at HS
    clear hv hy
    have HP2 : Hid (w2.heap[p]? = some (.cells #[.slice (some ⟨g, 0, none⟩) k c3] 45 (0, 0))) := box_below HP1.out hb
    have HC2 : Hid (Mks.OwnL w2 w0.heap.size (some ⟨g, 0, none⟩) k c3 T) := HC1.out.below hb
    have HB2 : Hid (Below w0.heap.size w0 w2) := bel_then HB1.out hb HB1.out.size
    have HM2 : Hid (Mach w2 S b 0 0 r) := Mach.Mach.below HM1.out hb
    clear hb HO1 HP1 HC1 HB1 HM1 hHeld
    refine hK _ _ (by exact trivial) (fun hHeld => ?_)
    clear hK K
    try simp only [Act.put, pj]
    refine wpAnyH_ready (rs := [4]) (by kernel_rfl) (by simp) (AllReadyH.cons rfl (fun K hK => ?_) AllReadyH.nil)
    go_simp
    obtain ⟨w3, hw3⟩ : ∃ x, x = w2.alloc (.cells #[.int .i64 y0, .int .i64 y1, .int .i64 y2, .int .i64 y3, .int .i64 y4, .int .i64 y5, .int .i64 y6, .int .i64 y7] 97) := ⟨_, rfl⟩
    have hb : Below w2.heap.size w2 w3 := by rw [hw3]; exact bel1 _ _
    have HNW : Hid (∀ j u, [.int .i64 y0, .int .i64 y1, .int .i64 y2, .int .i64 y3, .int .i64 y4, .int .i64 y5, .int .i64 y6, .int .i64 y7][j]? = some u → w3.cell? ((⟨w2.heap.size, 0, none⟩ : Addr).add j) = some u) := by rw [hw3]; exact Crew.news_new w2 [.int .i64 y0, .int .i64 y1, .int .i64 y2, .int .i64 y3, .int .i64 y4, .int .i64 y5, .int .i64 y6, .int .i64 y7] 97
    rw [← hw3]
    clear hw3
    have HP3 : Hid (w3.heap[p]? = some (.cells #[.slice (some ⟨g, 0, none⟩) k c3] 45 (0, 0))) := box_below HP2.out hb
    have HC3 : Hid (Mks.OwnL w3 w0.heap.size (some ⟨g, 0, none⟩) k c3 T) := HC2.out.below hb
    have HB3 : Hid (Below w0.heap.size w0 w3) := bel_then HB2.out hb HB2.out.size
    have HM3 : Hid (Mach w3 S b 0 0 r) := Mach.Mach.below HM2.out hb
    clear hb HP2 HC2 HB2 HM2 hHeld
    refine hK _ _ (by exact trivial) (fun hHeld => ?_)
    clear hK K
    try simp only [Act.put, pj]
    refine wpAnyH_ready (rs := [5]) (by kernel_rfl) (by simp) (AllReadyH.cons rfl (fun K hK => ?_) AllReadyH.nil)
    have hTm : T.length = k := HC3.out.1
    refine wp_append (.tmp 5) (.tmp 9) _ rfl w0.heap.size 97 i0 _ 8 64 Tryz.underlying45 hi0 hz0 hz1 hz2 rfl (by omega) (.slice (some ⟨g, 0, none⟩) k c3) k (Mks.flat T) rfl HC3.out.2 ⟨w2.heap.size, 0, none⟩ 1 1 [.int .i64 y0, .int .i64 y1, .int .i64 y2, .int .i64 y3, .int .i64 y4, .int .i64 y5, .int .i64 y6, .int .i64 y7] rfl rfl HNW.out (by simp [Value.oneCell']) (by unfold maxLen; omega) (by omega) HB3.out.size ?_
    intro v2 w5 hown hgr
    obtain ⟨A5, c5, rfl, hO5⟩ := Mks.own_app (p := (y0, y1, y2, y3, y4, y5, y6, y7)) hTm hown
    obtain ⟨g5, rfl, _, _⟩ := hO5.at0 (by omega)
    obtain ⟨A6, n6, c6, E6, m6, k6, hm6⟩ := HM3.out
    have HM5 : Hid (MachAt w5 (blks b A6 n6 c6 E6 m6 k6) b 0 0 r A6 n6 c6 E6 m6 k6) := hm6.tight.same fun q hq => hgr.block q (hm6.ltAll q hq) (fun e => hm6.row_not HC3.out.2 (by decide) (by decide) (by decide) q (by first | exact e | exact e.symm) hq)
    have HLO : Hid (∀ q, blks b A6 n6 c6 E6 m6 k6 q → w0.heap.size ≤ q) := fun q hq => HNS.out.2.2 q (hm6.sub q hq)
    have HP5 : Hid (w5.heap[p]? = some (.cells [.slice (some ⟨g, 0, none⟩) k c3].toArray 45 (0, 0))) := (hgr.block _ (box_lt HP3.out) (fun e => own_ne HC3.out.2 HP3.out (by decide) _ (by first | exact e | exact e.symm) rfl)).trans HP3.out
    have HB5 : Hid (Below w0.heap.size w0 w5) := HB3.out.grown hgr HB3.out.size (fun q hq => (HC3.out.lt q hq).1)
    have HO5 := Lib.hid hO5
    have HSS : Hid (markK s rev ops (k + 1) = T ++ [(y0, y1, y2, y3, y4, y5, y6, y7)]) := HS.out
    clear hown hgr hO5 hm6 HP3 HC3 HB3 HM3 HNW hTm hHeld
    refine hK _ _ (by exact trivial) (fun hHeld => ?_)
    clear hK K
    try simp only [Act.put, pj]
    refine wpAnyH_ready (rs := [6]) (by kernel_rfl) (by simp) (AllReadyH.cons rfl (fun K hK => ?_) AllReadyH.nil)
    have c5' : w5.cell? ⟨p, 0, none⟩ = some (.slice (some ⟨g, 0, none⟩) k c3) := box_cell HP5.out 0 _ rfl
    have f5 := box_frozen HP5.out 0
    go_simp
    refine hK _ _ (by exact trivial) (fun hHeld => ?_)
    clear hK K
    refine wpAnyH_done (by kernel_rfl) ?_ _
    clear c5' f5
    go_wp2
    go_end0
    have hrow := set_row (i := 0) HP5.out (.slice (some ⟨g5, 0, none⟩) (k + 1) c5) [.slice (some ⟨g5, 0, none⟩) (k + 1) c5] rfl
    have HN : ∀ q, q ≠ p → (w5.setCell ⟨p, 0, none⟩ (.slice (some ⟨g5, 0, none⟩) (k + 1) c5)).heap[q]? = w5.heap[q]? := fun q hq => Below.heap_setCell _ _ _ q hq
    refine ⟨rfl, ⟨g5, c5, by rw [hrow]; exact row_box HP5.out, ?_⟩, A6, n6, c6, E6, m6, k6, ?_, HLO.out, HB5.out.setCell (by exact hp) _⟩
    · rw [HSS.out]
      exact HO5.out.same fun q hq => HN q (fun e => own_ne HO5.out.2 HP5.out (by decide) q hq e)
    · rw [← HRR.out]
      exact HM5.out.same fun q hq => HN q (fun e => HM5.out.not HP5.out (by decide) (by decide) (by decide) (e ▸ hq))
  · skip
    go_simp
    obtain ⟨A1, n1, c1, E1, m1, k1, hmd⟩ := HM0.out
    have HMd := Lib.hid (Mach.MachAt.below hmd (undrew (Below.refl W.heap.size W.drew)))
    clear hmd
    refine (Mach.state_any _ _ b 0 r ⟨_, _, _, _, _, _, HMd.out⟩ (by have := HG.out.1; omega) ⟨HG.out.2.1, by have := HG.out.2.2; omega⟩).mono ?_
    rintro e w1 ⟨A3, n3, c3', rfl, hop, hm3, ht3, _⟩
    have ht3 := Turned.undrew ht3
    have HO1 := Lib.hid hop
    have HP1 : Hid (w1.heap[p]? = some (.cells #[.slice (some ⟨g, 0, none⟩) k c3] 45 (0, 0))) := (ht3.block _ (box_lt HP0.out) HNS.out.1).trans HP0.out
    have HC1 : Hid (Mks.OwnL w1 w0.heap.size (some ⟨g, 0, none⟩) k c3 T) := HC0.out.same fun q hq => ht3.block q (HC0.out.lt q hq).2 (HNS.out.2.1 q hq)
    have HB1 : Hid (Below w0.heap.size w0 w1) := Turned.low HB0.out ht3 (fun q h => HNS.out.2.2 q h) HB0.out.size
    have HM1 : Hid (Mach w1 S b 0 0 r) := hm3
    clear hop hm3 ht3 HMd HP0 HC0 HB0 HM0 hHeld
    refine hK _ _ (by exact trivial) (fun hHeld => ?_)
    clear hK K
    try simp only [Act.put, pj]
    refine wpAnyH_ready (rs := [0, 3]) (by kernel_rfl) (by simp) (AllReadyH.cons rfl (fun K hK => ?_) (AllReadyH.cons rfl (fun K hK => ?_) AllReadyH.nil))
    · have c0 : w1.cell? ⟨p, 0, none⟩ = some (.slice (some ⟨g, 0, none⟩) k c3) := box_cell HP1.out 0 _ rfl
      go_simp
      refine hK _ _ (by exact trivial) (fun hHeld => ?_)
      clear hK K
      try simp only [Act.put, pj]
      (try clear c0)
      refine wpAnyH_ready (rs := [3]) (by kernel_rfl) (by simp) (AllReadyH.cons rfl (fun K hK => ?_) AllReadyH.nil)
      go_simp
      refine (markOf_any _ r.e A3 n3 c3' (by exact HO1.out.podsAll) (by have := HG.out.1; have := HO1.out.1; omega)).mono ?_
      rintro e w2 ⟨rfl, hb⟩
      obtain ⟨y0, y1, y2, y3, y4, y5, y6, y7, hy⟩ : ∃ y0 y1 y2 y3 y4 y5 y6 y7, markV r.e = (y0, y1, y2, y3, y4, y5, y6, y7) := ⟨_, _, _, _, _, _, _, _, rfl⟩
      have hv : Value.agg (Mks.cells (markV r.e)).toArray = .agg #[.int .i64 y0, .int .i64 y1, .int .i64 y2, .int .i64 y3, .int .i64 y4, .int .i64 y5, .int .i64 y6, .int .i64 y7] := by rw [hy]; rfl
      rw [hv]
      rw [hy] at HS
      clear hv hy
      have HP2 : Hid (w2.heap[p]? = some (.cells #[.slice (some ⟨g, 0, none⟩) k c3] 45 (0, 0))) := box_below HP1.out hb
      have HC2 : Hid (Mks.OwnL w2 w0.heap.size (some ⟨g, 0, none⟩) k c3 T) := HC1.out.below hb
      have HB2 : Hid (Below w0.heap.size w0 w2) := bel_then HB1.out hb HB1.out.size
      have HM2 : Hid (Mach w2 S b 0 0 r) := Mach.Mach.below HM1.out hb
      clear hb HO1 HP1 HC1 HB1 HM1 hHeld
      refine hK _ _ (by exact trivial) (fun hHeld => ?_)
      clear hK K
      try simp only [Act.put, pj]
      refine wpAnyH_ready (rs := [4]) (by kernel_rfl) (by simp) (AllReadyH.cons rfl (fun K hK => ?_) AllReadyH.nil)
      go_simp
      obtain ⟨w3, hw3⟩ : ∃ x, x = w2.alloc (.cells #[.int .i64 y0, .int .i64 y1, .int .i64 y2, .int .i64 y3, .int .i64 y4, .int .i64 y5, .int .i64 y6, .int .i64 y7] 97) := ⟨_, rfl⟩
      have hb : Below w2.heap.size w2 w3 := by rw [hw3]; exact bel1 _ _
      have HNW : Hid (∀ j u, [.int .i64 y0, .int .i64 y1, .int .i64 y2, .int .i64 y3, .int .i64 y4, .int .i64 y5, .int .i64 y6, .int .i64 y7][j]? = some u → w3.cell? ((⟨w2.heap.size, 0, none⟩ : Addr).add j) = some u) := by rw [hw3]; exact Crew.news_new w2 [.int .i64 y0, .int .i64 y1, .int .i64 y2, .int .i64 y3, .int .i64 y4, .int .i64 y5, .int .i64 y6, .int .i64 y7] 97
      rw [← hw3]
      clear hw3
      have HP3 : Hid (w3.heap[p]? = some (.cells #[.slice (some ⟨g, 0, none⟩) k c3] 45 (0, 0))) := box_below HP2.out hb
      have HC3 : Hid (Mks.OwnL w3 w0.heap.size (some ⟨g, 0, none⟩) k c3 T) := HC2.out.below hb
      have HB3 : Hid (Below w0.heap.size w0 w3) := bel_then HB2.out hb HB2.out.size
      have HM3 : Hid (Mach w3 S b 0 0 r) := Mach.Mach.below HM2.out hb
      clear hb HP2 HC2 HB2 HM2 hHeld
      refine hK _ _ (by exact trivial) (fun hHeld => ?_)
      clear hK K
      try simp only [Act.put, pj]
      refine wpAnyH_ready (rs := [5]) (by kernel_rfl) (by simp) (AllReadyH.cons rfl (fun K hK => ?_) AllReadyH.nil)
      have hTm : T.length = k := HC3.out.1
      refine wp_append (.tmp 5) (.tmp 9) _ rfl w0.heap.size 97 i0 _ 8 64 Tryz.underlying45 hi0 hz0 hz1 hz2 rfl (by omega) (.slice (some ⟨g, 0, none⟩) k c3) k (Mks.flat T) rfl HC3.out.2 ⟨w2.heap.size, 0, none⟩ 1 1 [.int .i64 y0, .int .i64 y1, .int .i64 y2, .int .i64 y3, .int .i64 y4, .int .i64 y5, .int .i64 y6, .int .i64 y7] rfl rfl HNW.out (by simp [Value.oneCell']) (by unfold maxLen; omega) (by omega) HB3.out.size ?_
      intro v2 w5 hown hgr
      obtain ⟨A5, c5, rfl, hO5⟩ := Mks.own_app (p := (y0, y1, y2, y3, y4, y5, y6, y7)) hTm hown
      obtain ⟨g5, rfl, _, _⟩ := hO5.at0 (by omega)
      obtain ⟨A6, n6, c6, E6, m6, k6, hm6⟩ := HM3.out
      have HM5 : Hid (MachAt w5 (blks b A6 n6 c6 E6 m6 k6) b 0 0 r A6 n6 c6 E6 m6 k6) := hm6.tight.same fun q hq => hgr.block q (hm6.ltAll q hq) (fun e => hm6.row_not HC3.out.2 (by decide) (by decide) (by decide) q (by first | exact e | exact e.symm) hq)
      have HLO : Hid (∀ q, blks b A6 n6 c6 E6 m6 k6 q → w0.heap.size ≤ q) := fun q hq => HNS.out.2.2 q (hm6.sub q hq)
      have HP5 : Hid (w5.heap[p]? = some (.cells [.slice (some ⟨g, 0, none⟩) k c3].toArray 45 (0, 0))) := (hgr.block _ (box_lt HP3.out) (fun e => own_ne HC3.out.2 HP3.out (by decide) _ (by first | exact e | exact e.symm) rfl)).trans HP3.out
      have HB5 : Hid (Below w0.heap.size w0 w5) := HB3.out.grown hgr HB3.out.size (fun q hq => (HC3.out.lt q hq).1)
      have HO5 := Lib.hid hO5
      have HSS : Hid (markK s rev ops (k + 1) = T ++ [(y0, y1, y2, y3, y4, y5, y6, y7)]) := HS.out
      clear hown hgr hO5 hm6 HP3 HC3 HB3 HM3 HNW hTm hHeld
      refine hK _ _ (by exact trivial) (fun hHeld => ?_)
      clear hK K
      try simp only [Act.put, pj]
      refine wpAnyH_ready (rs := [6]) (by kernel_rfl) (by simp) (AllReadyH.cons rfl (fun K hK => ?_) AllReadyH.nil)
      have c5' : w5.cell? ⟨p, 0, none⟩ = some (.slice (some ⟨g, 0, none⟩) k c3) := box_cell HP5.out 0 _ rfl
      have f5 := box_frozen HP5.out 0
      go_simp
      refine hK _ _ (by exact trivial) (fun hHeld => ?_)
      clear hK K
      refine wpAnyH_done (by kernel_rfl) ?_ _
      clear c5' f5
      go_wp2
      go_end0
      have hrow := set_row (i := 0) HP5.out (.slice (some ⟨g5, 0, none⟩) (k + 1) c5) [.slice (some ⟨g5, 0, none⟩) (k + 1) c5] rfl
      have HN : ∀ q, q ≠ p → (w5.setCell ⟨p, 0, none⟩ (.slice (some ⟨g5, 0, none⟩) (k + 1) c5)).heap[q]? = w5.heap[q]? := fun q hq => Below.heap_setCell _ _ _ q hq
      refine ⟨rfl, ⟨g5, c5, by rw [hrow]; exact row_box HP5.out, ?_⟩, A6, n6, c6, E6, m6, k6, ?_, HLO.out, HB5.out.setCell (by exact hp) _⟩
      · rw [HSS.out]
        exact HO5.out.same fun q hq => HN q (fun e => own_ne HO5.out.2 HP5.out (by decide) q hq e)
      · rw [← HRR.out]
        exact HM5.out.same fun q hq => HN q (fun e => HM5.out.not HP5.out (by decide) (by decide) (by decide) (e ▸ hq))
    · skip
      go_simp
      refine (markOf_any _ r.e A3 n3 c3' (by exact HO1.out.podsAll) (by have := HG.out.1; have := HO1.out.1; omega)).mono ?_
      rintro e w2 ⟨rfl, hb⟩
      obtain ⟨y0, y1, y2, y3, y4, y5, y6, y7, hy⟩ : ∃ y0 y1 y2 y3 y4 y5 y6 y7, markV r.e = (y0, y1, y2, y3, y4, y5, y6, y7) := ⟨_, _, _, _, _, _, _, _, rfl⟩
      have hv : Value.agg (Mks.cells (markV r.e)).toArray = .agg #[.int .i64 y0, .int .i64 y1, .int .i64 y2, .int .i64 y3, .int .i64 y4, .int .i64 y5, .int .i64 y6, .int .i64 y7] := by rw [hy]; rfl
      rw [hv]
      rw [hy] at HS
      clear hv hy
      have HP2 : Hid (w2.heap[p]? = some (.cells #[.slice (some ⟨g, 0, none⟩) k c3] 45 (0, 0))) := box_below HP1.out hb
      have HC2 : Hid (Mks.OwnL w2 w0.heap.size (some ⟨g, 0, none⟩) k c3 T) := HC1.out.below hb
      have HB2 : Hid (Below w0.heap.size w0 w2) := bel_then HB1.out hb HB1.out.size
      have HM2 : Hid (Mach w2 S b 0 0 r) := Mach.Mach.below HM1.out hb
      clear hb HO1 HP1 HC1 HB1 HM1 hHeld
      refine hK _ _ (by exact trivial) (fun hHeld => ?_)
      clear hK K
      try simp only [Act.put, pj]
      refine wpAnyH_ready (rs := [0, 4]) (by kernel_rfl) (by simp) (AllReadyH.cons rfl (fun K hK => ?_) (AllReadyH.cons rfl (fun K hK => ?_) AllReadyH.nil))
      · have c0 : w2.cell? ⟨p, 0, none⟩ = some (.slice (some ⟨g, 0, none⟩) k c3) := box_cell HP2.out 0 _ rfl
        go_simp
        refine hK _ _ (by exact trivial) (fun hHeld => ?_)
        clear hK K
        try simp only [Act.put, pj]
        (try clear c0)
        refine wpAnyH_ready (rs := [4]) (by kernel_rfl) (by simp) (AllReadyH.cons rfl (fun K hK => ?_) AllReadyH.nil)
        go_simp
        obtain ⟨w3, hw3⟩ : ∃ x, x = w2.alloc (.cells #[.int .i64 y0, .int .i64 y1, .int .i64 y2, .int .i64 y3, .int .i64 y4, .int .i64 y5, .int .i64 y6, .int .i64 y7] 97) := ⟨_, rfl⟩
        have hb : Below w2.heap.size w2 w3 := by rw [hw3]; exact bel1 _ _
        have HNW : Hid (∀ j u, [.int .i64 y0, .int .i64 y1, .int .i64 y2, .int .i64 y3, .int .i64 y4, .int .i64 y5, .int .i64 y6, .int .i64 y7][j]? = some u → w3.cell? ((⟨w2.heap.size, 0, none⟩ : Addr).add j) = some u) := by rw [hw3]; exact Crew.news_new w2 [.int .i64 y0, .int .i64 y1, .int .i64 y2, .int .i64 y3, .int .i64 y4, .int .i64 y5, .int .i64 y6, .int .i64 y7] 97
        rw [← hw3]
        clear hw3
        have HP3 : Hid (w3.heap[p]? = some (.cells #[.slice (some ⟨g, 0, none⟩) k c3] 45 (0, 0))) := box_below HP2.out hb
        have HC3 : Hid (Mks.OwnL w3 w0.heap.size (some ⟨g, 0, none⟩) k c3 T) := HC2.out.below hb
        have HB3 : Hid (Below w0.heap.size w0 w3) := bel_then HB2.out hb HB2.out.size
        have HM3 : Hid (Mach w3 S b 0 0 r) := Mach.Mach.below HM2.out hb
        clear hb HP2 HC2 HB2 HM2 hHeld
        refine hK _ _ (by exact trivial) (fun hHeld => ?_)
        clear hK K
        try simp only [Act.put, pj]
        refine wpAnyH_ready (rs := [5]) (by kernel_rfl) (by simp) (AllReadyH.cons rfl (fun K hK => ?_) AllReadyH.nil)
        have hTm : T.length = k := HC3.out.1
        refine wp_append (.tmp 5) (.tmp 9) _ rfl w0.heap.size 97 i0 _ 8 64 Tryz.underlying45 hi0 hz0 hz1 hz2 rfl (by omega) (.slice (some ⟨g, 0, none⟩) k c3) k (Mks.flat T) rfl HC3.out.2 ⟨w2.heap.size, 0, none⟩ 1 1 [.int .i64 y0, .int .i64 y1, .int .i64 y2, .int .i64 y3, .int .i64 y4, .int .i64 y5, .int .i64 y6, .int .i64 y7] rfl rfl HNW.out (by simp [Value.oneCell']) (by unfold maxLen; omega) (by omega) HB3.out.size ?_
        intro v2 w5 hown hgr
        obtain ⟨A5, c5, rfl, hO5⟩ := Mks.own_app (p := (y0, y1, y2, y3, y4, y5, y6, y7)) hTm hown
        obtain ⟨g5, rfl, _, _⟩ := hO5.at0 (by omega)
        obtain ⟨A6, n6, c6, E6, m6, k6, hm6⟩ := HM3.out
        have HM5 : Hid (MachAt w5 (blks b A6 n6 c6 E6 m6 k6) b 0 0 r A6 n6 c6 E6 m6 k6) := hm6.tight.same fun q hq => hgr.block q (hm6.ltAll q hq) (fun e => hm6.row_not HC3.out.2 (by decide) (by decide) (by decide) q (by first | exact e | exact e.symm) hq)
        have HLO : Hid (∀ q, blks b A6 n6 c6 E6 m6 k6 q → w0.heap.size ≤ q) := fun q hq => HNS.out.2.2 q (hm6.sub q hq)
        have HP5 : Hid (w5.heap[p]? = some (.cells [.slice (some ⟨g, 0, none⟩) k c3].toArray 45 (0, 0))) := (hgr.block _ (box_lt HP3.out) (fun e => own_ne HC3.out.2 HP3.out (by decide) _ (by first | exact e | exact e.symm) rfl)).trans HP3.out
        have HB5 : Hid (Below w0.heap.size w0 w5) := HB3.out.grown hgr HB3.out.size (fun q hq => (HC3.out.lt q hq).1)
        have HO5 := Lib.hid hO5
        have HSS : Hid (markK s rev ops (k + 1) = T ++ [(y0, y1, y2, y3, y4, y5, y6, y7)]) := HS.out
        clear hown hgr hO5 hm6 HP3 HC3 HB3 HM3 HNW hTm hHeld
        refine hK _ _ (by exact trivial) (fun hHeld => ?_)
        clear hK K
        try simp only [Act.put, pj]
        refine wpAnyH_ready (rs := [6]) (by kernel_rfl) (by simp) (AllReadyH.cons rfl (fun K hK => ?_) AllReadyH.nil)
        have c5' : w5.cell? ⟨p, 0, none⟩ = some (.slice (some ⟨g, 0, none⟩) k c3) := box_cell HP5.out 0 _ rfl
        have f5 := box_frozen HP5.out 0
        go_simp
        refine hK _ _ (by exact trivial) (fun hHeld => ?_)
        clear hK K
        refine wpAnyH_done (by kernel_rfl) ?_ _
        clear c5' f5
        go_wp2
        go_end0
        have hrow := set_row (i := 0) HP5.out (.slice (some ⟨g5, 0, none⟩) (k + 1) c5) [.slice (some ⟨g5, 0, none⟩) (k + 1) c5] rfl
        have HN : ∀ q, q ≠ p → (w5.setCell ⟨p, 0, none⟩ (.slice (some ⟨g5, 0, none⟩) (k + 1) c5)).heap[q]? = w5.heap[q]? := fun q hq => Below.heap_setCell _ _ _ q hq
        refine ⟨rfl, ⟨g5, c5, by rw [hrow]; exact row_box HP5.out, ?_⟩, A6, n6, c6, E6, m6, k6, ?_, HLO.out, HB5.out.setCell (by exact hp) _⟩
        · rw [HSS.out]
          exact HO5.out.same fun q hq => HN q (fun e => own_ne HO5.out.2 HP5.out (by decide) q hq e)
        · rw [← HRR.out]
          exact HM5.out.same fun q hq => HN q (fun e => HM5.out.not HP5.out (by decide) (by decide) (by decide) (e ▸ hq))
      · skip
        go_simp
        obtain ⟨w3, hw3⟩ : ∃ x, x = w2.alloc (.cells #[.int .i64 y0, .int .i64 y1, .int .i64 y2, .int .i64 y3, .int .i64 y4, .int .i64 y5, .int .i64 y6, .int .i64 y7] 97) := ⟨_, rfl⟩
        have hb : Below w2.heap.size w2 w3 := by rw [hw3]; exact bel1 _ _
        have HNW : Hid (∀ j u, [.int .i64 y0, .int .i64 y1, .int .i64 y2, .int .i64 y3, .int .i64 y4, .int .i64 y5, .int .i64 y6, .int .i64 y7][j]? = some u → w3.cell? ((⟨w2.heap.size, 0, none⟩ : Addr).add j) = some u) := by rw [hw3]; exact Crew.news_new w2 [.int .i64 y0, .int .i64 y1, .int .i64 y2, .int .i64 y3, .int .i64 y4, .int .i64 y5, .int .i64 y6, .int .i64 y7] 97
        rw [← hw3]
        clear hw3
        have HP3 : Hid (w3.heap[p]? = some (.cells #[.slice (some ⟨g, 0, none⟩) k c3] 45 (0, 0))) := box_below HP2.out hb
        have HC3 : Hid (Mks.OwnL w3 w0.heap.size (some ⟨g, 0, none⟩) k c3 T) := HC2.out.below hb
        have HB3 : Hid (Below w0.heap.size w0 w3) := bel_then HB2.out hb HB2.out.size
        have HM3 : Hid (Mach w3 S b 0 0 r) := Mach.Mach.below HM2.out hb
        clear hb HP2 HC2 HB2 HM2 hHeld
        refine hK _ _ (by exact trivial) (fun hHeld => ?_)
        clear hK K
        try simp only [Act.put, pj]
        refine wpAnyH_ready (rs := [0]) (by kernel_rfl) (by simp) (AllReadyH.cons rfl (fun K hK => ?_) AllReadyH.nil)
        have c0 : w3.cell? ⟨p, 0, none⟩ = some (.slice (some ⟨g, 0, none⟩) k c3) := box_cell HP3.out 0 _ rfl
        go_simp
        refine hK _ _ (by exact trivial) (fun hHeld => ?_)
        clear hK K
        try simp only [Act.put, pj]
        (try clear c0)
        refine wpAnyH_ready (rs := [5]) (by kernel_rfl) (by simp) (AllReadyH.cons rfl (fun K hK => ?_) AllReadyH.nil)
        have hTm : T.length = k := HC3.out.1
        refine wp_append (.tmp 5) (.tmp 9) _ rfl w0.heap.size 97 i0 _ 8 64 Tryz.underlying45 hi0 hz0 hz1 hz2 rfl (by omega) (.slice (some ⟨g, 0, none⟩) k c3) k (Mks.flat T) rfl HC3.out.2 ⟨w2.heap.size, 0, none⟩ 1 1 [.int .i64 y0, .int .i64 y1, .int .i64 y2, .int .i64 y3, .int .i64 y4, .int .i64 y5, .int .i64 y6, .int .i64 y7] rfl rfl HNW.out (by simp [Value.oneCell']) (by unfold maxLen; omega) (by omega) HB3.out.size ?_
        intro v2 w5 hown hgr
        obtain ⟨A5, c5, rfl, hO5⟩ := Mks.own_app (p := (y0, y1, y2, y3, y4, y5, y6, y7)) hTm hown
        obtain ⟨g5, rfl, _, _⟩ := hO5.at0 (by omega)
        obtain ⟨A6, n6, c6, E6, m6, k6, hm6⟩ := HM3.out
        have HM5 : Hid (MachAt w5 (blks b A6 n6 c6 E6 m6 k6) b 0 0 r A6 n6 c6 E6 m6 k6) := hm6.tight.same fun q hq => hgr.block q (hm6.ltAll q hq) (fun e => hm6.row_not HC3.out.2 (by decide) (by decide) (by decide) q (by first | exact e | exact e.symm) hq)
        have HLO : Hid (∀ q, blks b A6 n6 c6 E6 m6 k6 q → w0.heap.size ≤ q) := fun q hq => HNS.out.2.2 q (hm6.sub q hq)
        have HP5 : Hid (w5.heap[p]? = some (.cells [.slice (some ⟨g, 0, none⟩) k c3].toArray 45 (0, 0))) := (hgr.block _ (box_lt HP3.out) (fun e => own_ne HC3.out.2 HP3.out (by decide) _ (by first | exact e | exact e.symm) rfl)).trans HP3.out
        have HB5 : Hid (Below w0.heap.size w0 w5) := HB3.out.grown hgr HB3.out.size (fun q hq => (HC3.out.lt q hq).1)
        have HO5 := Lib.hid hO5
        have HSS : Hid (markK s rev ops (k + 1) = T ++ [(y0, y1, y2, y3, y4, y5, y6, y7)]) := HS.out
        clear hown hgr hO5 hm6 HP3 HC3 HB3 HM3 HNW hTm hHeld
        refine hK _ _ (by exact trivial) (fun hHeld => ?_)
        clear hK K
        try simp only [Act.put, pj]
        refine wpAnyH_ready (rs := [6]) (by kernel_rfl) (by simp) (AllReadyH.cons rfl (fun K hK => ?_) AllReadyH.nil)
        have c5' : w5.cell? ⟨p, 0, none⟩ = some (.slice (some ⟨g, 0, none⟩) k c3) := box_cell HP5.out 0 _ rfl
        have f5 := box_frozen HP5.out 0
        go_simp
        refine hK _ _ (by exact trivial) (fun hHeld => ?_)
        clear hK K
        refine wpAnyH_done (by kernel_rfl) ?_ _
        clear c5' f5
        go_wp2
        go_end0
        have hrow := set_row (i := 0) HP5.out (.slice (some ⟨g5, 0, none⟩) (k + 1) c5) [.slice (some ⟨g5, 0, none⟩) (k + 1) c5] rfl
        have HN : ∀ q, q ≠ p → (w5.setCell ⟨p, 0, none⟩ (.slice (some ⟨g5, 0, none⟩) (k + 1) c5)).heap[q]? = w5.heap[q]? := fun q hq => Below.heap_setCell _ _ _ q hq
        refine ⟨rfl, ⟨g5, c5, by rw [hrow]; exact row_box HP5.out, ?_⟩, A6, n6, c6, E6, m6, k6, ?_, HLO.out, HB5.out.setCell (by exact hp) _⟩
        · rw [HSS.out]
          exact HO5.out.same fun q hq => HN q (fun e => own_ne HO5.out.2 HP5.out (by decide) q hq e)
        · rw [← HRR.out]
          exact HM5.out.same fun q hq => HN q (fun e => HM5.out.not HP5.out (by decide) (by decide) (by decide) (e ▸ hq))
def trP (s : Spc) (rev : Int) (ops : Ops.L) : Mks.L := if okP s rev ops then markK s rev ops ops.length else []
theorem few (s : Spc) (rev : Int) (ops : Ops.L) : Mks.lty.Few (trP s rev ops) := by
  show (trP s rev ops).length ≤ 1048576
  unfold trP
  split
  · rename_i h
    simp only [okP, Bool.and_eq_true, decide_eq_true_eq] at h
    rw [markK_len]; omega
  · decide
theorem made1_of {w w' : World} {A : Option Addr} {n c : Nat} {zs : Mks.L} {x : Value} (hb : Below w.heap.size w w') (hO : Mks.OwnL w' w.heap.size A n c zs) : Made1 Mks.lty zs x w (.returned (.tuple #[.slice A n c, x])) w' := by
  have hl := hO.1
  subst hl
  exact ⟨_, fun q => (Value.slice A zs.length c).ownBlock = some q, rfl, ⟨⟨A, c, rfl, hO.zero, fun q hq => hq⟩, fun q hq => hO.lt q hq, Nat.le_refl _⟩, hb⟩
theorem own_new (W : World) (lo : Nat) (h : lo ≤ W.heap.size) : Mks.OwnL (W.alloc (.cells #[] 97)) lo (some ⟨W.heap.size, 0, none⟩) 0 0 [] :=
  ⟨rfl, rfl, .inr ⟨W.heap.size, 0, #[], rfl, h, box_new W _, Nat.le_refl _, Nat.zero_le _, rfl, rfl⟩⟩
set_option maxRecDepth 100000 in
set_option maxHeartbeats 800000 in
theorem trailOf_any (s : Spc) (rev : Int) (Fa : Option Addr) (n c0 : Nat) (ops : Ops.L) (w : World) (hr : Ops.IsL w w.heap.size Fa n ops) (hn : n ≤ 1048576) (hwf : ∀ p ∈ ops, (Lit.int .i64 p.2.1).wf = true) :
    Calls Tryz.prog 17 #[.agg (spL s).toArray, .int .i64 rev, .slice Fa n c0] w (Made1 Mks.lty (trP s rev ops) (.bool (okP s rev ops)) w) := by
  have HOP := Lib.hid hr
  have HL : Hid (ops.length = n) := hr.1
  have HWF := Lib.hid hwf
  obtain ⟨U, hU⟩ : ∃ U, U = w.alloc (.cells (spL s).toArray 25) := ⟨_, rfl⟩
  have hsu : U.heap.size = w.heap.size + 1 := by rw [hU]; simp
  have hbu : Below w.heap.size w U := by rw [hU]; exact bel1 _ _
  have ks : U.heap[w.heap.size]? = some (.cells (spL s).toArray 25 (0, 0)) := by rw [hU]; exact box_new w _
  obtain ⟨V, hV⟩ : ∃ V, V = (U.alloc (.cells #[] 97)).alloc (.cells #[.slice (some ⟨w.heap.size + 1, 0, none⟩) 0 0] 45) := ⟨_, rfl⟩
  have HB0 : Hid (Below w.heap.size w V) := by rw [hV]; exact (hbu.alloc (by omega) _).alloc (by simp; omega) _
  have KS0 : Hid (V.heap[w.heap.size]? = some (.cells (spL s).toArray 25 (0, 0))) := by rw [hV]; exact box_alloc (box_alloc ks _) _
  have HJ0 : Hid (Marks w s rev ops (w.heap.size + 1 + 1) 0 V) := by
    refine ⟨w.heap.size + 1, 0, ?_, ?_⟩
    · rw [hV]
      have h := box_new (U.alloc (.cells #[] 97)) (.cells #[.slice (some ⟨w.heap.size + 1, 0, none⟩) 0 0] 45)
      rw [World.size_alloc, hsu] at h
      exact h
    · rw [hV]
      have h := own_new U w.heap.size (by omega)
      rw [hsu] at h
      exact h.below (bel1 _ _)
  rw [hU] at hV
  clear hr hwf ks hbu hsu hU
  go_enter Tryz.func17, Tryz.ntmps17
  go_upto_region 2 with fail
  rw [← hV]
  clear hV
  obtain ⟨p, hp⟩ : ∃ p, p = w.heap.size + 1 + 1 := ⟨_, rfl⟩
  rw [← hp] at HJ0 ⊢
  have hpw : w.heap.size ≤ p := by omega
  clear hp
  go_wp2_with (refine wpList_get rfl 25 _ rfl w.heap.size 0 rfl KS0.out (spL s) List.take_length Tryz.underlying25 rfl (by kernel_rfl) ?_)
  refine (playThrough_any w V s rev Fa n c0 ops 59 [.pointer (some ⟨p, 0, none⟩)] (Marks w s rev ops p) HB0.out HOP.out hn HWF.out (enters_of Tryz.func59 (by kernel_rfl) rfl) HJ0.out ?jb ?jt ?cb).mono ?_
  case jb =>
    rintro k W W' ⟨g, c, h1, h2⟩ hb
    exact ⟨g, c, box_below h1 hb, h2.below hb⟩
  case jt =>
    rintro k W W' b lk ot r A n c E m j ⟨g, c', h1, h2⟩ hm ht
    exact ⟨g, c', (ht.block _ (box_lt h1) (hm.not h1 (by decide) (by decide) (by decide))).trans h1, h2.same fun q hq => ht.block q (h2.lt q hq).2 (hm.row_not h2.2 (by decide) (by decide) (by decide) q hq)⟩
  case cb =>
    intro k W b hk hnb h200 hj ha
    exact marks_any w s rev ops n p b k _ W hpw h200 HL.out hk hnb hj ha
  rintro e w2 (⟨hno, rfl, hj, hb⟩ | ⟨hok, b, rfl, hj, ha⟩)
  · obtain ⟨g, c, h1, h2⟩ := hj
    have c0 : w2.cell? ⟨p, 0, none⟩ = some (.slice (some ⟨g, 0, none⟩) 0 c) := box_cell h1 0 _ rfl
    have HF := Lib.hid hno
    have HO := Lib.hid h2
    have HB := Lib.hid hb
    clear h1 h2 hb hno HJ0 KS0 HB0
    go_wp2
    go_ret2
    have e1 : trP s rev ops = [] := by rw [trP, HF.out]; rfl
    rw [e1, HF.out]
    exact made1_of HB.out HO.out
  · obtain ⟨g, c, h1, h2⟩ := hj
    obtain ⟨_, _, _, _, _, _, _, _, hb⟩ := ha
    have c0 : w2.cell? ⟨p, 0, none⟩ = some (.slice (some ⟨g, 0, none⟩) n c) := box_cell h1 0 _ rfl
    have HF := Lib.hid hok
    have HO := Lib.hid h2
    have HB := Lib.hid hb
    clear h1 h2 hb hok HJ0 KS0 HB0
    go_wp2
    go_ret2
    have e1 : trP s rev ops = markK s rev ops n := by rw [trP, HF.out, HL.out]; rfl
    rw [e1, HF.out]
    exact made1_of HB.out HO.out
end Go.Proofs.YtklgjjmcflgjeaaGreat.Trail
