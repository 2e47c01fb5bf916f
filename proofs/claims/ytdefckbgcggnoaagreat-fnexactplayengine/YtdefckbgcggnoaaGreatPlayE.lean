/-
  THE PROGRAM's PlayEngine over this seat's translation.
-/
import Derived.Test.YtdefckbgcggnoaaGreatPlayM
import Derived.Test.YtdefckbgcggnoaaGreatPlayS
namespace Go.Proofs.YtdefckbgcggnoaaGreat.Play
open Go.ChangeShapes Go.WideShapes Go.ChangeAt Go.RowKit
open Go.Proofs.YtdefckbgcggnoaaGreat.LK Go.Proofs.YtdefckbgcggnoaaGreat.Pods Go.Proofs.YtdefckbgcggnoaaGreat.EngV Go.Proofs.YtdefckbgcggnoaaGreat.EngTy Go.Proofs.YtdefckbgcggnoaaGreat.Eng Go.Proofs.YtdefckbgcggnoaaGreat.EngInv Go.Proofs.YtdefckbgcggnoaaGreat.Seg
open Go.Proofs.YtdefckbgcggnoaaGreat.Mach (maL MachAt Mach blks own_ne)
open Go.Proofs.YtdefckbgcggnoaaGreat.Has
set_option linter.unusedVariables false
set_option linter.unusedSimpArgs false
/-- The codes, in their variable's cell. -/
def Codes (w0 : World) (s : Spc) (rev : Int) (ops : Ops.L) (p p0 : Nat) (k : Nat) (W : World) : Prop :=
  ∃ g c, W.heap[p]? = some (.cells #[.slice (some ⟨g, 0, none⟩) k c] 38 (0, 0)) ∧ OwnI W w0.heap.size (some ⟨g, 0, none⟩) k c (codeK s rev ops k) ∧ W.heap[p0]? = some (.cells (enL zeroE none 0 0).toArray 36 (0, 0))
set_option maxRecDepth 100000 in
set_option maxHeartbeats 800000 in
theorem codes_any (w0 : World) (s : Spc) (rev : Int) (ops : Ops.L) (n p p0 b k : Nat) (W : World) (hp : w0.heap.size ≤ p) (hn : n ≤ 1048576) (hl : ops.length = n) (hk : k < n) (hJ : Codes w0 s rev ops p p0 k W) (hA : At w0 s rev ops b (k + 1) W) :
    Calls Tryz.prog 35 (.pointer (some ⟨b, 0, none⟩) :: .int .i64 ((runK s rev ops k).step (ops.getD k Ops.z)).2 :: [.pointer (some ⟨p, 0, none⟩)]).toArray W (fun e W' => e = .returned (.tuple #[]) ∧ Codes w0 s rev ops p p0 (k + 1) W' ∧ At w0 s rev ops b (k + 1) W') := by
  obtain ⟨i0, hi0, hz0, hz1, hz2⟩ := info_parts Has.infoInt
  obtain ⟨g, c3, hc, ho, hz0'⟩ := hJ
  have HZ := Lib.hid hz0'
  have hpp : p0 ≠ p := by rintro rfl; rw [hc] at hz0'; injection hz0' with h; injection h with _ h _; exact absurd h (by decide)
  clear hz0'
  obtain ⟨A, n1, c1, E, m, j, hm, hlo, hb⟩ := hA
  have HC := Lib.hid hc
  have HO := Lib.hid ho
  have HM := Lib.hid hm
  have HLO := Lib.hid hlo
  have HB := Lib.hid hb
  obtain ⟨Q, hQ⟩ : ∃ Q, Q = ((runK s rev ops k).step (ops.getD k Ops.z)).2 := ⟨_, rfl⟩
  obtain ⟨T, hT⟩ : ∃ T, T = codeK s rev ops k := ⟨_, rfl⟩
  rw [← hQ]
  rw [← hT] at HO
  have HS : Hid (codeK s rev ops (k + 1) = T ++ [Q]) := by show _ = _; rw [codeK_succ (by omega), hT, hQ]
  have hTm : T.length = k := HO.out.1
  have c0 : W.cell? ⟨p, 0, none⟩ = some (.slice (some ⟨g, 0, none⟩) k c3) := box_cell hc 0 _ rfl
  clear hc ho hm hlo hb hQ hT
  go_enter Tryz.func35, Tryz.ntmps35
  go_wp2_with (at_builtin; refine wpList_append_own _ rfl (.tmp 5) (.tmp 7) _ rfl w0.heap.size 3 i0 _ 1 8 Tryz.underlying38 hi0 hz0 hz1 hz2 rfl (by omega) (.slice (some ⟨g, 0, none⟩) k c3) k (T.map (Value.int .i64)) rfl ?o1 ⟨W.heap.size, 0, none⟩ 1 1 [.int .i64 Q] rfl rfl (Crew.news_new W [.int .i64 Q] 3) ?o3 ?o4 ?o5 ?o6 ?_)
  case o1 => exact (HO.out.alloc _).2
  case o3 => first | rfl | (intro u hu; simp at hu; subst hu; rfl)
  case o4 => unfold maxLen; omega
  case o5 => omega
  case o6 => have := HB.out.size; first | omega | (simp; omega)
  intro v2 w5 hown hgr _
  obtain ⟨g5, c5, rfl, hO5⟩ := EngTurn.of_app (zs := T) (ys := [Q]) hTm (by simp) hown
  have HMa := Lib.hid (HM.out.below (bel1 W (.cells #[.int .i64 Q] 3)))
  have HOa : Hid (OwnI (W.alloc (.cells #[.int .i64 Q] 3)) w0.heap.size (some ⟨g, 0, none⟩) k c3 T) := HO.out.alloc _
  have HCa : Hid ((W.alloc (.cells #[.int .i64 Q] 3)).heap[p]? = some (.cells #[.slice (some ⟨g, 0, none⟩) k c3] 38 (0, 0))) := box_alloc HC.out _
  have HM5 : Hid (MachAt w5 (blks b A n1 c1 E m j) b 0 0 (runK s rev ops (k + 1)) A n1 c1 E m j) := HMa.out.same fun q hq => hgr.block q (HMa.out.ltAll q hq) (fun e => HMa.out.row_not HOa.out.2 (by decide) (by decide) (by decide) q (by first | exact e | exact e.symm) hq)
  have HC5 : Hid (w5.heap[p]? = some (.cells [.slice (some ⟨g, 0, none⟩) k c3].toArray 38 (0, 0))) := (hgr.block _ (box_lt HCa.out) (fun e => own_ne HOa.out.2 HCa.out (by decide) _ (by first | exact e | exact e.symm) rfl)).trans HCa.out
  have HB5 : Hid (Below w0.heap.size w0 w5) := (HB.out.alloc HB.out.size _).grown hgr (by have := HB.out.size; simp; omega) (fun q hq => (HOa.out.2.lt q hq).1)
  have HZ5 : Hid (w5.heap[p0]? = some (.cells (enL zeroE none 0 0).toArray 36 (0, 0))) := (hgr.block _ (box_lt (box_alloc HZ.out _)) (fun e => own_ne HOa.out.2 (box_alloc HZ.out _) (by decide) _ (by first | exact e | exact e.symm) rfl)).trans (box_alloc HZ.out _)
  have HO5 := Lib.hid hO5
  have c5' : w5.cell? ⟨p, 0, none⟩ = some (.slice (some ⟨g, 0, none⟩) k c3) := box_cell HC5.out 0 _ rfl
  have f5 := box_frozen HC5.out 0
  clear hown hgr hO5 HMa HOa HCa HC HO HM HB c0
  go_wp2
  go_end0
  have hrow := set_row (i := 0) HC5.out (.slice (some ⟨g5, 0, none⟩) (k + 1) c5) [.slice (some ⟨g5, 0, none⟩) (k + 1) c5] rfl
  have HN : ∀ q, q ≠ p → (w5.setCell ⟨p, 0, none⟩ (.slice (some ⟨g5, 0, none⟩) (k + 1) c5)).heap[q]? = w5.heap[q]? := fun q hq => Below.heap_setCell _ _ _ q hq
  refine ⟨rfl, ⟨g5, c5, by rw [hrow]; exact row_box HC5.out, ?_, (HN p0 hpp).trans HZ5.out⟩, A, n1, c1, E, m, j, HM5.out.same fun q hq => HN q (fun e => HM5.out.not HC5.out (by decide) (by decide) (by decide) (e ▸ hq)), HLO.out, HB5.out.setCell (by exact hp) _⟩
  rw [HS.out]
  exact IntTy.ownI_same HO5.out fun q hq => HN q (fun e => own_ne HO5.out.2 HC5.out (by decide) q hq e)
set_option maxRecDepth 100000 in
set_option maxHeartbeats 800000 in
theorem play_any (s : Spc) (rev : Int) (Fa : Option Addr) (n c0 : Nat) (ops : Ops.L) (w : World) (hr : Ops.IsL w w.heap.size Fa n ops) (hn : n ≤ 1048576) (hwf : ∀ p ∈ ops, (Lit.int .i64 p.2.1).wf = true) :
    Calls Tryz.prog 9 #[.agg (spL s).toArray, .int .i64 rev, .slice Fa n c0] w (Made3 ety Evs.lty IntTy.ity (engP s rev ops) (evsP s rev ops) (codP s rev ops) (.bool (okP s rev ops)) w) := by
  have HOP := Lib.hid hr
  have HL : Hid (ops.length = n) := hr.1
  have HWF := Lib.hid hwf
  have HNO : Hid (okP s rev ops = false → ∀ W, Below w.heap.size w W → Made3 ety Evs.lty IntTy.ity (engP s rev ops) (evsP s rev ops) (codP s rev ops) (.bool (okP s rev ops)) w (.returned (.tuple #[.agg (enL zeroE none 0 0).toArray, .slice none 0 0, .slice none 0 0, .bool false])) W) := fun h W hb => made_none h hb
  obtain ⟨U, hU⟩ : ∃ U, U = (w.alloc (.cells (spL s).toArray 25)).alloc (.cells #[.int .i64 0, .int .i64 0, .int .i64 0, .int .i64 0, .int .i64 0, .int .i64 0, .int .i64 0, .int .i64 0, .int .i64 0, .int .i64 0, .int .i64 0, .int .i64 0, .int .i64 0, .int .i64 0, .int .i64 0, .slice none 0 0, .int .i64 0, .int .i64 0, .int .i64 0, .int .i64 0] 36) := ⟨_, rfl⟩
  have hsu : U.heap.size = w.heap.size + 1 + 1 := by rw [hU]; simp
  have hbu : Below w.heap.size w U := by rw [hU]; exact bel2 _ _ _
  have ks : U.heap[w.heap.size]? = some (.cells (spL s).toArray 25 (0, 0)) := by rw [hU]; exact box_alloc (box_new w _) _
  have kr : U.heap[w.heap.size + 1]? = some (.cells (enL zeroE none 0 0).toArray 36 (0, 0)) := by rw [hU]; have h := box_new (w.alloc (.cells (spL s).toArray 25)) (.cells #[.int .i64 0, .int .i64 0, .int .i64 0, .int .i64 0, .int .i64 0, .int .i64 0, .int .i64 0, .int .i64 0, .int .i64 0, .int .i64 0, .int .i64 0, .int .i64 0, .int .i64 0, .int .i64 0, .int .i64 0, .slice none 0 0, .int .i64 0, .int .i64 0, .int .i64 0, .int .i64 0] 36); simp only [World.size_alloc] at h; exact h
  obtain ⟨V, hV⟩ : ∃ V, V = (U.alloc (.cells #[] 3)).alloc (.cells #[.slice (some ⟨w.heap.size + 1 + 1, 0, none⟩) 0 0] 38) := ⟨_, rfl⟩
  have HB0 : Hid (Below w.heap.size w V) := by rw [hV]; exact (hbu.alloc (by omega) _).alloc (by simp; omega) _
  have KS0 : Hid (V.heap[w.heap.size]? = some (.cells (spL s).toArray 25 (0, 0))) := by rw [hV]; exact box_alloc (box_alloc ks _) _
  have HJ0 : Hid (Codes w s rev ops (w.heap.size + 1 + 1 + 1) (w.heap.size + 1) 0 V) := by
    refine ⟨w.heap.size + 1 + 1, 0, ?_, ?_, ?_⟩
    · rw [hV]
      have h := box_new (U.alloc (.cells #[] 3)) (.cells #[.slice (some ⟨w.heap.size + 1 + 1, 0, none⟩) 0 0] 38)
      rw [World.size_alloc, hsu] at h
      exact h
    · rw [hV, codeK_zero]
      have h := EngTurn.own_new U w.heap.size (by omega)
      rw [hsu] at h
      exact h.alloc _
    · rw [hV]; exact box_alloc (box_alloc kr _) _
  rw [hU] at hV
  clear hr hwf ks kr hbu hsu hU
  go_enter Tryz.func9, Tryz.ntmps9
  go_upto_region 2 with fail
  rw [← hV]
  clear hV
  obtain ⟨p, hp⟩ : ∃ p, p = w.heap.size + 1 + 1 + 1 := ⟨_, rfl⟩
  rw [← hp] at HJ0 ⊢
  have hpw : w.heap.size ≤ p := by omega
  clear hp
  go_wp2_with (refine wpList_get rfl 25 _ rfl w.heap.size 0 rfl KS0.out (spL s) List.take_length Tryz.underlying25 rfl (by kernel_rfl) ?_)
  refine (playThrough_any w V s rev Fa n c0 ops 35 [.pointer (some ⟨p, 0, none⟩)] (Codes w s rev ops p (w.heap.size + 1)) HB0.out HOP.out hn HWF.out (enters_of Tryz.func35 (by kernel_rfl) rfl) HJ0.out ?jb ?jt ?cb).mono ?_
  case jb =>
    rintro k W W' ⟨g, c, h1, h2, h3⟩ hb
    exact ⟨g, c, box_below h1 hb, h2.below hb, box_below h3 hb⟩
  case jt =>
    rintro k W W' b lk ot r A n c E m j ⟨g, c', h1, h2, h3⟩ hm ht
    exact ⟨g, c', (ht.block _ (box_lt h1) (hm.not h1 (by decide) (by decide) (by decide))).trans h1, IntTy.ownI_same h2 fun q hq => ht.block q (h2.2.lt q hq).2 (hm.row_not h2.2 (by decide) (by decide) (by decide) q hq), (ht.block _ (box_lt h3) (hm.not h3 (by decide) (by decide) (by decide))).trans h3⟩
  case cb =>
    intro k W b hk _ _ hj ha
    exact codes_any w s rev ops n p (w.heap.size + 1) b k W hpw hn HL.out hk hj ha
  rintro e w2 (⟨hno, rfl, hj, hb⟩ | ⟨hok, b, rfl, hj, ha⟩)
  · obtain ⟨g, c, _, _, h3⟩ := hj
    have KR2 := Lib.hid h3
    have HB2 := Lib.hid hb
    have HF := Lib.hid hno
    clear h3 hb hno HJ0 KS0 HB0
    go_wp2_with (refine wpList_put rfl rfl 36 _ _ rfl (w.heap.size + 1) 0 (enL zeroE none 0 0) rfl rfl KR2.out (by kernel_rfl) (enL zeroE none 0 0) rfl (Nat.le_of_ble_eq_true rfl) (enL_one _ _ _ _) ?_)
    exact bodyPost_ret (results_box3 Tryz.results9 _ rfl rfl rfl rfl (row_box KR2.out) Tryz.underlying36 rfl (by kernel_rfl)) rfl (HNO.out HF.out _ (row_below HB2.out _ _ (by omega) HB2.out.size))
  obtain ⟨g, c3, h1, h2, h3⟩ := hj
  obtain ⟨A1, n1, c1, E1, m1, k1, hm, hlo, hbm⟩ := ha
  have hok' := hok
  simp only [okP, Bool.and_eq_true, decide_eq_true_eq] at hok'
  obtain ⟨g1, g2, g3⟩ := runK_keep (s := s) (rev := rev) (ops := ops) (k := n) hok'.1 (by rw [← HL.out]; exact hok'.2) (by rw [HL.out]; exact Nat.le_refl _)
  have HE : Hid (engP s rev ops = (runK s rev ops n).e ∧ evsP s rev ops = (runK s rev ops n).ev ∧ codP s rev ops = codeK s rev ops n) := ⟨by rw [engP, if_pos hok, HL.out], by rw [evsP, if_pos hok, HL.out], by rw [codP, if_pos hok, HL.out]⟩
  obtain ⟨r, hr⟩ : ∃ r, r = runK s rev ops n := ⟨_, rfl⟩
  obtain ⟨T, hT⟩ : ∃ T, T = codeK s rev ops n := ⟨_, rfl⟩
  rw [← hr] at hm HE g1 g2
  rw [← hT] at h2 HE
  obtain ⟨S, hS⟩ : ∃ S, S = blks b A1 n1 c1 E1 m1 k1 := ⟨_, rfl⟩
  have HNS : Hid (¬ S p ∧ (∀ q, (Value.slice (some ⟨g, 0, none⟩) n c3).ownBlock = some q → ¬ S q) ∧ ¬ S (w.heap.size + 1) ∧ (∀ q, S q → w.heap.size ≤ q) ∧ (∀ q, S q → q < w2.heap.size)) := by
    rw [hS]
    exact ⟨hm.not h1 (by decide) (by decide) (by decide), fun q hq => hm.row_not h2.2 (by decide) (by decide) (by decide) q hq, hm.not h3 (by decide) (by decide) (by decide), hlo, hm.ltAll⟩
  rw [← hS] at hm
  have HM := Lib.hid (Mach.MachAt.below hm (undrew (Below.refl w2.heap.size w2.drew)))
  have HP := Lib.hid h1
  have HC := Lib.hid h2
  have HR := Lib.hid h3
  have HB := Lib.hid hbm
  have HOK := Lib.hid hok
  have HG : Hid (r.e.ps.length ≤ 30 ∧ 0 ≤ r.e.tr ∧ r.e.tr ≤ 200 ∧ r.ev.length ≤ 280000) := ⟨g1.fl.1, g1.t0.1, g1.t0.2, g2⟩
  have c0 : w2.cell? ⟨p, 0, none⟩ = some (.slice (some ⟨g, 0, none⟩) n c3) := box_cell h1 0 _ rfl
  clear h1 h2 h3 hm hlo hbm hok hok' g1 g2 g3 hr hT hS HJ0 KS0 HB0 HNO HOP HWF
  go_wp2_with fail
  refine wp_region_held_drew (S := fun w' => w'.cell? ⟨p, 0, none⟩ = some (.slice (some ⟨g, 0, none⟩) n c3)) (by kernel_rfl) (by exact c0) (fun hHeld => ?_)
  refine wpAnyH_take (i := 0) (v := ?v1) rfl (by kernel_rfl) (by kernel_rfl) (by kernel_rfl) (fun _ _ _ h => h) (Or.inl ⟨by rfl, ?hy1⟩) (by assumption) ?_
  case hy1 => (intro w0 hSw; (try dsimp only at hSw); go_simp <;> with_reducible rfl)
  try simp only [Act.put, List.getElem_toArray, List.getElem_cons_zero, List.getElem_cons_succ, List.setIfInBounds_toArray, List.set_cons_zero, List.set_cons_succ]
  refine wpAnyH_take (i := 2) (v := ?v2) rfl (by kernel_rfl) (by kernel_rfl) (by kernel_rfl) (fun _ _ _ h => h) (Or.inl ⟨by rfl, ?hy2⟩) (by assumption) ?_
  case hy2 => (intro w0 hSw; (try dsimp only at hSw); go_simp <;> with_reducible rfl)
  try simp only [Act.put, List.getElem_toArray, List.getElem_cons_zero, List.getElem_cons_succ, List.setIfInBounds_toArray, List.set_cons_zero, List.set_cons_succ]
  refine wpAnyH_take (i := 4) (v := ?v3) rfl (by kernel_rfl) (by kernel_rfl) (by kernel_rfl) (fun _ _ _ h => h) (Or.inl ⟨by rfl, ?hy3⟩) (by assumption) ?_
  case hy3 => (intro w0 hSw; (try dsimp only at hSw); go_simp <;> with_reducible rfl)
  try simp only [Act.put, List.getElem_toArray, List.getElem_cons_zero, List.getElem_cons_succ, List.setIfInBounds_toArray, List.set_cons_zero, List.set_cons_succ]
  refine wpAnyH_ready (rs := [1]) (by kernel_rfl) (by simp) (AllReadyH.cons rfl (fun K hK => ?_) AllReadyH.nil)
  go_simp
  refine (Mach.state_any _ _ b 0 r ⟨_, _, _, _, _, _, HM.out⟩ (by have := HG.out.1; omega) ⟨HG.out.2.1, by have := HG.out.2.2.1; omega⟩).mono ?_
  rintro e w3 ⟨A3, n3, c3', rfl, hop, hm3, ht3, _⟩
  have ht3 := Turned.undrew ht3
  have HP3 : Hid (w3.heap[p]? = some (.cells #[.slice (some ⟨g, 0, none⟩) n c3] 38 (0, 0))) := (ht3.block _ (box_lt HP.out) HNS.out.1).trans HP.out
  have HC3 : Hid (OwnI w3 w.heap.size (some ⟨g, 0, none⟩) n c3 T) := IntTy.ownI_same HC.out fun q hq => ht3.block q (HC.out.2.lt q hq).2 (HNS.out.2.1 q hq)
  have HR3 : Hid (w3.heap[w.heap.size + 1]? = some (.cells (enL zeroE none 0 0).toArray 36 (0, 0))) := (ht3.block _ (box_lt HR.out) HNS.out.2.2.1).trans HR.out
  have HB3 : Hid (Below w.heap.size w w3) := Turned.low HB.out ht3 (fun q h => HNS.out.2.2.2.1 q h) HB.out.size
  have HM3 := Lib.hid hm3
  have HO3 := Lib.hid hop
  have HS2 : Hid (w2.drew.heap.size = w2.heap.size ∧ w.heap.size ≤ w2.heap.size) := ⟨rfl, HB.out.size⟩
  clear hop hm3 ht3 HM HP HC HR HB hHeld c0
  refine hK _ _ (by exact box_cell HP3.out 0 _ rfl) (fun hHeld => ?_)
  clear hK K
  try simp only [Act.put, List.getElem_toArray, List.getElem_cons_zero, List.getElem_cons_succ, List.setIfInBounds_toArray, List.set_cons_zero, List.set_cons_succ]
  refine wpAnyH_ready (rs := [3]) (by kernel_rfl) (by simp) (AllReadyH.cons rfl (fun K hK => ?_) AllReadyH.nil)
  go_simp
  refine (Mach.log_any w3 S b 0 r HM3.out (by have := HG.out.2.2.2; omega)).mono ?_
  rintro e w4 ⟨A4, n4, c4, rfl, hev, _, ht4, _⟩
  have HP4 : Hid (w4.heap[p]? = some (.cells #[.slice (some ⟨g, 0, none⟩) n c3] 38 (0, 0))) := (ht4.block _ (box_lt HP3.out) HNS.out.1).trans HP3.out
  have HC4 : Hid (OwnI w4 w.heap.size (some ⟨g, 0, none⟩) n c3 T) := IntTy.ownI_same HC3.out fun q hq => ht4.block q (HC3.out.2.lt q hq).2 (HNS.out.2.1 q hq)
  have HR4 : Hid (w4.heap[w.heap.size + 1]? = some (.cells (enL zeroE none 0 0).toArray 36 (0, 0))) := (ht4.block _ (box_lt HR3.out) HNS.out.2.2.1).trans HR3.out
  have HB4 : Hid (Below w.heap.size w w4) := Turned.low HB3.out ht4 (fun q h => HNS.out.2.2.2.1 q h) HB3.out.size
  have HO4 : Hid (OwnP w4 w.heap.size A3 n3 c3' r.e.ps) := (HO3.out.base fun q hq => by have := (HO3.out.lt q hq).1; have := HS2.out; omega).same fun q hq => ht4.block q (HO3.out.lt q hq).2 (fun h => by have := HNS.out.2.2.2.2 q h; have := (HO3.out.lt q hq).1; have := HS2.out; omega)
  have HE4 : Hid (Evs.OwnL w4 w.heap.size A4 n4 c4 r.ev) := hev.down HB3.out.size
  clear hev ht4 HM3 HO3 HP3 HC3 HR3 HB3 hHeld
  refine hK _ _ (by exact box_cell HP4.out 0 _ rfl) (fun hHeld => ?_)
  clear hK K
  try simp only [Act.put, List.getElem_toArray, List.getElem_cons_zero, List.getElem_cons_succ, List.setIfInBounds_toArray, List.set_cons_zero, List.set_cons_succ]
  refine wpAnyH_ready (rs := [5]) (by kernel_rfl) (by simp) (AllReadyH.cons rfl (fun K hK => ?_) AllReadyH.nil)
  refine wp_put rfl 36 _ _ rfl (w.heap.size + 1) 0 (enL r.e A3 n3 c3') rfl rfl HR4.out (by kernel_rfl) (enL r.e A3 n3 c3') rfl (Nat.le_of_ble_eq_true rfl) (enL_one _ _ _ _) ?_
  obtain ⟨Y, hY⟩ : ∃ Y, Y = w4.setRow (w.heap.size + 1) (enL r.e A3 n3 c3').toArray := ⟨_, rfl⟩
  have KY : Hid (Y.heap[w.heap.size + 1]? = some (.cells (enL r.e A3 n3 c3').toArray 36 (0, 0))) := by rw [hY]; exact row_box HR4.out
  have HF : Hid (∀ q, q ≠ w.heap.size + 1 → Y.heap[q]? = w4.heap[q]?) := fun q hq => by rw [hY]; exact setRow_other _ _ _ _ hq
  have hpp : p ≠ w.heap.size + 1 := by
    intro h
    have h4 := HP4.out
    rw [h, HR4.out] at h4
    injection h4 with h4
    injection h4 with _ h4 _
    exact absurd h4 (by decide)
  have HPY : Hid (Y.heap[p]? = some (.cells #[.slice (some ⟨g, 0, none⟩) n c3] 38 (0, 0))) := (HF.out p hpp).trans HP4.out
  have HCY : Hid (OwnI Y w.heap.size (some ⟨g, 0, none⟩) n c3 T) := IntTy.ownI_same HC4.out fun q hq => HF.out q (fun e => own_ne HC4.out.2 HR4.out (by decide) q hq e)
  have HOY : Hid (OwnP Y w.heap.size A3 n3 c3' r.e.ps) := HO4.out.same fun q hq => HF.out q (fun e => own_ne HO4.out.2 HR4.out (by decide) q hq e)
  have HEY : Hid (Evs.OwnL Y w.heap.size A4 n4 c4 r.ev) := HE4.out.same fun q hq => HF.out q (fun e => own_ne HE4.out.2 HR4.out (by decide) q hq e)
  have HBY : Hid (Below w.heap.size w Y) := by rw [hY]; exact row_below HB4.out _ _ (by omega) HB4.out.size
  rw [← hY]
  clear hY HF HP4 HC4 HR4 HB4 HO4 HE4 hHeld hpp
  refine hK _ _ (by exact box_cell HPY.out 0 _ rfl) (fun hHeld => ?_)
  clear hK K
  try simp only [Act.put, List.getElem_toArray, List.getElem_cons_zero, List.getElem_cons_succ, List.setIfInBounds_toArray, List.set_cons_zero, List.set_cons_succ]
  refine wpAnyH_take (i := 6) (v := ?v7) rfl (by kernel_rfl) (by kernel_rfl) (by kernel_rfl) (fun _ _ _ h => h) (Or.inl ⟨by rfl, ?hy7⟩) (by assumption) ?_
  case hy7 => (intro w0 hSw; (try dsimp only at hSw); go_simp <;> with_reducible rfl)
  try simp only [Act.put, List.getElem_toArray, List.getElem_cons_zero, List.getElem_cons_succ, List.setIfInBounds_toArray, List.set_cons_zero, List.set_cons_succ]
  refine wpAnyH_take (i := 7) (v := ?v8) rfl (by kernel_rfl) (by kernel_rfl) (by kernel_rfl) (fun _ _ _ h => h) (Or.inl ⟨by rfl, ?hy8⟩) (by assumption) ?_
  case hy8 => (intro w0 hSw; (try dsimp only at hSw); go_simp <;> with_reducible rfl)
  try simp only [Act.put, List.getElem_toArray, List.getElem_cons_zero, List.getElem_cons_succ, List.setIfInBounds_toArray, List.set_cons_zero, List.set_cons_succ]
  refine wpAnyH_take (i := 8) (v := ?v9) rfl (by kernel_rfl) (by kernel_rfl) (by kernel_rfl) (fun _ _ _ h => h) (Or.inl ⟨by rfl, ?hy9⟩) (by assumption) ?_
  case hy9 => (intro w0 hSw; (try dsimp only at hSw); go_simp <;> with_reducible rfl)
  try simp only [Act.put, List.getElem_toArray, List.getElem_cons_zero, List.getElem_cons_succ, List.setIfInBounds_toArray, List.set_cons_zero, List.set_cons_succ]
  refine wpAnyH_done (by kernel_rfl) ?_ _
  clear hHeld
  go_wp2
  refine bodyPost_ret (results_box3 Tryz.results9 _ rfl rfl rfl rfl KY.out Tryz.underlying36 rfl (by kernel_rfl)) rfl ?_
  obtain ⟨e1, e2, e3⟩ := HE.out
  rw [e1, e2, e3, HOK.out]
  exact made3_of HBY.out HOY.out HEY.out HCY.out
end Go.Proofs.YtdefckbgcggnoaaGreat.Play
