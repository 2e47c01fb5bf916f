import Derived.Test.YtklgjjmcflgjeaaGreatQ
import Derived.Test.YtklgjjmcflgjeaaGreatR06
import Derived.Test.YtklgjjmcflgjeaaGreatR07
import Derived.Test.YtklgjjmcflgjeaaGreatR14
import Derived.Test.YtklgjjmcflgjeaaGreatR16
import Derived.Test.YtklgjjmcflgjeaaGreatR31
import Derived.Test.YtklgjjmcflgjeaaGreatR35
import Derived.Test.YtklgjjmcflgjeaaGreatR37
import Derived.Test.YtklgjjmcflgjeaaGreatR46
set_option linter.unusedVariables false
set_option linter.unusedSimpArgs false
namespace Go.Proofs.YtklgjjmcflgjeaaGreat.Mod
open Go.ChangeShapes Go.WideShapes Go.ChangeAt Go.RowKit
open LK Pods EngV Eng Seg
open Mach (own_ne)
def blks (b : Nat) (A : Option Addr) (n c : Nat) (E : Option Addr) (m k : Nat) : Nat → Prop := fun q => q = b ∨ (Value.slice A n c).ownBlock = some q ∨ (Value.slice E m k).ownBlock = some q
section
variable {w w' : World} {S : Nat → Prop} {b : Nat} {r : Run} {A : Option Addr} {n c : Nat} {E : Option Addr} {m k : Nat}
theorem ModAt.tight (h : ModAt w S b r A n c E m k) : ModAt w (blks b A n c E m k) b r A n c E m k := ⟨h.box, h.ps, h.ev, .inl rfl, fun q hq => .inr (.inl hq), fun q hq => .inr (.inr hq)⟩
theorem ModAt.sub (h : ModAt w S b r A n c E m k) (q : Nat) (hq : blks b A n c E m k q) : S q := by
  rcases hq with rfl | hq | hq
  · exact h.sb
  · exact h.sa q hq
  · exact h.se q hq
theorem ModAt.same (h : ModAt w S b r A n c E m k) (hs : ∀ q, blks b A n c E m k q → w'.heap[q]? = w.heap[q]?) : ModAt w' S b r A n c E m k :=
  ⟨(hs b (.inl rfl)).trans h.box, h.ps.same fun q hq => hs q (.inr (.inl hq)), h.ev.same fun q hq => hs q (.inr (.inr hq)), h.sb, h.sa, h.se⟩
theorem ModAt.ltAll (h : ModAt w S b r A n c E m k) (q : Nat) (hq : blks b A n c E m k q) : q < w.heap.size := by
  rcases hq with rfl | hq | hq
  · exact box_lt h.box
  · exact (h.ps.lt q hq).2
  · exact (h.ev.lt q hq).2
theorem ModAt.not (h : ModAt w S b r A n c E m k) {q : Nat} {cs : Array Value} {t : TypeId} {f : Nat × Nat} (hq : w.heap[q]? = some (.cells cs t f)) (h0 : t ≠ 90) (h1 : t ≠ 85) (h2 : t ≠ 107) : ¬ blks b A n c E m k q := by
  rintro (rfl | h' | h')
  · rw [h.box] at hq
    injection hq with hq
    injection hq with _ hq _
    exact h0 hq.symm
  · exact own_ne h.ps.2 hq h1 _ h' rfl
  · exact own_ne h.ev.2 hq h2 _ h' rfl
theorem ModAt.row_not (h : ModAt w S b r A n c E m k) {lo l z : Nat} {v : Value} {xs : List Value} {t : TypeId} (ho : w.ownsRow lo t z v l xs) (h0 : t ≠ 90) (h1 : t ≠ 85) (h2 : t ≠ 107) (q : Nat) (hq : v.ownBlock = some q) : ¬ blks b A n c E m k q := by
  rcases ho.2 with ⟨rfl, _⟩ | ⟨g, cap, cur, rfl, hb, hg, _⟩
  · cases hq
  · have e0 : g = q := by simpa [Value.ownBlock] using hq
    subst e0
    exact h.not hg h0 h1 h2
end
end Go.Proofs.YtklgjjmcflgjeaaGreat.Mod
namespace Go.Proofs.YtklgjjmcflgjeaaGreat.Play
open Go.ChangeShapes Go.WideShapes Go.ChangeAt Go.RowKit
open LK Pods EngV EngTy Eng EngInv Seg
open Go.Proofs.YtklgjjmcflgjeaaGreat.Mod (moL ModAt Mod blks)
open Mach (own_ne)
open Has
theorem moL_one (r : Run) (A : Option Addr) (n c : Nat) (E : Option Addr) (m k : Nat) : ∀ v ∈ moL r A n c E m k, v.oneCell' = true := by
  intro v hv
  simp only [moL, List.mem_cons, List.not_mem_nil, or_false] at hv
  rcases hv with rfl | rfl | rfl | rfl | rfl | rfl | rfl | rfl | rfl | rfl | rfl | rfl | rfl | rfl | rfl | rfl | rfl | rfl | rfl | rfl | rfl <;> rfl
theorem ps_nil (s : Spc) (rev : Int) : (EngNew.newD s rev).ps = [] := by
  unfold EngNew.newD
  split <;> rfl
end Go.Proofs.YtklgjjmcflgjeaaGreat.Play
namespace Go.Proofs.YtklgjjmcflgjeaaGreat.Trail
open Go.ChangeShapes Go.WideShapes Go.ChangeAt Go.RowKit
open LK Pods EngV EngTy Eng EngInv Seg Play
open Go.Proofs.YtklgjjmcflgjeaaGreat.Mod (moL ModAt Mod blks)
open Mach (own_ne)
theorem made_none {s : Spc} {rev : Int} {ops : Ops.L} {w w' : World} (h : okP s rev ops = false) (hb : Below w.heap.size w w') : Made1 Mks.lty (trP s rev ops) (.bool (okP s rev ops)) w (.returned (.tuple #[.slice none 0 0, .bool false])) w' := by
  rw [trP, h]
  exact made1_of hb (Mks.OwnL.nil _ _)
set_option maxRecDepth 100000 in
set_option maxHeartbeats 1600000 in
theorem specTrailOf_any (s : Spc) (rev : Int) (Fa : Option Addr) (n c0 : Nat) (ops : Ops.L) (B : Nat) (w : World) (hr : Ops.IsL w B Fa n ops) (hB : B ≤ w.heap.size) (hn : n ≤ 1048576) :
    Calls Tryz.prog 14 #[.agg (spL s).toArray, .int .i64 rev, .slice Fa n c0] w (Made1 Mks.lty (trP s rev ops) (.bool (okP s rev ops)) w) := by
  obtain ⟨i0, hi0, hz0, hz1, hz2⟩ := info_parts Mks.infoX
  have HOP := Lib.hid hr
  have HL : Hid (ops.length = n) := hr.1
  have HBB := Lib.hid hB
  obtain ⟨U, hU⟩ : ∃ U, U = w.alloc (.cells (spL s).toArray 25) := ⟨_, rfl⟩
  have hsu : U.heap.size = w.heap.size + 1 := by rw [hU]; simp
  have hbu : Below w.heap.size w U := by rw [hU]; exact bel1 _ _
  have ks : U.heap[w.heap.size]? = some (.cells (spL s).toArray 25 (0, 0)) := by rw [hU]; exact box_new w _
  obtain ⟨V, hV⟩ : ∃ V, V = U.alloc (.cells #[] 97) := ⟨_, rfl⟩
  have HB0 : Hid (Below w.heap.size w V) := by rw [hV]; exact hbu.alloc (by omega) _
  have KS0 : Hid (V.heap[w.heap.size]? = some (.cells (spL s).toArray 25 (0, 0))) := by rw [hV]; exact box_alloc ks _
  have HC0 : Hid (Mks.OwnL V w.heap.size (some ⟨w.heap.size + 1, 0, none⟩) 0 0 (markK s rev ops 0)) := by
    have h := own_new U w.heap.size (by omega)
    rw [← hV, hsu] at h
    exact h
  rw [hU] at hV
  have HNO : Hid (okP s rev ops = false → ∀ W, Below w.heap.size w W → Made1 Mks.lty (trP s rev ops) (.bool (okP s rev ops)) w (.returned (.tuple #[.slice none 0 0, .bool false])) W) := fun h W hb => made_none h hb
  clear hr hB ks hbu hsu hU
  go_enter Tryz.func14, Tryz.ntmps14
  go_upto_region 2 with fail
  rw [← hV]
  clear hV
  go_wp2_with (refine wpList_get rfl 25 _ rfl w.heap.size 0 rfl KS0.out (spL s) List.take_length Tryz.underlying25 rfl (by kernel_rfl) ?_)
  refine (EngNew.specNewEngine_any s rev _).mono ?_
  rintro e w1 ⟨v1, S1, rfl, hO, hb⟩
  obtain ⟨A, c, rfl, ho, hs⟩ := hO.own
  have HLO : Hid (∀ q, (Value.slice A (EngNew.newD s rev).ps.length c).ownBlock = some q → w.heap.size ≤ q) := fun q hq => by have := hO.inn q (hs q hq); have := HB0.out.size; omega
  have HO := Lib.hid ho
  have HC1 := Lib.hid (HC0.out.below hb)
  have HB1 := Lib.hid (bel_then HB0.out hb HB0.out.size)
  rw [ps_nil] at HLO HO
  clear KS0 HC0 HB0 hb hO ho hs
  rw [show enV (EngNew.newD s rev) A (EngNew.newD s rev).ps.length c = .agg (enL (EngNew.newD s rev) A 0 c).toArray from by rw [ps_nil]; rfl]
  obtain ⟨D, hD⟩ : ∃ D, D = EngNew.newD s rev := ⟨_, rfl⟩
  rw [← hD]
  have HD := Lib.hid hD
  clear hD
  have KZ : Hid ((w1.alloc (.cells (enL zeroE none 0 0).toArray 36)).heap[w1.heap.size]? = some (.cells (enL zeroE none 0 0).toArray 36 (0, 0))) := box_new w1 _
  go_upto_region 3 with (refine wpList_put rfl rfl 36 _ _ rfl w1.heap.size 0 (enL D A 0 c) rfl rfl KZ.out (by kernel_rfl) (enL D A 0 c) rfl (Nat.le_of_ble_eq_true rfl) (enL_one _ _ _ _) ?_)
  obtain ⟨W, hW⟩ : ∃ W, W = (w1.alloc (.cells #[.int .i64 0, .int .i64 0, .int .i64 0, .int .i64 0, .int .i64 0, .int .i64 0, .int .i64 0, .int .i64 0, .int .i64 0, .int .i64 0, .int .i64 0, .int .i64 0, .int .i64 0, .int .i64 0, .int .i64 0, .slice none 0 0, .int .i64 0, .int .i64 0, .int .i64 0, .int .i64 0] 36)).setRow w1.heap.size (enL D A 0 c).toArray := ⟨_, rfl⟩
  have hbv : Below w1.heap.size w1 W := by rw [hW]; exact row_below (bel1 _ _) _ _ (Nat.le_refl _) (by simp)
  have KE : Hid (W.heap[w1.heap.size]? = some (.cells (enL D A 0 c).toArray 36 (0, 0))) := by rw [hW]; exact row_box KZ.out
  have HC2 := Lib.hid (HC1.out.below hbv)
  have HB2 := Lib.hid (bel_then HB1.out hbv HB1.out.size)
  have HO2 : Hid (OwnP W 0 A 0 c []) := HO.out.below hbv
  rw [← hW]
  clear hW hbv KZ HC1 HB1 HO
  cases hnb : newB s rev
  · have HF : Hid (okP s rev ops = false) := by show _ = _; simp [okP, hnb]
    clear hnb
    go_wp2
    go_ret2
    exact HNO.out HF.out _ HB2.out
  by_cases h200 : 200 < n
  · have HF : Hid (okP s rev ops = false) := by
      show _ = _
      have : ¬ ops.length ≤ 200 := by rw [HL.out]; omega
      simp [okP, this]
    have hq : decide ((200 : Int) < (n : Int)) = true := by simp; omega
    clear hnb
    go_wp2
    go_ret2
    exact HNO.out HF.out _ HB2.out
  have HT : Hid (okP s rev ops = true) := by
    show _ = _
    have : ops.length ≤ 200 := by rw [HL.out]; omega
    simp [okP, hnb, this]
  have HNB : Hid (newB s rev = true) := hnb
  have HDE : Hid (D = (run0 s rev).e) := by show _ = _; rw [HD.out, EngNew.newD, hnb]; rfl
  have hq : decide ((200 : Int) < (n : Int)) = false := by simp; omega
  clear hnb HNO HD
  obtain ⟨b, hbn⟩ : ∃ b, b = W.heap.size := ⟨_, rfl⟩
  have KM0 : Hid ((W.alloc (.cells (moL { e := zeroE, ev := [] } none 0 0 none 0 0).toArray 90)).heap[W.heap.size]? = some (.cells (moL { e := zeroE, ev := [] } none 0 0 none 0 0).toArray 90 (0, 0))) := box_new W _
  go_upto_region 6 with (first | (refine wpList_get rfl 36 _ rfl w1.heap.size 0 rfl KE.out [.int .i64 D.sp.x0, .int .i64 D.sp.x1, .int .i64 D.sp.x2, .int .i64 D.sp.x3, .int .i64 D.sp.x4, .int .i64 D.sp.x5, .int .i64 D.sp.x6, .int .i64 D.sp.x7, .int .i64 D.sp.x8, .int .i64 D.sp.x9, .int .i64 D.sp.x10, .int .i64 D.now, .int .i64 D.ph, .int .i64 D.tg, .int .i64 D.gd, .slice A 0 c, .int .i64 D.nx, .int .i64 D.st, .int .i64 D.tr, .int .i64 D.wt] rfl Tryz.underlying36 rfl (by kernel_rfl) ?_) | (refine wpList_put rfl rfl 90 _ _ rfl W.heap.size 0 (moL { e := D, ev := [] } A 0 c none 0 0) rfl rfl KM0.out (by kernel_rfl) (moL { e := D, ev := [] } A 0 c none 0 0) rfl (Nat.le_of_ble_eq_true rfl) (moL_one _ _ _ _ _ _ _) ?_))
  obtain ⟨X, hX⟩ : ∃ X, X = (W.alloc (.cells #[.int .i64 0, .int .i64 0, .int .i64 0, .int .i64 0, .int .i64 0, .int .i64 0, .int .i64 0, .int .i64 0, .int .i64 0, .int .i64 0, .int .i64 0, .int .i64 0, .int .i64 0, .int .i64 0, .int .i64 0, .slice none 0 0, .int .i64 0, .int .i64 0, .int .i64 0, .int .i64 0, .slice none 0 0] 90)).setRow W.heap.size (moL { e := D, ev := [] } A 0 c none 0 0).toArray := ⟨_, rfl⟩
  have hbx : Below W.heap.size W X := by rw [hX]; exact row_below (bel1 W _) _ _ (Nat.le_refl _) (by simp)
  have KMX : Hid (X.heap[W.heap.size]? = some (.cells (moL { e := D, ev := [] } A 0 c none 0 0).toArray 90 (0, 0))) := by rw [hX]; exact row_box KM0.out
  rw [← hX]
  have HC3 := Lib.hid (HC2.out.below hbx)
  have HB3 := Lib.hid (bel_then HB2.out hbx HB2.out.size)
  have HO3 : Hid (OwnP X 0 A 0 c []) := HO2.out.below hbx
  have hre : ({ e := D, ev := [] } : Run) = runK s rev ops 0 := by rw [runK_zero, HDE.out]; rfl
  have HM3 : Hid (ModAt X (blks W.heap.size A 0 c none 0 0) W.heap.size (runK s rev ops 0) A 0 c none 0 0) := by
    show ModAt _ _ _ _ _ _ _ _ _ _
    rw [← hre]
    refine ⟨KMX.out, ?_, ⟨rfl, World.ownsRow_nil _ _ _ _⟩, .inl rfl, fun q hq => .inr (.inl hq), fun q hq => .inr (.inr hq)⟩
    show OwnP X 0 A 0 c D.ps
    rw [HDE.out]
    exact HO3.out
  have hww : w.heap.size ≤ W.heap.size := by have := HB2.out.size; omega
  have HLO3 : Hid (∀ q, blks W.heap.size A 0 c none 0 0 q → w.heap.size ≤ q) := fun q hq => by
    rcases hq with rfl | hq | hq
    · exact hww
    · exact HLO.out q hq
    · cases hq
  clear hX hbx KMX HC2 HB2 HO2 HO3 HLO KE KM0 hre HDE
  rw [← hbn] at HM3 HLO3 ⊢
  clear hbn hww
  go_wp2_with fail
  go_loopw [8, 12] (fun cs i wr => ∃ (k g c3 : Nat) (A1 : Option Addr) (n1 c1 : Nat) (E1 : Option Addr) (m1 k1 : Nat), k ≤ n ∧ i = .int .i64 k ∧ cs = .slice (some ⟨g, 0, none⟩) k c3 ∧ Hid (Mks.OwnL wr w.heap.size (some ⟨g, 0, none⟩) k c3 (markK s rev ops k)) ∧ Hid (ModAt wr (blks b A1 n1 c1 E1 m1 k1) b (runK s rev ops k) A1 n1 c1 E1 m1 k1) ∧ Hid (∀ q, blks b A1 n1 c1 E1 m1 k1 q → w.heap.size ≤ q) ∧ Hid (Below w.heap.size w wr)) (fun _ i _ => n - (RowKit.intOf i).toNat)
  case atStart => exact ⟨0, w.heap.size + 1, 0, A, 0, c, none, 0, 0, Nat.zero_le _, rfl, rfl, HC3, HM3, HLO3, HB3⟩
  case round =>
    obtain ⟨k, g, c3, A1, n1, c1, E1, m1, k1, hk, rfl, rfl, HC, HM, HLO, HB⟩ := hrel
    clear HC3 HM3 HLO3 HB3
    by_cases hlt : k < n
    case neg =>
      have hkn : k = n := by omega
      subst hkn
      have HE : Hid (trP s rev ops = markK s rev ops k) := by show _ = _; rw [trP, if_pos HT.out, HL.out]
      go_wp2
      go_ret2
      rw [HE.out, HT.out]
      exact made1_of HB.out HC.out
    have hkeep := runK_keep (s := s) (rev := rev) (ops := ops) (k := k) HNB.out (by omega) (by rw [HL.out]; omega)
    have HG := Lib.hid hkeep
    have hkeep1 := runK_keep (s := s) (rev := rev) (ops := ops) (k := k + 1) HNB.out (by omega) (by rw [HL.out]; omega)
    have HG1 : Hid ((runK s rev ops (k + 1)).e.ps.length ≤ 30) := hkeep1.1.fl.1
    clear hkeep hkeep1
    have hrw := HOP.out.below HB.out HBB.out
    obtain ⟨bb, off, y0, y1, y2, y3, rfl, hbB, hz, hc0, hc1, hc2, hc3⟩ := hrw.at_ hlt
    have HSR : Hid (runK s rev ops (k + 1) = ((runK s rev ops k).step (y0, y1, y2, y3)).1) := by show _ = _; rw [runK_succ (by rw [HL.out]; exact hlt), hz]
    have HSC : Hid (markK s rev ops (k + 1) = markK s rev ops k ++ [markV (runK s rev ops (k + 1)).e]) := markK_succ _ _ _ _
    clear hz hrw hbB
    go_wp2_with fail
    refine (Mod.step_any wr _ b (runK s rev ops k) y0 y1 y2 y3 ⟨_, _, _, _, _, _, HM.out⟩ HG.out.1 (by have := HG.out.2.1; omega)).mono ?_
    rintro e w2 ⟨rfl, S2, ⟨A2, n2, c2, E2, m2, k2, hm2⟩, hs2, ht2⟩
    rw [← HSR.out] at hm2
    obtain ⟨r, hr⟩ : ∃ r, r = runK s rev ops (k + 1) := ⟨_, rfl⟩
    rw [← hr] at hm2 HSC HG1
    have HRR : Hid (r = runK s rev ops (k + 1)) := hr
    obtain ⟨T, hT⟩ : ∃ T, T = markK s rev ops k := ⟨_, rfl⟩
    rw [← hT] at HSC HC
    have HM2 := Lib.hid hm2.tight
    have HLO2 : Hid (∀ q, blks b A2 n2 c2 E2 m2 k2 q → w.heap.size ≤ q) := fun q hq => by
      rcases hs2 q (hm2.sub q hq) with h | h
      · exact HLO.out q h
      · have := HB.out.size; omega
    have HC2 : Hid (Mks.OwnL w2 w.heap.size (some ⟨g, 0, none⟩) k c3 T) := HC.out.same fun q hq => ht2.block q (HC.out.lt q hq).2 (HM.out.row_not HC.out.2 (by decide) (by decide) (by decide) q hq)
    have HB2 : Hid (Below w.heap.size w w2) := Turned.low HB.out ht2 (fun q h => HLO.out q h) HB.out.size
    have hn2 : n2 = r.e.ps.length := hm2.ps.1.symm
    have hn30 : n2 ≤ 30 := by rw [hn2]; exact HG1.out
    have HN2 : Hid (r.e.ps.length = n2) := hn2.symm
    clear hm2 hs2 ht2 HSR HG HG1 hT hr HM HC HB HLO hc0 hc1 hc2 hc3 hn2
    have KZ : Hid ((w2.alloc (.cells (enL zeroE none 0 0).toArray 36)).heap[w2.heap.size]? = some (.cells (enL zeroE none 0 0).toArray 36 (0, 0))) := box_new w2 _
    go_upto_region 11 with (first | (refine wpList_get rfl 36 _ rfl b 0 rfl HM2.out.box (enL r.e A2 n2 c2) (Mod.moL_en r A2 n2 c2 E2 m2 k2) Tryz.underlying36 rfl (by kernel_rfl) ?_) | (refine wpList_put rfl rfl 36 _ _ rfl w2.heap.size 0 (enL r.e A2 n2 c2) rfl rfl KZ.out (by kernel_rfl) (enL r.e A2 n2 c2) rfl (Nat.le_of_ble_eq_true rfl) (enL_one _ _ _ _) ?_))
    obtain ⟨w3, hw3⟩ : ∃ x, x = (w2.alloc (.cells #[.int .i64 0, .int .i64 0, .int .i64 0, .int .i64 0, .int .i64 0, .int .i64 0, .int .i64 0, .int .i64 0, .int .i64 0, .int .i64 0, .int .i64 0, .int .i64 0, .int .i64 0, .int .i64 0, .int .i64 0, .slice none 0 0, .int .i64 0, .int .i64 0, .int .i64 0, .int .i64 0] 36)).setRow w2.heap.size (enL r.e A2 n2 c2).toArray := ⟨_, rfl⟩
    have hb3 : Below w2.heap.size w2 w3 := by rw [hw3]; exact row_below (bel1 w2 _) _ _ (Nat.le_refl _) (by simp)
    have KX3 : Hid (w3.heap[w2.heap.size]? = some (.cells (enL r.e A2 n2 c2).toArray 36 (0, 0))) := by rw [hw3]; exact row_box KZ.out
    obtain ⟨P, hP⟩ : ∃ P, P = w2.heap.size := ⟨_, rfl⟩
    rw [← hw3, ← hP]
    rw [← hP] at KX3
    have HM3 := Lib.hid (HM2.out.below hb3)
    have HC3 := Lib.hid (HC2.out.below hb3)
    have HB3 := Lib.hid (bel_then HB2.out hb3 HB2.out.size)
    clear hw3 hb3 KZ hP HM2 HC2 HB2
    have HS : Hid (∀ W : World, W.heap[P]? = some (.cells (enL r.e A2 n2 c2).toArray 36 (0, 0)) → W.cell? ⟨P, 11, none⟩ = some (.int .i64 r.e.now) ∧ W.cell? ⟨P, 12, none⟩ = some (.int .i64 r.e.ph) ∧ W.cell? ⟨P, 13, none⟩ = some (.int .i64 r.e.tg) ∧ W.cell? ⟨P, 14, none⟩ = some (.int .i64 r.e.gd) ∧ W.cell? ⟨P, 15, none⟩ = some (.slice A2 n2 c2) ∧ W.rangeAt P 0 [.int .i64 r.e.sp.x0, .int .i64 r.e.sp.x1, .int .i64 r.e.sp.x2, .int .i64 r.e.sp.x3, .int .i64 r.e.sp.x4, .int .i64 r.e.sp.x5, .int .i64 r.e.sp.x6, .int .i64 r.e.sp.x7, .int .i64 r.e.sp.x8, .int .i64 r.e.sp.x9, .int .i64 r.e.sp.x10] ∧ W.rangeAt P 15 [.slice A2 n2 c2, .int .i64 r.e.nx]) := fun W h => ⟨box_cell h 11 _ rfl, box_cell h 12 _ rfl, box_cell h 13 _ rfl, box_cell h 14 _ rfl, box_cell h 15 _ rfl, range_of h rfl, range_of h rfl⟩
    go_wp2_with fail
    refine wp_region_held_drew (S := fun W => W.cell? ⟨P, 11, none⟩ = some (.int .i64 r.e.now) ∧ W.cell? ⟨P, 12, none⟩ = some (.int .i64 r.e.ph) ∧ W.cell? ⟨P, 13, none⟩ = some (.int .i64 r.e.tg) ∧ W.cell? ⟨P, 14, none⟩ = some (.int .i64 r.e.gd) ∧ W.cell? ⟨P, 15, none⟩ = some (.slice A2 n2 c2) ∧ W.rangeAt P 0 [.int .i64 r.e.sp.x0, .int .i64 r.e.sp.x1, .int .i64 r.e.sp.x2, .int .i64 r.e.sp.x3, .int .i64 r.e.sp.x4, .int .i64 r.e.sp.x5, .int .i64 r.e.sp.x6, .int .i64 r.e.sp.x7, .int .i64 r.e.sp.x8, .int .i64 r.e.sp.x9, .int .i64 r.e.sp.x10] ∧ W.rangeAt P 15 [.slice A2 n2 c2, .int .i64 r.e.nx]) (by kernel_rfl) (HS.out w3.drew KX3.out) (fun hHeld => ?_)
    refine tkk (i := 0) rfl ?_
    try simp only [Act.put, pj]
    refine tkk (i := 1) rfl ?_
    try simp only [Act.put, pj]
    refine tkk (i := 2) rfl ?_
    try simp only [Act.put, pj]
    refine tkk (i := 3) rfl ?_
    try simp only [Act.put, pj]
    refine tkk (i := 4) rfl ?_
    try simp only [Act.put, pj]
    refine tkk (i := 5) rfl ?_
    try simp only [Act.put, pj]
    refine tkk (i := 6) rfl ?_
    try simp only [Act.put, pj]
    refine tkk (i := 7) rfl ?_
    try simp only [Act.put, pj]
    refine tkk (i := 8) rfl ?_
    try simp only [Act.put, pj]
    refine tkk (i := 9) rfl ?_
    try simp only [Act.put, pj]
    refine tkk (i := 10) rfl ?_
    try simp only [Act.put, pj]
    refine tkk (i := 11) rfl ?_
    try simp only [Act.put, pj]
    refine tkk (i := 12) rfl ?_
    try simp only [Act.put, pj]
    refine tkk (i := 13) rfl ?_
    try simp only [Act.put, pj]
    refine tkj (i := 14) (v := .agg ([.slice A2 n2 c2, .int .i64 r.e.nx]).toArray) rfl (yieldsIf_load_mid (by rfl) 34 _ rfl P 15 rfl ([.slice A2 n2 c2, .int .i64 r.e.nx]) _ (fun w' h => h.2.2.2.2.2.2) Tryz.underlying34 rfl (by kernel_rfl)) ?_
    try simp only [Act.put, pj]
    refine tkk (i := 16) rfl ?_
    try simp only [Act.put, pj]
    refine tkj (i := 17) (v := .agg ([.int .i64 r.e.sp.x0, .int .i64 r.e.sp.x1, .int .i64 r.e.sp.x2, .int .i64 r.e.sp.x3, .int .i64 r.e.sp.x4, .int .i64 r.e.sp.x5, .int .i64 r.e.sp.x6, .int .i64 r.e.sp.x7, .int .i64 r.e.sp.x8, .int .i64 r.e.sp.x9, .int .i64 r.e.sp.x10]).toArray) rfl (yieldsIf_load_mid (by rfl) 25 _ rfl P 0 rfl ([.int .i64 r.e.sp.x0, .int .i64 r.e.sp.x1, .int .i64 r.e.sp.x2, .int .i64 r.e.sp.x3, .int .i64 r.e.sp.x4, .int .i64 r.e.sp.x5, .int .i64 r.e.sp.x6, .int .i64 r.e.sp.x7, .int .i64 r.e.sp.x8, .int .i64 r.e.sp.x9, .int .i64 r.e.sp.x10]) _ (fun w' h => h.2.2.2.2.2.1) Tryz.underlying25 rfl (by kernel_rfl)) ?_
    try simp only [Act.put, pj]
    refine tkk (i := 18) rfl ?_
    try simp only [Act.put, pj]
    refine tkj (i := 19) (v := .agg ([.slice A2 n2 c2, .int .i64 r.e.nx]).toArray) rfl (yieldsIf_load_mid (by rfl) 34 _ rfl P 15 rfl ([.slice A2 n2 c2, .int .i64 r.e.nx]) _ (fun w' h => h.2.2.2.2.2.2) Tryz.underlying34 rfl (by kernel_rfl)) ?_
    try simp only [Act.put, pj]
    refine tkk (i := 20) rfl ?_
    try simp only [Act.put, pj]
    refine tkk (i := 21) rfl ?_
    try simp only [Act.put, pj]
    refine tkk (i := 23) rfl ?_
    try simp only [Act.put, pj]
    refine tkj (i := 24) (v := .agg ([.int .i64 r.e.sp.x0, .int .i64 r.e.sp.x1, .int .i64 r.e.sp.x2, .int .i64 r.e.sp.x3, .int .i64 r.e.sp.x4, .int .i64 r.e.sp.x5, .int .i64 r.e.sp.x6, .int .i64 r.e.sp.x7, .int .i64 r.e.sp.x8, .int .i64 r.e.sp.x9, .int .i64 r.e.sp.x10]).toArray) rfl (yieldsIf_load_mid (by rfl) 25 _ rfl P 0 rfl ([.int .i64 r.e.sp.x0, .int .i64 r.e.sp.x1, .int .i64 r.e.sp.x2, .int .i64 r.e.sp.x3, .int .i64 r.e.sp.x4, .int .i64 r.e.sp.x5, .int .i64 r.e.sp.x6, .int .i64 r.e.sp.x7, .int .i64 r.e.sp.x8, .int .i64 r.e.sp.x9, .int .i64 r.e.sp.x10]) _ (fun w' h => h.2.2.2.2.2.1) Tryz.underlying25 rfl (by kernel_rfl)) ?_
    try simp only [Act.put, pj]
    refine wpAnyH_ready (rs := [15]) (by kernel_rfl) (by simp) (AllReadyH.cons rfl (fun K hK => ?_) AllReadyH.nil)
    have HMd := Lib.hid (HM3.out.below (undrew (Below.refl w3.heap.size w3.drew)))
    go_simp
    refine (EngSet.l08Going_any A2 n2 c2 r.e.nx r.e.ps w3.heap.size _ (by exact HMd.out.ps.podsAll) (by exact Nat.le_refl _) (by omega)).mono ?_
    rintro e w4 ⟨rfl, hb⟩
    have hb := undrew hb
    have KX4 := Lib.hid (box_below KX3.out hb)
    have HM4 := Lib.hid (HM3.out.below hb)
    have HC4 := Lib.hid (HC3.out.below hb)
    have HB4 := Lib.hid (bel_then HB3.out hb HB3.out.size)
    clear hb KX3 HM3 HC3 HB3 HMd hHeld
    refine hK _ _ (by exact HS.out w4 KX4.out) (fun hHeld => ?_)
    clear hK K
    try simp only [Act.put, pj]
    refine wpAnyH_ready (rs := [22]) (by kernel_rfl) (by simp) (AllReadyH.cons rfl (fun K hK => ?_) AllReadyH.nil)
    go_simp
    refine (Av.specAvailableOf_any r.e.sp.x0 r.e.sp.x1 r.e.sp.x2 r.e.sp.x3 r.e.sp.x4 r.e.sp.x5 r.e.sp.x6 r.e.sp.x7 r.e.sp.x8 r.e.sp.x9 r.e.sp.x10 0 r.e.now A2 n2 c2 r.e.nx r.e.ps w4.heap.size _ (by exact HM4.out.ps.podsAll) (by exact Nat.le_refl _) (by omega)).mono ?_
    rintro e w5 ⟨rfl, hb⟩
    have KX5 := Lib.hid (box_below KX4.out hb)
    have HM5 := Lib.hid (HM4.out.below hb)
    have HC5 := Lib.hid (HC4.out.below hb)
    have HB5 := Lib.hid (bel_then HB4.out hb HB4.out.size)
    clear hb KX4 HM4 HC4 HB4 hHeld
    refine hK _ _ (by exact HS.out w5 KX5.out) (fun hHeld => ?_)
    clear hK K
    try simp only [Act.put, pj]
    refine wpAnyH_ready (rs := [25]) (by kernel_rfl) (by simp) (AllReadyH.cons rfl (fun K hK => ?_) AllReadyH.nil)
    go_simp
    refine (Cnt.specCeiling_any r.e.sp.x0 r.e.sp.x1 r.e.sp.x2 r.e.sp.x3 r.e.sp.x4 r.e.sp.x5 r.e.sp.x6 r.e.sp.x7 r.e.sp.x8 r.e.sp.x9 r.e.sp.x10 _).mono ?_
    rintro e w6 ⟨rfl, hb⟩
    have KX6 := Lib.hid (box_below KX5.out hb)
    have HM6 := Lib.hid (HM5.out.below hb)
    have HC6 := Lib.hid (HC5.out.below hb)
    have HB6 := Lib.hid (bel_then HB5.out hb HB5.out.size)
    clear hb KX5 HM5 HC5 HB5 hHeld
    refine hK _ _ (by exact HS.out w6 KX6.out) (fun hHeld => ?_)
    clear hK K
    try simp only [Act.put, pj]
    refine tkk (i := 26) rfl ?_
    try simp only [Act.put, pj]
    refine wpAnyH_ready (rs := [27]) (by kernel_rfl) (by simp) (AllReadyH.cons rfl (fun K hK => ?_) AllReadyH.nil)
    obtain ⟨y5, hy5⟩ : ∃ y, y = Crew.countV (r.e.ps, r.e.nx) 0 4 := ⟨_, rfl⟩
    obtain ⟨y6, hy6⟩ : ∃ y, y = Av.availV r.e.sp.x0 r.e.sp.x1 r.e.sp.x2 r.e.sp.x3 r.e.sp.x4 r.e.sp.x5 r.e.sp.x6 r.e.sp.x7 r.e.sp.x8 r.e.sp.x9 r.e.sp.x10 0 r.e.now (r.e.ps, r.e.nx) := ⟨_, rfl⟩
    obtain ⟨y7, hy7⟩ : ∃ y, y = Cnt.ceilV r.e.sp.x0 r.e.sp.x1 r.e.sp.x2 r.e.sp.x3 r.e.sp.x4 r.e.sp.x5 r.e.sp.x6 r.e.sp.x7 r.e.sp.x8 r.e.sp.x9 r.e.sp.x10 := ⟨_, rfl⟩
    have HV : Hid (markV r.e = (r.e.now, r.e.ph, r.e.tg, r.e.gd, (n2 : Int), y5, y6, y7)) := by show _ = _; rw [hy5, hy6, hy7, ← HN2.out]; rfl
    rw [← hy5, ← hy6, ← hy7]
    clear hy5 hy6 hy7
    go_simp
    obtain ⟨w7, hw7⟩ : ∃ x, x = w6.alloc (.cells #[.int .i64 r.e.now, .int .i64 r.e.ph, .int .i64 r.e.tg, .int .i64 r.e.gd, .int .i64 n2, .int .i64 y5, .int .i64 y6, .int .i64 y7] 97) := ⟨_, rfl⟩
    have hb : Below w6.heap.size w6 w7 := by rw [hw7]; exact bel1 _ _
    have HNW : Hid (∀ j u, [.int .i64 r.e.now, .int .i64 r.e.ph, .int .i64 r.e.tg, .int .i64 r.e.gd, .int .i64 n2, .int .i64 y5, .int .i64 y6, .int .i64 y7][j]? = some u → w7.cell? ((⟨w6.heap.size, 0, none⟩ : Addr).add j) = some u) := by rw [hw7]; exact Crew.news_new w6 [.int .i64 r.e.now, .int .i64 r.e.ph, .int .i64 r.e.tg, .int .i64 r.e.gd, .int .i64 n2, .int .i64 y5, .int .i64 y6, .int .i64 y7] 97
    rw [← hw7]
    have KX7 := Lib.hid (box_below KX6.out hb)
    have HM7 := Lib.hid (HM6.out.below hb)
    have HC7 := Lib.hid (HC6.out.below hb)
    have HB7 := Lib.hid (bel_then HB6.out hb HB6.out.size)
    clear hw7 hb KX6 HM6 HC6 HB6 hHeld
    refine hK _ _ (by exact HS.out w7 KX7.out) (fun hHeld => ?_)
    clear hK K
    try simp only [Act.put, pj]
    refine wpAnyH_ready (rs := [28]) (by kernel_rfl) (by simp) (AllReadyH.cons rfl (fun K hK => ?_) AllReadyH.nil)
    have hTm : T.length = k := HC7.out.1
    refine wp_append (.tmp 43) (.tmp 70) _ rfl w.heap.size 97 i0 _ 8 64 Tryz.underlying45 hi0 hz0 hz1 hz2 rfl (by omega) (.slice (some ⟨g, 0, none⟩) k c3) k (Mks.flat T) rfl HC7.out.2 ⟨w6.heap.size, 0, none⟩ 1 1 [.int .i64 r.e.now, .int .i64 r.e.ph, .int .i64 r.e.tg, .int .i64 r.e.gd, .int .i64 n2, .int .i64 y5, .int .i64 y6, .int .i64 y7] rfl rfl HNW.out (by simp [Value.oneCell']) (by unfold maxLen; omega) (by omega) HB7.out.size ?_
    intro v2 w8 hown hgr
    obtain ⟨A8, c8, rfl, hO8⟩ := Mks.own_app (p := (r.e.now, r.e.ph, r.e.tg, r.e.gd, (n2 : Int), y5, y6, y7)) hTm hown
    obtain ⟨g8, rfl, _, _⟩ := hO8.at0 (by omega)
    have HM8 : Hid (ModAt w8 (blks b A2 n2 c2 E2 m2 k2) b r A2 n2 c2 E2 m2 k2) := HM7.out.same fun q hq => hgr.block q (HM7.out.ltAll q hq) (fun e => HM7.out.row_not HC7.out.2 (by decide) (by decide) (by decide) q (by first | exact e | exact e.symm) hq)
    have KX8 : Hid (w8.heap[P]? = some (.cells (enL r.e A2 n2 c2).toArray 36 (0, 0))) := (hgr.block _ (box_lt KX7.out) (fun e => own_ne HC7.out.2 KX7.out (by decide) _ (by first | exact e | exact e.symm) rfl)).trans KX7.out
    have HB8 : Hid (Below w.heap.size w w8) := HB7.out.grown hgr HB7.out.size (fun q hq => (HC7.out.lt q hq).1)
    have HC8 : Hid (Mks.OwnL w8 w.heap.size (some ⟨g8, 0, none⟩) (k + 1) c8 (markK s rev ops (k + 1))) := by show Mks.OwnL _ _ _ _ _ _; rw [HSC.out, HV.out]; exact hO8
    clear hown hgr hO8 KX7 HM7 HC7 HB7 HNW hTm hHeld
    refine hK _ _ (by exact HS.out w8 KX8.out) (fun hHeld => ?_)
    clear hK K
    try simp only [Act.put, pj]
    refine tkk (i := 29) rfl ?_
    try simp only [Act.put, pj]
    refine wpAnyH_done (by kernel_rfl) ?_ _
    clear hHeld
    rw [HRR.out] at HM8
    clear HS KX8
    go_wp2
    go_roundw
    case rel => exact ⟨k + 1, g8, c8, A2, n2, c2, E2, m2, k2, by omega, by go_num, rfl, HC8, HM8, HLO2, HB8⟩
    case measure => simp [RowKit.intOf]; omega
end Go.Proofs.YtklgjjmcflgjeaaGreat.Trail
