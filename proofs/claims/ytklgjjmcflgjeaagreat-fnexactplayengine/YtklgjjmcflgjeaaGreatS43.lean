import Derived.Test.YtklgjjmcflgjeaaGreatQ
import Derived.Test.YtklgjjmcflgjeaaGreatS28
import Derived.Test.YtklgjjmcflgjeaaGreatS34
import Derived.Test.YtklgjjmcflgjeaaGreatS42
set_option linter.unusedVariables false
set_option linter.unusedSimpArgs false
namespace Go.Proofs.YtklgjjmcflgjeaaGreat.Mod
open Go.ChangeShapes Go.WideShapes Go.ChangeAt Go.RowKit
open LK Pods EngV Eng Seg
open Mach (own_ne)
def blks (b : Nat) (A : Option Addr) (n c : Nat) (E : Option Addr) (m k : Nat) : Nat → Prop := fun q => q = b ∨ (Value.slice A n c).ownBlock = some q ∨ (Value.slice E m k).ownBlock = some q
section
variable {w w' : World} {S : Nat → Prop} {b : Nat} {r : Run} {A : Option Addr} {n c : Nat} {E : Option Addr} {m k : Nat}
theorem ModAt.tight (h : ModAt w S b r A n c E m k) : ModAt w (blks b A n c E m k) b r A n c E m k := ⟨h.box, h.ps, h.ev, .inl rfl, fun q hq => .inr (.inl hq), fun q hq => .inr (.inr hq)⟩
theorem ModAt.sub (h : ModAt w S b r A n c E m k) (q : Nat) (hq : blks b A n c E m k q) : S q := by
  rcases hq with rfl | hq | hq
  · exact h.sb
  · exact h.sa q hq
  · exact h.se q hq
theorem ModAt.same (h : ModAt w S b r A n c E m k) (hs : ∀ q, blks b A n c E m k q → w'.heap[q]? = w.heap[q]?) : ModAt w' S b r A n c E m k :=
  ⟨(hs b (.inl rfl)).trans h.box, h.ps.same fun q hq => hs q (.inr (.inl hq)), h.ev.same fun q hq => hs q (.inr (.inr hq)), h.sb, h.sa, h.se⟩
theorem ModAt.ltAll (h : ModAt w S b r A n c E m k) (q : Nat) (hq : blks b A n c E m k q) : q < w.heap.size := by
  rcases hq with rfl | hq | hq
  · exact box_lt h.box
  · exact (h.ps.lt q hq).2
  · exact (h.ev.lt q hq).2
theorem ModAt.not (h : ModAt w S b r A n c E m k) {q : Nat} {cs : Array Value} {t : TypeId} {f : Nat × Nat} (hq : w.heap[q]? = some (.cells cs t f)) (h0 : t ≠ 90) (h1 : t ≠ 85) (h2 : t ≠ 107) : ¬ blks b A n c E m k q := by
  rintro (rfl | h' | h')
  · rw [h.box] at hq
    injection hq with hq
    injection hq with _ hq _
    exact h0 hq.symm
  · exact own_ne h.ps.2 hq h1 _ h' rfl
  · exact own_ne h.ev.2 hq h2 _ h' rfl
theorem ModAt.row_not (h : ModAt w S b r A n c E m k) {lo l z : Nat} {v : Value} {xs : List Value} {t : TypeId} (ho : w.ownsRow lo t z v l xs) (h0 : t ≠ 90) (h1 : t ≠ 85) (h2 : t ≠ 107) (q : Nat) (hq : v.ownBlock = some q) : ¬ blks b A n c E m k q := by
  rcases ho.2 with ⟨rfl, _⟩ | ⟨g, cap, cur, rfl, hb, hg, _⟩
  · cases hq
  · have e0 : g = q := by simpa [Value.ownBlock] using hq
    subst e0
    exact h.not hg h0 h1 h2
end
end Go.Proofs.YtklgjjmcflgjeaaGreat.Mod
namespace Go.Proofs.YtklgjjmcflgjeaaGreat.Play
open Go.ChangeShapes Go.WideShapes Go.ChangeAt Go.RowKit
open LK Pods EngV EngTy Eng EngInv Seg
open Go.Proofs.YtklgjjmcflgjeaaGreat.Mod (moL ModAt Mod blks)
open Mach (own_ne)
open Has
theorem results_box3 {P : Program} {w : World} {fn : Func} {p q0 q1 q2 : Tmp} {ty : TypeId} (h : fn.results = #[.cell p ty, .tmp q0, .tmp q1, .tmp q2]) (tmps : Array Value) {b : Nat} {cs : List Value} {t : TypeId} {fr : Nat × Nat} (hp : tmps.getD p undef = .pointer (some ⟨b, 0, none⟩)) {x0 x1 x2 : Value} (hx0 : tmps.getD q0 undef = x0) (hx1 : tmps.getD q1 undef = x1) (hx2 : tmps.getD q2 undef = x2) (hb : w.heap[b]? = some (.cells cs.toArray t fr))
    {d : TypeDesc} (hu : P.underlying ty = some d) (hd : d.isRow = true) (hi : (P.info? ty).map (·.size) = some cs.length) : (results fn tmps).run P w = .ok (.tuple #[.agg cs.toArray, x0, x1, x2]) w := by
  have hp' : tmps[p]?.getD undef = .pointer (some ⟨b, 0, none⟩) := by simpa using hp
  have hx0' : tmps[q0]?.getD undef = x0 := by simpa using hx0
  have hx1' : tmps[q1]?.getD undef = x1 := by simpa using hx1
  have hx2' : tmps[q2]?.getD undef = x2 := by simpa using hx2
  simp [results, h, hp', hx0', hx1', hx2', asAddr, run_loadVar_mid w b 0 ty cs d (range_of hb List.take_length) hu hd hi]
theorem moL_one (r : Run) (A : Option Addr) (n c : Nat) (E : Option Addr) (m k : Nat) : ∀ v ∈ moL r A n c E m k, v.oneCell' = true := by
  intro v hv
  simp only [moL, List.mem_cons, List.not_mem_nil, or_false] at hv
  rcases hv with rfl | rfl | rfl | rfl | rfl | rfl | rfl | rfl | rfl | rfl | rfl | rfl | rfl | rfl | rfl | rfl | rfl | rfl | rfl | rfl | rfl <;> rfl
theorem ps_nil (s : Spc) (rev : Int) : (EngNew.newD s rev).ps = [] := by
  unfold EngNew.newD
  split <;> rfl
theorem made_none {s : Spc} {rev : Int} {ops : Ops.L} {w w' : World} (h : okP s rev ops = false) (hb : Below w.heap.size w w') : Made3 ety Evs.lty IntTy.ity (engP s rev ops) (evsP s rev ops) (codP s rev ops) (.bool (okP s rev ops)) w (.returned (.tuple #[.agg (enL zeroE none 0 0).toArray, .slice none 0 0, .slice none 0 0, .bool false])) w' := by
  rw [engP, evsP, codP, h]
  exact made3_of hb (OwnP.nil _ _) (Evs.OwnL.nil _ _) ⟨rfl, World.ownsRow_nil _ _ _ _⟩
set_option maxRecDepth 100000 in
set_option maxHeartbeats 400000 in
theorem specPlay_any (s : Spc) (rev : Int) (Fa : Option Addr) (n c0 : Nat) (ops : Ops.L) (B : Nat) (w : World) (hr : Ops.IsL w B Fa n ops) (hB : B ≤ w.heap.size) (hn : n ≤ 1048576) :
    Calls Tryz.prog 23 #[.agg (spL s).toArray, .int .i64 rev, .slice Fa n c0] w (Made3 ety Evs.lty IntTy.ity (engP s rev ops) (evsP s rev ops) (codP s rev ops) (.bool (okP s rev ops)) w) := by
  obtain ⟨i0, hi0, hz0, hz1, hz2⟩ := info_parts Has.infoInt
  have HOP := Lib.hid hr
  have HL : Hid (ops.length = n) := hr.1
  have HBB := Lib.hid hB
  obtain ⟨V, hV⟩ : ∃ V, V = (w.alloc (.cells (spL s).toArray 25)).alloc (.cells #[.int .i64 0, .int .i64 0, .int .i64 0, .int .i64 0, .int .i64 0, .int .i64 0, .int .i64 0, .int .i64 0, .int .i64 0, .int .i64 0, .int .i64 0, .int .i64 0, .int .i64 0, .int .i64 0, .int .i64 0, .slice none 0 0, .int .i64 0, .int .i64 0, .int .i64 0, .int .i64 0] 36) := ⟨_, rfl⟩
  have HB0 : Hid (Below w.heap.size w V) := by rw [hV]; exact bel2 _ _ _
  have KS0 : Hid (V.heap[w.heap.size]? = some (.cells (spL s).toArray 25 (0, 0))) := by rw [hV]; exact box_alloc (box_new w _) _
  have KR0 : Hid (V.heap[w.heap.size + 1]? = some (.cells (enL zeroE none 0 0).toArray 36 (0, 0))) := by rw [hV]; have h := box_new (w.alloc (.cells (spL s).toArray 25)) (.cells #[.int .i64 0, .int .i64 0, .int .i64 0, .int .i64 0, .int .i64 0, .int .i64 0, .int .i64 0, .int .i64 0, .int .i64 0, .int .i64 0, .int .i64 0, .int .i64 0, .int .i64 0, .int .i64 0, .int .i64 0, .slice none 0 0, .int .i64 0, .int .i64 0, .int .i64 0, .int .i64 0] 36); simp only [World.size_alloc] at h; exact h
  have HNO : Hid (okP s rev ops = false → ∀ W, Below w.heap.size w W → Made3 ety Evs.lty IntTy.ity (engP s rev ops) (evsP s rev ops) (codP s rev ops) (.bool (okP s rev ops)) w (.returned (.tuple #[.agg (enL zeroE none 0 0).toArray, .slice none 0 0, .slice none 0 0, .bool false])) W) := fun h W hb => made_none h hb
  clear hr hB
  go_enter Tryz.func23, Tryz.ntmps23
  go_upto_region 1 with fail
  rw [← hV]
  clear hV
  go_wp2_with (refine wpList_get rfl 25 _ rfl w.heap.size 0 rfl KS0.out (spL s) List.take_length Tryz.underlying25 rfl (by kernel_rfl) ?_)
  refine (EngNew.specNewEngine_any s rev _).mono ?_
  rintro e w1 ⟨v1, S1, rfl, hO, hb⟩
  obtain ⟨A, c, rfl, ho, hs⟩ := hO.own
  have HLO : Hid (∀ q, (Value.slice A (EngNew.newD s rev).ps.length c).ownBlock = some q → w.heap.size ≤ q) := fun q hq => by have := hO.inn q (hs q hq); have := HB0.out.size; omega
  have HO := Lib.hid ho
  have KR1 := Lib.hid (box_below KR0.out hb)
  have HB1 := Lib.hid (bel_then HB0.out hb HB0.out.size)
  have hlt1 : w.heap.size + 1 < w1.heap.size := box_lt KR1.out
  rw [ps_nil] at HLO HO
  clear KS0 KR0 HB0 hb hO ho hs
  rw [show enV (EngNew.newD s rev) A (EngNew.newD s rev).ps.length c = .agg (enL (EngNew.newD s rev) A 0 c).toArray from by rw [ps_nil]; rfl]
  obtain ⟨D, hD⟩ : ∃ D, D = EngNew.newD s rev := ⟨_, rfl⟩
  rw [← hD]
  have HD := Lib.hid hD
  clear hD
  have KZ : Hid ((w1.alloc (.cells (enL zeroE none 0 0).toArray 36)).heap[w1.heap.size]? = some (.cells (enL zeroE none 0 0).toArray 36 (0, 0))) := box_new w1 _
  go_upto_region 2 with (refine wpList_put rfl rfl 36 _ _ rfl w1.heap.size 0 (enL D A 0 c) rfl rfl KZ.out (by kernel_rfl) (enL D A 0 c) rfl (Nat.le_of_ble_eq_true rfl) (enL_one _ _ _ _) ?_)
  obtain ⟨W, hW⟩ : ∃ W, W = (w1.alloc (.cells #[.int .i64 0, .int .i64 0, .int .i64 0, .int .i64 0, .int .i64 0, .int .i64 0, .int .i64 0, .int .i64 0, .int .i64 0, .int .i64 0, .int .i64 0, .int .i64 0, .int .i64 0, .int .i64 0, .int .i64 0, .slice none 0 0, .int .i64 0, .int .i64 0, .int .i64 0, .int .i64 0] 36)).setRow w1.heap.size (enL D A 0 c).toArray := ⟨_, rfl⟩
  have hbv : Below w1.heap.size w1 W := by rw [hW]; exact row_below (bel1 _ _) _ _ (Nat.le_refl _) (by simp)
  have KE : Hid (W.heap[w1.heap.size]? = some (.cells (enL D A 0 c).toArray 36 (0, 0))) := by rw [hW]; exact row_box KZ.out
  have KR2 := Lib.hid (box_below KR1.out hbv)
  have HB2 := Lib.hid (bel_then HB1.out hbv HB1.out.size)
  have HO2 : Hid (OwnP W 0 A 0 c []) := HO.out.below hbv
  rw [← hW]
  clear hW hbv KZ KR1 HB1 HO
  cases hnb : newB s rev
  · have HF : Hid (okP s rev ops = false) := by show _ = _; simp [okP, hnb]
    clear hnb
    go_wp2_with (refine wpList_put rfl rfl 36 _ _ rfl (w.heap.size + 1) 0 (enL zeroE none 0 0) rfl rfl KR2.out (by kernel_rfl) (enL zeroE none 0 0) rfl (Nat.le_of_ble_eq_true rfl) (enL_one _ _ _ _) ?_)
    exact bodyPost_ret (results_box3 Tryz.results23 _ rfl rfl rfl rfl (row_box KR2.out) Tryz.underlying36 rfl (by kernel_rfl)) rfl (HNO.out HF.out _ (row_below HB2.out _ _ (by omega) HB2.out.size))
  by_cases h200 : 200 < n
  · have HF : Hid (okP s rev ops = false) := by show _ = _; have : ¬ ops.length ≤ 200 := by rw [HL.out]; omega
                                                simp [okP, this]
    have hq : decide ((200 : Int) < (n : Int)) = true := by simp; omega
    clear hnb
    go_wp2_with (refine wpList_put rfl rfl 36 _ _ rfl (w.heap.size + 1) 0 (enL zeroE none 0 0) rfl rfl KR2.out (by kernel_rfl) (enL zeroE none 0 0) rfl (Nat.le_of_ble_eq_true rfl) (enL_one _ _ _ _) ?_)
    exact bodyPost_ret (results_box3 Tryz.results23 _ rfl rfl rfl rfl (row_box KR2.out) Tryz.underlying36 rfl (by kernel_rfl)) rfl (HNO.out HF.out _ (row_below HB2.out _ _ (by omega) HB2.out.size))
  have HT : Hid (okP s rev ops = true) := by show _ = _; have : ops.length ≤ 200 := by rw [HL.out]; omega
                                             simp [okP, hnb, this]
  have HNB : Hid (newB s rev = true) := hnb
  have HDE : Hid (D = (run0 s rev).e) := by show _ = _; rw [HD.out, EngNew.newD, hnb]; rfl
  have hq : decide ((200 : Int) < (n : Int)) = false := by simp; omega
  clear hnb HNO HD
  obtain ⟨b, hbn⟩ : ∃ b, b = W.heap.size := ⟨_, rfl⟩
  have KM0 : Hid ((W.alloc (.cells (moL { e := zeroE, ev := [] } none 0 0 none 0 0).toArray 90)).heap[W.heap.size]? = some (.cells (moL { e := zeroE, ev := [] } none 0 0 none 0 0).toArray 90 (0, 0))) := box_new W _
  have hlw : w1.heap.size < W.heap.size := box_lt KE.out
  go_upto_region 6 with (first | (refine wpList_get rfl 36 _ rfl w1.heap.size 0 rfl KE.out [.int .i64 D.sp.x0, .int .i64 D.sp.x1, .int .i64 D.sp.x2, .int .i64 D.sp.x3, .int .i64 D.sp.x4, .int .i64 D.sp.x5, .int .i64 D.sp.x6, .int .i64 D.sp.x7, .int .i64 D.sp.x8, .int .i64 D.sp.x9, .int .i64 D.sp.x10, .int .i64 D.now, .int .i64 D.ph, .int .i64 D.tg, .int .i64 D.gd, .slice A 0 c, .int .i64 D.nx, .int .i64 D.st, .int .i64 D.tr, .int .i64 D.wt] rfl Tryz.underlying36 rfl (by kernel_rfl) ?_) | (refine wpList_put rfl rfl 90 _ _ rfl W.heap.size 0 (moL { e := D, ev := [] } A 0 c none 0 0) rfl rfl KM0.out (by kernel_rfl) (moL { e := D, ev := [] } A 0 c none 0 0) rfl (Nat.le_of_ble_eq_true rfl) (moL_one _ _ _ _ _ _ _) ?_))
  obtain ⟨Y, hY⟩ : ∃ Y, Y = (W.alloc (.cells #[.int .i64 0, .int .i64 0, .int .i64 0, .int .i64 0, .int .i64 0, .int .i64 0, .int .i64 0, .int .i64 0, .int .i64 0, .int .i64 0, .int .i64 0, .int .i64 0, .int .i64 0, .int .i64 0, .int .i64 0, .slice none 0 0, .int .i64 0, .int .i64 0, .int .i64 0, .int .i64 0, .slice none 0 0] 90)).setRow W.heap.size (moL { e := D, ev := [] } A 0 c none 0 0).toArray := ⟨_, rfl⟩
  have hby : Below W.heap.size W Y := by rw [hY]; exact row_below (bel1 W _) _ _ (Nat.le_refl _) (by simp)
  have hsy : Y.heap.size = W.heap.size + 1 := by rw [hY]; simp [World.setRow]
  have KMY : Hid (Y.heap[W.heap.size]? = some (.cells (moL { e := D, ev := [] } A 0 c none 0 0).toArray 90 (0, 0))) := by rw [hY]; exact row_box KM0.out
  obtain ⟨X, hX⟩ : ∃ X, X = Y.alloc (.cells #[] 3) := ⟨_, rfl⟩
  have hbx : Below W.heap.size W X := by rw [hX]; exact hby.alloc (by omega) _
  have HC0 : Hid (OwnI X w.heap.size (some ⟨W.heap.size + 1, 0, none⟩) 0 0 (codeK s rev ops 0)) := by
    have h := EngTurn.own_new Y w.heap.size (by have := HB2.out.size; omega)
    rw [← hX, hsy] at h
    rw [codeK_zero]
    exact h
  have KMX : Hid (X.heap[W.heap.size]? = some (.cells (moL { e := D, ev := [] } A 0 c none 0 0).toArray 90 (0, 0))) := by rw [hX]; exact box_alloc KMY.out _
  rw [← hY, ← hX]
  have KR3 := Lib.hid (box_below KR2.out hbx)
  have HB3 := Lib.hid (bel_then HB2.out hbx HB2.out.size)
  have HO3 : Hid (OwnP X 0 A 0 c []) := HO2.out.below hbx
  have hre : ({ e := D, ev := [] } : Run) = runK s rev ops 0 := by rw [runK_zero, HDE.out]; rfl
  have HM3 : Hid (ModAt X (blks W.heap.size A 0 c none 0 0) W.heap.size (runK s rev ops 0) A 0 c none 0 0) := by
    show ModAt _ _ _ _ _ _ _ _ _ _
    rw [← hre]
    refine ⟨KMX.out, ?_, ⟨rfl, World.ownsRow_nil _ _ _ _⟩, .inl rfl, fun q hq => .inr (.inl hq), fun q hq => .inr (.inr hq)⟩
    show OwnP X 0 A 0 c D.ps
    rw [HDE.out]
    exact HO3.out
  have hww : w.heap.size ≤ W.heap.size := by have := HB2.out.size; omega
  have HLO3 : Hid (∀ q, blks W.heap.size A 0 c none 0 0 q → w.heap.size ≤ q) := fun q hq => by
    rcases hq with rfl | hq | hq
    · exact hww
    · exact HLO.out q hq
    · cases hq
  clear hY hX hbx hby hsy KMY KMX KR2 HB2 HO2 HO3 HLO KE KM0 hre HDE
  rw [← hbn] at HM3 HLO3 HC0 ⊢
  clear hbn hlw hww
  go_wp2_with fail
  go_loopw [13, 14] (fun cs i wr => ∃ (k g c3 : Nat) (A1 : Option Addr) (n1 c1 : Nat) (E1 : Option Addr) (m1 k1 : Nat), k ≤ n ∧ i = .int .i64 k ∧ cs = .slice (some ⟨g, 0, none⟩) k c3 ∧ Hid (OwnI wr w.heap.size (some ⟨g, 0, none⟩) k c3 (codeK s rev ops k)) ∧ Hid (ModAt wr (blks b A1 n1 c1 E1 m1 k1) b (runK s rev ops k) A1 n1 c1 E1 m1 k1) ∧ Hid (∀ q, blks b A1 n1 c1 E1 m1 k1 q → w.heap.size ≤ q) ∧ Hid (wr.heap[w.heap.size + 1]? = some (.cells (enL zeroE none 0 0).toArray 36 (0, 0))) ∧ Hid (Below w.heap.size w wr)) (fun _ i _ => n - (RowKit.intOf i).toNat)
  case atStart => exact ⟨0, b + 1, 0, A, 0, c, none, 0, 0, Nat.zero_le _, rfl, rfl, HC0, HM3, HLO3, KR3, HB3⟩
  case round =>
    obtain ⟨k, g, c3, A1, n1, c1, E1, m1, k1, hk, rfl, rfl, HC, HM, HLO, KR, HB⟩ := hrel
    clear HC0 HM3 HLO3 KR3 HB3
    by_cases hlt : k < n
    case neg =>
      have hkn : k = n := by omega
      subst hkn
      have HE : Hid (engP s rev ops = (runK s rev ops k).e ∧ evsP s rev ops = (runK s rev ops k).ev ∧ codP s rev ops = codeK s rev ops k) := ⟨by rw [engP, if_pos HT.out, HL.out], by rw [evsP, if_pos HT.out, HL.out], by rw [codP, if_pos HT.out, HL.out]⟩
      go_upto_region 10 with fail
      obtain ⟨r, hr⟩ : ∃ r, r = runK s rev ops k := ⟨_, rfl⟩
      obtain ⟨T, hT⟩ : ∃ T, T = codeK s rev ops k := ⟨_, rfl⟩
      rw [← hr, ← hT] at HE
      rw [← hr] at HM
      rw [← hT] at HC
      clear hr hT
      have hbr : b ≠ w.heap.size + 1 := fun h => HM.out.not KR.out (by decide) (by decide) (by decide) (.inl h.symm)
      refine wp_region_held_drew (S := fun w' => w'.rangeAt b 0 (enL r.e A1 n1 c1) ∧ w'.cell? ⟨b, 20, none⟩ = some (.slice E1 m1 k1)) (by kernel_rfl) ⟨range_of HM.out.box (Mod.moL_en r A1 n1 c1 E1 m1 k1), box_cell HM.out.box 20 _ rfl⟩ (fun hHeld => ?_)
      refine tkk (i := 0) rfl ?_
      try simp only [Act.put, pj]
      refine tkj (i := 1) (v := .agg (enL r.e A1 n1 c1).toArray) rfl (yieldsIf_load_mid (by rfl) 36 _ rfl b 0 rfl (enL r.e A1 n1 c1) _ (fun w' h => h.1) Tryz.underlying36 rfl (by kernel_rfl)) ?_
      try simp only [Act.put, pj]
      refine tkk (i := 2) rfl ?_
      try simp only [Act.put, pj]
      refine tkk (i := 3) rfl ?_
      try simp only [Act.put, pj]
      refine tkk (i := 4) rfl ?_
      try simp only [Act.put, pj]
      refine wpAnyH_ready (rs := [5]) (by kernel_rfl) (by simp) (AllReadyH.cons rfl (fun K hK => ?_) AllReadyH.nil)
      refine wp_put rfl 36 _ _ rfl (w.heap.size + 1) 0 (enL r.e A1 n1 c1) rfl rfl (show wr.drew.heap[w.heap.size + 1]? = _ from KR.out) (by kernel_rfl) (enL r.e A1 n1 c1) rfl (Nat.le_of_ble_eq_true rfl) (enL_one _ _ _ _) ?_
      obtain ⟨Y, hY⟩ : ∃ Y, Y = wr.drew.setRow (w.heap.size + 1) (enL r.e A1 n1 c1).toArray := ⟨_, rfl⟩
      have KY : Hid (Y.heap[w.heap.size + 1]? = some (.cells (enL r.e A1 n1 c1).toArray 36 (0, 0))) := by rw [hY]; exact row_box (show wr.drew.heap[w.heap.size + 1]? = _ from KR.out)
      have HF : Hid (∀ q, q ≠ w.heap.size + 1 → Y.heap[q]? = wr.heap[q]?) := fun q hq => by rw [hY]; exact setRow_other _ _ _ _ hq
      have HMY : Hid (ModAt Y (blks b A1 n1 c1 E1 m1 k1) b r A1 n1 c1 E1 m1 k1) := HM.out.same fun q hq => HF.out q (fun e => HM.out.not KR.out (by decide) (by decide) (by decide) (e ▸ hq))
      have HCY : Hid (OwnI Y w.heap.size (some ⟨g, 0, none⟩) k c3 T) := IntTy.ownI_same HC.out fun q hq => HF.out q (fun e => own_ne HC.out.2 KR.out (by decide) q hq e)
      have HBY : Hid (Below w.heap.size w Y) := by rw [hY]; exact row_below (bel_then HB.out (undrew (Below.refl _ _)) HB.out.size) _ _ (by omega) (by have := HB.out.size; simpa using this)
      rw [← hY]
      clear hY HF HM HC HB KR hHeld
      refine hK _ _ (by exact ⟨range_of HMY.out.box (Mod.moL_en r A1 n1 c1 E1 m1 k1), box_cell HMY.out.box 20 _ rfl⟩) (fun hHeld => ?_)
      clear hK K
      try simp only [Act.put, pj]
      refine tkk (i := 6) rfl ?_
      try simp only [Act.put, pj]
      refine tkk (i := 7) rfl ?_
      try simp only [Act.put, pj]
      refine tkk (i := 8) rfl ?_
      try simp only [Act.put, pj]
      refine wpAnyH_done (by kernel_rfl) ?_ _
      clear hHeld
      go_wp2
      refine bodyPost_ret (results_box3 Tryz.results23 _ rfl rfl rfl rfl KY.out Tryz.underlying36 rfl (by kernel_rfl)) rfl ?_
      obtain ⟨e1, e2, e3⟩ := HE.out
      rw [e1, e2, e3, HT.out]
      exact made3_of HBY.out (HMY.out.ps.base fun q hq => HLO.out q (.inr (.inl hq))) (Evs.OwnL.base ⟨HMY.out.ev.1, HMY.out.ev.2⟩ fun q hq => HLO.out q (.inr (.inr hq))) HCY.out
    have hkeep := runK_keep (s := s) (rev := rev) (ops := ops) (k := k) HNB.out (by omega) (by rw [HL.out]; omega)
    have HG := Lib.hid hkeep
    clear hkeep
    have hrw := HOP.out.below HB.out HBB.out
    obtain ⟨bb, off, y0, y1, y2, y3, rfl, hbB, hz, hc0, hc1, hc2, hc3⟩ := hrw.at_ hlt
    have HSR : Hid (runK s rev ops (k + 1) = ((runK s rev ops k).step (y0, y1, y2, y3)).1) := by show _ = _; rw [runK_succ (by rw [HL.out]; exact hlt), hz]
    have HSC : Hid (codeK s rev ops (k + 1) = codeK s rev ops k ++ [((runK s rev ops k).step (y0, y1, y2, y3)).2]) := by show _ = _; rw [codeK_succ (by rw [HL.out]; exact hlt), hz]
    clear hz hrw hbB
    go_wp2_with fail
    refine (Mod.step_any wr _ b (runK s rev ops k) y0 y1 y2 y3 ⟨_, _, _, _, _, _, HM.out⟩ HG.out.1 (by have := HG.out.2.1; omega)).mono ?_
    rintro e w2 ⟨rfl, S2, ⟨A2, n2, c2, E2, m2, k2, hm2⟩, hs2, ht2⟩
    rw [← HSR.out] at hm2
    obtain ⟨Q, hQ⟩ : ∃ Q, Q = ((runK s rev ops k).step (y0, y1, y2, y3)).2 := ⟨_, rfl⟩
    rw [← hQ] at HSC ⊢
    obtain ⟨T, hT⟩ : ∃ T, T = codeK s rev ops k := ⟨_, rfl⟩
    rw [← hT] at HSC HC
    have HM2 := Lib.hid hm2.tight
    have HLO2 : Hid (∀ q, blks b A2 n2 c2 E2 m2 k2 q → w.heap.size ≤ q) := fun q hq => by
      rcases hs2 q (hm2.sub q hq) with h | h
      · exact HLO.out q h
      · have := HB.out.size; omega
    have HC2 : Hid (OwnI w2 w.heap.size (some ⟨g, 0, none⟩) k c3 T) := IntTy.ownI_same HC.out fun q hq => ht2.block q (HC.out.2.lt q hq).2 (HM.out.row_not HC.out.2 (by decide) (by decide) (by decide) q hq)
    have KR2 : Hid (w2.heap[w.heap.size + 1]? = some (.cells (enL zeroE none 0 0).toArray 36 (0, 0))) := (ht2.block _ (box_lt KR.out) (HM.out.not KR.out (by decide) (by decide) (by decide))).trans KR.out
    have HB2 : Hid (Below w.heap.size w w2) := Turned.low HB.out ht2 (fun q h => HLO.out q h) HB.out.size
    have hTm : T.length = k := HC2.out.1
    clear hm2 hs2 ht2 HSR HG hQ hT HM HC HB KR HLO hc0 hc1 hc2 hc3
    go_wp2_with (at_builtin; refine wpList_append_own _ rfl (.tmp 38) (.tmp 44) _ rfl w.heap.size 3 i0 _ 1 8 Tryz.underlying38 hi0 hz0 hz1 hz2 rfl (by omega) (.slice (some ⟨g, 0, none⟩) k c3) k (T.map (Value.int .i64)) rfl ?o1 ⟨w2.heap.size, 0, none⟩ 1 1 [.int .i64 Q] rfl rfl (Crew.news_new w2 [.int .i64 Q] 3) ?o3 ?o4 ?o5 ?o6 ?_)
    case o1 => exact (HC2.out.alloc _).2
    case o3 => first | rfl | (intro u hu; simp at hu; subst hu; rfl)
    case o4 => unfold maxLen; omega
    case o5 => omega
    case o6 => have := HB2.out.size; first | omega | (simp; omega)
    intro v2 w5 hown hgr _
    obtain ⟨g5, c5, rfl, hO5⟩ := EngTurn.of_app (zs := T) (ys := [Q]) hTm (by simp) hown
    have HMa := Lib.hid (HM2.out.below (bel1 w2 (.cells #[.int .i64 Q] 3)))
    have HCa : Hid (OwnI (w2.alloc (.cells #[.int .i64 Q] 3)) w.heap.size (some ⟨g, 0, none⟩) k c3 T) := HC2.out.alloc _
    have HM5 : Hid (ModAt w5 (blks b A2 n2 c2 E2 m2 k2) b (runK s rev ops (k + 1)) A2 n2 c2 E2 m2 k2) := HMa.out.same fun q hq => hgr.block q (HMa.out.ltAll q hq) (fun e => HMa.out.row_not HCa.out.2 (by decide) (by decide) (by decide) q (by first | exact e | exact e.symm) hq)
    have KR5 : Hid (w5.heap[w.heap.size + 1]? = some (.cells (enL zeroE none 0 0).toArray 36 (0, 0))) := (hgr.block _ (box_lt (box_alloc KR2.out _)) (fun e => own_ne HCa.out.2 (box_alloc KR2.out _) (by decide) _ (by first | exact e | exact e.symm) rfl)).trans (box_alloc KR2.out _)
    have HB5 : Hid (Below w.heap.size w w5) := (HB2.out.alloc HB2.out.size _).grown hgr (by have := HB2.out.size; simp; omega) (fun q hq => (HCa.out.2.lt q hq).1)
    have HC5 : Hid (OwnI w5 w.heap.size (some ⟨g5, 0, none⟩) (k + 1) c5 (codeK s rev ops (k + 1))) := by show OwnI _ _ _ _ _ _; rw [HSC.out]; exact hO5
    clear hown hgr hO5 HMa HCa HM2 HC2 KR2 HB2 HSC hTm
    go_wp2
    go_roundw
    case rel => exact ⟨k + 1, g5, c5, A2, n2, c2, E2, m2, k2, by omega, by go_num, rfl, HC5, HM5, HLO2, KR5, HB5⟩
    case measure => simp [RowKit.intOf]; omega
end Go.Proofs.YtklgjjmcflgjeaaGreat.Play
namespace Go.Proofs.YtklgjjmcflgjeaaGreat.Play
open Go.ChangeShapes Go.WideShapes Go.ChangeAt Go.RowKit
open LK Pods EngV EngTy Eng EngInv Seg
open Mach (maL MachAt Mach blks own_ne)
open Has
def Codes (w0 : World) (s : Spc) (rev : Int) (ops : Ops.L) (p p0 : Nat) (k : Nat) (W : World) : Prop :=
  ∃ g c, W.heap[p]? = some (.cells #[.slice (some ⟨g, 0, none⟩) k c] 38 (0, 0)) ∧ OwnI W w0.heap.size (some ⟨g, 0, none⟩) k c (codeK s rev ops k) ∧ W.heap[p0]? = some (.cells (enL zeroE none 0 0).toArray 36 (0, 0))
set_option maxRecDepth 100000 in
set_option maxHeartbeats 800000 in
theorem codes_any (w0 : World) (s : Spc) (rev : Int) (ops : Ops.L) (n p p0 b k : Nat) (W : World) (hp : w0.heap.size ≤ p) (hn : n ≤ 1048576) (hl : ops.length = n) (hk : k < n) (hJ : Codes w0 s rev ops p p0 k W) (hA : At w0 s rev ops b (k + 1) W) :
    Calls Tryz.prog 41 (.pointer (some ⟨b, 0, none⟩) :: .int .i64 ((runK s rev ops k).step (ops.getD k Ops.z)).2 :: [.pointer (some ⟨p, 0, none⟩)]).toArray W (fun e W' => e = .returned (.tuple #[]) ∧ Codes w0 s rev ops p p0 (k + 1) W' ∧ At w0 s rev ops b (k + 1) W') := by
  obtain ⟨i0, hi0, hz0, hz1, hz2⟩ := info_parts Has.infoInt
  obtain ⟨g, c3, hc, ho, hz0'⟩ := hJ
  have HZ := Lib.hid hz0'
  have hpp : p0 ≠ p := by rintro rfl; rw [hc] at hz0'; injection hz0' with h; injection h with _ h _; exact absurd h (by decide)
  clear hz0'
  obtain ⟨A, n1, c1, E, m, j, hm, hlo, hb⟩ := hA
  have HC := Lib.hid hc
  have HO := Lib.hid ho
  have HM := Lib.hid hm
  have HLO := Lib.hid hlo
  have HB := Lib.hid hb
  obtain ⟨Q, hQ⟩ : ∃ Q, Q = ((runK s rev ops k).step (ops.getD k Ops.z)).2 := ⟨_, rfl⟩
  obtain ⟨T, hT⟩ : ∃ T, T = codeK s rev ops k := ⟨_, rfl⟩
  rw [← hQ]
  rw [← hT] at HO
  have HS : Hid (codeK s rev ops (k + 1) = T ++ [Q]) := by show _ = _; rw [codeK_succ (by omega), hT, hQ]
  have hTm : T.length = k := HO.out.1
  have c0 : W.cell? ⟨p, 0, none⟩ = some (.slice (some ⟨g, 0, none⟩) k c3) := box_cell hc 0 _ rfl
  clear hc ho hm hlo hb hQ hT
  go_enter Tryz.func41, Tryz.ntmps41
  go_wp2_with (at_builtin; refine wpList_append_own _ rfl (.tmp 5) (.tmp 7) _ rfl w0.heap.size 3 i0 _ 1 8 Tryz.underlying38 hi0 hz0 hz1 hz2 rfl (by omega) (.slice (some ⟨g, 0, none⟩) k c3) k (T.map (Value.int .i64)) rfl ?o1 ⟨W.heap.size, 0, none⟩ 1 1 [.int .i64 Q] rfl rfl (Crew.news_new W [.int .i64 Q] 3) ?o3 ?o4 ?o5 ?o6 ?_)
  case o1 => exact (HO.out.alloc _).2
  case o3 => first | rfl | (intro u hu; simp at hu; subst hu; rfl)
  case o4 => unfold maxLen; omega
  case o5 => omega
  case o6 => have := HB.out.size; first | omega | (simp; omega)
  intro v2 w5 hown hgr _
  obtain ⟨g5, c5, rfl, hO5⟩ := EngTurn.of_app (zs := T) (ys := [Q]) hTm (by simp) hown
  have HMa := Lib.hid (HM.out.below (bel1 W (.cells #[.int .i64 Q] 3)))
  have HOa : Hid (OwnI (W.alloc (.cells #[.int .i64 Q] 3)) w0.heap.size (some ⟨g, 0, none⟩) k c3 T) := HO.out.alloc _
  have HCa : Hid ((W.alloc (.cells #[.int .i64 Q] 3)).heap[p]? = some (.cells #[.slice (some ⟨g, 0, none⟩) k c3] 38 (0, 0))) := box_alloc HC.out _
  have HM5 : Hid (MachAt w5 (blks b A n1 c1 E m j) b 0 0 (runK s rev ops (k + 1)) A n1 c1 E m j) := HMa.out.same fun q hq => hgr.block q (HMa.out.ltAll q hq) (fun e => HMa.out.row_not HOa.out.2 (by decide) (by decide) (by decide) q (by first | exact e | exact e.symm) hq)
  have HC5 : Hid (w5.heap[p]? = some (.cells [.slice (some ⟨g, 0, none⟩) k c3].toArray 38 (0, 0))) := (hgr.block _ (box_lt HCa.out) (fun e => own_ne HOa.out.2 HCa.out (by decide) _ (by first | exact e | exact e.symm) rfl)).trans HCa.out
  have HB5 : Hid (Below w0.heap.size w0 w5) := (HB.out.alloc HB.out.size _).grown hgr (by have := HB.out.size; simp; omega) (fun q hq => (HOa.out.2.lt q hq).1)
  have HZ5 : Hid (w5.heap[p0]? = some (.cells (enL zeroE none 0 0).toArray 36 (0, 0))) := (hgr.block _ (box_lt (box_alloc HZ.out _)) (fun e => own_ne HOa.out.2 (box_alloc HZ.out _) (by decide) _ (by first | exact e | exact e.symm) rfl)).trans (box_alloc HZ.out _)
  have HO5 := Lib.hid hO5
  have c5' : w5.cell? ⟨p, 0, none⟩ = some (.slice (some ⟨g, 0, none⟩) k c3) := box_cell HC5.out 0 _ rfl
  have f5 := box_frozen HC5.out 0
  clear hown hgr hO5 HMa HOa HCa HC HO HM HB c0
  go_wp2
  go_end0
  have hrow := set_row (i := 0) HC5.out (.slice (some ⟨g5, 0, none⟩) (k + 1) c5) [.slice (some ⟨g5, 0, none⟩) (k + 1) c5] rfl
  have HN : ∀ q, q ≠ p → (w5.setCell ⟨p, 0, none⟩ (.slice (some ⟨g5, 0, none⟩) (k + 1) c5)).heap[q]? = w5.heap[q]? := fun q hq => Below.heap_setCell _ _ _ q hq
  refine ⟨rfl, ⟨g5, c5, by rw [hrow]; exact row_box HC5.out, ?_, (HN p0 hpp).trans HZ5.out⟩, A, n1, c1, E, m, j, HM5.out.same fun q hq => HN q (fun e => HM5.out.not HC5.out (by decide) (by decide) (by decide) (e ▸ hq)), HLO.out, HB5.out.setCell (by exact hp) _⟩
  rw [HS.out]
  exact IntTy.ownI_same HO5.out fun q hq => HN q (fun e => own_ne HO5.out.2 HC5.out (by decide) q hq e)
set_option maxRecDepth 100000 in
set_option maxHeartbeats 800000 in
theorem play_any (s : Spc) (rev : Int) (Fa : Option Addr) (n c0 : Nat) (ops : Ops.L) (w : World) (hr : Ops.IsL w w.heap.size Fa n ops) (hn : n ≤ 1048576) (hwf : ∀ p ∈ ops, (Lit.int .i64 p.2.1).wf = true) :
    Calls Tryz.prog 10 #[.agg (spL s).toArray, .int .i64 rev, .slice Fa n c0] w (Made3 ety Evs.lty IntTy.ity (engP s rev ops) (evsP s rev ops) (codP s rev ops) (.bool (okP s rev ops)) w) := by
  have HOP := Lib.hid hr
  have HL : Hid (ops.length = n) := hr.1
  have HWF := Lib.hid hwf
  have HNO : Hid (okP s rev ops = false → ∀ W, Below w.heap.size w W → Made3 ety Evs.lty IntTy.ity (engP s rev ops) (evsP s rev ops) (codP s rev ops) (.bool (okP s rev ops)) w (.returned (.tuple #[.agg (enL zeroE none 0 0).toArray, .slice none 0 0, .slice none 0 0, .bool false])) W) := fun h W hb => made_none h hb
  obtain ⟨U, hU⟩ : ∃ U, U = (w.alloc (.cells (spL s).toArray 25)).alloc (.cells #[.int .i64 0, .int .i64 0, .int .i64 0, .int .i64 0, .int .i64 0, .int .i64 0, .int .i64 0, .int .i64 0, .int .i64 0, .int .i64 0, .int .i64 0, .int .i64 0, .int .i64 0, .int .i64 0, .int .i64 0, .slice none 0 0, .int .i64 0, .int .i64 0, .int .i64 0, .int .i64 0] 36) := ⟨_, rfl⟩
  have hsu : U.heap.size = w.heap.size + 1 + 1 := by rw [hU]; simp
  have hbu : Below w.heap.size w U := by rw [hU]; exact bel2 _ _ _
  have ks : U.heap[w.heap.size]? = some (.cells (spL s).toArray 25 (0, 0)) := by rw [hU]; exact box_alloc (box_new w _) _
  have kr : U.heap[w.heap.size + 1]? = some (.cells (enL zeroE none 0 0).toArray 36 (0, 0)) := by rw [hU]; have h := box_new (w.alloc (.cells (spL s).toArray 25)) (.cells #[.int .i64 0, .int .i64 0, .int .i64 0, .int .i64 0, .int .i64 0, .int .i64 0, .int .i64 0, .int .i64 0, .int .i64 0, .int .i64 0, .int .i64 0, .int .i64 0, .int .i64 0, .int .i64 0, .int .i64 0, .slice none 0 0, .int .i64 0, .int .i64 0, .int .i64 0, .int .i64 0] 36); simp only [World.size_alloc] at h; exact h
  obtain ⟨V, hV⟩ : ∃ V, V = (U.alloc (.cells #[] 3)).alloc (.cells #[.slice (some ⟨w.heap.size + 1 + 1, 0, none⟩) 0 0] 38) := ⟨_, rfl⟩
  have HB0 : Hid (Below w.heap.size w V) := by rw [hV]; exact (hbu.alloc (by omega) _).alloc (by simp; omega) _
  have KS0 : Hid (V.heap[w.heap.size]? = some (.cells (spL s).toArray 25 (0, 0))) := by rw [hV]; exact box_alloc (box_alloc ks _) _
  have HJ0 : Hid (Codes w s rev ops (w.heap.size + 1 + 1 + 1) (w.heap.size + 1) 0 V) := by
    refine ⟨w.heap.size + 1 + 1, 0, ?_, ?_, ?_⟩
    · rw [hV]
      have h := box_new (U.alloc (.cells #[] 3)) (.cells #[.slice (some ⟨w.heap.size + 1 + 1, 0, none⟩) 0 0] 38)
      rw [World.size_alloc, hsu] at h
      exact h
    · rw [hV, codeK_zero]
      have h := EngTurn.own_new U w.heap.size (by omega)
      rw [hsu] at h
      exact h.alloc _
    · rw [hV]; exact box_alloc (box_alloc kr _) _
  rw [hU] at hV
  clear hr hwf ks kr hbu hsu hU
  go_enter Tryz.func10, Tryz.ntmps10
  go_upto_region 2 with fail
  rw [← hV]
  clear hV
  obtain ⟨p, hp⟩ : ∃ p, p = w.heap.size + 1 + 1 + 1 := ⟨_, rfl⟩
  rw [← hp] at HJ0 ⊢
  have hpw : w.heap.size ≤ p := by omega
  clear hp
  go_wp2_with (refine wpList_get rfl 25 _ rfl w.heap.size 0 rfl KS0.out (spL s) List.take_length Tryz.underlying25 rfl (by kernel_rfl) ?_)
  refine (playThrough_any w V s rev Fa n c0 ops 41 [.pointer (some ⟨p, 0, none⟩)] (Codes w s rev ops p (w.heap.size + 1)) HB0.out HOP.out hn HWF.out (enters_of Tryz.func41 (by kernel_rfl) rfl) HJ0.out ?jb ?jt ?cb).mono ?_
  case jb =>
    rintro k W W' ⟨g, c, h1, h2, h3⟩ hb
    exact ⟨g, c, box_below h1 hb, h2.below hb, box_below h3 hb⟩
  case jt =>
    rintro k W W' b lk ot r A n c E m j ⟨g, c', h1, h2, h3⟩ hm ht
    exact ⟨g, c', (ht.block _ (box_lt h1) (hm.not h1 (by decide) (by decide) (by decide))).trans h1, IntTy.ownI_same h2 fun q hq => ht.block q (h2.2.lt q hq).2 (hm.row_not h2.2 (by decide) (by decide) (by decide) q hq), (ht.block _ (box_lt h3) (hm.not h3 (by decide) (by decide) (by decide))).trans h3⟩
  case cb =>
    intro k W b hk _ _ hj ha
    exact codes_any w s rev ops n p (w.heap.size + 1) b k W hpw hn HL.out hk hj ha
  rintro e w2 (⟨hno, rfl, hj, hb⟩ | ⟨hok, b, rfl, hj, ha⟩)
  · obtain ⟨g, c, _, _, h3⟩ := hj
    have KR2 := Lib.hid h3
    have HB2 := Lib.hid hb
    have HF := Lib.hid hno
    clear h3 hb hno HJ0 KS0 HB0
    go_wp2_with (refine wpList_put rfl rfl 36 _ _ rfl (w.heap.size + 1) 0 (enL zeroE none 0 0) rfl rfl KR2.out (by kernel_rfl) (enL zeroE none 0 0) rfl (Nat.le_of_ble_eq_true rfl) (enL_one _ _ _ _) ?_)
    exact bodyPost_ret (results_box3 Tryz.results10 _ rfl rfl rfl rfl (row_box KR2.out) Tryz.underlying36 rfl (by kernel_rfl)) rfl (HNO.out HF.out _ (row_below HB2.out _ _ (by omega) HB2.out.size))
  obtain ⟨g, c3, h1, h2, h3⟩ := hj
  obtain ⟨A1, n1, c1, E1, m1, k1, hm, hlo, hbm⟩ := ha
  have hok' := hok
  simp only [okP, Bool.and_eq_true, decide_eq_true_eq] at hok'
  obtain ⟨g1, g2, g3⟩ := runK_keep (s := s) (rev := rev) (ops := ops) (k := n) hok'.1 (by rw [← HL.out]; exact hok'.2) (by rw [HL.out]; exact Nat.le_refl _)
  have HE : Hid (engP s rev ops = (runK s rev ops n).e ∧ evsP s rev ops = (runK s rev ops n).ev ∧ codP s rev ops = codeK s rev ops n) := ⟨by rw [engP, if_pos hok, HL.out], by rw [evsP, if_pos hok, HL.out], by rw [codP, if_pos hok, HL.out]⟩
  obtain ⟨r, hr⟩ : ∃ r, r = runK s rev ops n := ⟨_, rfl⟩
  obtain ⟨T, hT⟩ : ∃ T, T = codeK s rev ops n := ⟨_, rfl⟩
  rw [← hr] at hm HE g1 g2
  rw [← hT] at h2 HE
  obtain ⟨S, hS⟩ : ∃ S, S = blks b A1 n1 c1 E1 m1 k1 := ⟨_, rfl⟩
  have HNS : Hid (¬ S p ∧ (∀ q, (Value.slice (some ⟨g, 0, none⟩) n c3).ownBlock = some q → ¬ S q) ∧ ¬ S (w.heap.size + 1) ∧ (∀ q, S q → w.heap.size ≤ q) ∧ (∀ q, S q → q < w2.heap.size)) := by
    rw [hS]
    exact ⟨hm.not h1 (by decide) (by decide) (by decide), fun q hq => hm.row_not h2.2 (by decide) (by decide) (by decide) q hq, hm.not h3 (by decide) (by decide) (by decide), hlo, hm.ltAll⟩
  rw [← hS] at hm
  have HM := Lib.hid (Mach.MachAt.below hm (undrew (Below.refl w2.heap.size w2.drew)))
  have HP := Lib.hid h1
  have HC := Lib.hid h2
  have HR := Lib.hid h3
  have HB := Lib.hid hbm
  have HOK := Lib.hid hok
  have HG : Hid (r.e.ps.length ≤ 30 ∧ 0 ≤ r.e.tr ∧ r.e.tr ≤ 200 ∧ r.ev.length ≤ 280000) := ⟨g1.fl.1, g1.t0.1, g1.t0.2, g2⟩
  have c0 : w2.cell? ⟨p, 0, none⟩ = some (.slice (some ⟨g, 0, none⟩) n c3) := box_cell h1 0 _ rfl
  clear h1 h2 h3 hm hlo hbm hok hok' g1 g2 g3 hr hT hS HJ0 KS0 HB0 HNO HOP HWF
  go_wp2_with fail
  refine wp_region_held_drew (S := fun w' => w'.cell? ⟨p, 0, none⟩ = some (.slice (some ⟨g, 0, none⟩) n c3)) (by kernel_rfl) (by exact c0) (fun hHeld => ?_)
  refine tkk (i := 0) rfl ?_
  try simp only [Act.put, pj]
  refine tkk (i := 2) rfl ?_
  try simp only [Act.put, pj]
  refine tkk (i := 4) rfl ?_
  try simp only [Act.put, pj]
  refine wpAnyH_ready (rs := [1]) (by kernel_rfl) (by simp) (AllReadyH.cons rfl (fun K hK => ?_) AllReadyH.nil)
  go_simp
  refine (Mach.state_any _ _ b 0 r ⟨_, _, _, _, _, _, HM.out⟩ (by have := HG.out.1; omega) ⟨HG.out.2.1, by have := HG.out.2.2.1; omega⟩).mono ?_
  rintro e w3 ⟨A3, n3, c3', rfl, hop, hm3, ht3, _⟩
  have ht3 := Turned.undrew ht3
  have HP3 : Hid (w3.heap[p]? = some (.cells #[.slice (some ⟨g, 0, none⟩) n c3] 38 (0, 0))) := (ht3.block _ (box_lt HP.out) HNS.out.1).trans HP.out
  have HC3 : Hid (OwnI w3 w.heap.size (some ⟨g, 0, none⟩) n c3 T) := IntTy.ownI_same HC.out fun q hq => ht3.block q (HC.out.2.lt q hq).2 (HNS.out.2.1 q hq)
  have HR3 : Hid (w3.heap[w.heap.size + 1]? = some (.cells (enL zeroE none 0 0).toArray 36 (0, 0))) := (ht3.block _ (box_lt HR.out) HNS.out.2.2.1).trans HR.out
  have HB3 : Hid (Below w.heap.size w w3) := Turned.low HB.out ht3 (fun q h => HNS.out.2.2.2.1 q h) HB.out.size
  have HM3 := Lib.hid hm3
  have HO3 := Lib.hid hop
  have HS2 : Hid (w2.drew.heap.size = w2.heap.size ∧ w.heap.size ≤ w2.heap.size) := ⟨rfl, HB.out.size⟩
  clear hop hm3 ht3 HM HP HC HR HB hHeld c0
  refine hK _ _ (by exact box_cell HP3.out 0 _ rfl) (fun hHeld => ?_)
  clear hK K
  try simp only [Act.put, pj]
  refine wpAnyH_ready (rs := [3]) (by kernel_rfl) (by simp) (AllReadyH.cons rfl (fun K hK => ?_) AllReadyH.nil)
  go_simp
  refine (Mach.log_any w3 S b 0 r HM3.out (by have := HG.out.2.2.2; omega)).mono ?_
  rintro e w4 ⟨A4, n4, c4, rfl, hev, _, ht4, _⟩
  have HP4 : Hid (w4.heap[p]? = some (.cells #[.slice (some ⟨g, 0, none⟩) n c3] 38 (0, 0))) := (ht4.block _ (box_lt HP3.out) HNS.out.1).trans HP3.out
  have HC4 : Hid (OwnI w4 w.heap.size (some ⟨g, 0, none⟩) n c3 T) := IntTy.ownI_same HC3.out fun q hq => ht4.block q (HC3.out.2.lt q hq).2 (HNS.out.2.1 q hq)
  have HR4 : Hid (w4.heap[w.heap.size + 1]? = some (.cells (enL zeroE none 0 0).toArray 36 (0, 0))) := (ht4.block _ (box_lt HR3.out) HNS.out.2.2.1).trans HR3.out
  have HB4 : Hid (Below w.heap.size w w4) := Turned.low HB3.out ht4 (fun q h => HNS.out.2.2.2.1 q h) HB3.out.size
  have HO4 : Hid (OwnP w4 w.heap.size A3 n3 c3' r.e.ps) := (HO3.out.base fun q hq => by have := (HO3.out.lt q hq).1; have := HS2.out; omega).same fun q hq => ht4.block q (HO3.out.lt q hq).2 (fun h => by have := HNS.out.2.2.2.2 q h; have := (HO3.out.lt q hq).1; have := HS2.out; omega)
  have HE4 : Hid (Evs.OwnL w4 w.heap.size A4 n4 c4 r.ev) := hev.down HB3.out.size
  clear hev ht4 HM3 HO3 HP3 HC3 HR3 HB3 hHeld
  refine hK _ _ (by exact box_cell HP4.out 0 _ rfl) (fun hHeld => ?_)
  clear hK K
  try simp only [Act.put, pj]
  refine wpAnyH_ready (rs := [5]) (by kernel_rfl) (by simp) (AllReadyH.cons rfl (fun K hK => ?_) AllReadyH.nil)
  refine wp_put rfl 36 _ _ rfl (w.heap.size + 1) 0 (enL r.e A3 n3 c3') rfl rfl HR4.out (by kernel_rfl) (enL r.e A3 n3 c3') rfl (Nat.le_of_ble_eq_true rfl) (enL_one _ _ _ _) ?_
  obtain ⟨Y, hY⟩ : ∃ Y, Y = w4.setRow (w.heap.size + 1) (enL r.e A3 n3 c3').toArray := ⟨_, rfl⟩
  have KY : Hid (Y.heap[w.heap.size + 1]? = some (.cells (enL r.e A3 n3 c3').toArray 36 (0, 0))) := by rw [hY]; exact row_box HR4.out
  have HF : Hid (∀ q, q ≠ w.heap.size + 1 → Y.heap[q]? = w4.heap[q]?) := fun q hq => by rw [hY]; exact setRow_other _ _ _ _ hq
  have hpp : p ≠ w.heap.size + 1 := by
    intro h
    have h4 := HP4.out
    rw [h, HR4.out] at h4
    injection h4 with h4
    injection h4 with _ h4 _
    exact absurd h4 (by decide)
  have HPY : Hid (Y.heap[p]? = some (.cells #[.slice (some ⟨g, 0, none⟩) n c3] 38 (0, 0))) := (HF.out p hpp).trans HP4.out
  have HCY : Hid (OwnI Y w.heap.size (some ⟨g, 0, none⟩) n c3 T) := IntTy.ownI_same HC4.out fun q hq => HF.out q (fun e => own_ne HC4.out.2 HR4.out (by decide) q hq e)
  have HOY : Hid (OwnP Y w.heap.size A3 n3 c3' r.e.ps) := HO4.out.same fun q hq => HF.out q (fun e => own_ne HO4.out.2 HR4.out (by decide) q hq e)
  have HEY : Hid (Evs.OwnL Y w.heap.size A4 n4 c4 r.ev) := HE4.out.same fun q hq => HF.out q (fun e => own_ne HE4.out.2 HR4.out (by decide) q hq e)
  have HBY : Hid (Below w.heap.size w Y) := by rw [hY]; exact row_below HB4.out _ _ (by omega) HB4.out.size
  rw [← hY]
  clear hY HF HP4 HC4 HR4 HB4 HO4 HE4 hHeld hpp
  refine hK _ _ (by exact box_cell HPY.out 0 _ rfl) (fun hHeld => ?_)
  clear hK K
  try simp only [Act.put, pj]
  refine tkk (i := 6) rfl ?_
  try simp only [Act.put, pj]
  refine tkk (i := 7) rfl ?_
  try simp only [Act.put, pj]
  refine tkk (i := 8) rfl ?_
  try simp only [Act.put, pj]
  refine wpAnyH_done (by kernel_rfl) ?_ _
  clear hHeld
  go_wp2
  refine bodyPost_ret (results_box3 Tryz.results10 _ rfl rfl rfl rfl KY.out Tryz.underlying36 rfl (by kernel_rfl)) rfl ?_
  obtain ⟨e1, e2, e3⟩ := HE.out
  rw [e1, e2, e3, HOK.out]
  exact made3_of HBY.out HOY.out HEY.out HCY.out
end Go.Proofs.YtklgjjmcflgjeaaGreat.Play
