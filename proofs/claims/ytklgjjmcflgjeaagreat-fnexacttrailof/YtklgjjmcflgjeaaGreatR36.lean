import Derived.Test.YtklgjjmcflgjeaaGreatQ
import Derived.Test.YtklgjjmcflgjeaaGreatR06
import Derived.Test.YtklgjjmcflgjeaaGreatR07
import Derived.Test.YtklgjjmcflgjeaaGreatR14
import Derived.Test.YtklgjjmcflgjeaaGreatR16
import Derived.Test.YtklgjjmcflgjeaaGreatR31
import Derived.Test.YtklgjjmcflgjeaaGreatR34
import Derived.Test.YtklgjjmcflgjeaaGreatR35
set_option linter.unusedVariables false
set_option linter.unusedSimpArgs false
namespace Go.Proofs.YtklgjjmcflgjeaaGreat.Mach
open Go.ChangeShapes Go.WideShapes Go.ChangeAt Go.RowKit
open LK Pods EngV Eng Seg
def blks (b : Nat) (A : Option Addr) (n c : Nat) (E : Option Addr) (m k : Nat) : Nat → Prop := fun q => q = b ∨ (Value.slice A n c).ownBlock = some q ∨ (Value.slice E m k).ownBlock = some q
section
variable {w w' : World} {S : Nat → Prop} {b : Nat} {lk ot : Int} {r : Run} {A : Option Addr} {n c : Nat} {E : Option Addr} {m k : Nat}
theorem MachAt.tight (h : MachAt w S b lk ot r A n c E m k) : MachAt w (blks b A n c E m k) b lk ot r A n c E m k := ⟨h.box, h.ps, h.ev, .inl rfl, fun q hq => .inr (.inl hq), fun q hq => .inr (.inr hq)⟩
theorem MachAt.sub (h : MachAt w S b lk ot r A n c E m k) (q : Nat) (hq : blks b A n c E m k q) : S q := by
  rcases hq with rfl | hq | hq
  · exact h.sb
  · exact h.sa q hq
  · exact h.se q hq
theorem MachAt.same (h : MachAt w S b lk ot r A n c E m k) (hs : ∀ q, blks b A n c E m k q → w'.heap[q]? = w.heap[q]?) : MachAt w' S b lk ot r A n c E m k :=
  ⟨(hs b (.inl rfl)).trans h.box, h.ps.same fun q hq => hs q (.inr (.inl hq)), h.ev.same fun q hq => hs q (.inr (.inr hq)), h.sb, h.sa, h.se⟩
theorem MachAt.ltAll (h : MachAt w S b lk ot r A n c E m k) (q : Nat) (hq : blks b A n c E m k q) : q < w.heap.size := by
  rcases hq with rfl | hq | hq
  · exact box_lt h.box
  · exact (h.ps.lt q hq).2
  · exact (h.ev.lt q hq).2
theorem MachAt.not (h : MachAt w S b lk ot r A n c E m k) {q : Nat} {cs : Array Value} {t : TypeId} {f : Nat × Nat} (hq : w.heap[q]? = some (.cells cs t f)) (h0 : t ≠ 136) (h1 : t ≠ 85) (h2 : t ≠ 107) : ¬ blks b A n c E m k q := by
  rintro (rfl | h' | h')
  · rw [h.box] at hq
    injection hq with hq
    injection hq with _ hq _
    exact h0 hq.symm
  · exact own_ne h.ps.2 hq h1 _ h' rfl
  · exact own_ne h.ev.2 hq h2 _ h' rfl
theorem MachAt.row_not (h : MachAt w S b lk ot r A n c E m k) {lo l z : Nat} {v : Value} {xs : List Value} {t : TypeId} (ho : w.ownsRow lo t z v l xs) (h0 : t ≠ 136) (h1 : t ≠ 85) (h2 : t ≠ 107) (q : Nat) (hq : v.ownBlock = some q) : ¬ blks b A n c E m k q := by
  rcases ho.2 with ⟨rfl, _⟩ | ⟨g, cap, cur, rfl, hb, hg, _⟩
  · cases hq
  · have e0 : g = q := by simpa [Value.ownBlock] using hq
    subst e0
    exact h.not hg h0 h1 h2
end
set_option maxRecDepth 100000 in
set_option maxHeartbeats 800000 in
theorem machineOf_any (w : World) (D : Eng) (A : Option Addr) (n c : Nat) (hp : IsPods w w.heap.size A n D.ps) (hn : n ≤ 1048576) :
    Calls Tryz.prog 82 #[.agg (enL D A n c).toArray] w (fun e w' => ∃ (b : Nat) (A2 : Option Addr) (n2 c2 : Nat), e = .returned (.pointer (some ⟨b, 0, none⟩)) ∧ MachAt w' (blks b A2 n2 c2 none 0 0) b 0 D.tr { e := D, ev := [] } A2 n2 c2 none 0 0 ∧ (∀ q, blks b A2 n2 c2 none 0 0 q → w.heap.size ≤ q) ∧ Below w.heap.size w w') := by
  have HP := Lib.hid hp
  obtain ⟨V, hV⟩ : ∃ V, V = w.alloc (.cells (enL D A n c).toArray 36) := ⟨_, rfl⟩
  have HB : Hid (Below w.heap.size w V) := by rw [hV]; exact bel1 _ _
  have KE : Hid (V.heap[w.heap.size]? = some (.cells (enL D A n c).toArray 36 (0, 0))) := by rw [hV]; exact box_new w _
  have hsv : V.heap.size = w.heap.size + 1 := by rw [hV]; simp
  clear hp
  go_enter Tryz.func82, Tryz.ntmps82
  go_upto_region 1 with fail
  rw [← hV]
  clear hV
  go_upto_region 2 with (refine wpList_get rfl 36 _ rfl w.heap.size 0 rfl KE.out [.int .i64 D.sp.x0, .int .i64 D.sp.x1, .int .i64 D.sp.x2, .int .i64 D.sp.x3, .int .i64 D.sp.x4, .int .i64 D.sp.x5, .int .i64 D.sp.x6, .int .i64 D.sp.x7, .int .i64 D.sp.x8, .int .i64 D.sp.x9, .int .i64 D.sp.x10, .int .i64 D.now, .int .i64 D.ph, .int .i64 D.tg, .int .i64 D.gd, .slice A n c, .int .i64 D.nx, .int .i64 D.st, .int .i64 D.tr, .int .i64 D.wt] rfl Tryz.underlying36 rfl (by kernel_rfl) ?_)
  obtain ⟨r0, hr0⟩ : ∃ r0 : Run, r0 = { e := { D with tr := 0 }, ev := [] } := ⟨_, rfl⟩
  obtain ⟨b, hb⟩ : ∃ b, b = w.heap.size + 1 := ⟨_, rfl⟩
  have hml : maL 0 D.tr r0 A n c none 0 0 = [.int .i32 0, .int .u32 0, .int .i64 D.sp.x0, .int .i64 D.sp.x1, .int .i64 D.sp.x2, .int .i64 D.sp.x3, .int .i64 D.sp.x4, .int .i64 D.sp.x5, .int .i64 D.sp.x6, .int .i64 D.sp.x7, .int .i64 D.sp.x8, .int .i64 D.sp.x9, .int .i64 D.sp.x10, .int .i64 D.now, .int .i64 D.ph, .int .i64 D.tg, .int .i64 D.gd, .slice A n c, .int .i64 D.nx, .int .i64 D.st, .int .i64 D.tr, .int .i64 D.wt, .slice none 0 0, .int .i64 0] := by rw [hr0]; rfl
  obtain ⟨W, hW⟩ : ∃ W, W = V.alloc (.cells #[.int .i32 0, .int .u32 0, .int .i64 D.sp.x0, .int .i64 D.sp.x1, .int .i64 D.sp.x2, .int .i64 D.sp.x3, .int .i64 D.sp.x4, .int .i64 D.sp.x5, .int .i64 D.sp.x6, .int .i64 D.sp.x7, .int .i64 D.sp.x8, .int .i64 D.sp.x9, .int .i64 D.sp.x10, .int .i64 D.now, .int .i64 D.ph, .int .i64 D.tg, .int .i64 D.gd, .slice A n c, .int .i64 D.nx, .int .i64 D.st, .int .i64 D.tr, .int .i64 D.wt, .slice none 0 0, .int .i64 0] 136) := ⟨_, rfl⟩
  have hbw : Below V.heap.size V W := by rw [hW]; exact bel1 _ _
  have KM : Hid (W.heap[b]? = some (.cells (maL 0 D.tr r0 A n c none 0 0).toArray 136 (0, 0))) := by rw [hW, hb, hml, ← hsv]; exact box_new V _
  have KE2 := Lib.hid (box_below KE.out hbw)
  have HB2 := Lib.hid (bel_then HB.out hbw HB.out.size)
  rw [← hW, ← hb]
  have hbb : w.heap.size ≤ b := by omega
  have hbe : w.heap.size ≠ b := by omega
  clear hW hbw hml KE HB hb hsv
  go_wp2_with (refine wpList_get rfl 34 _ rfl w.heap.size 15 rfl KE2.out (flL A n c D.nx) (enL_fl D A n c) Tryz.underlying34 rfl (by kernel_rfl) ?_)
  refine (Crew.sameFleet_any A n c D.nx D.ps w.heap.size _ (HP.out.below HB2.out (Nat.le_refl _)) HB2.out.size hn).mono ?_
  rintro e w2 ⟨v, S2, rfl, ⟨⟨A2, c2, rfl, hO, hS⟩, hin, _⟩, hb'⟩
  rw [show ({ fst := D.ps, snd := D.nx } : PList × Int).1.length = D.ps.length from rfl] at hO ⊢
  obtain ⟨n2, hn2⟩ : ∃ n2, n2 = D.ps.length := ⟨_, rfl⟩
  have HFR : Hid (∀ q, (Value.slice A2 n2 c2).ownBlock = some q → W.heap.size ≤ q) := fun q hq => (hin q (hS q (by rw [hn2] at hq; exact hq))).1
  rw [← hn2] at hO ⊢
  have HO := Lib.hid hO
  have KM3 := Lib.hid (box_below KM.out hb')
  have KE3 := Lib.hid (box_below KE2.out hb')
  have HB3 := Lib.hid (bel_then HB2.out hb' HB2.out.size)
  have HWZ : Hid (b < W.heap.size ∧ w.heap.size ≤ W.heap.size) := ⟨box_lt KM.out, HB2.out.size⟩
  clear hb' hO hS hin hn2 KM KE2 HB2
  go_upto_region 3 with (refine wpList_put rfl rfl 34 _ _ rfl b 17 (flL A2 n2 c2 D.nx) rfl rfl KM3.out (by kernel_rfl) (maL 0 D.tr r0 A2 n2 c2 none 0 0) (by rw [hr0]; rfl) (Nat.le_of_ble_eq_true rfl) (flL_one _ _ _ _) ?_)
  obtain ⟨X, hX⟩ : ∃ X, X = w2.setRow b (maL 0 D.tr r0 A2 n2 c2 none 0 0).toArray := ⟨_, rfl⟩
  have KX : Hid (X.heap[b]? = some (.cells (maL 0 D.tr r0 A2 n2 c2 none 0 0).toArray 136 (0, 0))) := by rw [hX]; exact row_box KM3.out
  have KEX : Hid (X.heap[w.heap.size]? = some (.cells (enL D A n c).toArray 36 (0, 0))) := by rw [hX]; exact row_far KE3.out hbe
  have HBX : Hid (Below w.heap.size w X) := by rw [hX]; exact row_below HB3.out _ _ hbb HB3.out.size
  have HOX : Hid (OwnP X 0 A2 n2 c2 D.ps) := by rw [hX]; exact HO.out.same fun q hq => setRow_other _ _ _ _ (by have := HFR.out q hq; have := HWZ.out.1; omega)
  rw [← hX]
  clear hX KM3 KE3 HB3 HO
  go_wp2_with fail
  refine wp_region_held_drew (S := fun w' => w'.cell? ⟨w.heap.size, 18, none⟩ = some (.int .i64 D.tr)) (by kernel_rfl) (box_cell KEX.out 18 _ rfl) (fun hHeld => ?_)
  refine tkk (i := 0) rfl ?_
  try simp only [Act.put, pj]
  refine tkk (i := 1) rfl ?_
  try simp only [Act.put, pj]
  refine tkk (i := 2) rfl ?_
  try simp only [Act.put, pj]
  refine tkk (i := 3) rfl ?_
  try simp only [Act.put, pj]
  refine tkk (i := 4) rfl ?_
  try simp only [Act.put, pj]
  refine wpAnyH_ready (rs := [5]) (by kernel_rfl) (by simp) (AllReadyH.cons rfl (fun K hK => ?_) AllReadyH.nil)
  go_simp
  refine (store64 b 23 0 D.tr _ (by exact box_cell (show X.drew.heap[b]? = some (.cells (maL 0 D.tr r0 A2 n2 c2 none 0 0).toArray 136 (0, 0)) from KX.out) 23 _ (by rw [hr0]; rfl)) (by exact box_frozen (show X.drew.heap[b]? = some (.cells (maL 0 D.tr r0 A2 n2 c2 none 0 0).toArray 136 (0, 0)) from KX.out) 23)).mono ?_
  rintro e w5 ⟨rfl, hw5⟩
  have KX' : Hid (X.drew.heap[b]? = some (.cells (maL 0 D.tr r0 A2 n2 c2 none 0 0).toArray 136 (0, 0))) := KX.out
  have KY : Hid (w5.heap[b]? = some (.cells (maL 0 D.tr { e := D, ev := [] } A2 n2 c2 none 0 0).toArray 136 (0, 0))) := by rw [hw5, set_row (i := 23) KX'.out (.int .i64 D.tr) (maL 0 D.tr { e := D, ev := [] } A2 n2 c2 none 0 0) (by rw [hr0]; rfl)]; exact row_box KX'.out
  have KEY : Hid (w5.heap[w.heap.size]? = some (.cells (enL D A n c).toArray 36 (0, 0))) := by rw [hw5]; exact box_other (show X.drew.heap[w.heap.size]? = _ from KEX.out) _ _ (by exact hbe)
  have HBY : Hid (Below w.heap.size w w5) := by rw [hw5]; exact (bel_then HBX.out (undrew (Below.refl _ _)) HBX.out.size).setCell (by exact hbb) _
  have HOY : Hid (OwnP w5 0 A2 n2 c2 D.ps) := by rw [hw5]; exact HOX.out.same fun q hq => (Below.heap_setCell _ _ _ q (by have := HFR.out q hq; have := HWZ.out.1; show q ≠ b; omega)).trans rfl
  clear hw5 KX KX' KEX HBX HOX hHeld
  refine hK _ _ (by exact box_cell KEY.out 18 _ rfl) (fun hHeld => ?_)
  clear hK K
  refine wpAnyH_done (by kernel_rfl) ?_ _
  clear hHeld
  go_wp2
  go_ret
  refine ⟨b, A2, n2, c2, rfl, ⟨KY.out, HOY.out, ⟨rfl, World.ownsRow_nil _ _ _ _⟩, .inl rfl, fun q hq => .inr (.inl hq), fun q hq => .inr (.inr hq)⟩, fun q hq => ?_, HBY.out⟩
  rcases hq with rfl | hq | hq
  · exact hbb
  · have := HFR.out q hq; have := HWZ.out.2; omega
  · cases hq
end Go.Proofs.YtklgjjmcflgjeaaGreat.Mach
namespace Go.Proofs.YtklgjjmcflgjeaaGreat.Play
open Go.ChangeShapes Go.WideShapes Go.ChangeAt Go.RowKit
open LK Pods EngV EngTy Eng EngInv Seg
open Mach (maL MachAt Mach blks own_ne)
open Has
theorem new_nil (s : Spc) (rev : Int) : (EngNew.newD s rev).ps = [] := by
  unfold EngNew.newD
  split <;> rfl
def At (w0 : World) (s : Spc) (rev : Int) (ops : Ops.L) (b : Nat) (k : Nat) (W : World) : Prop :=
  ∃ A n c E m j, MachAt W (blks b A n c E m j) b 0 0 (runK s rev ops k) A n c E m j ∧ (∀ q, blks b A n c E m j q → w0.heap.size ≤ q) ∧ Below w0.heap.size w0 W
set_option maxRecDepth 100000 in
set_option maxHeartbeats 800000 in
theorem playThrough_any (w0 w : World) (s : Spc) (rev : Int) (Fa : Option Addr) (n c0 : Nat) (ops : Ops.L) (cb : Nat) (caps : List Value) (J : Nat → World → Prop) (hw : Below w0.heap.size w0 w) (hr : Ops.IsL w0 w0.heap.size Fa n ops) (hn : n ≤ 1048576) (hwf : ∀ p ∈ ops, (Lit.int .i64 p.2.1).wf = true)
    (eg : ∀ args w, (callFunc cb args).run Tryz.prog w = .ok (.enter cb args) w)
    (hJ0 : J 0 w) (hJb : ∀ k W W', J k W → Below W.heap.size W W' → J k W')
    (hJt : ∀ k W W' b lk ot r A n c E m j, J k W → MachAt W (blks b A n c E m j) b lk ot r A n c E m j → Turned (blks b A n c E m j) W W' → J k W')
    (hcb : ∀ k W b, k < n → newB s rev = true → n ≤ 200 → J k W → At w0 s rev ops b (k + 1) W → Calls Tryz.prog cb (.pointer (some ⟨b, 0, none⟩) :: .int .i64 ((runK s rev ops k).step (ops.getD k Ops.z)).2 :: caps).toArray W (fun e W' => e = .returned (.tuple #[]) ∧ J (k + 1) W' ∧ At w0 s rev ops b (k + 1) W')) :
    Calls Tryz.prog 40 #[.agg (spL s).toArray, .int .i64 rev, .slice Fa n c0, .func (.func cb) #[] caps.toArray] w (fun e w' => (okP s rev ops = false ∧ e = .returned (.tuple #[.pointer none, .bool false]) ∧ J 0 w' ∧ Below w0.heap.size w0 w') ∨ (okP s rev ops = true ∧ ∃ b, e = .returned (.tuple #[.pointer (some ⟨b, 0, none⟩), .bool true]) ∧ J n w' ∧ At w0 s rev ops b n w')) := by
  have HOP := Lib.hid hr
  have HL : Hid (ops.length = n) := hr.1
  have HWF := Lib.hid hwf
  have HEG := Lib.hid eg
  have HJB := Lib.hid hJb
  have HJT := Lib.hid hJt
  have HCB := Lib.hid hcb
  obtain ⟨V, hV⟩ : ∃ V, V = w.alloc (.cells (spL s).toArray 25) := ⟨_, rfl⟩
  have hb0 : Below w.heap.size w V := by rw [hV]; exact bel1 _ _
  have HB0 : Hid (Below w0.heap.size w0 V) := bel_then hw hb0 hw.size
  have HJ0 : Hid (J 0 V) := hJb 0 w V hJ0 hb0
  have KS0 : Hid (V.heap[w.heap.size]? = some (.cells (spL s).toArray 25 (0, 0))) := by rw [hV]; exact box_new w _
  clear hr hwf eg hJb hJt hcb hJ0 hw hb0
  go_enter Tryz.func40, Tryz.ntmps40
  go_upto_region 1 with fail
  rw [← hV]
  clear hV
  go_wp2_with (refine wpList_get rfl 25 _ rfl w.heap.size 0 rfl KS0.out (spL s) List.take_length Tryz.underlying25 rfl (by kernel_rfl) ?_)
  refine (EngNew.newEngine_any s rev _).mono ?_
  rintro e w1 ⟨v1, S1, rfl, hO, hb⟩
  obtain ⟨A, c, rfl, ho, hs⟩ := hO.own
  have HO := Lib.hid ho
  have HB1 := Lib.hid (bel_then HB0.out hb HB0.out.size)
  have HJ1 := Lib.hid (HJB.out 0 V w1 HJ0.out hb)
  rw [new_nil] at HO
  clear KS0 HB0 HJ0 hb hO ho hs
  rw [show enV (EngNew.newD s rev) A (EngNew.newD s rev).ps.length c = .agg (enL (EngNew.newD s rev) A 0 c).toArray from by rw [new_nil]; rfl]
  obtain ⟨D, hD⟩ : ∃ D, D = EngNew.newD s rev := ⟨_, rfl⟩
  rw [← hD]
  have HD := Lib.hid hD
  clear hD
  have KZ : Hid ((w1.alloc (.cells (enL zeroE none 0 0).toArray 36)).heap[w1.heap.size]? = some (.cells (enL zeroE none 0 0).toArray 36 (0, 0))) := box_new w1 _
  go_upto_region 2 with (refine wpList_put rfl rfl 36 _ _ rfl w1.heap.size 0 (enL D A 0 c) rfl rfl KZ.out (by kernel_rfl) (enL D A 0 c) rfl (Nat.le_of_ble_eq_true rfl) (enL_one _ _ _ _) ?_)
  obtain ⟨W, hW⟩ : ∃ W, W = (w1.alloc (.cells #[.int .i64 0, .int .i64 0, .int .i64 0, .int .i64 0, .int .i64 0, .int .i64 0, .int .i64 0, .int .i64 0, .int .i64 0, .int .i64 0, .int .i64 0, .int .i64 0, .int .i64 0, .int .i64 0, .int .i64 0, .slice none 0 0, .int .i64 0, .int .i64 0, .int .i64 0, .int .i64 0] 36)).setRow w1.heap.size (enL D A 0 c).toArray := ⟨_, rfl⟩
  have hbv : Below w1.heap.size w1 W := by rw [hW]; exact row_below (bel1 _ _) _ _ (Nat.le_refl _) (by simp)
  have KE : Hid (W.heap[w1.heap.size]? = some (.cells (enL D A 0 c).toArray 36 (0, 0))) := by rw [hW]; exact row_box KZ.out
  have HB2 := Lib.hid (bel_then HB1.out hbv HB1.out.size)
  have HJ2 := Lib.hid (HJB.out 0 w1 W HJ1.out hbv)
  have HO2 : Hid (OwnP W 0 A 0 c []) := HO.out.below hbv
  rw [← hW]
  clear hW hbv KZ HB1 HJ1 HO
  cases hnb : newB s rev
  · have HF : Hid (okP s rev ops = false) := by show _ = _; simp [okP, hnb]
    clear hnb
    go_wp2
    go_ret2
    exact .inl ⟨HF.out, rfl, HJ2.out, HB2.out⟩
  by_cases h200 : 200 < n
  · have HF : Hid (okP s rev ops = false) := by
      show _ = _
      have : ¬ ops.length ≤ 200 := by rw [HL.out]; omega
      simp [okP, this]
    have hq : decide ((200 : Int) < (n : Int)) = true := by simp; omega
    clear hnb
    go_wp2
    go_ret2
    exact .inl ⟨HF.out, rfl, HJ2.out, HB2.out⟩
  have HT : Hid (okP s rev ops = true) := by
    show _ = _
    have : ops.length ≤ 200 := by rw [HL.out]; omega
    simp [okP, hnb, this]
  have HNB : Hid (newB s rev = true) := hnb
  have HDE : Hid (D = (run0 s rev).e) := by show _ = _; rw [HD.out, EngNew.newD, hnb]; rfl
  have hq : decide ((200 : Int) < (n : Int)) = false := by simp; omega
  clear hnb HD
  go_wp2_with (refine wpList_get rfl 36 _ rfl w1.heap.size 0 rfl KE.out (enL D A 0 c) List.take_length Tryz.underlying36 rfl (by kernel_rfl) ?_)
  refine (Mach.machineOf_any W D A 0 c (by rw [HDE.out]; exact HO2.out.podsAll) (by omega)).mono ?_
  rintro e w3 ⟨b, A3, n3, c3, rfl, hm, hlo, hb⟩
  have HB3 := Lib.hid (bel_then HB2.out hb HB2.out.size)
  have HJ3 := Lib.hid (HJB.out 0 W w3 HJ2.out hb)
  have hre : ({ e := D, ev := [] } : Run) = runK s rev ops 0 := by rw [runK_zero, HDE.out]; rfl
  have hot : D.tr = 0 := by rw [HDE.out]; rfl
  rw [hre, hot] at hm
  have HA3 : Hid (At w0 s rev ops b 0 w3) := ⟨A3, n3, c3, none, 0, 0, hm, fun q hq => by have := hlo q hq; have := HB2.out.size; omega, HB3.out⟩
  clear hre hot hm hlo hb HDE KE HB2 HB3 HJ2 HO2
  go_wp2_with fail
  go_loopw [32] (fun i wr => ∃ (k : Nat), k ≤ n ∧ i = .int .i64 k ∧ Hid (J k wr) ∧ Hid (At w0 s rev ops b k wr)) (fun i _ => n - (RowKit.intOf i).toNat)
  case atStart => exact ⟨0, Nat.zero_le _, rfl, HJ3, HA3⟩
  case round =>
    obtain ⟨k, hk, rfl, HJ, HA⟩ := hrel
    clear HJ3 HA3
    by_cases hlt : k < n
    case neg =>
      have hkn : k = n := by omega
      subst hkn
      go_wp2
      go_ret2
      exact .inr ⟨HT.out, b, rfl, HJ.out, HA.out⟩
    obtain ⟨A1, n1, c1, E1, m1, k1, hm1, hlo1, hb1⟩ := HA.out
    have HM := Lib.hid hm1
    have HLO := Lib.hid hlo1
    have HB := Lib.hid hb1
    have hkeep := runK_keep (s := s) (rev := rev) (ops := ops) (k := k) HNB.out (by omega) (by rw [HL.out]; omega)
    have HG := Lib.hid hkeep
    have hrw := HOP.out.below HB.out (Nat.le_refl _)
    obtain ⟨bb, off, y0, y1, y2, y3, rfl, hbB, hz, hc0, hc1, hc2, hc3⟩ := hrw.at_ hlt
    have hmem : ops.getD k Ops.z ∈ ops := by rw [show ops.getD k Ops.z = ops[k]'(by rw [HL.out]; exact hlt) from by simp [List.getD, HL.out, hlt]]; exact List.getElem_mem _
    have HW1 : Hid ((Lit.int .i64 y1).wf = true) := by have h := HWF.out _ hmem; rw [hz] at h; exact h
    have HSR : Hid (runK s rev ops (k + 1) = ((runK s rev ops k).step (y0, y1, y2, y3)).1) := by show _ = _; rw [runK_succ (by rw [HL.out]; exact hlt), hz]
    obtain ⟨Q, hQ⟩ : ∃ Q, Q = ((runK s rev ops k).step (y0, y1, y2, y3)).2 := ⟨_, rfl⟩
    have HQ := Lib.hid hQ
    have HC := Lib.hid (HCB.out k)
    rw [hz, ← hQ] at HC
    clear hz hrw hbB hm1 hlo1 hb1 hkeep hmem hQ HA
    obtain ⟨X, hX⟩ : ∃ X, X = wr.alloc (.cells #[.int .i64 y0, .int .i64 y1, .int .i64 y2, .int .i64 y3] 31) := ⟨_, rfl⟩
    have hbx : Below wr.heap.size wr X := by rw [hX]; exact bel1 _ _
    have KO : Hid (X.heap[wr.heap.size]? = some (.cells [.int .i64 y0, .int .i64 y1, .int .i64 y2, .int .i64 y3].toArray 31 (0, 0))) := by rw [hX]; exact box_new wr _
    have HMX := Lib.hid (HM.out.below hbx)
    have HBX := Lib.hid (bel_then HB.out hbx HB.out.size)
    have HJX := Lib.hid (HJB.out k wr X HJ.out hbx)
    go_upto_region 8 with fail
    rw [← hX]
    clear hX hbx HM HB HJ hc0 hc1 hc2 hc3
    have d0 : X.cell? ⟨wr.heap.size, 0, none⟩ = some (.int .i64 y0) := box_cell KO.out 0 _ rfl
    have d1 : X.cell? ⟨wr.heap.size, 1, none⟩ = some (.int .i64 y1) := box_cell KO.out 1 _ rfl
    have d2 : X.cell? ⟨wr.heap.size, 2, none⟩ = some (.int .i64 y2) := box_cell KO.out 2 _ rfl
    have d3 : X.cell? ⟨wr.heap.size, 3, none⟩ = some (.int .i64 y3) := box_cell KO.out 3 _ rfl
    go_wp2_with fail
    refine (Mach.do_any X _ b 0 (runK s rev ops k) y0 y1 y2 y3 ⟨_, _, _, _, _, _, HMX.out⟩ HG.out.1 (by have := HG.out.2.1; omega) HW1.out (runK s rev ops (k + 1)) Q (Prod.ext HSR.out HQ.out)).mono ?_
    rintro e w4 ⟨rfl, S2, ⟨A2, n2, c2, E2, m2, k2, hm2⟩, hs2, ht2⟩
    have HJ4 := Lib.hid (HJT.out k X w4 _ _ _ _ _ _ _ _ _ _ HJX.out HMX.out ht2)
    have HA4 : Hid (At w0 s rev ops b (k + 1) w4) := ⟨A2, n2, c2, E2, m2, k2, hm2.tight, fun q hq => by
      rcases hs2 q (hm2.sub q hq) with h | h
      · exact HLO.out q h
      · have := HBX.out.size; omega, Turned.low HBX.out ht2 (fun q h => HLO.out q h) HBX.out.size⟩
    clear hm2 hs2 ht2 HJX HMX HBX HLO KO d0 d1 d2 d3 HSR HQ HG
    go_wp2_with fail
    rw [HEG.out, Oper.upon_enter]
    refine (HC.out w4 b hlt HNB.out (by omega) HJ4.out HA4.out).mono ?_
    rintro e w5 ⟨rfl, hj5, ha5⟩
    have HJ5 := Lib.hid hj5
    have HA5 := Lib.hid ha5
    clear hj5 ha5 HJ4 HA4 HC
    go_wp2
    go_roundw
    case rel => exact ⟨k + 1, by omega, by go_num, HJ5, HA5⟩
    case measure => simp [RowKit.intOf]; omega
end Go.Proofs.YtklgjjmcflgjeaaGreat.Play
