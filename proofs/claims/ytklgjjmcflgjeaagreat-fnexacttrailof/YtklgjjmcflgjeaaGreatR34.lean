import Derived.Conc.MuLone
import Derived.Ground.SlgnProg
import Derived.Shelf.SlicesE.Clone
import Derived.Test.YtklgjjmcflgjeaaGreatProg
import Derived.Test.YtklgjjmcflgjeaaGreatQ
import Derived.Test.YtklgjjmcflgjeaaGreatR33
set_option linter.unusedVariables false
set_option linter.unusedSimpArgs false
namespace Go.Proofs.YtklgjjmcflgjeaaGreat.Mach
open Go.ChangeShapes Go.WideShapes Go.ChangeAt Go.RowKit Go.Shelf
open LK Pods EngV Eng Seg
open EngInv (Gd)
open Go.MuLone
theorem then_only {P : Program} {c : Code} {K : Act → World → Prop} {Q : Exit → Act → World → Prop} {a : Act} {w : World} (h : c.wp P (Exit.then K (fun _ _ _ => False)) a w) : c.wp P (Exit.then K Q) a w :=
  Code.wp_mono (fun e _ _ h => by cases e <;> first | exact h | exact h.elim) h
theorem MachAt.lockTo {w : World} {S : Nat → Prop} {b : Nat} {lk ot : Int} {r : Run} {A : Option Addr} {n c : Nat} {E : Option Addr} {m k : Nat} (h : MachAt w S b lk ot r A n c E m k) (x : Int) : MachAt (w.setCell ⟨b, 0, none⟩ (.int .i32 x)) S b x ot r A n c E m k := by
  rw [set_row (i := 0) h.box (.int .i32 x) (maL x ot r A n c E m k) rfl]
  exact h.row rfl rfl
set_option maxRecDepth 100000 in
set_option maxHeartbeats 12800000 in
theorem state_any (w : World) (S : Nat → Prop) (b : Nat) (ot : Int) (r : Run) (h : Mach w S b 0 ot r) (hn : r.e.ps.length ≤ 1048576) (htr : 0 ≤ r.e.tr ∧ r.e.tr ≤ 1000000) :
    Calls Tryz.prog 42 #[.pointer (some ⟨b, 0, none⟩)] w (fun e w' => ∃ A n c, e = .returned (.agg (enL r.e A n c).toArray) ∧ OwnP w' w.heap.size A n c r.e.ps ∧ Mach w' S b 0 ot r ∧ Turned S w w' ∧ Kept w w') := by
  obtain ⟨A, n, c, E, m, k, h⟩ := h
  have hn1 : n ≤ 1048576 := by rw [← h.ps.1]; exact hn
  have hbw : b < w.heap.size := h.lt
  obtain ⟨V, hV⟩ : ∃ V, V = w.alloc (.cells #[.int .i64 0, .int .i64 0, .int .i64 0, .int .i64 0, .int .i64 0, .int .i64 0, .int .i64 0, .int .i64 0, .int .i64 0, .int .i64 0, .int .i64 0, .int .i64 0, .int .i64 0, .int .i64 0, .int .i64 0, .slice none 0 0, .int .i64 0, .int .i64 0, .int .i64 0, .int .i64 0] 36) := ⟨_, rfl⟩
  have HB : Hid (Below w.heap.size w V) := by rw [hV]; exact bel1 _ _
  have KR : Hid (V.heap[w.heap.size]? = some (.cells [.int .i64 0, .int .i64 0, .int .i64 0, .int .i64 0, .int .i64 0, .int .i64 0, .int .i64 0, .int .i64 0, .int .i64 0, .int .i64 0, .int .i64 0, .int .i64 0, .int .i64 0, .int .i64 0, .int .i64 0, .slice none 0 0, .int .i64 0, .int .i64 0, .int .i64 0, .int .i64 0].toArray 36 (0, 0))) := by rw [hV]; exact box_new w _
  have H := Lib.hid (h.below HB.out)
  have HT0 : Hid (Turned S w V) := Turned.of_below HB.out
  have HK0 : Hid (Kept w V) := Kept.below HB.out
  have c0 : V.cell? ⟨b, 0, none⟩ = some (.int .i32 0) := box_cell H.out.box 0 _ rfl
  have f0 := box_frozen H.out.box 0
  obtain ⟨PR, hPR⟩ : ∃ PR, PR = w.heap.size := ⟨_, rfl⟩
  have hbr : b ≠ PR := by omega
  clear h hn
  go_enter_defers Tryz.func42, Tryz.ntmps42
  go_upto_region 1 with fail
  rw [← hV, ← hPR]
  rw [← hPR] at KR
  have HPR := Lib.hid hPR
  clear hV hPR
  go_wp2_with fail
  refine (lock_free Locks.lib ⟨b, 0, none⟩ _ c0 f0).mono ?_
  rintro e w1 ⟨rfl, hw1⟩
  have H1 : Hid (MachAt w1 S b 1 ot r A n c E m k) := by rw [hw1]; exact H.out.lockTo 1
  have HT1 : Hid (Turned S w w1) := by rw [hw1]; exact HT0.out.trans (Turned.set _ _ _ H.out.sb)
  have HK1 : Hid (Kept w w1) := by rw [hw1]; exact HK0.out.trans (Kept.set H.out.box (by decide) _)
  have KR1 : Hid (w1.heap[PR]? = some (.cells [.int .i64 0, .int .i64 0, .int .i64 0, .int .i64 0, .int .i64 0, .int .i64 0, .int .i64 0, .int .i64 0, .int .i64 0, .int .i64 0, .int .i64 0, .int .i64 0, .int .i64 0, .int .i64 0, .int .i64 0, .slice none 0 0, .int .i64 0, .int .i64 0, .int .i64 0, .int .i64 0].toArray 36 (0, 0))) := by rw [hw1]; exact box_other KR.out _ _ (Ne.symm hbr)
  clear hw1 c0 f0 H HT0 HK0 KR HB
  have hpr : PR < w1.heap.size := box_lt KR1.out
  have KZ : Hid ((w1.alloc (.cells #[.int .i64 0, .int .i64 0, .int .i64 0, .int .i64 0, .int .i64 0, .int .i64 0, .int .i64 0, .int .i64 0, .int .i64 0, .int .i64 0, .int .i64 0, .int .i64 0, .int .i64 0, .int .i64 0, .int .i64 0, .slice none 0 0, .int .i64 0, .int .i64 0, .int .i64 0, .int .i64 0] 36)).heap[w1.heap.size]? = some (.cells [.int .i64 0, .int .i64 0, .int .i64 0, .int .i64 0, .int .i64 0, .int .i64 0, .int .i64 0, .int .i64 0, .int .i64 0, .int .i64 0, .int .i64 0, .int .i64 0, .int .i64 0, .int .i64 0, .int .i64 0, .slice none 0 0, .int .i64 0, .int .i64 0, .int .i64 0, .int .i64 0].toArray 36 (0, 0))) := box_new w1 _
  have hml : ((maL 1 ot r A n c E m k).drop 2).take (enL { r.e with tr := ot } A n c).length = enL { r.e with tr := ot } A n c := rfl
  go_upto_region 4 with (first | (refine wpList_get rfl 36 _ rfl b 2 rfl H1.out.box (enL { r.e with tr := ot } A n c) hml Tryz.underlying36 rfl (by kernel_rfl) ?_) | (refine wpList_put rfl rfl 36 _ _ rfl w1.heap.size 0 (enL { r.e with tr := ot } A n c) rfl rfl KZ.out (by kernel_rfl) (enL { r.e with tr := ot } A n c) rfl (Nat.le_of_ble_eq_true rfl) (enL_one _ _ _ _) ?_))
  obtain ⟨U, hU⟩ : ∃ U, U = (w1.alloc (.cells #[.int .i64 0, .int .i64 0, .int .i64 0, .int .i64 0, .int .i64 0, .int .i64 0, .int .i64 0, .int .i64 0, .int .i64 0, .int .i64 0, .int .i64 0, .int .i64 0, .int .i64 0, .int .i64 0, .int .i64 0, .slice none 0 0, .int .i64 0, .int .i64 0, .int .i64 0, .int .i64 0] 36)).setRow w1.heap.size (enL { r.e with tr := ot } A n c).toArray := ⟨_, rfl⟩
  have hbu : Below w1.heap.size w1 U := by rw [hU]; exact row_below (bel1 w1 _) _ _ (Nat.le_refl _) (by simp)
  have KL : Hid (U.heap[w1.heap.size]? = some (.cells (enL { r.e with tr := ot } A n c).toArray 36 (0, 0))) := by rw [hU]; exact row_box KZ.out
  have H2 := Lib.hid (H1.out.below hbu)
  have KR2 := Lib.hid (box_below KR1.out hbu)
  have HT2 : Hid (Turned S w U) := HT1.out.trans (Turned.of_below hbu)
  have HK2 : Hid (Kept w U) := HK1.out.trans (Kept.below hbu)
  obtain ⟨PL, hPL⟩ : ∃ PL, PL = w1.heap.size := ⟨_, rfl⟩
  have hbl : b ≠ PL := by have := H1.out.lt; omega
  have hrl : PR ≠ PL := by omega
  have HWL : Hid (w.heap.size ≤ PL) := by have := HT1.out.size; show _ ≤ _; omega
  rw [← hPL] at KL
  rw [← hU, ← hPL]
  clear hU hPL hbu KZ H1 KR1 HT1 HK1 hml hpr
  refine then_only ?_
  refine wp_region_held_drew (S := fun w' => w'.cell? ⟨b, 23, none⟩ = some (.int .i64 r.e.tr)) (by kernel_rfl) (box_cell H2.out.box 23 _ rfl) (fun hHeld => ?_)
  refine tkk (i := 0) rfl ?_
  try simp only [Act.put, pj]
  refine tkk (i := 3) rfl ?_
  try simp only [Act.put, pj]
  refine tkk (i := 4) rfl ?_
  try simp only [Act.put, pj]
  refine tkk (i := 5) rfl ?_
  try simp only [Act.put, pj]
  refine wpAnyH_ready (rs := [1]) (by kernel_rfl) (by simp) (AllReadyH.cons rfl (fun K hK => ?_) AllReadyH.nil)
  refine wp_load_mid 34 _ rfl PL 15 rfl (flL A n c r.e.nx) _ (range_of KL.out (enL_fl { r.e with tr := ot } A n c)) Tryz.underlying34 rfl (by kernel_rfl) ?_
  refine hK _ _ (by exact hHeld) (fun hHeld => ?_)
  clear hK K
  try simp only [Act.put, pj]
  have hbd : Below U.heap.size U U.drew := undrew (Below.refl _ _)
  have HD := Lib.hid (H2.out.below hbd)
  refine wpAnyH_ready (rs := [2]) (by kernel_rfl) (by simp) (AllReadyH.cons rfl (fun K hK => ?_) AllReadyH.nil)
  go_simp
  refine (Crew.sameFleet_any A n c r.e.nx r.e.ps U.heap.size _ (by exact HD.out.ps.podsAll) (by exact Nat.le_refl _) hn1).mono ?_
  rintro e w2 ⟨v, S2, rfl, ⟨⟨A2, c2, rfl, hO, hS⟩, hin, _⟩, hb⟩
  have hb' : Below U.heap.size U w2 := undrew hb
  obtain ⟨n2, hn2⟩ : ∃ n2, n2 = r.e.ps.length := ⟨_, rfl⟩
  have H3 := Lib.hid (H2.out.below hb')
  have KL3 := Lib.hid (box_below KL.out hb')
  have KR3 := Lib.hid (box_below KR2.out hb')
  have HT3 : Hid (Turned S w w2) := HT2.out.trans (Turned.of_below hb')
  have HK3 : Hid (Kept w w2) := HK2.out.trans (Kept.below hb')
  have HFR : Hid (∀ q, (Value.slice A2 r.e.ps.length c2).ownBlock = some q → U.heap.size ≤ q) := fun q hq => (hin q (hS q hq)).1
  have HO := Lib.hid hO
  have HPU : Hid (PL < U.heap.size ∧ PR < U.heap.size ∧ b < U.heap.size ∧ w.heap.size ≤ U.heap.size) := ⟨box_lt KL.out, box_lt KR2.out, H2.out.lt, HT2.out.size⟩
  rw [show ({ fst := r.e.ps, snd := r.e.nx } : PList × Int).1.length = n2 from hn2.symm]
  rw [show ({ fst := r.e.ps, snd := r.e.nx } : PList × Int).1.length = n2 from hn2.symm] at HO
  rw [← hn2] at HFR
  clear hb hb' hO hS hin hbd HD H2 KL KR2 HT2 HK2 hHeld hn2
  refine hK _ _ (by exact box_cell H3.out.box 23 _ rfl) (fun hHeld => ?_)
  clear hK K
  try simp only [Act.put, pj]
  refine tkk (i := 7) rfl ?_
  try simp only [Act.put, pj]
  refine wpAnyH_ready (rs := [6]) (by kernel_rfl) (by simp) (AllReadyH.cons rfl (fun K hK => ?_) AllReadyH.nil)
  go_simp
  refine (load64 b 23 r.e.tr _ (by exact hHeld)).mono ?_
  rintro e w3 ⟨rfl, rfl⟩
  refine hK _ _ (by exact hHeld) (fun hHeld => ?_)
  clear hK K
  try simp only [Act.put, pj]
  refine wpAnyH_ready (rs := [8]) (by kernel_rfl) (by simp) (AllReadyH.cons rfl (fun K hK => ?_) AllReadyH.nil)
  refine wp_put rfl 34 _ _ rfl PL 15 (flL A2 n2 c2 r.e.nx) rfl rfl KL3.out (by kernel_rfl) (enL { r.e with tr := ot } A2 n2 c2) rfl (Nat.le_of_ble_eq_true rfl) (flL_one _ _ _ _) ?_
  obtain ⟨X, hX⟩ : ∃ X, X = w3.setRow PL (enL { r.e with tr := ot } A2 n2 c2).toArray := ⟨_, rfl⟩
  have KLX : Hid (X.heap[PL]? = some (.cells (enL { r.e with tr := ot } A2 n2 c2).toArray 36 (0, 0))) := by rw [hX]; exact row_box KL3.out
  have HF : Hid (∀ q, q ≠ PL → X.heap[q]? = w3.heap[q]?) := fun q hq => by rw [hX]; exact setRow_other _ _ _ _ hq
  have HXS : Hid (X.heap.size = w3.heap.size ∧ X.os = w3.os ∧ X.tape = w3.tape ∧ X.output = w3.output) := by rw [hX]; exact ⟨by simp [World.setRow], rfl, rfl, rfl⟩
  rw [← hX]
  refine hK _ _ (by rw [hX]; exact box_cell (row_far H3.out.box hbl) 23 _ rfl) (fun hHeld => ?_)
  clear hK K hX
  try simp only [Act.put, pj]
  refine tkk (i := 9) rfl ?_
  try simp only [Act.put, pj]
  refine wpAnyH_ready (rs := [10]) (by kernel_rfl) (by simp) (AllReadyH.cons rfl (fun K hK => ?_) AllReadyH.nil)
  have l18 : X.cell? ⟨PL, 18, none⟩ = some (.int .i64 ot) := box_cell KLX.out 18 _ rfl
  have lf := box_frozen KLX.out 18
  go_simp
  obtain ⟨Y, hY⟩ : ∃ Y, Y = X.setCell ⟨PL, 18, none⟩ (.int .i64 r.e.tr) := ⟨_, rfl⟩
  have KLY : Hid (Y.heap[PL]? = some (.cells (enL r.e A2 n2 c2).toArray 36 (0, 0))) := by rw [hY, set_row (i := 18) KLX.out (.int .i64 r.e.tr) (enL r.e A2 n2 c2) rfl]; exact row_box KLX.out
  have HFY : Hid (∀ q, q ≠ PL → Y.heap[q]? = w3.heap[q]?) := fun q hq => by rw [hY, Below.heap_setCell _ _ _ q hq]; exact HF.out q hq
  have HSZ : Hid (Y.heap.size = w3.heap.size ∧ Y.os = w3.os ∧ Y.tape = w3.tape ∧ Y.output = w3.output) := by rw [hY]; exact ⟨by simpa [World.setCell] using HXS.out.1, HXS.out.2.1, HXS.out.2.2.1, HXS.out.2.2.2⟩
  (try rw [← hY])
  have H4 : Hid (MachAt Y S b 1 ot r A n c E m k) := ⟨(HFY.out b hbl).trans H3.out.box, H3.out.ps.same fun q hq => HFY.out q (fun e => own_ne H3.out.ps.2 KL3.out (by decide) q hq e), H3.out.ev.same fun q hq => HFY.out q (fun e => own_ne H3.out.ev.2 KL3.out (by decide) q hq e), H3.out.sb, H3.out.sa, H3.out.se⟩
  have KR4 : Hid (Y.heap[PR]? = some (.cells [.int .i64 0, .int .i64 0, .int .i64 0, .int .i64 0, .int .i64 0, .int .i64 0, .int .i64 0, .int .i64 0, .int .i64 0, .int .i64 0, .int .i64 0, .int .i64 0, .int .i64 0, .int .i64 0, .int .i64 0, .slice none 0 0, .int .i64 0, .int .i64 0, .int .i64 0, .int .i64 0].toArray 36 (0, 0))) := (HFY.out PR hrl).trans KR3.out
  have HO4 : Hid (OwnP Y w.heap.size A2 n2 c2 r.e.ps) := (HO.out.base fun q hq => by have := HFR.out q hq; have := HPU.out.2.2.2; omega).same fun q hq => HFY.out q (by have := HFR.out q hq; have := HPU.out.1; omega)
  have HT4 : Hid (Turned S w Y) := ⟨HSZ.out.2.1.trans HT3.out.os, HSZ.out.2.2.1.trans HT3.out.tape, HSZ.out.2.2.2.trans HT3.out.output, by rw [HSZ.out.1]; exact HT3.out.size, fun q hq hn => (HFY.out q (by have := HWL.out; omega)).trans (HT3.out.block q hq hn)⟩
  have HK4 : Hid (Kept w Y) := fun q cs f hq => (HFY.out q (by have := box_lt hq; have := HWL.out; omega)).trans (HK3.out q cs f hq)
  clear hY HSZ HXS HFY HF H3 KR3 HO HT3 HK3 KLX KL3 l18 lf hHeld
  refine hK _ _ (by exact box_cell H4.out.box 23 _ rfl) (fun hHeld => ?_)
  clear hK K
  refine wpAnyH_done (by kernel_rfl) ?_ _
  clear hHeld
  go_wp2_with (first | (refine wpList_get rfl 36 _ rfl PL 0 rfl KLY.out (enL r.e A2 n2 c2) (enL_all r.e A2 n2 c2) Tryz.underlying36 rfl (by kernel_rfl) ?_) | (refine wpList_put rfl rfl 36 _ _ rfl PR 0 (enL r.e A2 n2 c2) rfl rfl KR4.out (by kernel_rfl) (enL r.e A2 n2 c2) rfl (Nat.le_of_ble_eq_true rfl) (enL_one _ _ _ _) ?_))
  obtain ⟨Q, hQ⟩ : ∃ Q, Q = Y.setRow PR (enL r.e A2 n2 c2).toArray := ⟨_, rfl⟩
  have KQ : Hid (Q.heap[PR]? = some (.cells (enL r.e A2 n2 c2).toArray 36 (0, 0))) := by rw [hQ]; exact row_box KR4.out
  have H5 : Hid (MachAt Q S b 1 ot r A n c E m k) := by
    rw [hQ]
    exact ⟨row_far H4.out.box hbr, H4.out.ps.same fun q hq => setRow_other _ _ _ _ (own_ne H4.out.ps.2 KR4.out (by decide) q hq), H4.out.ev.same fun q hq => setRow_other _ _ _ _ (own_ne H4.out.ev.2 KR4.out (by decide) q hq), H4.out.sb, H4.out.sa, H4.out.se⟩
  have HO5 : Hid (OwnP Q w.heap.size A2 n2 c2 r.e.ps) := by rw [hQ]; exact HO4.out.same fun q hq => setRow_other _ _ _ _ (own_ne HO4.out.2 KR4.out (by decide) q hq)
  have HT5 : Hid (Turned S w Q) := by rw [hQ]; exact ⟨HT4.out.os, HT4.out.tape, HT4.out.output, by simpa [World.setRow] using HT4.out.size, fun q hq hn => (setRow_other _ _ _ _ (by rw [HPR.out]; omega)).trans (HT4.out.block q hq hn)⟩
  have HK5 : Hid (Kept w Q) := by rw [hQ]; exact fun q cs f hq => (setRow_other _ _ _ _ (by have := box_lt hq; rw [HPR.out]; omega)).trans (HK4.out q cs f hq)
  rw [← hQ]
  clear hQ H4 KR4 HO4 HT4 HK4 KLY
  refine leaves_cons (f := 85) (args := #[.pointer (some ⟨b, 0, none⟩)]) (by simp) (by simp [go_sem]) ?_
  refine (unlock_deferred Locks.lib ⟨b, 0, none⟩ .returning _ (box_cell H5.out.box 0 _ rfl) (box_frozen H5.out.box 0)).mono ?_
  rintro e u' w5 ⟨rfl, rfl, hw5⟩
  have H6 : Hid (MachAt w5 S b 0 ot r A n c E m k) := by rw [hw5]; exact H5.out.lockTo 0
  have KQ6 : Hid (w5.heap[PR]? = some (.cells (enL r.e A2 n2 c2).toArray 36 (0, 0))) := by rw [hw5]; exact box_other KQ.out _ _ (Ne.symm hbr)
  refine ⟨_, results_box Tryz.results42 _ rfl KQ6.out Tryz.underlying36 rfl (by kernel_rfl), A2, n2, c2, rfl, ?_, ⟨_, _, _, _, _, _, H6.out⟩, ?_, ?_⟩
  · rw [hw5]
    exact HO5.out.same fun q hq => Below.heap_setCell _ _ _ q (by have := HFR.out q hq; have := HPU.out; show q ≠ b; omega)
  · rw [hw5]; exact HT5.out.trans (Turned.set _ _ _ H5.out.sb)
  · rw [hw5]; exact HK5.out.trans (Kept.set H5.out.box (by decide) _)
set_option maxHeartbeats 3200000 in
theorem doers_any (w : World) : Calls Tryz.prog 131 #[] w (Says (.agg [.func (.func 166) #[] #[], .func (.func 167) #[] #[], .func (.func 168) #[] #[]].toArray) w) := by
  have KZ : Hid ((w.alloc (.cells #[.nilFunc, .nilFunc, .nilFunc] 173)).heap[w.heap.size]? = some (.cells [.nilFunc, .nilFunc, .nilFunc].toArray 173 (0, 0))) := box_new w _
  go_enter Tryz.func131, Tryz.ntmps131
  go_wp2_with (refine wpList_put rfl rfl 173 _ _ rfl w.heap.size 0 [.func (.func 166) #[] #[], .func (.func 167) #[] #[], .func (.func 168) #[] #[]] rfl rfl KZ.out (by kernel_rfl) [.func (.func 166) #[] #[], .func (.func 167) #[] #[], .func (.func 168) #[] #[]] rfl (Nat.le_of_ble_eq_true rfl) (by simp [Value.oneCell']) ?_)
  exact bodyPost_ret (results_box Tryz.results131 _ rfl (row_box KZ.out) Tryz.underlying173 rfl (by kernel_rfl)) rfl ⟨rfl, row_below (bel1 w _) _ _ (Nat.le_refl _) (by simp)⟩
theorem bad_op {r : Run} {o0 o1 o2 o3 : Int} (hi : Tick.inB o0 0 2 = false) : r.step (o0, o1, o2, o3) = (r, 1) := by
  unfold Run.step
  have h0 : ¬ (o0, o1, o2, o3).1 = 0 := by rintro h; have h : o0 = 0 := h; subst h; exact absurd hi (by decide)
  have h1 : ¬ (o0, o1, o2, o3).1 = 1 := by rintro h; have h : o0 = 1 := h; subst h; exact absurd hi (by decide)
  have h2 : ¬ (o0, o1, o2, o3).1 = 2 := by rintro h; have h : o0 = 2 := h; subst h; exact absurd hi (by decide)
  rw [if_neg h0, if_neg h1, if_neg h2]
set_option maxRecDepth 100000 in
set_option maxHeartbeats 12800000 in
theorem do_low (w : World) (S : Nat → Prop) (hSW : ∀ q, S q → q < w.heap.size) (b : Nat) (ot : Int) (r : Run) (o0 o1 o2 o3 : Int) (h : Mach w S b 0 ot r) (hg : Gd r r.e.sp.x4) (hn : r.ev.length ≤ 600000) (hwf : (Lit.int .i64 o1).wf = true) (R : Run) (RC : Int) (hR : (R, RC) = r.step (o0, o1, o2, o3)) :
    Calls Tryz.prog 83 #[.pointer (some ⟨b, 0, none⟩), .agg [.int .i64 o0, .int .i64 o1, .int .i64 o2, .int .i64 o3].toArray] w (MovedV b 0 ot R (.int .i64 RC) S w) := by
  have HR := Lib.hid hR
  have HWF := Lib.hid hwf
  have HG := Lib.hid hg
  have HN := Lib.hid hn
  obtain ⟨V, hV⟩ : ∃ V, V = w.alloc (.cells [.int .i64 o0, .int .i64 o1, .int .i64 o2, .int .i64 o3].toArray 31) := ⟨_, rfl⟩
  have HB : Hid (Below w.heap.size w V) := by rw [hV]; exact bel1 _ _
  have KO : Hid (V.heap[w.heap.size]? = some (.cells [.int .i64 o0, .int .i64 o1, .int .i64 o2, .int .i64 o3].toArray 31 (0, 0))) := by rw [hV]; exact box_new w _
  obtain ⟨A, n, c, E, m, k, h⟩ := h
  have H := Lib.hid (h.below HB.out)
  have hbw : b < w.heap.size := h.lt
  have HT : Hid (Turned S w V) := Turned.of_below HB.out
  have c0 : V.cell? ⟨b, 0, none⟩ = some (.int .i32 0) := box_cell H.out.box 0 _ rfl
  have f0 := box_frozen H.out.box 0
  clear h hg hR hwf hn
  go_enter_defers Tryz.func83, Tryz.ntmps83
  go_upto_region 1 with fail
  obtain ⟨P, hP⟩ : ∃ P, P = w.heap.size := ⟨_, rfl⟩
  have hbp : b ≠ P := by omega
  have HSP : Hid (¬ S P) := fun hs => by have := hSW P hs; omega
  rw [← hP] at KO
  rw [show w.alloc (.cells #[.int .i64 o0, .int .i64 o1, .int .i64 o2, .int .i64 o3] 31) = V from hV.symm, ← hP]
  clear hV hP HB
  go_wp2_with fail
  refine (lock_free Locks.lib ⟨b, 0, none⟩ _ c0 f0).mono ?_
  rintro e w1 ⟨rfl, hw1⟩
  have H1 : Hid (MachAt w1 S b 1 ot r A n c E m k) := by rw [hw1]; exact H.out.lockTo 1
  have HT1 : Hid (Turned S w w1) := by rw [hw1]; exact HT.out.trans (Turned.set _ _ _ H.out.sb)
  have KO1 : Hid (w1.heap[P]? = some (.cells [.int .i64 o0, .int .i64 o1, .int .i64 o2, .int .i64 o3].toArray 31 (0, 0))) := by rw [hw1]; exact box_other KO.out _ _ (Ne.symm hbp)
  clear hw1 c0 f0 H HT KO
  have d0 : w1.cell? ⟨P, 0, none⟩ = some (.int .i64 o0) := box_cell KO1.out 0 _ rfl
  go_wp2_with fail
  refine (Crew.within_any o0 0 2 _).mono ?_
  rintro e w2 ⟨rfl, rfl⟩
  cases hi : Tick.inB o0 0 2
  · have HE : Hid ((R, RC) = (r, 1)) := by show _ = _; rw [HR.out, bad_op hi]
    clear hi HR d0
    go_wp2
    refine leaves_cons (f := 85) (args := #[.pointer (some ⟨b, 0, none⟩)]) (by simp) (by simp [go_sem]) ?_
    refine (unlock_deferred Locks.lib ⟨b, 0, none⟩ .returning _ (box_cell H1.out.box 0 _ rfl) (box_frozen H1.out.box 0)).mono ?_
    rintro e u' w3 ⟨rfl, rfl, hw3⟩
    obtain ⟨rfl, rfl⟩ := Prod.mk.inj HE.out
    refine ⟨_, results_tmp rfl _ _ _, rfl, S, ⟨A, n, c, E, m, k, ?_⟩, fun q h => .inl h, ?_⟩
    · rw [hw3]; exact H1.out.lockTo 0
    · rw [hw3]; exact HT1.out.trans (Turned.set _ _ _ H1.out.sb)
  have hk : o0 = 0 ∨ o0 = 1 ∨ o0 = 2 := by have := Tick.in_t hi; omega
  clear hi d0
  go_wp2_with fail
  refine then_only ?_
  rcases hk with rfl | rfl | rfl
  · have HE : Hid ((R, RC) = if Tick.inB o1 0 2000 then (({ r with e := { r.e with now := Tick.addV r.e.now o1 } } : Run).act, (0 : Int)) else (r, 1)) := by show _ = _; exact HR.out.trans (if_pos rfl)
    clear HR
    refine wp_region_held_drew (S := fun w' => w'.rangeAt P 0 [.int .i64 0, .int .i64 o1, .int .i64 o2, .int .i64 o3] ∧ w'.cell? ⟨P, 0, none⟩ = some (.int .i64 0)) (by kernel_rfl) ⟨range_of KO1.out rfl, box_cell KO1.out 0 _ rfl⟩ (fun hHeld => ?_)
    refine tkk (i := 1) rfl ?_
    try simp only [Act.put, pj]
    refine tkk (i := 2) rfl ?_
    try simp only [Act.put, pj]
    refine tkk (i := 4) rfl ?_
    try simp only [Act.put, pj]
    refine tkj (i := 5) (v := .agg ([.int .i64 0, .int .i64 o1, .int .i64 o2, .int .i64 o3]).toArray) rfl (yieldsIf_load_mid (by rfl) 31 _ rfl P 0 rfl ([.int .i64 0, .int .i64 o1, .int .i64 o2, .int .i64 o3]) _ (fun w' h => h.1) Tryz.underlying31 rfl (by kernel_rfl)) ?_
    try simp only [Act.put, pj]
    refine wpAnyH_ready (rs := [0]) (by kernel_rfl) (by simp) (AllReadyH.cons rfl (fun K hK => ?_) AllReadyH.nil)
    go_simp
    refine (doers_any _).mono ?_
    rintro e w2 ⟨rfl, hb⟩
    have hb' : Below w1.heap.size w1 w2 := undrew hb
    have H2 := Lib.hid (H1.out.below hb')
    have HT2 : Hid (Turned S w w2) := HT1.out.trans (Turned.of_below hb')
    have KO2 := Lib.hid (box_below KO1.out hb')
    clear hb hb' H1 HT1 KO1 hHeld
    refine hK _ _ (by exact ⟨range_of KO2.out rfl, box_cell KO2.out 0 _ rfl⟩) (fun hHeld => ?_)
    clear hK K
    try simp only [Act.put, pj]
    refine wpAnyH_ready (rs := [3]) (by kernel_rfl) (by simp) (AllReadyH.cons rfl (fun K hK => ?_) AllReadyH.nil)
    go_simp
    refine hK _ _ (by exact hHeld) (fun hHeld => ?_)
    clear hK K
    try simp only [Act.put, pj]
    refine wpAnyH_ready (rs := [6]) (by kernel_rfl) (by simp) (AllReadyH.cons rfl (fun K hK => ?_) AllReadyH.nil)
    go_simp
    refine (tick_any w2 S b 1 ot r 0 o1 o2 o3 ⟨_, _, _, _, _, _, H2.out⟩ HG.out HN.out HWF.out R RC HE.out).mono ?_
    rintro e w3 ⟨rfl, ha⟩
    have KO3 : Hid (w3.heap[P]? = some (.cells [.int .i64 0, .int .i64 o1, .int .i64 o2, .int .i64 o3].toArray 31 (0, 0))) := by
      obtain ⟨_, _, _, ht⟩ := ha
      exact (ht.block P (box_lt KO2.out) HSP.out).trans KO2.out
    have HMV := Lib.hid (AmidT.then (fun q hq => .inl hq) HT2.out ha)
    clear ha HT2 H2
    refine hK _ _ (by exact ⟨range_of KO3.out rfl, box_cell KO3.out 0 _ rfl⟩) (fun hHeld => ?_)
    clear hK K
    try simp only [Act.put, pj]
    refine tkk (i := 7) rfl ?_
    try simp only [Act.put, pj]
    refine wpAnyH_done (by kernel_rfl) ?_ _
    clear hHeld
    go_wp2
    obtain ⟨S2, ⟨A2, n2, c2, E2, m2, k2, H3⟩, hS2, hT2⟩ := HMV.out
    refine leaves_cons (f := 85) (args := #[.pointer (some ⟨b, 0, none⟩)]) (by simp) (by simp [go_sem]) ?_
    refine (unlock_deferred Locks.lib ⟨b, 0, none⟩ .returning _ (box_cell H3.box 0 _ rfl) (box_frozen H3.box 0)).mono ?_
    rintro e u' w5 ⟨rfl, rfl, hw5⟩
    refine ⟨_, results_tmp rfl _ _ _, rfl, S2, ⟨A2, n2, c2, E2, m2, k2, ?_⟩, hS2, ?_⟩
    · rw [hw5]; exact H3.lockTo 0
    · rw [hw5]; exact turned_then hS2 hT2 (Turned.set _ _ _ H3.sb)
  · have HE : Hid ((R, RC) = if Tick.inB o1 1 1000 && (reps r.e.sp o2).ok then ((({ r with e := { r.e with sp := reps r.e.sp o2 } } : Run).start 1 o1).act, (0 : Int)) else (r, 1)) := by show _ = _; exact HR.out.trans ((if_neg (show ¬ (1 : Int) = 0 by decide)).trans (if_pos rfl))
    clear HR
    refine wp_region_held_drew (S := fun w' => w'.rangeAt P 0 [.int .i64 1, .int .i64 o1, .int .i64 o2, .int .i64 o3] ∧ w'.cell? ⟨P, 0, none⟩ = some (.int .i64 1)) (by kernel_rfl) ⟨range_of KO1.out rfl, box_cell KO1.out 0 _ rfl⟩ (fun hHeld => ?_)
    refine tkk (i := 1) rfl ?_
    try simp only [Act.put, pj]
    refine tkk (i := 2) rfl ?_
    try simp only [Act.put, pj]
    refine tkk (i := 4) rfl ?_
    try simp only [Act.put, pj]
    refine tkj (i := 5) (v := .agg ([.int .i64 1, .int .i64 o1, .int .i64 o2, .int .i64 o3]).toArray) rfl (yieldsIf_load_mid (by rfl) 31 _ rfl P 0 rfl ([.int .i64 1, .int .i64 o1, .int .i64 o2, .int .i64 o3]) _ (fun w' h => h.1) Tryz.underlying31 rfl (by kernel_rfl)) ?_
    try simp only [Act.put, pj]
    refine wpAnyH_ready (rs := [0]) (by kernel_rfl) (by simp) (AllReadyH.cons rfl (fun K hK => ?_) AllReadyH.nil)
    go_simp
    refine (doers_any _).mono ?_
    rintro e w2 ⟨rfl, hb⟩
    have hb' : Below w1.heap.size w1 w2 := undrew hb
    have H2 := Lib.hid (H1.out.below hb')
    have HT2 : Hid (Turned S w w2) := HT1.out.trans (Turned.of_below hb')
    have KO2 := Lib.hid (box_below KO1.out hb')
    clear hb hb' H1 HT1 KO1 hHeld
    refine hK _ _ (by exact ⟨range_of KO2.out rfl, box_cell KO2.out 0 _ rfl⟩) (fun hHeld => ?_)
    clear hK K
    try simp only [Act.put, pj]
    refine wpAnyH_ready (rs := [3]) (by kernel_rfl) (by simp) (AllReadyH.cons rfl (fun K hK => ?_) AllReadyH.nil)
    go_simp
    refine hK _ _ (by exact hHeld) (fun hHeld => ?_)
    clear hK K
    try simp only [Act.put, pj]
    refine wpAnyH_ready (rs := [6]) (by kernel_rfl) (by simp) (AllReadyH.cons rfl (fun K hK => ?_) AllReadyH.nil)
    go_simp
    refine (edit_any w2 S b 1 ot r 1 o1 o2 o3 ⟨_, _, _, _, _, _, H2.out⟩ HG.out HN.out HWF.out R RC HE.out).mono ?_
    rintro e w3 ⟨rfl, ha⟩
    have KO3 : Hid (w3.heap[P]? = some (.cells [.int .i64 1, .int .i64 o1, .int .i64 o2, .int .i64 o3].toArray 31 (0, 0))) := by
      obtain ⟨_, _, _, ht⟩ := ha
      exact (ht.block P (box_lt KO2.out) HSP.out).trans KO2.out
    have HMV := Lib.hid (AmidT.then (fun q hq => .inl hq) HT2.out ha)
    clear ha HT2 H2
    refine hK _ _ (by exact ⟨range_of KO3.out rfl, box_cell KO3.out 0 _ rfl⟩) (fun hHeld => ?_)
    clear hK K
    try simp only [Act.put, pj]
    refine tkk (i := 7) rfl ?_
    try simp only [Act.put, pj]
    refine wpAnyH_done (by kernel_rfl) ?_ _
    clear hHeld
    go_wp2
    obtain ⟨S2, ⟨A2, n2, c2, E2, m2, k2, H3⟩, hS2, hT2⟩ := HMV.out
    refine leaves_cons (f := 85) (args := #[.pointer (some ⟨b, 0, none⟩)]) (by simp) (by simp [go_sem]) ?_
    refine (unlock_deferred Locks.lib ⟨b, 0, none⟩ .returning _ (box_cell H3.box 0 _ rfl) (box_frozen H3.box 0)).mono ?_
    rintro e u' w5 ⟨rfl, rfl, hw5⟩
    refine ⟨_, results_tmp rfl _ _ _, rfl, S2, ⟨A2, n2, c2, E2, m2, k2, ?_⟩, hS2, ?_⟩
    · rw [hw5]; exact H3.lockTo 0
    · rw [hw5]; exact turned_then hS2 hT2 (Turned.set _ _ _ H3.sb)
  · have HE : Hid ((R, RC) = if Crew.takeV r.fl o1 o2 o3 r.e.now = 0 then ((r.setFl (Crew.takeD r.fl o1 o2 o3 r.e.now)).act, (0 : Int)) else (r, if Crew.takeV r.fl o1 o2 o3 r.e.now = 3 then 1 else 2)) := by show _ = _; exact HR.out.trans ((if_neg (show ¬ (2 : Int) = 0 by decide)).trans ((if_neg (show ¬ (2 : Int) = 1 by decide)).trans (if_pos rfl)))
    clear HR
    refine wp_region_held_drew (S := fun w' => w'.rangeAt P 0 [.int .i64 2, .int .i64 o1, .int .i64 o2, .int .i64 o3] ∧ w'.cell? ⟨P, 0, none⟩ = some (.int .i64 2)) (by kernel_rfl) ⟨range_of KO1.out rfl, box_cell KO1.out 0 _ rfl⟩ (fun hHeld => ?_)
    refine tkk (i := 1) rfl ?_
    try simp only [Act.put, pj]
    refine tkk (i := 2) rfl ?_
    try simp only [Act.put, pj]
    refine tkk (i := 4) rfl ?_
    try simp only [Act.put, pj]
    refine tkj (i := 5) (v := .agg ([.int .i64 2, .int .i64 o1, .int .i64 o2, .int .i64 o3]).toArray) rfl (yieldsIf_load_mid (by rfl) 31 _ rfl P 0 rfl ([.int .i64 2, .int .i64 o1, .int .i64 o2, .int .i64 o3]) _ (fun w' h => h.1) Tryz.underlying31 rfl (by kernel_rfl)) ?_
    try simp only [Act.put, pj]
    refine wpAnyH_ready (rs := [0]) (by kernel_rfl) (by simp) (AllReadyH.cons rfl (fun K hK => ?_) AllReadyH.nil)
    go_simp
    refine (doers_any _).mono ?_
    rintro e w2 ⟨rfl, hb⟩
    have hb' : Below w1.heap.size w1 w2 := undrew hb
    have H2 := Lib.hid (H1.out.below hb')
    have HT2 : Hid (Turned S w w2) := HT1.out.trans (Turned.of_below hb')
    have KO2 := Lib.hid (box_below KO1.out hb')
    clear hb hb' H1 HT1 KO1 hHeld
    refine hK _ _ (by exact ⟨range_of KO2.out rfl, box_cell KO2.out 0 _ rfl⟩) (fun hHeld => ?_)
    clear hK K
    try simp only [Act.put, pj]
    refine wpAnyH_ready (rs := [3]) (by kernel_rfl) (by simp) (AllReadyH.cons rfl (fun K hK => ?_) AllReadyH.nil)
    go_simp
    refine hK _ _ (by exact hHeld) (fun hHeld => ?_)
    clear hK K
    try simp only [Act.put, pj]
    refine wpAnyH_ready (rs := [6]) (by kernel_rfl) (by simp) (AllReadyH.cons rfl (fun K hK => ?_) AllReadyH.nil)
    go_simp
    refine (report_any w2 S b 1 ot r 2 o1 o2 o3 ⟨_, _, _, _, _, _, H2.out⟩ HG.out HN.out HWF.out R RC HE.out).mono ?_
    rintro e w3 ⟨rfl, ha⟩
    have KO3 : Hid (w3.heap[P]? = some (.cells [.int .i64 2, .int .i64 o1, .int .i64 o2, .int .i64 o3].toArray 31 (0, 0))) := by
      obtain ⟨_, _, _, ht⟩ := ha
      exact (ht.block P (box_lt KO2.out) HSP.out).trans KO2.out
    have HMV := Lib.hid (AmidT.then (fun q hq => .inl hq) HT2.out ha)
    clear ha HT2 H2
    refine hK _ _ (by exact ⟨range_of KO3.out rfl, box_cell KO3.out 0 _ rfl⟩) (fun hHeld => ?_)
    clear hK K
    try simp only [Act.put, pj]
    refine tkk (i := 7) rfl ?_
    try simp only [Act.put, pj]
    refine wpAnyH_done (by kernel_rfl) ?_ _
    clear hHeld
    go_wp2
    obtain ⟨S2, ⟨A2, n2, c2, E2, m2, k2, H3⟩, hS2, hT2⟩ := HMV.out
    refine leaves_cons (f := 85) (args := #[.pointer (some ⟨b, 0, none⟩)]) (by simp) (by simp [go_sem]) ?_
    refine (unlock_deferred Locks.lib ⟨b, 0, none⟩ .returning _ (box_cell H3.box 0 _ rfl) (box_frozen H3.box 0)).mono ?_
    rintro e u' w5 ⟨rfl, rfl, hw5⟩
    refine ⟨_, results_tmp rfl _ _ _, rfl, S2, ⟨A2, n2, c2, E2, m2, k2, ?_⟩, hS2, ?_⟩
    · rw [hw5]; exact H3.lockTo 0
    · rw [hw5]; exact turned_then hS2 hT2 (Turned.set _ _ _ H3.sb)
theorem Mach.cut {w : World} {S : Nat → Prop} {b : Nat} {lk ot : Int} {r : Run} (h : Mach w S b lk ot r) : Mach w (fun q => S q ∧ q < w.heap.size) b lk ot r := by
  obtain ⟨A, n, c, E, m, k, h⟩ := h
  exact ⟨A, n, c, E, m, k, h.box, h.ps, h.ev, ⟨h.sb, h.lt⟩, fun q hq => ⟨h.sa q hq, (h.ps.lt q hq).2⟩, fun q hq => ⟨h.se q hq, (h.ev.lt q hq).2⟩⟩
theorem do_any (w : World) (S : Nat → Prop) (b : Nat) (ot : Int) (r : Run) (o0 o1 o2 o3 : Int) (h : Mach w S b 0 ot r) (hg : Gd r r.e.sp.x4) (hn : r.ev.length ≤ 600000) (hwf : (Lit.int .i64 o1).wf = true) (R : Run) (RC : Int) (hR : (R, RC) = r.step (o0, o1, o2, o3)) :
    Calls Tryz.prog 83 #[.pointer (some ⟨b, 0, none⟩), .agg [.int .i64 o0, .int .i64 o1, .int .i64 o2, .int .i64 o3].toArray] w (MovedV b 0 ot R (.int .i64 RC) S w) := by
  refine (do_low w _ (fun q hq => hq.2) b ot r o0 o1 o2 o3 h.cut hg hn hwf R RC hR).mono ?_
  rintro e w' ⟨he, S2, h1, h2, h3⟩
  exact ⟨he, S2, h1, fun q hq => (h2 q hq).imp (fun h => h.1) id, h3.wide fun q hq => hq.1⟩
end Go.Proofs.YtklgjjmcflgjeaaGreat.Mach
