/-
  THE MODEL's l08DropSome over this seat's translation.
-/
import Derived.Test.YtdefckbgcggnoaaGreatModD
import Derived.Test.YtdefckbgcggnoaaGreatHl
namespace Go.Proofs.YtdefckbgcggnoaaGreat.Mod
open Go.ChangeShapes Go.WideShapes Go.ChangeAt Go.RowKit
open Go.Proofs.YtdefckbgcggnoaaGreat.LK Go.Proofs.YtdefckbgcggnoaaGreat.Pods Go.Proofs.YtdefckbgcggnoaaGreat.EngV Go.Proofs.YtdefckbgcggnoaaGreat.Eng Go.Proofs.YtdefckbgcggnoaaGreat.Seg
open Go.Proofs.YtdefckbgcggnoaaGreat.ModV (mdropN mdel)
set_option linter.unusedVariables false
set_option linter.unusedSimpArgs false
def selB (e : Eng) (mine avail : Bool) (p : Pd) : Bool := (decide (p.2.1 = e.tg) == mine) && (avP e.sp e.now p == avail)
theorem enL_sp0 (e : Eng) (A : Option Addr) (n c : Nat) : ((enL e A n c).drop 0).take (spL e.sp).length = spL e.sp := rfl
theorem mdel_ev (q : Run) (id : Int) : (mdel q id).ev.length = q.ev.length + 1 := by simp [mdel, Run.tell, Run.setFl]
theorem mdel_ps (q : Run) (id : Int) : (mdel q id).e.ps.length = q.e.ps.length := EngInv.len_goD _ _ _
set_option maxRecDepth 100000 in
set_option maxHeartbeats 12800000 in
theorem dropSome_any (w : World) (S : Nat → Prop) (b : Nat) (q : Run) (e : Eng) (A0 : Option Addr) (n0 c0 : Nat) (N : Int) (mine avail : Bool) (h : Mod w S b q) (hp : OwnP w 0 A0 n0 c0 e.ps) (hev : q.ev.length ≤ 900000) (hn : q.e.ps.length ≤ 30) (hn0 : e.ps.length ≤ 30) (hN : -1000 ≤ N ∧ N ≤ 1000) :
    Calls Tryz.prog 154 #[.pointer (some ⟨b, 0, none⟩), .agg (enL e A0 n0 c0).toArray, .int .i64 N, .bool mine, .bool avail] w (Moved b (mdropN q (selB e mine avail) N e.ps).1 (.int .i64 (mdropN q (selB e mine avail) N e.ps).2) S w) := by
  obtain ⟨f, hf⟩ : ∃ f, f = selB e mine avail := ⟨_, rfl⟩
  rw [← hf]
  obtain ⟨R, RN, hR⟩ : ∃ R RN, (R, RN) = mdropN q f N e.ps := ⟨_, _, rfl⟩
  rw [← hR]
  have HR0 : Hid ((R, RN) = mdropN q f N (e.ps.drop 0)) := hR
  have HF := Lib.hid hf
  clear hR hf
  obtain ⟨V, hV⟩ : ∃ V, V = w.alloc (.cells (enL e A0 n0 c0).toArray 36) := ⟨_, rfl⟩
  have HBV : Hid (Below w.heap.size w V) := by rw [hV]; exact bel1 _ _
  have HE0 : Hid (V.heap[w.heap.size]? = some (.cells (enL e A0 n0 c0).toArray 36 (0, 0))) := by rw [hV]; exact box_new w _
  have HM0 : Hid (Mod V S b q) := h.below HBV.out
  have HP0 : Hid (OwnP V 0 A0 n0 c0 e.ps) := hp.below HBV.out
  have HN : Hid (e.ps.length = n0) := hp.1
  have hn30 : n0 ≤ 30 := by rw [← HN.out]; exact hn0
  obtain ⟨PE, hPE⟩ : ∃ PE, PE = w.heap.size := ⟨_, rfl⟩
  have HPB : Hid (PE < V.heap.size) := by rw [hPE]; exact box_lt HE0.out
  have HWV : Hid (w.heap.size ≤ V.heap.size) := HBV.out.size
  have HA0 : Hid (Amid V S b q V) := Amid.start HM0.out
  have HQ0 : Hid (q.ev.length ≤ 900000 + 0 ∧ q.e.ps.length ≤ 30) := ⟨by omega, hn⟩
  have HC0 : Hid (-1000 ≤ N - 0 ∧ N ≤ 1000) := ⟨by omega, hN.2⟩
  clear h hp hev hn hn0 hN HM0
  go_enter Tryz.func154, Tryz.ntmps154
  go_upto_region 1 with fail
  rw [← hV, ← hPE]
  rw [← hPE] at HE0
  clear hV hPE
  go_wp2_with fail
  go_loopw [2, 11] (fun s i wr => ∃ (k : Nat) (a : Int) (q' : Run), k ≤ n0 ∧ i = .int .i64 k ∧ s = .int .i64 a ∧ Hid (Amid V S b q' wr) ∧ Hid ((R, RN) = mdropN q' f a (e.ps.drop k)) ∧ Hid (q'.ev.length ≤ 900000 + k ∧ q'.e.ps.length ≤ 30) ∧ (-1000 - (k : Int) ≤ a ∧ a ≤ 1000)) (fun _ i _ => n0 - (RowKit.intOf i).toNat)
  case atStart => exact ⟨0, N, q, Nat.zero_le _, rfl, rfl, HA0, HR0, HQ0, by have := HC0.out; omega⟩
  case round =>
    obtain ⟨k, a, q', hk, rfl, rfl, HA, HR, HQ, hab⟩ := hrel
    clear HA0 HR0 HQ0 HC0
    obtain ⟨S1, hm1, hs1, ht1, hk1⟩ := HA.out
    have HEB : Hid (wr.heap[PE]? = some (.cells (enL e A0 n0 c0).toArray 36 (0, 0))) := hk1 _ _ _ _ (by decide) (by decide) HE0.out
    have HP1 := Lib.hid (hk1.pods HP0.out)
    have HS1 := Lib.hid hs1
    have HT1 := Lib.hid ht1
    have HK1 := Lib.hid hk1
    have HM1 := Lib.hid hm1
    clear hs1 ht1 hk1 hm1 HA
    have c15 : wr.cell? ⟨PE, 15, none⟩ = some (.slice A0 n0 c0) := box_cell HEB.out 15 _ rfl
    by_cases hlt : k < n0
    case neg =>
      have HE : Hid (R = q' ∧ RN = a) := by
        have h := HR.out
        rw [List.drop_of_length_le (by rw [HN.out]; omega)] at h
        have h : (R, RN) = (q', a) := h
        injection h with h1 h2
        exact ⟨h1, h2⟩
      have HFN : Hid (Moved b q' (.int .i64 a) S w (.returned (.int .i64 a)) wr) := Moved.step (w := w) (S' := S) (v := V) (fun q hq => .inl hq) (Turned.of_below HBV.out) (Kept.below HBV.out) (Amid.fin ⟨S1, HM1.out, HS1.out, HT1.out, HK1.out⟩)
      clear HM1 HS1 HT1 HK1 HP1 HEB HR HF
      go_wp2
      go_ret
      rw [HE.out.1, HE.out.2]
      exact HFN.out
    obtain ⟨g1, off, y0, y1, y2, y3, y4, rfl, hgB, hz, hc0, hc1, hc2, hc3, hc4⟩ := HP1.out.podsAll.at_ hlt
    have HS : Hid ((R, RN) = if decide (0 < a) && (!decide (y2 = 4) && f (y0, y1, y2, y3, y4)) then mdropN (mdel q' y0) f (a - 1) (e.ps.drop (k + 1)) else mdropN q' f a (e.ps.drop (k + 1))) := by
      show _ = _
      rw [HR.out, List.drop_eq_getElem_cons (by rw [HN.out]; exact hlt), show e.ps[k]'(by rw [HN.out]; exact hlt) = (y0, y1, y2, y3, y4) from by rw [← hz]; simp [List.getD, HN.out, hlt]]
      rfl
    have HFV : Hid (f (y0, y1, y2, y3, y4) = ((decide (y1 = e.tg) == mine) && (Hl.availB e.sp.x0 e.sp.x1 e.sp.x2 e.sp.x3 e.sp.x4 e.sp.x5 e.sp.x6 e.sp.x7 e.sp.x8 e.sp.x9 e.sp.x10 y2 y4 e.now == avail))) := by rw [HF.out]; rfl
    clear hz HR HP1
    have HBA : Hid (Below wr.heap.size wr (wr.alloc (.cells #[.int .i64 y0, .int .i64 y1, .int .i64 y2, .int .i64 y3, .int .i64 y4] 77))) := bel1 _ _
    have HPP : Hid ((wr.alloc (.cells #[.int .i64 y0, .int .i64 y1, .int .i64 y2, .int .i64 y3, .int .i64 y4] 77)).heap[wr.heap.size]? = some (.cells [.int .i64 y0, .int .i64 y1, .int .i64 y2, .int .i64 y3, .int .i64 y4].toArray 77 (0, 0))) := box_new wr _
    have hpe : PE < wr.heap.size := box_lt HEB.out
    go_upto_region 5 with fail
    obtain ⟨U, hU⟩ : ∃ U, U = wr.alloc (.cells #[.int .i64 y0, .int .i64 y1, .int .i64 y2, .int .i64 y3, .int .i64 y4] 77) := ⟨_, rfl⟩
    rw [← hU] at HBA HPP ⊢
    clear hU hc0 hc1 hc2 hc3 hc4 c15
    obtain ⟨PP, hPP⟩ : ∃ PP, PP = wr.heap.size := ⟨_, rfl⟩
    rw [← hPP] at HPP ⊢
    clear hPP
    have HEU := Lib.hid (box_below HEB.out HBA.out)
    have HMU := Lib.hid (HM1.out.below HBA.out)
    have HTU : Hid (Turned S V U) := HT1.out.trans (Turned.of_below HBA.out)
    have HKU : Hid (Kept V U) := HK1.out.trans (Kept.below HBA.out)
    clear HEB HM1 HT1 HK1 HBA
    by_cases hpos : 0 < a
    case neg =>
      have hd1 : decide (0 < a) = false := by simp [hpos]
      have HE : Hid ((R, RN) = mdropN q' f a (e.ps.drop (k + 1))) := by have h := HS.out; rw [hd1] at h; exact h
      have HA2 : Hid (Amid V S b q' U) := ⟨S1, HMU.out, HS1.out, HTU.out, HKU.out⟩
      have HQ2 : Hid (q'.ev.length ≤ 900000 + (k + 1) ∧ q'.e.ps.length ≤ 30) := by have h := HQ.out; exact ⟨by omega, h.2⟩
      clear HS HFV HMU HTU HKU HS1 HPP HEU HQ
      go_wp2
      go_roundw
      case rel => exact ⟨k + 1, a, q', by omega, by go_num, rfl, HA2, HE, HQ2, by omega⟩
      case measure => simp [RowKit.intOf]; omega
    have hd1 : decide (0 < a) = true := by simp [hpos]
    have p1 : U.cell? ⟨PP, 1, none⟩ = some (.int .i64 y1) := box_cell HPP.out 1 _ rfl
    have p2 : U.cell? ⟨PP, 2, none⟩ = some (.int .i64 y2) := box_cell HPP.out 2 _ rfl
    have e13 : U.cell? ⟨PE, 13, none⟩ = some (.int .i64 e.tg) := box_cell HEU.out 13 _ rfl
    have e11 : U.cell? ⟨PE, 11, none⟩ = some (.int .i64 e.now) := box_cell HEU.out 11 _ rfl
    obtain ⟨g, hg⟩ : ∃ g, (y1 == e.tg) = g := ⟨_, rfl⟩
    have HG : Hid (decide (y1 = e.tg) = g) := by rw [← hg]; rfl
    obtain ⟨g2, hg2⟩ : ∃ g2, (g == mine) = g2 := ⟨_, rfl⟩
    have HG2 := Lib.hid hg2
    cases g2
    case false =>
      have HE : Hid ((R, RN) = mdropN q' f a (e.ps.drop (k + 1))) := by show _ = _; have h := HS.out; rw [HFV.out, HG.out, HG2.out] at h; simpa using h
      have HA2 : Hid (Amid V S b q' U) := ⟨S1, HMU.out, HS1.out, HTU.out, HKU.out⟩
      have HQ2 : Hid (q'.ev.length ≤ 900000 + (k + 1) ∧ q'.e.ps.length ≤ 30) := by have h := HQ.out; exact ⟨by omega, h.2⟩
      clear HS HFV HMU HTU HKU HS1 HPP HEU HQ
      go_wp2
      go_roundw
      case rel => exact ⟨k + 1, a, q', by omega, by go_num, rfl, HA2, HE, HQ2, by omega⟩
      case measure => simp [RowKit.intOf]; omega
    obtain ⟨g3, hg3⟩ : ∃ g3, (y2 != 4) = g3 := ⟨_, rfl⟩
    have HG3 : Hid ((!decide (y2 = 4)) = g3) := by rw [← hg3]; rfl
    cases g3
    case false =>
      have HE : Hid ((R, RN) = mdropN q' f a (e.ps.drop (k + 1))) := by show _ = _; have h := HS.out; rw [HG3.out] at h; simpa using h
      have HA2 : Hid (Amid V S b q' U) := ⟨S1, HMU.out, HS1.out, HTU.out, HKU.out⟩
      have HQ2 : Hid (q'.ev.length ≤ 900000 + (k + 1) ∧ q'.e.ps.length ≤ 30) := by have h := HQ.out; exact ⟨by omega, h.2⟩
      clear HS HFV HMU HTU HKU HS1 HPP HEU HQ
      go_wp2
      go_roundw
      case rel => exact ⟨k + 1, a, q', by omega, by go_num, rfl, HA2, HE, HQ2, by omega⟩
      case measure => simp [RowKit.intOf]; omega
    have HS2 : Hid ((R, RN) = if (Hl.availB e.sp.x0 e.sp.x1 e.sp.x2 e.sp.x3 e.sp.x4 e.sp.x5 e.sp.x6 e.sp.x7 e.sp.x8 e.sp.x9 e.sp.x10 y2 y4 e.now == avail) then mdropN (mdel q' y0) f (a - 1) (e.ps.drop (k + 1)) else mdropN q' f a (e.ps.drop (k + 1))) := by show _ = _; have h := HS.out; rw [HFV.out, HG.out, HG2.out, HG3.out, hd1] at h; simp only [Bool.true_and] at h; exact h
    clear HS HFV HG HG2 HG3
    go_wp2_with (first | (refine wpList_getG (by rfl) 25 _ rfl PE 0 rfl HEU.out (spL e.sp) (enL_sp0 e _ n0 c0) Tryz.underlying25 rfl (by kernel_rfl) ?_) | (refine wpList_getG (by rfl) 77 _ rfl PP 0 rfl HPP.out [.int .i64 y0, .int .i64 y1, .int .i64 y2, .int .i64 y3, .int .i64 y4] rfl Tryz.underlying77 rfl (by kernel_rfl) ?_))
    refine (Hl.specIsAvailable_any e.sp.x0 e.sp.x1 e.sp.x2 e.sp.x3 e.sp.x4 e.sp.x5 e.sp.x6 e.sp.x7 e.sp.x8 e.sp.x9 e.sp.x10 y0 y1 y2 y3 y4 e.now _).mono ?_
    rintro e2 w2 ⟨rfl, hb2⟩
    obtain ⟨av, hav⟩ : ∃ av, av = Hl.availB e.sp.x0 e.sp.x1 e.sp.x2 e.sp.x3 e.sp.x4 e.sp.x5 e.sp.x6 e.sp.x7 e.sp.x8 e.sp.x9 e.sp.x10 y2 y4 e.now := ⟨_, rfl⟩
    rw [← hav] at HS2 ⊢
    clear hav
    obtain ⟨g4, hg4⟩ : ∃ g4, (av == avail) = g4 := ⟨_, rfl⟩
    have HG4 := Lib.hid hg4
    have HPP2 := Lib.hid (box_below HPP.out hb2)
    have HM2 := Lib.hid (HMU.out.below hb2)
    have HT2 : Hid (Turned S V w2) := HTU.out.trans (Turned.of_below hb2)
    have HK2 : Hid (Kept V w2) := HKU.out.trans (Kept.below hb2)
    clear hb2 HPP HMU HTU HKU HEU p1 p2 e13 e11
    cases g4
    · have HE : Hid ((R, RN) = mdropN q' f a (e.ps.drop (k + 1))) := by have h := HS2.out; rw [HG4.out] at h; exact h
      have HA2 : Hid (Amid V S b q' w2) := ⟨S1, HM2.out, HS1.out, HT2.out, HK2.out⟩
      have HQ2 : Hid (q'.ev.length ≤ 900000 + (k + 1) ∧ q'.e.ps.length ≤ 30) := by have h := HQ.out; exact ⟨by omega, h.2⟩
      clear HS2 HG4 HM2 HT2 HK2 HS1 HPP2 HQ
      go_wp2
      go_roundw
      case rel => exact ⟨k + 1, a, q', by omega, by go_num, rfl, HA2, HE, HQ2, by omega⟩
      case measure => simp [RowKit.intOf]; omega
    have HE : Hid ((R, RN) = mdropN (mdel q' y0) f (a - 1) (e.ps.drop (k + 1))) := by have h := HS2.out; rw [HG4.out] at h; exact h
    clear HS2 HG4
    have p0 : w2.cell? ⟨PP, 0, none⟩ = some (.int .i64 y0) := box_cell HPP2.out 0 _ rfl
    go_wp2_with fail
    refine (delete_any w2 S1 b q' y0 HM2.out (by have := HQ.out; omega) (by have := HQ.out; omega)).mono ?_
    intro e3 w3 hmv
    obtain ⟨rfl, ha⟩ := Amid.call HS1.out HT2.out HK2.out hmv
    have HA3 := Lib.hid ha
    have HQ3 : Hid ((mdel q' y0).ev.length ≤ 900000 + (k + 1) ∧ (mdel q' y0).e.ps.length ≤ 30) := by have h := HQ.out; rw [mdel_ev, mdel_ps]; exact ⟨by omega, h.2⟩
    clear hmv ha HM2 HT2 HK2 HS1 HPP2 HQ p0
    go_wp2
    go_roundw
    case rel => exact ⟨k + 1, a - 1, _, by omega, by go_num, rfl, HA3, HE, HQ3, by omega⟩
    case measure => simp [RowKit.intOf]; omega
end Go.Proofs.YtdefckbgcggnoaaGreat.Mod
