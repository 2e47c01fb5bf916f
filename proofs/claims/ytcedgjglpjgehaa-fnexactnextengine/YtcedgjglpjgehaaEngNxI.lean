/-
  THE PROGRAM'S NextEngine over this seat's translation.
-/
import Derived.Test.YtcedgjglpjgehaaDelI
namespace Go.Proofs.Ytcedgjglpjgehaa.EngNxI
open Go.ChangeShapes Go.WideShapes Go.ChangeAt Go.RowKit
open Go.Proofs.Ytcedgjglpjgehaa.LK Go.Proofs.Ytcedgjglpjgehaa.Pods Go.Proofs.Ytcedgjglpjgehaa.EngV Go.Proofs.Ytcedgjglpjgehaa.EngCnt Go.Proofs.Ytcedgjglpjgehaa.EngNext Go.Proofs.Ytcedgjglpjgehaa.Seg Go.Proofs.Ytcedgjglpjgehaa.EngOk Go.Proofs.Ytcedgjglpjgehaa.Has
set_option linter.unusedVariables false
set_option linter.unusedSimpArgs false
theorem turn_len {d : Eng} (h : d.ps.length ≤ 30) : (turnL d).length ≤ 100 := by
  have h1 := EngTurn.bake_len d d.ps
  have h2 : (podL d d.ps).length = d.ps.length := by simp [podL]
  simp only [turnL, List.length_append]
  have a : (if d.ph = 1 then bakeL d d.ps else []).length ≤ 30 := by split; exact Nat.le_trans h1 h; exact Nat.zero_le _
  have b : (if mvB d.ph = true then [Hl.cutV (d.st + d.sp.x8)] else []).length ≤ 1 := by split <;> simp
  have c : (if d.ph = 3 then ([] : List Int) else [d.wt] ++ podL d d.ps).length ≤ 31 := by split; exact Nat.zero_le _; simp; omega
  omega
set_option maxRecDepth 100000 in
set_option maxHeartbeats 6400000 in
theorem nextEngine_any (A : Option Addr) (n c : Nat) (d : Eng) (B : Nat) (w : World) (hr : IsPods w B A n d.ps) (hB : B ≤ w.heap.size) (hn : n ≤ 1048576) : Calls Try.prog 20 #[.agg (enL d A n c).toArray] w (Says (.int .i64 (nextE d)) w) := by
  obtain ⟨R, hR⟩ : ∃ R, R = nextE d := ⟨_, rfl⟩
  rw [← hR]
  have HR := Lib.hid hR
  have HP := Lib.hid hr
  have HL : Hid (d.ps.length = n) := hr.1
  clear hR hr
  obtain ⟨V, hV⟩ : ∃ V, V = w.alloc (.cells (enL d A n c).toArray 29) := ⟨_, rfl⟩
  have HB : Hid (Below w.heap.size w V) := by rw [hV]; exact bel1 _ _
  have K : Hid (V.heap[w.heap.size]? = some (.cells (enL d A n c).toArray 29 (0, 0))) := by rw [hV]; exact box_new w _
  go_enter Try.func20, Try.ntmps20
  go_upto_region 1 with fail
  rw [← hV]
  clear hV
  go_wp2_with (refine wpList_get rfl 29 _ rfl w.heap.size 0 rfl K.out (enL d A n c) List.take_length Try.underlying29 rfl (by kernel_rfl) ?_)
  refine (engineOk_any A n c d B _ (HP.out.below HB.out hB) (Nat.le_trans hB HB.out.size) hn).mono ?_
  rintro e w1 ⟨rfl, hb⟩
  have K1 := Lib.hid (box_below K.out hb)
  have HB1 := Lib.hid (bel_then HB.out hb HB.out.size)
  clear K HB hb
  cases h0 : d.okB
  · have HF : Hid (R = -1) := by show _ = _; rw [HR.out]; simp [nextE, h0]
    clear h0
    go_wp2
    go_ret
    exact ⟨by rw [HF.out]; rfl, HB1.out⟩
  have H0 := Lib.hid h0
  clear h0
  go_wp2_with (refine wpList_get rfl 29 _ rfl w.heap.size 0 rfl K1.out (enL d A n c) List.take_length Try.underlying29 rfl (by kernel_rfl) ?_)
  refine (EngTurn.turnsOf_any A n c d B _ H0.out (HP.out.below HB1.out hB) (Nat.le_trans hB HB1.out.size) hn).mono ?_
  rintro e w2 ⟨g, m, c2, rfl, hO, hb⟩
  obtain ⟨T, hT⟩ : ∃ T, T = turnL d := ⟨_, rfl⟩
  rw [← hT] at hO
  have hm : m ≤ 100 := by rw [← hO.1, hT]; exact turn_len (okB_t H0.out).2.1.1
  have K2 := Lib.hid (box_below K1.out hb)
  have HB2 := Lib.hid (bel_then HB1.out hb HB1.out.size)
  have hlt : w.heap.size < w1.heap.size := box_lt K1.out
  have hgw : w1.heap.size ≤ g := (hO.2.lt g rfl).1
  have HO := Lib.hid hO
  have HT := Lib.hid hT
  clear K1 HB1 hb hO hT
  go_wp2_with fail
  refine (DelI.deleteFunc_any w1.heap.size g m c2 T d.now w.heap.size _ HO.out (by omega) (box_cell K2.out 11 _ rfl) (by omega)).mono ?_
  rintro e w3 ⟨m3, rfl, hO3, hg3⟩
  have hm3 : m3 ≤ 100 := by rw [← hO3.1]; exact Nat.le_trans (List.length_filter_le _ _) (by rw [HO.out.1]; exact hm)
  have HB3 : Hid (Below w.heap.size w w3) := HB2.out.grown hg3 HB2.out.size (fun q hq => by injection hq with hq; omega)
  have HO3 := Lib.hid hO3
  have HE : Hid (R = TickList.soonF (DelI.offL d.now T)) := by show _ = _; rw [HR.out, HT.out]; simp [nextE, H0.out, DelI.offL]
  clear HB2 K2 HO hO3 hg3
  go_wp2_with fail
  refine (TickList.soonest_any (some ⟨g, 0, none⟩) m3 c2 (DelI.offL d.now T) w3.heap.size _ HO3.out.ints (by omega)).mono ?_
  rintro e w4 ⟨rfl, rfl⟩
  have HS : Hid (TickList.soonV (DelI.offL d.now T) = R) := by
    show _ = _
    rw [HE.out, TickList.soonV, if_neg (by rw [HO3.out.1]; omega)]
  rw [HS.out]
  go_wp2
  go_ret
  exact ⟨rfl, HB3.out⟩
end Go.Proofs.Ytcedgjglpjgehaa.EngNxI
