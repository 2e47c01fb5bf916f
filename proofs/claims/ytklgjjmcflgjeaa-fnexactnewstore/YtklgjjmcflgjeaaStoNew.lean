/-
  NEWSTORE, the program's and the model's, over this seat's translation.
-/
import Derived.Test.YtklgjjmcflgjeaaStoTy
import Derived.Test.YtklgjjmcflgjeaaEngNewL
namespace Go.Proofs.Ytklgjjmcflgjeaa.StoNew
open Go.ChangeShapes Go.WideShapes Go.ChangeAt Go.RowKit
open Go.Proofs.Ytklgjjmcflgjeaa.LK Go.Proofs.Ytklgjjmcflgjeaa.Pods Go.Proofs.Ytklgjjmcflgjeaa.EngV Go.Proofs.Ytklgjjmcflgjeaa.EngTy Go.Proofs.Ytklgjjmcflgjeaa.StoTy Go.Proofs.Ytklgjjmcflgjeaa.Seg
set_option linter.unusedVariables false
set_option linter.unusedSimpArgs false
def newS (s : Spc) (rev : Int) : Sto := ⟨s, rev, ([], [], 0), newE s rev, 0⟩
def newT (s : Spc) (rev : Int) : Sto := if newB s rev then newS s rev else zeroS
theorem own0 (w : World) : Jour.jty.Own w (fun _ => False) (.agg (joL ([], [], 0) none 0 0 none 0 0).toArray) ([], [], 0) :=
  ⟨none, 0, none, 0, rfl, ⟨rfl, by simp, ⟨rfl, .inl ⟨rfl, rfl⟩⟩⟩, ⟨rfl, by simp, ⟨rfl, .inl ⟨rfl, rfl⟩⟩⟩, fun k hk => by simp [Value.ownBlock] at hk, fun k hk => by simp [Value.ownBlock] at hk, fun k hk => by simp [Value.ownBlock] at hk⟩
set_option maxRecDepth 100000 in
set_option maxHeartbeats 6400000 in
theorem newStore_any (s : Spc) (rev : Int) (w : World) : Calls Try.prog 8 #[.agg (spL s).toArray, .int .i64 rev] w (Made1 sty (newT s rev) (.bool (newB s rev)) w) := by
  obtain ⟨r, hr⟩ : ∃ r, r = newB s rev := ⟨_, rfl⟩
  obtain ⟨D, hD⟩ : ∃ D, D = newT s rev := ⟨_, rfl⟩
  rw [← hr, ← hD]
  have HR := Lib.hid hr
  have HD := Lib.hid hD
  clear hr hD
  obtain ⟨V, hV⟩ : ∃ V, V = (w.alloc (.cells (spL s).toArray 24)).alloc (.cells #[.int .i64 0, .int .i64 0, .int .i64 0, .int .i64 0, .int .i64 0, .int .i64 0, .int .i64 0, .int .i64 0, .int .i64 0, .int .i64 0, .int .i64 0, .int .i64 0, .slice none 0 0, .slice none 0 0, .int .i64 0, .int .i64 0, .int .i64 0, .int .i64 0, .int .i64 0, .int .i64 0, .int .i64 0, .int .i64 0, .int .i64 0, .int .i64 0, .int .i64 0, .int .i64 0, .int .i64 0, .int .i64 0, .int .i64 0, .int .i64 0, .slice none 0 0, .int .i64 0, .int .i64 0, .int .i64 0, .int .i64 0, .int .i64 0] 34) := ⟨_, rfl⟩
  have HB : Hid (Below w.heap.size w V) := by rw [hV]; exact bel2 _ _ _
  have K : Hid (V.heap[w.heap.size]? = some (.cells (spL s).toArray 24 (0, 0))) := by rw [hV]; exact box_alloc (box_new w _) _
  have KR : Hid (V.heap[w.heap.size + 1]? = some (.cells (stL zeroS none 0 0 none 0 0 none 0 0).toArray 34 (0, 0))) := by rw [hV]; have h := box_new (w.alloc (.cells (spL s).toArray 24)) (.cells #[.int .i64 0, .int .i64 0, .int .i64 0, .int .i64 0, .int .i64 0, .int .i64 0, .int .i64 0, .int .i64 0, .int .i64 0, .int .i64 0, .int .i64 0, .int .i64 0, .slice none 0 0, .slice none 0 0, .int .i64 0, .int .i64 0, .int .i64 0, .int .i64 0, .int .i64 0, .int .i64 0, .int .i64 0, .int .i64 0, .int .i64 0, .int .i64 0, .int .i64 0, .int .i64 0, .int .i64 0, .int .i64 0, .int .i64 0, .int .i64 0, .slice none 0 0, .int .i64 0, .int .i64 0, .int .i64 0, .int .i64 0, .int .i64 0] 34); simp only [World.size_alloc] at h; exact h
  go_enter Try.func8, Try.ntmps8
  go_upto_region 1 with fail
  rw [← hV]
  clear hV
  go_wp2_with (refine wpList_get rfl 24 _ rfl w.heap.size 0 rfl K.out (spL s) List.take_length Try.underlying24 rfl (by kernel_rfl) ?_)
  refine (EngNew.newEngine_any s rev _).mono ?_
  have EN : Hid (EngNew.newD s rev = if r then newE s rev else zeroE) := by show _ = _; rw [HR.out]; rfl
  rw [EN.out, ← HR.out]
  rintro e w1 ⟨v, S, rfl, hO, hb⟩
  have hlt : w.heap.size + 1 < w1.heap.size := Nat.lt_of_lt_of_le (box_lt KR.out) hb.size
  have K1 := Lib.hid (box_below K.out hb)
  have KR1 := Lib.hid (box_below KR.out hb)
  have HB1 := Lib.hid (bel_then HB.out hb HB.out.size)
  have HLV : Hid (w.heap.size + 1 < V.heap.size) := box_lt KR.out
  clear K KR HB hb EN
  cases hq : r
  case false =>
    have HQ := Lib.hid hq
    rw [hq] at hO
    obtain ⟨A, c, rfl, -⟩ := hO.own
    clear hq hO
    have KE : Hid ((w1.alloc (.cells #[.int .i64 0, .int .i64 0, .int .i64 0, .int .i64 0, .int .i64 0, .int .i64 0, .int .i64 0, .int .i64 0, .int .i64 0, .int .i64 0, .int .i64 0, .int .i64 0, .int .i64 0, .int .i64 0, .int .i64 0, .slice none 0 0, .int .i64 0, .int .i64 0, .int .i64 0, .int .i64 0] 32)).heap[w1.heap.size]? = some (.cells (enL zeroE none 0 0).toArray 32 (0, 0))) := box_new w1 _
    go_upto_region 2 with (refine wpList_put rfl rfl 32 _ _ rfl w1.heap.size 0 (enL zeroE A 0 c) rfl rfl KE.out (by kernel_rfl) (enL zeroE A 0 c) rfl (Nat.le_of_ble_eq_true rfl) (enL_one _ _ _ _) ?_)
    obtain ⟨X, hX⟩ : ∃ X, X = (w1.alloc (.cells #[.int .i64 0, .int .i64 0, .int .i64 0, .int .i64 0, .int .i64 0, .int .i64 0, .int .i64 0, .int .i64 0, .int .i64 0, .int .i64 0, .int .i64 0, .int .i64 0, .int .i64 0, .int .i64 0, .int .i64 0, .slice none 0 0, .int .i64 0, .int .i64 0, .int .i64 0, .int .i64 0] 32)).setRow w1.heap.size (enL zeroE A 0 c).toArray := ⟨_, rfl⟩
    have KRX : Hid (X.heap[w.heap.size + 1]? = some (.cells (stL zeroS none 0 0 none 0 0 none 0 0).toArray 34 (0, 0))) := by rw [hX]; exact row_far (box_alloc KR1.out _) (by omega)
    have HBX : Hid (Below w.heap.size w X) := by rw [hX]; exact row_below (bel_then HB1.out (bel1 w1 _) HB1.out.size) w1.heap.size _ (by omega) (by simp; omega)
    rw [← hX]
    clear hX KE
    go_wp2_with (refine wpList_put rfl rfl 34 _ _ rfl (w.heap.size + 1) 0 (stL zeroS none 0 0 none 0 0 none 0 0) rfl rfl KRX.out (by kernel_rfl) (stL zeroS none 0 0 none 0 0 none 0 0) rfl (Nat.le_of_ble_eq_true rfl) (stL_one _ _ _ _ _ _ _ _ _ _) ?_)
    refine bodyPost_ret (v := .tuple #[.agg (stL zeroS none 0 0 none 0 0 none 0 0).toArray, .bool false]) (results_box_tmp Try.results8 _ rfl rfl (row_box KRX.out) Try.underlying34 rfl (by kernel_rfl)) rfl ?_
    rw [show D = zeroS by rw [HD.out]; unfold newT; rw [← HR.out, HQ.out]; rfl]
    refine ⟨_, fun _ => False, by rw [HQ.out], ⟨⟨none, 0, 0, none, 0, 0, none, 0, 0, fun _ => False, fun _ => False, rfl, own0 _, ⟨none, 0, rfl, OwnP.nil _ _, fun k hk => by simp [Value.ownBlock] at hk⟩, fun k hk => hk.elim, fun k hk => hk.elim, fun k hk => hk.elim⟩, fun k hk => hk.elim, Nat.le_refl _⟩, row_below HBX.out (w.heap.size + 1) _ (by omega) HBX.out.size⟩
  case true =>
    have HQ := Lib.hid hq
    rw [hq] at hO
    obtain ⟨A, c, rfl, ho, hs⟩ := hO.own
    have HO := Lib.hid ho
    have HS := Lib.hid hs
    have HI := Lib.hid hO.inn
    clear hq hO ho hs
    have KE : Hid ((w1.alloc (.cells #[.int .i64 0, .int .i64 0, .int .i64 0, .int .i64 0, .int .i64 0, .int .i64 0, .int .i64 0, .int .i64 0, .int .i64 0, .int .i64 0, .int .i64 0, .int .i64 0, .int .i64 0, .int .i64 0, .int .i64 0, .slice none 0 0, .int .i64 0, .int .i64 0, .int .i64 0, .int .i64 0] 32)).heap[w1.heap.size]? = some (.cells (enL zeroE none 0 0).toArray 32 (0, 0))) := box_new w1 _
    go_upto_region 2 with (refine wpList_put rfl rfl 32 _ _ rfl w1.heap.size 0 (enL (newE s rev) A 0 c) rfl rfl KE.out (by kernel_rfl) (enL (newE s rev) A 0 c) rfl (Nat.le_of_ble_eq_true rfl) (enL_one _ _ _ _) ?_)
    obtain ⟨X, hX⟩ : ∃ X, X = (w1.alloc (.cells #[.int .i64 0, .int .i64 0, .int .i64 0, .int .i64 0, .int .i64 0, .int .i64 0, .int .i64 0, .int .i64 0, .int .i64 0, .int .i64 0, .int .i64 0, .int .i64 0, .int .i64 0, .int .i64 0, .int .i64 0, .slice none 0 0, .int .i64 0, .int .i64 0, .int .i64 0, .int .i64 0] 32)).setRow w1.heap.size (enL (newE s rev) A 0 c).toArray := ⟨_, rfl⟩
    have KRX : Hid (X.heap[w.heap.size + 1]? = some (.cells (stL zeroS none 0 0 none 0 0 none 0 0).toArray 34 (0, 0))) := by rw [hX]; exact row_far (box_alloc KR1.out _) (by omega)
    have KX : Hid (X.heap[w.heap.size]? = some (.cells [.int .i64 s.x0, .int .i64 s.x1, .int .i64 s.x2, .int .i64 s.x3, .int .i64 s.x4, .int .i64 s.x5, .int .i64 s.x6, .int .i64 s.x7, .int .i64 s.x8, .int .i64 s.x9, .int .i64 s.x10].toArray 24 (0, 0))) := by rw [hX]; exact row_far (box_alloc K1.out _) (by omega)
    have KEX : Hid (X.heap[w1.heap.size]? = some (.cells [.int .i64 s.x0, .int .i64 s.x1, .int .i64 s.x2, .int .i64 s.x3, .int .i64 s.x4, .int .i64 s.x5, .int .i64 s.x6, .int .i64 s.x7, .int .i64 s.x8, .int .i64 s.x9, .int .i64 s.x10, .int .i64 0, .int .i64 0, .int .i64 rev, .int .i64 rev, .slice A 0 c, .int .i64 1, .int .i64 0, .int .i64 0, .int .i64 0].toArray 32 (0, 0))) := by rw [hX]; exact row_box KE.out
    have HBX : Hid (Below w.heap.size w X) := by rw [hX]; exact row_below (bel_then HB1.out (bel1 w1 _) HB1.out.size) w1.heap.size _ (by omega) (by simp; omega)
    have HOX : Hid (OwnP X 0 A 0 c []) := by
      rw [hX]
      exact (HO.out.same (fun k hk => ((Below.heap_alloc w1 _ k (by have := HI.out k (HS.out k hk); omega)))) ).same (fun k hk => setRow_other _ _ _ _ (by have := HI.out k (HS.out k hk); omega))
    have hsz : w1.heap.size < X.heap.size := box_lt KEX.out
    rw [← hX]
    clear hX KE K1 KR1 HB1 HO
    go_wp2_with (first | (refine wpList_get rfl 24 _ rfl w.heap.size 0 rfl KX.out [.int .i64 s.x0, .int .i64 s.x1, .int .i64 s.x2, .int .i64 s.x3, .int .i64 s.x4, .int .i64 s.x5, .int .i64 s.x6, .int .i64 s.x7, .int .i64 s.x8, .int .i64 s.x9, .int .i64 s.x10] List.take_length Try.underlying24 rfl (by kernel_rfl) ?_) | (refine wpList_get rfl 32 _ rfl w1.heap.size 0 rfl KEX.out [.int .i64 s.x0, .int .i64 s.x1, .int .i64 s.x2, .int .i64 s.x3, .int .i64 s.x4, .int .i64 s.x5, .int .i64 s.x6, .int .i64 s.x7, .int .i64 s.x8, .int .i64 s.x9, .int .i64 s.x10, .int .i64 0, .int .i64 0, .int .i64 rev, .int .i64 rev, .slice A 0 c, .int .i64 1, .int .i64 0, .int .i64 0, .int .i64 0] List.take_length Try.underlying32 rfl (by kernel_rfl) ?_) | (refine wpList_put rfl rfl 34 _ _ rfl (w.heap.size + 1) 0 (stL (newS s rev) none 0 0 none 0 0 A 0 c) rfl rfl KRX.out (by kernel_rfl) (stL (newS s rev) none 0 0 none 0 0 A 0 c) rfl (Nat.le_of_ble_eq_true rfl) (stL_one _ _ _ _ _ _ _ _ _ _) ?_))
    refine bodyPost_ret (v := .tuple #[.agg (stL (newS s rev) none 0 0 none 0 0 A 0 c).toArray, .bool true]) (results_box_tmp Try.results8 _ rfl rfl (row_box KRX.out) Try.underlying34 rfl (by kernel_rfl)) rfl ?_
    rw [show D = newS s rev by rw [HD.out]; unfold newT; rw [← HR.out, HQ.out]; rfl]
    refine ⟨_, S, by rw [HQ.out], ⟨⟨none, 0, 0, none, 0, 0, A, 0, c, fun _ => False, S, rfl, own0 _, ⟨A, c, rfl, HOX.out.same fun k hk => setRow_other _ _ _ _ ?_, HS.out⟩, fun k hk => hk.elim, fun k hk => hk, fun k hk => hk.elim⟩, fun k hk => ?_, Nat.le_refl _⟩, row_below HBX.out (w.heap.size + 1) _ (by omega) HBX.out.size⟩
    · have := HI.out k (HS.out k hk); have := HLV.out; omega
    · have := HI.out k hk; have := HLV.out; simp; omega
set_option maxRecDepth 100000 in
set_option maxHeartbeats 6400000 in
theorem specNewStore_any (s : Spc) (rev : Int) (w : World) : Calls Try.prog 6 #[.agg (spL s).toArray, .int .i64 rev] w (Made1 sty (newT s rev) (.bool (newB s rev)) w) := by
  obtain ⟨r, hr⟩ : ∃ r, r = newB s rev := ⟨_, rfl⟩
  obtain ⟨D, hD⟩ : ∃ D, D = newT s rev := ⟨_, rfl⟩
  rw [← hr, ← hD]
  have HR := Lib.hid hr
  have HD := Lib.hid hD
  clear hr hD
  obtain ⟨V, hV⟩ : ∃ V, V = (w.alloc (.cells (spL s).toArray 24)).alloc (.cells #[.int .i64 0, .int .i64 0, .int .i64 0, .int .i64 0, .int .i64 0, .int .i64 0, .int .i64 0, .int .i64 0, .int .i64 0, .int .i64 0, .int .i64 0, .int .i64 0, .slice none 0 0, .slice none 0 0, .int .i64 0, .int .i64 0, .int .i64 0, .int .i64 0, .int .i64 0, .int .i64 0, .int .i64 0, .int .i64 0, .int .i64 0, .int .i64 0, .int .i64 0, .int .i64 0, .int .i64 0, .int .i64 0, .int .i64 0, .int .i64 0, .slice none 0 0, .int .i64 0, .int .i64 0, .int .i64 0, .int .i64 0, .int .i64 0] 34) := ⟨_, rfl⟩
  have HB : Hid (Below w.heap.size w V) := by rw [hV]; exact bel2 _ _ _
  have K : Hid (V.heap[w.heap.size]? = some (.cells (spL s).toArray 24 (0, 0))) := by rw [hV]; exact box_alloc (box_new w _) _
  have KR : Hid (V.heap[w.heap.size + 1]? = some (.cells (stL zeroS none 0 0 none 0 0 none 0 0).toArray 34 (0, 0))) := by rw [hV]; have h := box_new (w.alloc (.cells (spL s).toArray 24)) (.cells #[.int .i64 0, .int .i64 0, .int .i64 0, .int .i64 0, .int .i64 0, .int .i64 0, .int .i64 0, .int .i64 0, .int .i64 0, .int .i64 0, .int .i64 0, .int .i64 0, .slice none 0 0, .slice none 0 0, .int .i64 0, .int .i64 0, .int .i64 0, .int .i64 0, .int .i64 0, .int .i64 0, .int .i64 0, .int .i64 0, .int .i64 0, .int .i64 0, .int .i64 0, .int .i64 0, .int .i64 0, .int .i64 0, .int .i64 0, .int .i64 0, .slice none 0 0, .int .i64 0, .int .i64 0, .int .i64 0, .int .i64 0, .int .i64 0] 34); simp only [World.size_alloc] at h; exact h
  go_enter Try.func6, Try.ntmps6
  go_upto_region 1 with fail
  rw [← hV]
  clear hV
  go_wp2_with (refine wpList_get rfl 24 _ rfl w.heap.size 0 rfl K.out (spL s) List.take_length Try.underlying24 rfl (by kernel_rfl) ?_)
  refine (EngNew.specNewEngine_any s rev _).mono ?_
  have EN : Hid (EngNew.newD s rev = if r then newE s rev else zeroE) := by show _ = _; rw [HR.out]; rfl
  rw [EN.out, ← HR.out]
  rintro e w1 ⟨v, S, rfl, hO, hb⟩
  have hlt : w.heap.size + 1 < w1.heap.size := Nat.lt_of_lt_of_le (box_lt KR.out) hb.size
  have K1 := Lib.hid (box_below K.out hb)
  have KR1 := Lib.hid (box_below KR.out hb)
  have HB1 := Lib.hid (bel_then HB.out hb HB.out.size)
  have HLV : Hid (w.heap.size + 1 < V.heap.size) := box_lt KR.out
  clear K KR HB hb EN
  cases hq : r
  case false =>
    have HQ := Lib.hid hq
    rw [hq] at hO
    obtain ⟨A, c, rfl, -⟩ := hO.own
    clear hq hO
    have KE : Hid ((w1.alloc (.cells #[.int .i64 0, .int .i64 0, .int .i64 0, .int .i64 0, .int .i64 0, .int .i64 0, .int .i64 0, .int .i64 0, .int .i64 0, .int .i64 0, .int .i64 0, .int .i64 0, .int .i64 0, .int .i64 0, .int .i64 0, .slice none 0 0, .int .i64 0, .int .i64 0, .int .i64 0, .int .i64 0] 32)).heap[w1.heap.size]? = some (.cells (enL zeroE none 0 0).toArray 32 (0, 0))) := box_new w1 _
    go_upto_region 2 with (refine wpList_put rfl rfl 32 _ _ rfl w1.heap.size 0 (enL zeroE A 0 c) rfl rfl KE.out (by kernel_rfl) (enL zeroE A 0 c) rfl (Nat.le_of_ble_eq_true rfl) (enL_one _ _ _ _) ?_)
    obtain ⟨X, hX⟩ : ∃ X, X = (w1.alloc (.cells #[.int .i64 0, .int .i64 0, .int .i64 0, .int .i64 0, .int .i64 0, .int .i64 0, .int .i64 0, .int .i64 0, .int .i64 0, .int .i64 0, .int .i64 0, .int .i64 0, .int .i64 0, .int .i64 0, .int .i64 0, .slice none 0 0, .int .i64 0, .int .i64 0, .int .i64 0, .int .i64 0] 32)).setRow w1.heap.size (enL zeroE A 0 c).toArray := ⟨_, rfl⟩
    have KRX : Hid (X.heap[w.heap.size + 1]? = some (.cells (stL zeroS none 0 0 none 0 0 none 0 0).toArray 34 (0, 0))) := by rw [hX]; exact row_far (box_alloc KR1.out _) (by omega)
    have HBX : Hid (Below w.heap.size w X) := by rw [hX]; exact row_below (bel_then HB1.out (bel1 w1 _) HB1.out.size) w1.heap.size _ (by omega) (by simp; omega)
    rw [← hX]
    clear hX KE
    go_wp2_with (refine wpList_put rfl rfl 34 _ _ rfl (w.heap.size + 1) 0 (stL zeroS none 0 0 none 0 0 none 0 0) rfl rfl KRX.out (by kernel_rfl) (stL zeroS none 0 0 none 0 0 none 0 0) rfl (Nat.le_of_ble_eq_true rfl) (stL_one _ _ _ _ _ _ _ _ _ _) ?_)
    refine bodyPost_ret (v := .tuple #[.agg (stL zeroS none 0 0 none 0 0 none 0 0).toArray, .bool false]) (results_box_tmp Try.results6 _ rfl rfl (row_box KRX.out) Try.underlying34 rfl (by kernel_rfl)) rfl ?_
    rw [show D = zeroS by rw [HD.out]; unfold newT; rw [← HR.out, HQ.out]; rfl]
    refine ⟨_, fun _ => False, by rw [HQ.out], ⟨⟨none, 0, 0, none, 0, 0, none, 0, 0, fun _ => False, fun _ => False, rfl, own0 _, ⟨none, 0, rfl, OwnP.nil _ _, fun k hk => by simp [Value.ownBlock] at hk⟩, fun k hk => hk.elim, fun k hk => hk.elim, fun k hk => hk.elim⟩, fun k hk => hk.elim, Nat.le_refl _⟩, row_below HBX.out (w.heap.size + 1) _ (by omega) HBX.out.size⟩
  case true =>
    have HQ := Lib.hid hq
    rw [hq] at hO
    obtain ⟨A, c, rfl, ho, hs⟩ := hO.own
    have HO := Lib.hid ho
    have HS := Lib.hid hs
    have HI := Lib.hid hO.inn
    clear hq hO ho hs
    have KE : Hid ((w1.alloc (.cells #[.int .i64 0, .int .i64 0, .int .i64 0, .int .i64 0, .int .i64 0, .int .i64 0, .int .i64 0, .int .i64 0, .int .i64 0, .int .i64 0, .int .i64 0, .int .i64 0, .int .i64 0, .int .i64 0, .int .i64 0, .slice none 0 0, .int .i64 0, .int .i64 0, .int .i64 0, .int .i64 0] 32)).heap[w1.heap.size]? = some (.cells (enL zeroE none 0 0).toArray 32 (0, 0))) := box_new w1 _
    go_upto_region 2 with (refine wpList_put rfl rfl 32 _ _ rfl w1.heap.size 0 (enL (newE s rev) A 0 c) rfl rfl KE.out (by kernel_rfl) (enL (newE s rev) A 0 c) rfl (Nat.le_of_ble_eq_true rfl) (enL_one _ _ _ _) ?_)
    obtain ⟨X, hX⟩ : ∃ X, X = (w1.alloc (.cells #[.int .i64 0, .int .i64 0, .int .i64 0, .int .i64 0, .int .i64 0, .int .i64 0, .int .i64 0, .int .i64 0, .int .i64 0, .int .i64 0, .int .i64 0, .int .i64 0, .int .i64 0, .int .i64 0, .int .i64 0, .slice none 0 0, .int .i64 0, .int .i64 0, .int .i64 0, .int .i64 0] 32)).setRow w1.heap.size (enL (newE s rev) A 0 c).toArray := ⟨_, rfl⟩
    have KRX : Hid (X.heap[w.heap.size + 1]? = some (.cells (stL zeroS none 0 0 none 0 0 none 0 0).toArray 34 (0, 0))) := by rw [hX]; exact row_far (box_alloc KR1.out _) (by omega)
    have KX : Hid (X.heap[w.heap.size]? = some (.cells [.int .i64 s.x0, .int .i64 s.x1, .int .i64 s.x2, .int .i64 s.x3, .int .i64 s.x4, .int .i64 s.x5, .int .i64 s.x6, .int .i64 s.x7, .int .i64 s.x8, .int .i64 s.x9, .int .i64 s.x10].toArray 24 (0, 0))) := by rw [hX]; exact row_far (box_alloc K1.out _) (by omega)
    have KEX : Hid (X.heap[w1.heap.size]? = some (.cells [.int .i64 s.x0, .int .i64 s.x1, .int .i64 s.x2, .int .i64 s.x3, .int .i64 s.x4, .int .i64 s.x5, .int .i64 s.x6, .int .i64 s.x7, .int .i64 s.x8, .int .i64 s.x9, .int .i64 s.x10, .int .i64 0, .int .i64 0, .int .i64 rev, .int .i64 rev, .slice A 0 c, .int .i64 1, .int .i64 0, .int .i64 0, .int .i64 0].toArray 32 (0, 0))) := by rw [hX]; exact row_box KE.out
    have HBX : Hid (Below w.heap.size w X) := by rw [hX]; exact row_below (bel_then HB1.out (bel1 w1 _) HB1.out.size) w1.heap.size _ (by omega) (by simp; omega)
    have HOX : Hid (OwnP X 0 A 0 c []) := by
      rw [hX]
      exact (HO.out.same (fun k hk => ((Below.heap_alloc w1 _ k (by have := HI.out k (HS.out k hk); omega)))) ).same (fun k hk => setRow_other _ _ _ _ (by have := HI.out k (HS.out k hk); omega))
    have hsz : w1.heap.size < X.heap.size := box_lt KEX.out
    rw [← hX]
    clear hX KE K1 KR1 HB1 HO
    go_wp2_with (first | (refine wpList_get rfl 24 _ rfl w.heap.size 0 rfl KX.out [.int .i64 s.x0, .int .i64 s.x1, .int .i64 s.x2, .int .i64 s.x3, .int .i64 s.x4, .int .i64 s.x5, .int .i64 s.x6, .int .i64 s.x7, .int .i64 s.x8, .int .i64 s.x9, .int .i64 s.x10] List.take_length Try.underlying24 rfl (by kernel_rfl) ?_) | (refine wpList_get rfl 32 _ rfl w1.heap.size 0 rfl KEX.out [.int .i64 s.x0, .int .i64 s.x1, .int .i64 s.x2, .int .i64 s.x3, .int .i64 s.x4, .int .i64 s.x5, .int .i64 s.x6, .int .i64 s.x7, .int .i64 s.x8, .int .i64 s.x9, .int .i64 s.x10, .int .i64 0, .int .i64 0, .int .i64 rev, .int .i64 rev, .slice A 0 c, .int .i64 1, .int .i64 0, .int .i64 0, .int .i64 0] List.take_length Try.underlying32 rfl (by kernel_rfl) ?_) | (refine wpList_put rfl rfl 34 _ _ rfl (w.heap.size + 1) 0 (stL (newS s rev) none 0 0 none 0 0 A 0 c) rfl rfl KRX.out (by kernel_rfl) (stL (newS s rev) none 0 0 none 0 0 A 0 c) rfl (Nat.le_of_ble_eq_true rfl) (stL_one _ _ _ _ _ _ _ _ _ _) ?_))
    refine bodyPost_ret (v := .tuple #[.agg (stL (newS s rev) none 0 0 none 0 0 A 0 c).toArray, .bool true]) (results_box_tmp Try.results6 _ rfl rfl (row_box KRX.out) Try.underlying34 rfl (by kernel_rfl)) rfl ?_
    rw [show D = newS s rev by rw [HD.out]; unfold newT; rw [← HR.out, HQ.out]; rfl]
    refine ⟨_, S, by rw [HQ.out], ⟨⟨none, 0, 0, none, 0, 0, A, 0, c, fun _ => False, S, rfl, own0 _, ⟨A, c, rfl, HOX.out.same fun k hk => setRow_other _ _ _ _ ?_, HS.out⟩, fun k hk => hk.elim, fun k hk => hk, fun k hk => hk.elim⟩, fun k hk => ?_, Nat.le_refl _⟩, row_below HBX.out (w.heap.size + 1) _ (by omega) HBX.out.size⟩
    · have := HI.out k (HS.out k hk); have := HLV.out; omega
    · have := HI.out k hk; have := HLV.out; simp; omega
end Go.Proofs.Ytklgjjmcflgjeaa.StoNew
