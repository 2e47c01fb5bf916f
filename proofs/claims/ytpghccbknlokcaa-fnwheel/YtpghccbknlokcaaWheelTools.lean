/-
  THE CONTRACTS of the laws' within, same and without over this seat's translation.
-/
import Derived.Test.YtpghccbknlokcaaPairs
import Derived.Test.YtpghccbknlokcaaIntMark
namespace Go.Proofs.Ytpghccbknlokcaa.WheelOk
open Go.ChangeShapes Go.WideShapes Go.ChangeAt Go.RowKit Go.Shelf
open Go.Proofs.Ytpghccbknlokcaa.Timers Go.Proofs.Ytpghccbknlokcaa.Ring Go.Proofs.Ytpghccbknlokcaa.Has Go.Proofs.Ytpghccbknlokcaa.Ints
set_option linter.unusedVariables false

set_option maxHeartbeats 800000 in
theorem within_any (A : Option Addr) (n c : Nat) (zs : List Int) (x : Int) (B : Nat) (w : World) (hr : IsInts w B A n zs) (hn : n ≤ 1048576) :
    Calls Try.prog 13 #[.slice A n c, .int .i64 x] w fun e w' => e = .returned (.bool (hasB zs x)) ∧ w = w' := by
  have HL : Hid (zs.length = n) := hr.1
  go_enter Try.func13, Try.ntmps13
  go_wp2_with fail
  go_loop [5] (fun i => ∃ k : Nat, k ≤ n ∧ i = .int .i64 k ∧ Hid (∀ j, j < k → zs.getD j 0 ≠ x)) (fun i => n - (intOf i).toNat)
  case atStart => exact ⟨0, Nat.zero_le _, rfl, fun j hj => absurd hj (by omega)⟩
  case round =>
    obtain ⟨k, hk, rfl, HF⟩ := hrel
    by_cases hlt : k < n
    · obtain ⟨b, off, z, rfl, hbB, hz, hc⟩ := hr.at_ hlt
      have HZ := Lib.hid hz
      clear hz
      cases he : (z == x)
      · go_wp2
        go_round
        case rel =>
          refine ⟨k + 1, by omega, by go_num, fun j hj => ?_⟩
          by_cases h : j = k
          · subst h
            rw [← HZ.out]
            simpa using he
          · exact HF.out j (by omega)
        case measure => simp [intOf]; omega
      · have HB : Hid (hasB zs x = true) := has_some k (by rw [HL.out]; exact hlt) (by rw [← HZ.out]; simpa using he)
        go_wp2
        go_ret
        rw [HB.out]
        exact ⟨rfl, rfl⟩
    · have HB : Hid (hasB zs x = false) := has_none fun j hj => HF.out j (by rw [HL.out] at hj; omega)
      go_wp2
      go_ret
      rw [HB.out]
      exact ⟨rfl, rfl⟩

set_option maxHeartbeats 800000 in
theorem same_any (A C : Option Addr) (n cap cap' : Nat) (zs : List Int) (B B' : Nat) (w : World) (hr : IsInts w B A n zs) (hs : IsInts w B' C n zs) (hn : n ≤ 1048576) :
    Calls Try.prog 15 #[.slice A n cap, .slice C n cap'] w fun e w' => e = .returned (.bool true) ∧ ∃ m, w' = w.drewN m := by
  go_enter Try.func15, Try.ntmps15
  go_wp2_with fail
  go_loopw [5] (fun i wr => ∃ k m : Nat, k ≤ n ∧ i = .int .i64 k ∧ wr = w.drewN m) (fun i _ => n - (intOf i).toNat)
  case atStart => exact ⟨0, 0, Nat.zero_le _, rfl, rfl⟩
  case round =>
    obtain ⟨k, m, hk, rfl, rfl⟩ := hrel
    by_cases hlt : k < n
    · obtain ⟨b, off, z, rfl, hbB, hz, hc⟩ := hr.at_ hlt
      obtain ⟨b2, off2, z2, rfl, hbB2, hz2, hc2⟩ := hs.at_ hlt
      obtain rfl : z = z2 := by rw [hz, hz2]
      clear hz hz2 hr hs
      go_wp2
      go_quiet (fail)
      go_wp2
      go_roundw
      case rel => exact ⟨k + 1, _, by omega, by go_num, rfl⟩
      case measure => simp [intOf]; omega
    · go_wp2
      go_ret
      exact ⟨rfl, m, rfl⟩

/-- Two lists of ints of one's own that share no block. -/
def OwnII (w : World) (base : Nat) (A C : Option Addr) (n c d : Nat) (xs ys : List Int) : Prop :=
  OwnI w base A n c xs ∧ OwnI w base C n d ys ∧ ((Value.slice A n c).ownBlock = none ∨ (Value.slice A n c).ownBlock ≠ (Value.slice C n d).ownBlock)

set_option maxRecDepth 100000 in
set_option maxHeartbeats 1600000 in
theorem without_any (A C : Option Addr) (n c d : Nat) (ps : TList) (x : Int) (B : Nat) (w : World) (hr : IsInts w B A n (ps.map Prod.fst)) (hs : IsInts w B C n (ps.map Prod.snd)) (hB : B ≤ w.heap.size) (hn : n ≤ 1048576) :
    Calls Try.prog 11 #[.slice A n c, .slice C n d, .int .i64 x] w fun e w' =>
      ∃ A1 C1 c1 d1, e = .returned (.tuple #[.slice A1 (offL x ps).length c1, .slice C1 (offL x ps).length d1]) ∧ OwnII w' w.heap.size A1 C1 (offL x ps).length c1 d1 ((offL x ps).map Prod.fst) ((offL x ps).map Prod.snd) ∧ Below w.heap.size w w' := by
  have HL : Hid (ps.length = n) := by have h5 := hr.1; rw [List.length_map] at h5; exact h5
  have HR := Lib.hid hr
  have HS := Lib.hid hs
  obtain ⟨iI, hiI, hI0, hI1, hI2⟩ := info_parts infoInt
  clear hr hs
  go_enter Try.func11, Try.ntmps11
  go_wp2_with fail
  go_loopw [8, 9, 10] (fun v8 v9 v10 wr => ∃ (j r : Nat) (A1 C1 : Option Addr) (c1 d1 : Nat), v8 = .slice A1 r c1 ∧ v9 = .slice C1 r d1 ∧ v10 = .int .i64 j ∧ j ≤ n ∧ r ≤ j ∧ Hid (OwnII wr w.heap.size A1 C1 r c1 d1 ((offL x (ps.take j)).map Prod.fst) ((offL x (ps.take j)).map Prod.snd)) ∧ Below w.heap.size w wr) (fun _ _ v10 _ => n - (intOf v10).toNat)
  case atStart =>
    refine ⟨0, 0, _, _, 0, 0, rfl, rfl, rfl, Nat.zero_le _, Nat.le_refl _, ⟨⟨rfl, ?_⟩, ⟨rfl, ?_⟩, .inr ?_⟩, below_a2 _ _ _⟩
    · exact own_below (World.ownsRow_lit (base := w.heap.size) (e := 3) (size := 1) w #[] 0 (Nat.le_refl _) (Nat.zero_le _) rfl) (below_a1 _ _)
    · have h5 := World.ownsRow_lit (base := w.heap.size) (e := 3) (size := 1) (w.alloc (.cells #[] 3)) #[] 0 (by simp) (Nat.zero_le _) rfl
      rw [World.size_alloc] at h5
      exact h5
    · simp [Value.ownBlock]
  case round =>
    obtain ⟨j, r, A1, C1, c1, d1, rfl, rfl, rfl, hj, hrj, HO, hb⟩ := hrel
    have hsz := hb.size
    by_cases hlt : j < n
    · obtain ⟨b1, off1, z, rfl, hbB, hz, hc⟩ := (HR.out.below hb hB).at_ hlt
      obtain ⟨b2, off2, y, rfl, hbB2, hy, hc2⟩ := (HS.out.below hb hB).at_ hlt
      have hjl : j < ps.length := by rw [HL.out]; exact hlt
      have HZY : Hid (ps.getD j (0, 0) = (z, y)) := by
        show _ = _
        rw [hz, hy]
        simp [List.getD, hjl]
      have HSN := Lib.hid (off_snoc x ps j hjl)
      have hl1 : b1 < wr.heap.size := by omega
      have hl2 : b2 < wr.heap.size := by omega
      clear hz hy
      cases he : (z == x)
      · have hne : (z != x) = true := by simp [bne, he]
        have HN : Hid (offL x (ps.take (j + 1)) = offL x (ps.take j) ++ [(z, y)]) := by show _ = _; rw [HSN.out, HZY.out, he]; rfl
        go_wp2_with (at_builtin; refine wpList_append_lies _ rfl (.tmp 25) (.tmp 30) _ rfl w.heap.size 3 iI _ 1 8 Try.underlying30 hiI hI0 hI1 hI2 rfl (by omega) (.slice A1 r c1) r _ rfl (by exact (HO.out.1.alloc _).2) ⟨wr.heap.size, 0, none⟩ 1 1 [.int .i64 z] rfl rfl ?o2 ?o3 (by omega) ?o4 ?o5 ?o6 (wr.heap.size + 1) ?o7 ?_)
        case o2 => exact World.news_of_block (cs := #[.int .i64 z]) (heap_alloc_new wr _)
        case o3 => intro u hu; simp at hu; subst hu; rfl
        case o4 => unfold maxLen; omega
        case o5 => omega
        case o6 => simp; omega
        case o7 => simp
        intro g2 cap2 w2 hown2 hgr2 hat2 hlt2
        have hsz2 := hgr2.size
        rw [World.size_alloc] at hsz2
        have hC2 : OwnI w2 w.heap.size C1 r d1 ((offL x (ps.take j)).map Prod.snd) := by
          refine (HO.out.2.1.alloc _).grown hgr2 ?_
          rcases HO.out.2.2 with h | h
          · rw [h]
            cases hq : (Value.slice C1 r d1).ownBlock <;> simp
          · exact .inr (Ne.symm h)
        have hb2 : Below w.heap.size w w2 := (hb.alloc hsz _).grown hgr2 (by simp; omega) (fun q hq => (HO.out.1.lt q hq).1)
        have hcA := hb2
        have HC2 := Lib.hid hC2
        have HOWN := Lib.hid hown2
        have hap : some g2 ≠ (Value.slice C1 r d1).ownBlock := by
          intro e
          rcases hat2 with h | h
          · rcases HO.out.2.2 with h5 | h5
            · rw [h5] at h; cases h
            · exact h5 (h.trans e)
          · have := (HO.out.2.1.lt g2 e.symm).2
            omega
        have hk2 : w2.cell? ⟨b2, off2 + j, none⟩ = some (.int .i64 y) := by
          have h5 := ((HS.out.below hb2 hB).at_ hlt)
          obtain ⟨b3, off3, y3, e3, _, hy3, hc3⟩ := h5
          injection e3 with e3
          injection e3 with e31 e32
          subst e31 e32
          have hyy : y3 = y := by
            rw [hy3]
            have h6 := HZY.out
            simp [List.getD, hjl] at h6 ⊢
            rw [h6]
          rw [← hyy]
          exact hc3
        have hl22 : b2 < w2.heap.size := by omega
        clear hC2 hown2 hgr2 hat2
        go_wp2_with (at_builtin; refine wpList_append_lies _ rfl (.tmp 32) (.tmp 37) _ rfl w.heap.size 3 iI _ 1 8 Try.underlying30 hiI hI0 hI1 hI2 rfl (by omega) (.slice C1 r d1) r _ rfl (by exact (HC2.out.alloc _).2) ⟨w2.heap.size, 0, none⟩ 1 1 [.int .i64 y] rfl rfl ?p2 ?p3 (by omega) ?p4 ?p5 ?p6 (w2.heap.size + 1) ?p7 ?_)
        case p2 => exact World.news_of_block (cs := #[.int .i64 y]) (heap_alloc_new w2 _)
        case p3 => intro u hu; simp at hu; subst hu; rfl
        case p4 => unfold maxLen; omega
        case p5 => omega
        case p6 => simp; omega
        case p7 => simp
        intro g3 cap3 w3 hown3 hgr3 hat3 hlt3
        have hsz3 := hgr3.size
        rw [World.size_alloc] at hsz3
        have hap2 : some g2 ≠ some g3 := by
          intro e
          rcases hat3 with h | h
          · exact hap (e.trans h.symm)
          · injection e with e
            omega
        have hA3 := (own_below HOWN.out (below_a1 w2 (.cells #[.int .i64 y] 3))).kept hgr3 (.inr (by show some g2 ≠ _; exact hap))
        have hb3 : Below w.heap.size w w3 := (hb2.alloc hb2.size _).grown hgr3 (by have := hb2.size; simp; omega) (fun q hq => (HC2.out.lt q hq).1)
        have HNN : Hid (OwnII w3 w.heap.size (some ⟨g2, 0, none⟩) (some ⟨g3, 0, none⟩) (r + 1) cap2 cap3 ((offL x (ps.take (j + 1))).map Prod.fst) ((offL x (ps.take (j + 1))).map Prod.snd)) := by
          rw [HN.out]
          have hl0 := HO.out.1.1
          rw [List.length_map] at hl0
          refine ⟨⟨by simp [hl0], ?_⟩, ⟨by simp [hl0], ?_⟩, .inr hap2⟩
          · simp only [List.map_append, List.map_cons, List.map_nil, List.map_map] at hA3 ⊢
            exact hA3
          · simp only [List.map_append, List.map_cons, List.map_nil, List.map_map] at hown3 ⊢
            exact hown3
        clear hown3 hgr3 hat3 hA3 hap hap2
        go_wp2_with fail
        go_roundw
        case rel => exact ⟨j + 1, r + 1, _, _, cap2, cap3, rfl, rfl, by go_num, by omega, by omega, HNN, hb3⟩
        case measure => simp [intOf]; omega
      · have hne : (z != x) = false := by simp [bne, he]
        have HN : Hid (offL x (ps.take (j + 1)) = offL x (ps.take j)) := by show _ = _; rw [HSN.out, HZY.out, he]; rfl
        go_wp2_with fail
        go_roundw
        case rel => exact ⟨j + 1, r, A1, C1, c1, d1, rfl, rfl, by go_num, by omega, by omega, by rw [HN.out]; exact HO, hb⟩
        case measure => simp [intOf]; omega
    · have HJ : Hid (ps.take j = ps) := List.take_of_length_le (by rw [HL.out]; omega)
      have HQ : Hid ((offL x ps).length = r) := by have h5 := HO.out.1.1; rw [HJ.out, List.length_map] at h5; exact h5
      go_wp2_with fail
      refine bodyPost_ret (v := .tuple #[.slice A1 r c1, .slice C1 r d1]) (by simp [results, Try.results11, go_sem]) rfl ⟨A1, C1, c1, d1, by rw [HQ.out], ?_, hb⟩
      have h5 := HO.out
      rw [HJ.out] at h5
      rw [HQ.out]
      exact h5
end Go.Proofs.Ytpghccbknlokcaa.WheelOk
