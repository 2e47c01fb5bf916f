/-
  THE PROGRAM'S CREW over this seat's translation: what within, revOk, podOk, told and fleet answer; a crew is a map of pods by their numbers.
-/
import Derived.Test.YtlghdmakaocokaaGreatDoorFleetV
import Derived.Test.YtlghdmakaocokaaGreatDoorFleetTy
import Derived.Test.YtlghdmakaocokaaGreatDoorTick
import Derived.Test.YtlghdmakaocokaaGreatDoorHas
import Derived.Test.YtlghdmakaocokaaGreatDoorShelfF
import Derived.Maps.RangeWalk
import Derived.Deep.AppendLies
namespace Go.Proofs.YtlghdmakaocokaaGreatDoor.Crew
open Go.ChangeShapes Go.WideShapes Go.ChangeAt Go.RowKit Go.Maps Go.Sort Go.Shelf
open Go.Proofs.YtlghdmakaocokaaGreatDoor.LK Go.Proofs.YtlghdmakaocokaaGreatDoor.Pods Go.Proofs.YtlghdmakaocokaaGreatDoor.FleetV Go.Proofs.YtlghdmakaocokaaGreatDoor.Has Go.Proofs.YtlghdmakaocokaaGreatDoor.Ints
open Go.Proofs.YtlghdmakaocokaaGreatDoor.Rec (ownI_base)
open Go.Proofs.YtlghdmakaocokaaGreatDoor.Tick (inB in_t in_f tokB tok_t tok_f tickOk_any)
set_option linter.unusedVariables false

theorem law : Keyed Tryz.prog 3 := int_keyed Tryz.underlying3
theorem zeroP (w : World) : (zeroValue 51).run Tryz.prog w = .ok (.agg #[.int .i64 0, .int .i64 0, .int .i64 0, .int .i64 0, .int .i64 0]) w := by kernel_rfl
theorem row_ne {w : World} {base base' : Nat} {e e' : TypeId} {size size' n n' : Nat} {u v : Value} {xs ys : List Value} (h : w.ownsRow base e size u n xs) (h' : w.ownsRow base' e' size' v n' ys) (hne : e ≠ e') : u.ownBlock = none ∨ u.ownBlock ≠ v.ownBlock := by
  cases hu : u.ownBlock with
  | none => exact .inl rfl
  | some g =>
    refine .inr fun hv => ?_
    rcases h.2 with ⟨rfl, _⟩ | ⟨g1, cap1, cur1, rfl, _, hh1, _⟩
    · simp [Value.ownBlock] at hu
    · rcases h'.2 with ⟨rfl, _⟩ | ⟨g2, cap2, cur2, rfl, _, hh2, _⟩
      · simp [Value.ownBlock] at hv
      · simp [Value.ownBlock] at hu hv
        subst hu hv
        rw [hh1] at hh2
        injection hh2 with h3
        injection h3 with _ h4
        exact hne h4
theorem id_wf {x : Int} (h : 0 ≤ x ∧ x ≤ 1000000000) : (Lit.int .i64 x).wf = true := by
  simp [Lit.wf, IntKind.min, IntKind.max, IntKind.signed, IntKind.bits]; omega

theorem within_any (x lo hi : Int) (w : World) :
    Calls Tryz.prog 46 #[.int .i64 x, .int .i64 lo, .int .i64 hi] w fun e w' => e = .returned (.bool (inB x lo hi)) ∧ w = w' := by
  by_cases h0 : lo ≤ x <;> by_cases h1 : x ≤ hi
  all_goals
    go_enter Tryz.func46, Tryz.ntmps46
    go_wp2
    go_ret
    simp [inB, h0, h1]
theorem revOk_any (x : Int) (w : World) :
    Calls Tryz.prog 45 #[.int .i64 x] w fun e w' => e = .returned (.bool (inB x 1 1000)) ∧ w = w' := by
  go_enter Tryz.func45, Tryz.ntmps45
  go_wp2_with (go_at_call 46; refine (within_any _ _ _ _).mono ?_; rintro e w' ⟨rfl, rfl⟩)
  go_ret
  exact ⟨rfl, rfl⟩
def podB (p : Pd) : Bool := inB p.1 1 1000000000 && inB p.2.1 1 1000 && inB p.2.2.1 0 4 && inB p.2.2.2.1 0 1000000000 && tokB p.2.2.2.2
theorem podB_iff (p : Pd) : podB p = true ↔ PodOk p := by simp [podB, PodOk, inB, tokB]; grind
set_option maxHeartbeats 1600000 in
theorem podOk_any (x0 x1 x2 x3 x4 : Int) (w : World) :
    Calls Tryz.prog 58 #[.agg #[.int .i64 x0, .int .i64 x1, .int .i64 x2, .int .i64 x3, .int .i64 x4]] w fun e w' => e = .returned (.bool (podB (x0, x1, x2, x3, x4))) ∧ Below w.heap.size w w' := by
  have H : podB (x0, x1, x2, x3, x4) = (inB x0 1 1000000000 && inB x1 1 1000 && inB x2 0 4 && inB x3 0 1000000000 && tokB x4) := rfl
  rw [H]
  clear H
  cases h0 : inB x0 1 1000000000 <;> cases h1 : inB x1 1 1000 <;> cases h2 : inB x2 0 4 <;> cases h3 : inB x3 0 1000000000
  all_goals
    go_enter Tryz.func58, Tryz.ntmps58
    go_wp2_with (first | (go_at_call 46; refine (within_any _ _ _ _).mono ?_; rintro e w' ⟨rfl, rfl⟩) | (go_at_call 45; refine (revOk_any _ _).mono ?_; rintro e w' ⟨rfl, rfl⟩) | (go_at_call 43; refine (tickOk_any _ _).mono ?_; rintro e w' ⟨rfl, rfl⟩))
    go_ret
    first | exact ⟨rfl, bel1 _ _⟩ | (refine ⟨?_, bel1 _ _⟩; simp)

theorem keys_map (m : PList) : intKeys (mapOf m) = m.map (·.1) := by
  simp [intKeys, mapOf, ent, Go.intOf]
theorem keys_any (mb : Option Nat) (W : World) : Calls Tryz.prog 67 #[.map mb] W fun e w' => e = .returned (.func (.func 76) #[] #[.pointer (some ⟨W.heap.size, 0, none⟩)]) ∧ w' = W.alloc (.cells #[.map mb] 90) :=
  (callsIn_wide (n := 5)).1 (AnyZI.keys_in Tryz.keysP Fence.wide 5 trivial rfl mb W)
theorem sorts (m : Nat) : AnyZI.SortsIn Tryz.prog Tryz.sortedI_ren Fence.wide m :=
  ⟨fun blk off cap ss W hH hblk hsz => callsIn_wide.2 (AnyM.slices_Sort_int Tryz.sortI blk off cap ss W hH hblk hsz), fun p cap W => callsIn_wide.2 (AnyM.slices_Sort_int_none Tryz.sortI p cap W)⟩
theorem sorted_asc {ss zs : List Int} (h : ss.Perm zs) (hz : zs.Pairwise (· < ·)) : ss.mergeSort (fun x y => decide (x ≤ y)) = zs := by
  have e := Go.mergeSort_of_perm_i h
  have hs : zs.mergeSort Go.leI = zs := List.mergeSort_of_pairwise (hz.imp (fun {a b} hab => by simp [Go.leI]; omega))
  exact e.trans hs
theorem asc_ids {m : PList} (h : Asc m) : (m.map (·.1)).Pairwise (· < ·) := List.pairwise_map.2 h
/-- slices.Sorted of the keys of a map of pods: their numbers, rising. -/
theorem sorted_any (Bm mb nn : Nat) (m : PList) (W : World) (hc : W.cell? ⟨Bm, 0, none⟩ = some (.map (some mb))) (hown : W.ownsMap Tryz.prog 3 rdP mb nn (mapOf m)) (ha : Asc m) (hn : m.length ≤ 1000) :
    Calls Tryz.prog 66 #[.func (.func 76) #[] #[.pointer (some ⟨Bm, 0, none⟩)]] W fun e w' => ∃ A c, e = .returned (.slice A m.length c) ∧ OwnI w' W.heap.size A m.length c (m.map (·.1)) ∧ Below W.heap.size W w' := by
  have hbl : Bm < W.heap.size := by simpa using World.block_lt_of_cell? W _ hc
  have hseq : SeqGives Fence.wide 2 Tryz.prog 76 #[.pointer (some ⟨Bm, 0, none⟩)] encZ (fun ss => ss.Perm (intKeys (mapOf m))) (Maps.size (mapOf m)) W :=
    AnyZI.keys_gives (ρ := Tryz.keysP_ren) { Tryz.keysP with } Fence.wide _ trivial rfl (by omega) Bm mb nn (mapOf m) W hbl hc hown
  have cS := AnyZI.sorted_in Tryz.sortedI Fence.wide 5 trivial trivial trivial trivial rfl (by omega) (sorts _) (enters_of Tryz.func75 (by kernel_rfl) rfl) 76 #[.pointer (some ⟨Bm, 0, none⟩)] trivial (enters_of Tryz.func76 (by kernel_rfl) rfl) _ _ (by rw [map_size]; unfold maxLen; omega) (by rw [map_size]; omega) _ hseq
  change CallsIn _ _ Tryz.prog 66 _ _ _ at cS
  refine ((callsIn_wide (n := 5)).1 cS).mono ?_
  rintro e w' ⟨v, ss, rfl, hp, hrow, _, hb⟩
  rw [keys_map] at hp
  have hl : ss.length = m.length := by simpa using hp.length_eq
  rw [sorted_asc hp (asc_ids ha), hl] at hrow
  rcases hrow.2 with ⟨rfl, h0⟩ | ⟨g, cap, cur, rfl, _⟩
  · refine ⟨none, 0, by rw [h0], ⟨by simp, ?_⟩, hb⟩
    rw [h0] at hrow ⊢
    exact hrow
  · exact ⟨_, _, rfl, ⟨by simp, hrow⟩, hb⟩
theorem news_new (w : World) (l : List Value) (t : TypeId) : ∀ j u, l[j]? = some u → (w.alloc (.cells l.toArray t)).cell? ((⟨w.heap.size, 0, none⟩ : Addr).add j) = some u := by
  intro j u h
  rw [FlatOpen.add_off, Nat.zero_add]
  exact box_cell (box_new w (.cells l.toArray t)) j u (by simpa using h)
theorem own_app {w' : World} {base n : Nat} {v' : Value} {ps : PList} {p : Pd} (hl : ps.length = n) (h : w'.ownsRow base 51 5 v' (n + 1) (flat ps ++ cells5 p)) : ∃ A c, v' = .slice A (n + 1) c ∧ OwnP w' base A (n + 1) c (ps ++ [p]) := by
  obtain ⟨g, cap, rfl, _⟩ := h.form (by omega)
  exact ⟨_, _, rfl, by simp [hl], by rw [flat_app, flat_one]; exact h⟩
theorem take_get {m : PList} {k : Nat} (h : k < m.length) : m.take (k + 1) = m.take k ++ [m.getD k z5] := by
  have e : m.getD k z5 = m[k] := by simp [List.getD, h]
  rw [List.take_succ_eq_append_getElem h, e]
theorem get_mem {m : PList} {k : Nat} (h : k < m.length) : m.getD k z5 ∈ m := by
  have e : m.getD k z5 = m[k] := by simp [List.getD, h]
  rw [e]; exact List.getElem_mem h
theorem ids_get {m : PList} {k : Nat} (h : k < m.length) : (m.map (·.1)).getD k 0 = (m.getD k z5).1 := by simp [List.getD, h]

/-- A crew at block cb, its map at mb, that holds the pods m. -/
structure CrewAt (w : World) (cb mb nn : Nat) (m : PList) (nx : Int) : Prop where
  box : w.heap[cb]? = some (.cells #[.map (some mb), .int .i64 nx] 92 (0, 0))
  own : w.ownsMap Tryz.prog 3 rdP mb nn (mapOf m)
  asc : Asc m
  ids : ∀ p ∈ m, 0 ≤ p.1 ∧ p.1 ≤ 1000000000
theorem CrewAt.below {w w' : World} {cb mb nn : Nat} {m : PList} {nx : Int} (h : CrewAt w cb mb nn m nx) (hb : Below w.heap.size w w') : CrewAt w' cb mb nn m nx :=
  ⟨box_below h.box hb, by
    have hl := h.own.lt
    obtain ⟨es, clock, hbb, F, hs, hD⟩ := h.own
    exact ⟨es, clock, (hb.block mb hl).trans hbb, F, hs, hD⟩, h.asc, h.ids⟩
theorem map_below {w w' : World} {mb nn : Nat} {D : DataW Value} {B : Nat} (h : w.ownsMap Tryz.prog 3 rdP mb nn D) (hb : Below B w w') (hB : mb < B) : w'.ownsMap Tryz.prog 3 rdP mb nn D := by
  obtain ⟨es, clock, hbb, F, hs, hD⟩ := h
  exact ⟨es, clock, (hb.block mb hB).trans hbb, F, hs, hD⟩

set_option maxRecDepth 100000 in
set_option maxHeartbeats 3200000 in
theorem told_any (cb mb nn : Nat) (m : PList) (nx : Int) (w : World) (hC : CrewAt w cb mb nn m nx) (hn : m.length ≤ 1000) :
    Calls Tryz.prog 59 #[.pointer (some ⟨cb, 0, none⟩)] w fun e w' => ∃ A c, e = .returned (.slice A m.length c) ∧ OwnP w' w.heap.size A m.length c m ∧ Below w.heap.size w w' := by
  obtain ⟨i0, hi0, hz0, hz1, hz2⟩ := info_parts infoP
  obtain ⟨n, hnl⟩ : ∃ n, n = m.length := ⟨_, rfl⟩
  have HN := Lib.hid hnl
  have c0 : w.cell? ⟨cb, 0, none⟩ = some (.map (some mb)) := box_cell hC.box 0 _ rfl
  have hcb := box_lt hC.box
  have hmb := hC.own.lt
  have HC := Lib.hid hC
  rw [← hnl] at hn ⊢
  clear hC hnl
  go_enter Tryz.func59, Tryz.ntmps59
  go_wp2_with fail
  refine (keys_any _ _).mono ?_
  rintro e w1 ⟨rfl, rfl⟩
  go_wp2_with fail
  have hb2 : Below w.heap.size w ((w.alloc (.cells #[] 51)).alloc (.cells #[.map (some mb)] 90)) := bel2 _ _ _
  refine (sorted_any (w.heap.size + 1) mb nn m _ (by simp) (map_below HC.out.own hb2 hmb) HC.out.asc (by have := HN.out; omega)).mono ?_
  rintro e w3 ⟨K, kc, rfl, hK, hb3⟩
  rw [← HN.out] at hK ⊢
  have hb03 : Below w.heap.size w w3 := hb2.trans (hb3.mono (by simp; omega))
  have hL0 : OwnP w3 w.heap.size (some ⟨w.heap.size, 0, none⟩) 0 0 [] := by
    refine ⟨rfl, rfl, .inr ⟨w.heap.size, 0, #[], rfl, Nat.le_refl _, ?_, Nat.le_refl _, Nat.zero_le _, rfl, rfl⟩⟩
    rw [hb3.block w.heap.size (by simp; omega)]
    exact box_alloc (box_new w _) _
  have hK0 : OwnI w3 w.heap.size K n kc (m.map (·.1)) := ownI_base hK (by simp; omega)
  have c3 : w3.cell? ⟨cb, 0, none⟩ = some (.map (some mb)) := (hb03.cell (p := ⟨cb, 0, none⟩) hcb).trans c0
  clear hb2 hb3 hK c0
  go_wp2_with fail
  go_loopw [14, 3] (fun i l wr => ∃ (k : Nat) (A : Option Addr) (c : Nat), k ≤ n ∧ i = .int .i64 k ∧ l = .slice A k c ∧ Hid (OwnP wr w.heap.size A k c (m.take k)) ∧ Hid (OwnI wr w.heap.size K n kc (m.map (·.1))) ∧ wr.cell? ⟨cb, 0, none⟩ = some (.map (some mb)) ∧ Below w.heap.size w wr) (fun i _ _ => n - (intOf i).toNat)
  case atStart => exact ⟨0, _, _, Nat.zero_le _, rfl, rfl, hL0, hK0, c3, hb03⟩
  case round =>
    obtain ⟨k, A, c, hk, rfl, rfl, HL, HK, cr, hbr⟩ := hrel
    by_cases hlt : k < n
    · have hkm : k < m.length := by rw [← HN.out]; exact hlt
      obtain ⟨b, off, z, rfl, hbB, hz, hc⟩ := HK.out.ints.at_ hlt
      rw [ids_get hkm] at hz
      obtain ⟨p, hp⟩ : ∃ p, p = m.getD k z5 := ⟨_, rfl⟩
      have hpm : p ∈ m := by rw [hp]; exact get_mem hkm
      have hpk := HC.out.ids p hpm
      have hzp : z = p.1 := by rw [hp]; exact hz
      have hmr := map_below HC.out.own hbr hmb
      obtain ⟨v, ps, hrun, hv⟩ := hmr.lookup (t := 90) (e := 51) law Tryz.underlying90 (zeroP _) (zd := .held _) (zp := []) rfl (key := .int .i64 z) (kl := .int .i64 z) (keyOf_int_mk Tryz.underlying3 (id_wf (by rw [hzp]; exact hpk)))
      rw [hzp, map_at, fnd_of HC.out.asc hpm] at hv
      have hv2 : v = podV p := by simp only [rdP, Option.some.injEq, Prod.mk.injEq, DataW.held.injEq] at hv; exact hv.1
      obtain ⟨y0, y1, y2, y3, y4⟩ := p
      have hv3 : v = .agg #[.int .i64 y0, .int .i64 y1, .int .i64 y2, .int .i64 y3, .int .i64 y4] := hv2
      subst hv3
      have HP : Hid ((y0, y1, y2, y3, y4) = m.getD k z5) := hp
      clear hv hv2 hp hpm hpk hzp hz hmr
      have hwl : w.heap.size ≤ wr.heap.size := hbr.size
      go_wp2_with (at_builtin; refine wpList_append_own _ rfl (.tmp 18) (.tmp 25) _ rfl w.heap.size 51 i0 _ 5 40 Tryz.underlying38 hi0 hz0 hz1 hz2 rfl (by omega) (.slice A k c) k (flat (m.take k)) rfl ?o1 ⟨wr.heap.size, 0, none⟩ 1 1 [.int .i64 y0, .int .i64 y1, .int .i64 y2, .int .i64 y3, .int .i64 y4] rfl rfl ?o2 ?o3 ?o4 ?o5 ?o6 ?_)
      case o1 => exact (HL.out.2.alloc _)
      case o2 => exact news_new wr [.int .i64 y0, .int .i64 y1, .int .i64 y2, .int .i64 y3, .int .i64 y4] 51
      case o3 => intro u hu; simp at hu; rcases hu with rfl | rfl | rfl | rfl | rfl <;> rfl
      case o4 => unfold maxLen; omega
      case o5 => omega
      case o6 => simp; omega
      intro v2 w5 hown hgr _
      obtain ⟨A2, c2, rfl, hO2⟩ := own_app (ps := m.take k) (p := (y0, y1, y2, y3, y4)) HL.out.1 hown
      have e2 : m.take k ++ [(y0, y1, y2, y3, y4)] = m.take (k + 1) := by rw [HP.out, take_get hkm]
      rw [e2] at hO2
      have HL2 := Lib.hid hO2
      have HK2 : Hid (OwnI w5 w.heap.size (some ⟨b, off, none⟩) n kc (m.map (·.1))) := (HK.out.alloc _).grown hgr (row_ne HK.out.2 HL.out.2 (by decide))
      have hb5 : Below w.heap.size w w5 := (hbr.alloc (by omega) _).grown hgr (by simp; omega) (fun qq hq => (HL.out.lt qq hq).1)
      have cr5 : w5.cell? ⟨cb, 0, none⟩ = some (.map (some mb)) := (hb5.cell (p := ⟨cb, 0, none⟩) hcb).trans (box_cell HC.out.box 0 _ rfl)
      clear hown hgr hO2
      go_wp2
      go_roundw
      case rel => exact ⟨k + 1, A2, c2, by omega, by go_num, rfl, HL2, HK2, cr5, hb5⟩
      case measure => simp [intOf]; omega
    · have HK : Hid (k = n) := (by omega : k = n)
      go_wp2
      go_ret
      have hkn := HK.out
      subst hkn
      refine ⟨A, c, rfl, ?_, hbr⟩
      have h1 := HL.out
      rw [HN.out, List.take_length] at h1
      rw [HN.out]
      exact h1
end Go.Proofs.YtlghdmakaocokaaGreatDoor.Crew
