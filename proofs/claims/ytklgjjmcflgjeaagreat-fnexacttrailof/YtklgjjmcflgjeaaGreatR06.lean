import Derived.Deep.AppendLies
import Derived.Deep.RegionHeld3
import Derived.Laws.StructEq
import Derived.Maps.RangeWalk
import Derived.StillTailTactics
import Derived.Test.YtklgjjmcflgjeaaGreatR00
import Derived.Test.YtklgjjmcflgjeaaGreatR05
set_option linter.unusedVariables false
set_option linter.unusedSimpArgs false
namespace Go.Proofs.YtklgjjmcflgjeaaGreat.Crew
open Go.ChangeShapes Go.WideShapes Go.ChangeAt Go.RowKit Go.Maps Go.Sort Go.Shelf
open LK Pods FleetV Has Ints
open Rec (ownI_base)
open Tick (inB in_t in_f tokB tok_t tickOk_any)
theorem law : Keyed Tryz.prog 3 := int_keyed Tryz.underlying3
theorem zeroP (w : World) : (zeroValue 85).run Tryz.prog w = .ok (.agg #[.int .i64 0, .int .i64 0, .int .i64 0, .int .i64 0, .int .i64 0]) w := by kernel_rfl
theorem row_ne {w : World} {base base' : Nat} {e e' : TypeId} {size size' n n' : Nat} {u v : Value} {xs ys : List Value} (h : w.ownsRow base e size u n xs) (h' : w.ownsRow base' e' size' v n' ys) (hne : e ≠ e') : u.ownBlock = none ∨ u.ownBlock ≠ v.ownBlock := by
  cases hu : u.ownBlock with
  | none => exact .inl rfl
  | some g =>
    refine .inr fun hv => ?_
    rcases h.2 with ⟨rfl, _⟩ | ⟨g1, cap1, cur1, rfl, _, hh1, _⟩
    · simp [Value.ownBlock] at hu
    · rcases h'.2 with ⟨rfl, _⟩ | ⟨g2, cap2, cur2, rfl, _, hh2, _⟩
      · simp [Value.ownBlock] at hv
      · simp [Value.ownBlock] at hu hv
        subst hu hv
        rw [hh1] at hh2
        injection hh2 with h3
        injection h3 with _ h4
        exact hne h4
theorem id_wf {x : Int} (h : 0 ≤ x ∧ x ≤ 1000000000) : (Lit.int .i64 x).wf = true := by
  simp [Lit.wf, IntKind.min, IntKind.max, IntKind.signed, IntKind.bits]; omega
theorem within_any (x lo hi : Int) (w : World) :
    Calls Tryz.prog 94 #[.int .i64 x, .int .i64 lo, .int .i64 hi] w fun e w' => e = .returned (.bool (inB x lo hi)) ∧ w = w' := by
  by_cases h0 : lo ≤ x <;> by_cases h1 : x ≤ hi
  all_goals
    go_enter Tryz.func94, Tryz.ntmps94
    go_wp2
    go_ret
    simp [inB, h0, h1]
theorem revOk_any (x : Int) (w : World) :
    Calls Tryz.prog 93 #[.int .i64 x] w fun e w' => e = .returned (.bool (inB x 1 1000)) ∧ w = w' := by
  go_enter Tryz.func93, Tryz.ntmps93
  go_wp2_with (go_at_call 94; refine (within_any _ _ _ _).mono ?_; rintro e w' ⟨rfl, rfl⟩)
  go_ret
  exact ⟨rfl, rfl⟩
def podB (p : Pd) : Bool := inB p.1 1 1000000000 && inB p.2.1 1 1000 && inB p.2.2.1 0 4 && inB p.2.2.2.1 0 1000000000 && tokB p.2.2.2.2
theorem podB_iff (p : Pd) : podB p = true ↔ PodOk p := by simp [podB, PodOk, inB, tokB]; grind
set_option maxHeartbeats 1600000 in
theorem podOk_any (x0 x1 x2 x3 x4 : Int) (w : World) :
    Calls Tryz.prog 177 #[.agg #[.int .i64 x0, .int .i64 x1, .int .i64 x2, .int .i64 x3, .int .i64 x4]] w fun e w' => e = .returned (.bool (podB (x0, x1, x2, x3, x4))) ∧ Below w.heap.size w w' := by
  have H : podB (x0, x1, x2, x3, x4) = (inB x0 1 1000000000 && inB x1 1 1000 && inB x2 0 4 && inB x3 0 1000000000 && tokB x4) := rfl
  rw [H]
  clear H
  cases h0 : inB x0 1 1000000000 <;> cases h1 : inB x1 1 1000 <;> cases h2 : inB x2 0 4 <;> cases h3 : inB x3 0 1000000000
  all_goals
    go_enter Tryz.func177, Tryz.ntmps177
    go_wp2_with (first | (go_at_call 94; refine (within_any _ _ _ _).mono ?_; rintro e w' ⟨rfl, rfl⟩) | (go_at_call 93; refine (revOk_any _ _).mono ?_; rintro e w' ⟨rfl, rfl⟩) | (go_at_call 91; refine (tickOk_any _ _).mono ?_; rintro e w' ⟨rfl, rfl⟩))
    go_ret
    first | exact ⟨rfl, bel1 _ _⟩ | (refine ⟨?_, bel1 _ _⟩; simp)
theorem keys_map (m : PList) : intKeys (mapOf m) = m.map (·.1) := by
  simp [intKeys, mapOf, ent, Go.intOf]
theorem keys_any (mb : Option Nat) (W : World) : Calls Tryz.prog 216 #[.map mb] W fun e w' => e = .returned (.func (.func 239) #[] #[.pointer (some ⟨W.heap.size, 0, none⟩)]) ∧ w' = W.alloc (.cells #[.map mb] 217) :=
  (callsIn_wide (n := 5)).1 (AnyZI.keys_in Tryz.keysP Fence.wide 5 trivial rfl mb W)
theorem sorts (m : Nat) : AnyZI.SortsIn Tryz.prog Tryz.sortedI_ren Fence.wide m :=
  ⟨fun blk off cap ss W hH hblk hsz => callsIn_wide.2 (AnyM.slices_Sort_int Tryz.sortI blk off cap ss W hH hblk hsz), fun p cap W => callsIn_wide.2 (AnyM.slices_Sort_int_none Tryz.sortI p cap W)⟩
theorem sorted_asc {ss zs : List Int} (h : ss.Perm zs) (hz : zs.Pairwise (· < ·)) : ss.mergeSort (fun x y => decide (x ≤ y)) = zs := by
  have e := Go.mergeSort_of_perm_i h
  have hs : zs.mergeSort Go.leI = zs := List.mergeSort_of_pairwise (hz.imp (fun {a b} hab => by simp [Go.leI]; omega))
  exact e.trans hs
theorem asc_ids {m : PList} (h : Asc m) : (m.map (·.1)).Pairwise (· < ·) := List.pairwise_map.2 h
theorem sorted_any (Bm mb nn : Nat) (m : PList) (W : World) (hc : W.cell? ⟨Bm, 0, none⟩ = some (.map (some mb))) (hown : W.ownsMap Tryz.prog 3 rdP mb nn (mapOf m)) (ha : Asc m) (hn : m.length ≤ 1000) :
    Calls Tryz.prog 215 #[.func (.func 239) #[] #[.pointer (some ⟨Bm, 0, none⟩)]] W fun e w' => ∃ A c, e = .returned (.slice A m.length c) ∧ OwnI w' W.heap.size A m.length c (m.map (·.1)) ∧ Below W.heap.size W w' := by
  have hbl : Bm < W.heap.size := by simpa using World.block_lt_of_cell? W _ hc
  have hseq : SeqGives Fence.wide 2 Tryz.prog 239 #[.pointer (some ⟨Bm, 0, none⟩)] encZ (fun ss => ss.Perm (intKeys (mapOf m))) (Maps.size (mapOf m)) W :=
    AnyZI.keys_gives (ρ := Tryz.keysP_ren) { Tryz.keysP with } Fence.wide _ trivial rfl (by omega) Bm mb nn (mapOf m) W hbl hc hown
  have cS := AnyZI.sorted_in Tryz.sortedI Fence.wide 5 trivial trivial trivial trivial rfl (by omega) (sorts _) (enters_of Tryz.func238 (by kernel_rfl) rfl) 239 #[.pointer (some ⟨Bm, 0, none⟩)] trivial (enters_of Tryz.func239 (by kernel_rfl) rfl) _ _ (by rw [map_size]; unfold maxLen; omega) (by rw [map_size]; omega) _ hseq
  change CallsIn _ _ Tryz.prog 215 _ _ _ at cS
  refine ((callsIn_wide (n := 5)).1 cS).mono ?_
  rintro e w' ⟨v, ss, rfl, hp, hrow, _, hb⟩
  rw [keys_map] at hp
  have hl : ss.length = m.length := by simpa using hp.length_eq
  rw [sorted_asc hp (asc_ids ha), hl] at hrow
  rcases hrow.2 with ⟨rfl, h0⟩ | ⟨g, cap, cur, rfl, _⟩
  · refine ⟨none, 0, by rw [h0], ⟨by simp, ?_⟩, hb⟩
    rw [h0] at hrow ⊢
    exact hrow
  · exact ⟨_, _, rfl, ⟨by simp, hrow⟩, hb⟩
theorem news_new (w : World) (l : List Value) (t : TypeId) : ∀ j u, l[j]? = some u → (w.alloc (.cells l.toArray t)).cell? ((⟨w.heap.size, 0, none⟩ : Addr).add j) = some u := by
  intro j u h
  rw [FlatOpen.add_off, Nat.zero_add]
  exact box_cell (box_new w (.cells l.toArray t)) j u (by simpa using h)
theorem own_app {w' : World} {base n : Nat} {v' : Value} {ps : PList} {p : Pd} (hl : ps.length = n) (h : w'.ownsRow base 85 5 v' (n + 1) (flat ps ++ cells5 p)) : ∃ A c, v' = .slice A (n + 1) c ∧ OwnP w' base A (n + 1) c (ps ++ [p]) := by
  obtain ⟨g, cap, rfl, _⟩ := h.form (by omega)
  exact ⟨_, _, rfl, by simp [hl], by rw [flat_app, flat_one]; exact h⟩
theorem take_get {m : PList} {k : Nat} (h : k < m.length) : m.take (k + 1) = m.take k ++ [m.getD k z5] := by
  have e : m.getD k z5 = m[k] := by simp [List.getD, h]
  rw [List.take_succ_eq_append_getElem h, e]
theorem get_mem {m : PList} {k : Nat} (h : k < m.length) : m.getD k z5 ∈ m := by
  have e : m.getD k z5 = m[k] := by simp [List.getD, h]
  rw [e]; exact List.getElem_mem h
theorem ids_get {m : PList} {k : Nat} (h : k < m.length) : (m.map (·.1)).getD k 0 = (m.getD k z5).1 := by simp [List.getD, h]
structure CrewAt (w : World) (cb mb nn : Nat) (m : PList) (nx : Int) : Prop where
  box : w.heap[cb]? = some (.cells #[.map (some mb), .int .i64 nx] 219 (0, 0))
  own : w.ownsMap Tryz.prog 3 rdP mb nn (mapOf m)
  asc : Asc m
  ids : ∀ p ∈ m, 0 ≤ p.1 ∧ p.1 ≤ 1000000000
theorem CrewAt.below {w w' : World} {cb mb nn : Nat} {m : PList} {nx : Int} (h : CrewAt w cb mb nn m nx) (hb : Below w.heap.size w w') : CrewAt w' cb mb nn m nx :=
  ⟨box_below h.box hb, by
    have hl := h.own.lt
    obtain ⟨es, clock, hbb, F, hs, hD⟩ := h.own
    exact ⟨es, clock, (hb.block mb hl).trans hbb, F, hs, hD⟩, h.asc, h.ids⟩
theorem map_below {w w' : World} {mb nn : Nat} {D : DataW Value} {B : Nat} (h : w.ownsMap Tryz.prog 3 rdP mb nn D) (hb : Below B w w') (hB : mb < B) : w'.ownsMap Tryz.prog 3 rdP mb nn D := by
  obtain ⟨es, clock, hbb, F, hs, hD⟩ := h
  exact ⟨es, clock, (hb.block mb hB).trans hbb, F, hs, hD⟩
set_option maxRecDepth 100000 in
set_option maxHeartbeats 3200000 in
theorem told_any (cb mb nn : Nat) (m : PList) (nx : Int) (w : World) (hC : CrewAt w cb mb nn m nx) (hn : m.length ≤ 1000) :
    Calls Tryz.prog 179 #[.pointer (some ⟨cb, 0, none⟩)] w fun e w' => ∃ A c, e = .returned (.slice A m.length c) ∧ OwnP w' w.heap.size A m.length c m ∧ Below w.heap.size w w' := by
  obtain ⟨i0, hi0, hz0, hz1, hz2⟩ := info_parts infoP
  obtain ⟨n, hnl⟩ : ∃ n, n = m.length := ⟨_, rfl⟩
  have HN := Lib.hid hnl
  have c0 : w.cell? ⟨cb, 0, none⟩ = some (.map (some mb)) := box_cell hC.box 0 _ rfl
  have hcb := box_lt hC.box
  have hmb := hC.own.lt
  have HC := Lib.hid hC
  rw [← hnl] at hn ⊢
  clear hC hnl
  go_enter Tryz.func179, Tryz.ntmps179
  go_wp2_with fail
  refine (keys_any _ _).mono ?_
  rintro e w1 ⟨rfl, rfl⟩
  go_wp2_with fail
  have hb2 : Below w.heap.size w ((w.alloc (.cells #[] 85)).alloc (.cells #[.map (some mb)] 217)) := bel2 _ _ _
  refine (sorted_any (w.heap.size + 1) mb nn m _ (by simp) (map_below HC.out.own hb2 hmb) HC.out.asc (by have := HN.out; omega)).mono ?_
  rintro e w3 ⟨K, kc, rfl, hK, hb3⟩
  rw [← HN.out] at hK ⊢
  have hb03 : Below w.heap.size w w3 := hb2.trans (hb3.mono (by simp; omega))
  have hL0 : OwnP w3 w.heap.size (some ⟨w.heap.size, 0, none⟩) 0 0 [] := by
    refine ⟨rfl, rfl, .inr ⟨w.heap.size, 0, #[], rfl, Nat.le_refl _, ?_, Nat.le_refl _, Nat.zero_le _, rfl, rfl⟩⟩
    rw [hb3.block w.heap.size (by simp; omega)]
    exact box_alloc (box_new w _) _
  have hK0 : OwnI w3 w.heap.size K n kc (m.map (·.1)) := ownI_base hK (by simp; omega)
  have c3 : w3.cell? ⟨cb, 0, none⟩ = some (.map (some mb)) := (hb03.cell (p := ⟨cb, 0, none⟩) hcb).trans c0
  clear hb2 hb3 hK c0
  go_wp2_with fail
  go_loopw [14, 3] (fun i l wr => ∃ (k : Nat) (A : Option Addr) (c : Nat), k ≤ n ∧ i = .int .i64 k ∧ l = .slice A k c ∧ Hid (OwnP wr w.heap.size A k c (m.take k)) ∧ Hid (OwnI wr w.heap.size K n kc (m.map (·.1))) ∧ wr.cell? ⟨cb, 0, none⟩ = some (.map (some mb)) ∧ Below w.heap.size w wr) (fun i _ _ => n - (RowKit.intOf i).toNat)
  case atStart => exact ⟨0, _, _, Nat.zero_le _, rfl, rfl, hL0, hK0, c3, hb03⟩
  case round =>
    obtain ⟨k, A, c, hk, rfl, rfl, HL, HK, cr, hbr⟩ := hrel
    by_cases hlt : k < n
    · have hkm : k < m.length := by rw [← HN.out]; exact hlt
      obtain ⟨b, off, z, rfl, hbB, hz, hc⟩ := HK.out.ints.at_ hlt
      rw [ids_get hkm] at hz
      obtain ⟨p, hp⟩ : ∃ p, p = m.getD k z5 := ⟨_, rfl⟩
      have hpm : p ∈ m := by rw [hp]; exact get_mem hkm
      have hpk := HC.out.ids p hpm
      have hzp : z = p.1 := by rw [hp]; exact hz
      have hmr := map_below HC.out.own hbr hmb
      obtain ⟨v, ps, hrun, hv⟩ := hmr.lookup (t := 217) (e := 85) law Tryz.underlying217 (zeroP _) (zd := .held _) (zp := []) rfl (key := .int .i64 z) (kl := .int .i64 z) (keyOf_int_mk Tryz.underlying3 (id_wf (by rw [hzp]; exact hpk)))
      rw [hzp, map_at, fnd_of HC.out.asc hpm] at hv
      have hv2 : v = podV p := by simp only [rdP, Option.some.injEq, Prod.mk.injEq, DataW.held.injEq] at hv; exact hv.1
      obtain ⟨y0, y1, y2, y3, y4⟩ := p
      have hv3 : v = .agg #[.int .i64 y0, .int .i64 y1, .int .i64 y2, .int .i64 y3, .int .i64 y4] := hv2
      subst hv3
      have HP : Hid ((y0, y1, y2, y3, y4) = m.getD k z5) := hp
      clear hv hv2 hp hpm hpk hzp hz hmr
      have hwl : w.heap.size ≤ wr.heap.size := hbr.size
      go_wp2_with (at_builtin; refine wpList_append_own _ rfl (.tmp 18) (.tmp 25) _ rfl w.heap.size 85 i0 _ 5 40 Tryz.underlying32 hi0 hz0 hz1 hz2 rfl (by omega) (.slice A k c) k (flat (m.take k)) rfl ?o1 ⟨wr.heap.size, 0, none⟩ 1 1 [.int .i64 y0, .int .i64 y1, .int .i64 y2, .int .i64 y3, .int .i64 y4] rfl rfl ?o2 ?o3 ?o4 ?o5 ?o6 ?_)
      case o1 => exact (HL.out.2.alloc _)
      case o2 => exact news_new wr [.int .i64 y0, .int .i64 y1, .int .i64 y2, .int .i64 y3, .int .i64 y4] 85
      case o3 => intro u hu; simp at hu; rcases hu with rfl | rfl | rfl | rfl | rfl <;> rfl
      case o4 => unfold maxLen; omega
      case o5 => omega
      case o6 => simp; omega
      intro v2 w5 hown hgr _
      obtain ⟨A2, c2, rfl, hO2⟩ := own_app (ps := m.take k) (p := (y0, y1, y2, y3, y4)) HL.out.1 hown
      have e2 : m.take k ++ [(y0, y1, y2, y3, y4)] = m.take (k + 1) := by rw [HP.out, take_get hkm]
      rw [e2] at hO2
      have HL2 := Lib.hid hO2
      have HK2 : Hid (OwnI w5 w.heap.size (some ⟨b, off, none⟩) n kc (m.map (·.1))) := (HK.out.alloc _).grown hgr (row_ne HK.out.2 HL.out.2 (by decide))
      have hb5 : Below w.heap.size w w5 := (hbr.alloc (by omega) _).grown hgr (by simp; omega) (fun qq hq => (HL.out.lt qq hq).1)
      have cr5 : w5.cell? ⟨cb, 0, none⟩ = some (.map (some mb)) := (hb5.cell (p := ⟨cb, 0, none⟩) hcb).trans (box_cell HC.out.box 0 _ rfl)
      clear hown hgr hO2
      go_wp2
      go_roundw
      case rel => exact ⟨k + 1, A2, c2, by omega, by go_num, rfl, HL2, HK2, cr5, hb5⟩
      case measure => simp [RowKit.intOf]; omega
    · have HK : Hid (k = n) := (by omega : k = n)
      go_wp2
      go_ret
      have hkn := HK.out
      subst hkn
      refine ⟨A, c, rfl, ?_, hbr⟩
      have h1 := HL.out
      rw [HN.out, List.take_length] at h1
      rw [HN.out]
      exact h1
end Go.Proofs.YtklgjjmcflgjeaaGreat.Crew
namespace Go.Proofs.YtklgjjmcflgjeaaGreat.Crew
open Go.ChangeShapes Go.WideShapes Go.ChangeAt Go.RowKit Go.Maps Go.Sort Go.Shelf
open LK Pods FleetV Has Ints
open Tick (inB in_t in_f tokB tok_t tickOk_any)
def eqb (x y : Pd) : Bool := x.1 == y.1 && x.2.1 == y.2.1 && x.2.2.1 == y.2.2.1 && x.2.2.2.1 == y.2.2.2.1 && x.2.2.2.2 == y.2.2.2.2
theorem eqb_iff (x y : Pd) : eqb x y = true ↔ x = y := by
  obtain ⟨a, b, c, d, e⟩ := x
  obtain ⟨a', b', c', d', e'⟩ := y
  simp [eqb]
  grind
set_option maxHeartbeats 1600000 in
theorem neqP : NeqAt Tryz.prog 85 (fun x => .agg (cells5 x).toArray) eqb := by
  refine ⟨fun x y w => ?_, GuardAt.agg _ (by kernel_rfl)⟩
  have u3 := Tryz.underlying3
  have a3 := Tryz.isAgg3
  have z3 := Tryz.sizeOf3
  have hS : Tryz.prog.underlying 85 = some (.struct (Tryz.prog.fieldsOf 85)) := by kernel_rfl
  have hp : Tryz.prog.stoodInHeld 85 = false := by kernel_rfl
  obtain ⟨a, b, c, d, e⟩ := x
  obtain ⟨a', b', c', d', e'⟩ := y
  simp only [cells5]
  rw [run_neq_struct, show (10000 : Nat) = 9999 + 1 from rfl, run_equalIn_agg w 9999 85 _ _ hS hp]
  simp only [Program.fieldsOf, Tryz.underlying85]
  go_simp
  by_cases h1 : a = a' <;> by_cases h2 : b = b' <;> by_cases h3 : c = c' <;> by_cases h4 : d = d' <;> by_cases h5 : e = e' <;> simp [eqb, h1, h2, h3, h4, h5]
theorem allEq_iff (xs ys : PList) : Lib.allEq eqb xs ys = true ↔ xs = ys := by
  induction xs generalizing ys with
  | nil => cases ys <;> simp [Lib.allEq]
  | cons x l ih => cases ys with
    | nil => simp [Lib.allEq]
    | cons y m => simp [Lib.allEq, ih, eqb_iff]
theorem pods_cells {w : World} {B n b off : Nat} {ps : PList} (h : IsPods w B (some ⟨b, off, none⟩) n ps) (hn : 0 < n) : ∀ j, j < ps.length → ∀ i v, (cells5 ps[j]!)[i]? = some v → w.cell? ⟨b, off + j * 5 + i, none⟩ = some v := by
  intro j hj i v hi
  obtain ⟨b', off', e, _, hc⟩ := h.2 hn
  injection e with e
  injection e with e1 e2
  subst e1 e2
  have h5 := hc j (by have := h.1; omega)
  have e : ps.getD j z5 = ps[j]! := by simp [List.getD, hj]
  rw [e] at h5
  clear e
  generalize ps[j]! = p at hi h5
  obtain ⟨h0, h1, h2, h3, h4⟩ := h5
  match i, hi with
  | 0, hi => simp [cells5] at hi; subst hi; simpa using h0
  | 1, hi => simp [cells5] at hi; subst hi; exact h1
  | 2, hi => simp [cells5] at hi; subst hi; exact h2
  | 3, hi => simp [cells5] at hi; subst hi; exact h3
  | 4, hi => simp [cells5] at hi; subst hi; exact h4
  | i + 5, hi => simp [cells5] at hi
set_option maxHeartbeats 1600000 in
theorem equal_any (A C : Option Addr) (n c m d : Nat) (xs ys : PList) (B B' : Nat) (w : World) (hx : IsPods w B A n xs) (hy : IsPods w B' C m ys) (hn : n ≤ 1048576) (hm : m ≤ 1048576) :
    Calls Tryz.prog 178 #[.slice A n c, .slice C m d] w fun e w' => e = .returned (.bool (decide (xs = ys))) ∧ ∃ q, w' = w.drewN q := by
  by_cases hnm : n = m
  · subst hnm
    by_cases h0 : 0 < n
    · obtain ⟨b, off, rfl, _⟩ := hx.2 h0
      obtain ⟨b', off', rfl, _⟩ := hy.2 h0
      have h := AnyQ.slices_Equal Tryz.equalP 5 Tryz.isAgg85 Tryz.sizeOf85 cells5 (fun _ => rfl) eqb neqP b off n c b' off' n d xs ys w (by rw [hx.1]; exact Nat.le_refl _) (by rw [hy.1]; exact Nat.le_refl _) (by omega) (by omega) (pods_cells hx h0) (pods_cells hy h0)
      change Calls Tryz.prog 178 _ _ _ at h
      refine h.mono ?_
      rintro e w' ⟨rfl, hq⟩
      refine ⟨?_, hq⟩
      rw [List.take_of_length_le (by rw [hx.1]; exact Nat.le_refl _), List.take_of_length_le (by rw [hy.1]; exact Nat.le_refl _)]
      congr 2
      rw [Bool.eq_iff_iff, allEq_iff]
      simp
    · have hx0 : xs = [] := List.eq_nil_of_length_eq_zero (by rw [hx.1]; omega)
      have hy0 : ys = [] := List.eq_nil_of_length_eq_zero (by rw [hy.1]; omega)
      subst hx0 hy0
      have hn0 : n = 0 := by omega
      subst hn0
      clear hx hy
      go_enter Tryz.func178, Tryz.ntmps178
      go_wp2_with fail
      go_loop [13] (fun i => i = .int .i64 (0 : Int)) (fun _ => 0)
      case atStart => rfl
      case round =>
        subst hrel
        go_wp2
        go_ret
        exact ⟨rfl, 0, rfl⟩
  · have hne : decide (xs = ys) = false := by
      simp only [decide_eq_false_iff_not]
      intro e
      exact hnm (hx.1.symm.trans (by rw [e]; exact hy.1))
    rw [hne]
    clear hx hy hne
    go_enter Tryz.func178, Tryz.ntmps178
    go_wp2
    go_ret
    exact ⟨rfl, 0, rfl⟩
theorem clone_any (A : Option Addr) (n c : Nat) (ps : PList) (B : Nat) (w : World) (hr : IsPods w B A n ps) (hn : n ≤ 1048576) :
    Calls Tryz.prog 134 #[.slice A n c] w fun e w' => ∃ A' c', e = .returned (.slice A' n c') ∧ OwnP w' w.heap.size A' n c' ps ∧ Below w.heap.size w w' := by
  obtain ⟨i0, hi0, hz0, hz1, hz2⟩ := info_parts infoP
  cases A with
  | none =>
    have h0 : n = 0 := by
      rcases Nat.eq_zero_or_pos n with h | h
      · exact h
      · obtain ⟨b, off, e, _⟩ := hr.2 h; cases e
    have hp : ps = [] := List.eq_nil_of_length_eq_zero (by rw [hr.1]; exact h0)
    have h := AnyE.slices_Clone_nil Tryz.cloneP n c w
    change Calls Tryz.prog 134 _ _ _ at h
    refine h.mono ?_
    rintro e w' ⟨rfl, rfl⟩
    refine ⟨none, 0, by rw [h0], ?_, Below.refl _ _⟩
    rw [hp, h0]
    exact OwnP.nil _ _
  | some ad =>
    by_cases h0 : 0 < n
    · obtain ⟨b, off, e, _⟩ := hr.2 h0
      injection e with e
      subst e
      have hcl : ∀ j u, (flat ps)[j]? = some u → w.cell? ⟨b, off + j, none⟩ = some u := by
        intro j u hj
        have hjl : j < ps.length * 5 := by
          rw [← flat_len]
          rcases Nat.lt_or_ge j (flat ps).length with h | h
          · exact h
          · rw [List.getElem?_eq_none h] at hj; cases hj
        have e1 : j = j / 5 * 5 + j % 5 := by omega
        have hlt : j / 5 < ps.length := by omega
        rw [e1, flat_at ps (j / 5) (j % 5) hlt (by omega)] at hj
        have e2 : ps.getD (j / 5) z5 = ps[j / 5]! := by simp [List.getD, hlt]
        rw [e2] at hj
        have := pods_cells hr h0 (j / 5) hlt (j % 5) u hj
        rw [Nat.add_assoc, ← e1] at this
        exact this
      have h := AnyE.slices_Clone Tryz.cloneP i0 _ 5 40 hi0 hz0 hz1 hz2 rfl (by omega) Tryz.sizeOf85 b off n c (flat ps) w (by rw [flat_len, hr.1]) (by unfold maxLen; omega) (by omega) hcl (by
        intro u hu
        obtain ⟨p, _, hp⟩ := List.mem_flatMap.1 hu
        simp [cells5] at hp
        rcases hp with rfl | rfl | rfl | rfl | rfl <;> rfl)
      change Calls Tryz.prog 134 _ _ _ at h
      refine h.mono ?_
      rintro e w' ⟨v', rfl, hrow, _, hb⟩
      obtain ⟨g, cap, rfl, _⟩ := hrow.form h0
      exact ⟨_, _, rfl, ⟨hr.1, hrow⟩, hb⟩
    · have h0' : n = 0 := by omega
      subst h0'
      have hp : ps = [] := List.eq_nil_of_length_eq_zero hr.1
      subst hp
      obtain ⟨b, off, spot⟩ := ad
      have hq : (binOp .eql 32 (.slice (some ⟨b, off, spot⟩) 0 c) (.slice none 0 0)).run Tryz.prog w = .ok (.bool false) w := Lib.run_eql_slice_nil w _ _ _ _ _ _ _ Tryz.underlying32
      clear hr
      go_enter Tryz.func134, Tryz.ntmps134
      go_wp2_with fail
      go_ret
      refine ⟨_, _, rfl, ⟨rfl, rfl, .inr ⟨w.heap.size, 0, #[], rfl, Nat.le_refl _, box_new _ _, Nat.le_refl _, Nat.zero_le _, rfl, rfl⟩⟩, bel1 _ _⟩
theorem made_of {w w2 w3 : World} {lo : Nat} {S : Nat → Prop} {A : Option Addr} {n c : Nat} {ps : PList} {x : Int} (hb : Below w.heap.size w w2) (hO : OwnP w2 lo A n c ps) (hlo : w.heap.size ≤ lo) (hS : ∀ k, S k → w.heap.size ≤ k ∧ k < lo) (ht : Turned S w2 w3) :
    Made FleetTy.fty (ps, x) w (.returned (.agg #[.slice A n c, .int .i64 x])) w3 := by
  have hz := ht.size
  have hl := hO.1
  subst hl
  refine ⟨_, fun k => w.heap.size ≤ k ∧ k < w3.heap.size, rfl, ⟨⟨A, c, rfl, hO.zero.same fun k hk => ht.block k (hO.lt k hk).2 (fun e => by have := hO.lt k hk; have := hS k e; omega), fun k hk => ?_⟩, fun k hk => hk, Nat.le_refl _⟩, Turned.low hb ht (fun k hk => (hS k hk).1) hb.size⟩
  have := hO.lt k hk
  exact ⟨by omega, by omega⟩
set_option maxHeartbeats 1600000 in
theorem sameFleet_any (A : Option Addr) (n c : Nat) (nx : Int) (ps : PList) (B : Nat) (w : World) (hr : IsPods w B A n ps) (hB : B ≤ w.heap.size) (hn : n ≤ 1048576) :
    Calls Tryz.prog 86 #[.agg #[.slice A n c, .int .i64 nx]] w (Made FleetTy.fty (ps, nx) w) := by
  have HR := Lib.hid hr
  clear hr
  obtain ⟨V, hV⟩ : ∃ V, V = (w.alloc (.cells #[.slice A n c, .int .i64 nx] 34)).alloc (.cells #[.slice none 0 0, .int .i64 0] 34) := ⟨_, rfl⟩
  have hbV : Below w.heap.size w V := by rw [hV]; exact bel2 _ _ _
  have k0 : V.heap[w.heap.size]? = some (.cells #[.slice A n c, .int .i64 nx] 34) := by rw [hV]; exact box_alloc (box_new _ _) _
  have k1 : V.heap[w.heap.size + 1]? = some (.cells #[.slice none 0 0, .int .i64 0] 34) := by rw [hV]; have h := box_new (w.alloc (.cells #[.slice A n c, .int .i64 nx] 34)) (.cells #[.slice none 0 0, .int .i64 0] 34); simpa using h
  have HSV : Hid (V.heap.size = w.heap.size + 1 + 1) := by show _ = _; rw [hV]; simp
  go_enter Tryz.func86, Tryz.ntmps86
  go_wp2_with fail
  rw [← hV]
  clear hV
  have c0 : V.cell? ⟨w.heap.size, 0, none⟩ = some (.slice A n c) := box_cell k0 0 _ rfl
  have c1 : V.cell? ⟨w.heap.size, 1, none⟩ = some (.int .i64 nx) := box_cell k0 1 _ rfl
  have K1 := Lib.hid k1
  clear k0 k1
  go_region_held3 (fun w' => w'.cell? ⟨w.heap.size, 0, none⟩ = some (.slice A n c) ∧ w'.cell? ⟨w.heap.size, 1, none⟩ = some (.int .i64 nx)) (first | go_keep | (refine ⟨cell_keep hb2 ?_, cell_keep hb2 ?_⟩ <;> simp only [*]))
    (first | (go_at_call 134; refine (clone_any A n c ps B _ (by exact HR.out.below hbV.drew hB) hn).mono ?_; rintro e w2 ⟨A2, c2, rfl, hO, hb2⟩; have hb2' : Below V.heap.size V w2 := undrew hb2; have HO := Lib.hid hO; clear hO; obtain ⟨r0, r1, s0, s1⟩ := box2 (box_below K1.out hb2')))
  all_goals
    have HB := Lib.hid (bel_then hbV hb2' hbV.size)
    clear hb2 hb2' c0 c1
    go_wp2
    refine bodyPost_ret (v := .agg #[.slice A2 n c2, .int .i64 nx]) (by simp [results, Tryz.results86, go_sem, r0, r1]) rfl ?_
    exact made_of HB.out HO.out hbV.size (S := fun k => k = w.heap.size + 1) (fun k hk => by have := HSV.out; show _ ∧ k < V.heap.size; omega) ((Turned.set (S := fun k => k = w.heap.size + 1) _ ⟨w.heap.size + 1, 0, none⟩ _ rfl).trans (Turned.set (S := fun k => k = w.heap.size + 1) _ ⟨w.heap.size + 1, 1, none⟩ _ rfl))
set_option maxHeartbeats 1600000 in
theorem fleet_any (cb mb nn : Nat) (m : PList) (nx : Int) (w : World) (hC : CrewAt w cb mb nn m nx) (hn : m.length ≤ 1000) :
    Calls Tryz.prog 236 #[.pointer (some ⟨cb, 0, none⟩)] w (Made FleetTy.fty (m, nx) w) := by
  have HC := Lib.hid hC
  have HN := Lib.hid hn
  clear hC hn
  obtain ⟨V, hV⟩ : ∃ V, V = w.alloc (.cells #[.slice none 0 0, .int .i64 0] 34) := ⟨_, rfl⟩
  have hbV : Below w.heap.size w V := by rw [hV]; exact bel1 _ _
  have k1 : V.heap[w.heap.size]? = some (.cells #[.slice none 0 0, .int .i64 0] 34) := by rw [hV]; exact box_new _ _
  have HSV : Hid (V.heap.size = w.heap.size + 1) := by show _ = _; rw [hV]; simp
  go_enter Tryz.func236, Tryz.ntmps236
  go_wp2_with fail
  rw [← hV]
  clear hV
  have c1 : V.cell? ⟨cb, 1, none⟩ = some (.int .i64 nx) := box_cell (box_below HC.out.box hbV) 1 _ rfl
  have hcb := box_lt HC.out.box
  have K1 := Lib.hid k1
  clear k1
  go_region_held3 (fun w' => w'.cell? ⟨cb, 1, none⟩ = some (.int .i64 nx)) (first | (go_keep; done) | (refine cell_keep hb2 ?_ <;> simp only [*]; done) | exact far1 (by omega) (far1 (by omega) cz) | go_keep)
    (first | (go_at_call 179; refine (told_any cb mb nn m nx _ (by exact HC.out.below hbV.drew) HN.out).mono ?_; rintro e w2 ⟨A2, c2, rfl, hO, hb2⟩; have hb2' : Below V.heap.size V w2 := undrew hb2; have HO := Lib.hid hO; clear hO; have cz : w2.cell? ⟨cb, 1, none⟩ = some (.int .i64 nx) := box_cell (box_below (box_below HC.out.box hbV) hb2') 1 _ rfl; obtain ⟨r0, r1, s0, s1⟩ := box2 (box_below K1.out hb2')))
  all_goals
    have HB := Lib.hid (bel_then hbV hb2' hbV.size)
    clear hb2 hb2' c1 cz
    obtain ⟨n, hn⟩ : ∃ n, n = m.length := ⟨_, rfl⟩
    rw [← hn] at HO ⊢
    clear hn
    go_wp2
    refine bodyPost_ret (v := .agg #[.slice A2 n c2, .int .i64 nx]) (by simp [results, Tryz.results236, go_sem, r0, r1]) rfl ?_
    exact made_of HB.out HO.out hbV.size (S := fun k => k = w.heap.size) (fun k hk => by have := HSV.out; show _ ∧ k < V.heap.size; omega) ((Turned.set (S := fun k => k = w.heap.size) _ ⟨w.heap.size, 0, none⟩ _ rfl).trans (Turned.set (S := fun k => k = w.heap.size) _ ⟨w.heap.size, 1, none⟩ _ rfl))
end Go.Proofs.YtklgjjmcflgjeaaGreat.Crew
namespace Go.Proofs.YtklgjjmcflgjeaaGreat.Crew
open Go.ChangeShapes Go.WideShapes Go.ChangeAt Go.RowKit Go.Maps Go.Sort Go.Shelf
open LK Pods FleetV Has Ints
open Tick (inB in_t in_f tokB tok_t tickOk_any)
def Crewed (ps : PList) (nx : Int) (w : World) (e : Ending) (w' : World) : Prop :=
  ∃ (r : Bool) (o : Option Addr), e = .returned (.tuple #[.pointer o, .bool r]) ∧ Below w.heap.size w w' ∧ (r = true ↔ FGood ps nx) ∧ (r = true → ∃ cb mb, o = some ⟨cb, 0, none⟩ ∧ w.heap.size ≤ cb ∧ w.heap.size ≤ mb ∧ CrewAt w' cb mb 30 ps nx)
theorem crewed_no {ps : PList} {nx : Int} {w w' : World} {o : Option Addr} (h : ¬ FGood ps nx) (hb : Below w.heap.size w w') : Crewed ps nx w (.returned (.tuple #[.pointer o, .bool false])) w' :=
  ⟨false, o, rfl, hb, by simp [h], by simp⟩
theorem take_mem {ps : PList} {k : Nat} {p : Pd} (h : k < ps.length) (hp : p ∈ ps.take (k + 1)) : p ∈ ps.take k ∨ p = ps.getD k z5 := by
  rw [take_get h] at hp
  simpa using hp
set_option maxRecDepth 100000 in
set_option maxHeartbeats 6400000 in
theorem crewOf_any (A : Option Addr) (n c : Nat) (nx : Int) (ps : PList) (B : Nat) (w : World) (hr : IsPods w B A n ps) (hB : B ≤ w.heap.size) (hn : n ≤ 1048576) :
    Calls Tryz.prog 136 #[.agg #[.slice A n c, .int .i64 nx]] w (Crewed ps nx w) := by
  have HL : Hid (ps.length = n) := hr.1
  have HR := Lib.hid hr
  clear hr
  have hmm := @run_makeMap Tryz.prog
  by_cases h30 : 30 < n
  · have HG : Hid (¬ FGood ps nx) := fun h => by have := h.1; have := HL.out; omega
    go_enter Tryz.func136, Tryz.ntmps136
    go_wp2
    go_ret2
    exact crewed_no HG.out (bel1 _ _)
  cases hnx : inB nx 1 1000000000
  · have HG : Hid (¬ FGood ps nx) := fun h => by have := h.2.1; have := in_f hnx; omega
    go_enter Tryz.func136, Tryz.ntmps136
    go_wp2_with (go_at_call 94; refine (within_any _ _ _ _).mono ?_; rintro e w' ⟨rfl, rfl⟩; rw [hnx])
    go_ret2
    exact crewed_no HG.out (bel1 _ _)
  · have HNX := Lib.hid (in_t hnx)
    go_enter Tryz.func136, Tryz.ntmps136
    go_wp2_with (go_at_call 94; refine (within_any _ _ _ _).mono ?_; rintro e w' ⟨rfl, rfl⟩; rw [hnx])
    have e0 : ((((w.alloc (.cells #[.slice A n c, .int .i64 nx] 34)).alloc (.map #[] 0)).alloc (.cells #[.map (some (w.heap.size + 1)), .int .i64 nx] 219)).heap[w.heap.size]? = some (.cells #[.slice A n c, .int .i64 nx] 34)) := box_alloc (box_alloc (box_new _ _) _) _
    have e2 : ((((w.alloc (.cells #[.slice A n c, .int .i64 nx] 34)).alloc (.map #[] 0)).alloc (.cells #[.map (some (w.heap.size + 1)), .int .i64 nx] 219)).heap[w.heap.size + 1 + 1]? = some (.cells #[.map (some (w.heap.size + 1)), .int .i64 nx] 219)) := by
      have h := box_new ((w.alloc (.cells #[.slice A n c, .int .i64 nx] 34)).alloc (.map #[] 0)) (.cells #[.map (some (w.heap.size + 1)), .int .i64 nx] 219)
      simpa using h
    have hM0 : (((w.alloc (.cells #[.slice A n c, .int .i64 nx] 34)).alloc (.map #[] 0)).alloc (.cells #[.map (some (w.heap.size + 1)), .int .i64 nx] 219)).ownsMap Tryz.prog 3 rdP (w.heap.size + 1) 0 (mapOf (buildP (ps.take 0))) := by
      have h := World.ownsMap_made (w.alloc (.cells #[.slice A n c, .int .i64 nx] 34)) Tryz.prog 3 rdP
      have h2 := h.alloc (.cells #[.map (some (w.heap.size + 1)), .int .i64 nx] 219)
      simpa [buildP, mapOf] using h2
    go_loopw [25] (fun i wr => ∃ k : Nat, k ≤ n ∧ i = .int .i64 k ∧ Hid (wr.heap[w.heap.size]? = some (.cells #[.slice A n c, .int .i64 nx] 34)) ∧ Hid (wr.heap[w.heap.size + 1 + 1]? = some (.cells #[.map (some (w.heap.size + 1)), .int .i64 nx] 219)) ∧
      Hid (wr.ownsMap Tryz.prog 3 rdP (w.heap.size + 1) k (mapOf (buildP (ps.take k)))) ∧ Below w.heap.size w wr ∧ w.heap.size + 1 + 1 < wr.heap.size ∧ Hid (∀ p ∈ ps.take k, PodOk p ∧ p.1 < nx)) (fun i _ => n - (RowKit.intOf i).toNat)
    case atStart => exact ⟨0, Nat.zero_le _, rfl, e0, e2, hM0, bel3 _ _ _ _, by simp, by simp [Hid]⟩
    case round =>
      obtain ⟨k, hk, rfl, E0, E2, HM, hbr, hsr, HA⟩ := hrel
      clear e0 e2 hM0
      have c0 := box_cell E0.out 0 _ rfl
      have c1 := box_cell E0.out 1 _ rfl
      have c2 := box_cell E2.out 0 _ rfl
      by_cases hlt : k < n
      · obtain ⟨b, off, x0, x1, x2, x3, x4, rfl, hbB, hz, hc0, hc1, hc2, hc3, hc4⟩ := (HR.out.below hbr hB).at_ hlt
        have HZ := Lib.hid hz
        have hkp : k < ps.length := by rw [HL.out]; exact hlt
        have HKP := Lib.hid hkp
        clear hz hkp
        go_wp2_with fail
        refine (podOk_any x0 x1 x2 x3 x4 _).mono ?_
        rintro e w2 ⟨rfl, hb2⟩
        have hb2w : Below wr.heap.size wr w2 := bel_then (bel1 wr _) hb2 (by simp)
        have K6 := box_below (box_new wr (.cells #[.int .i64 x0, .int .i64 x1, .int .i64 x2, .int .i64 x3, .int .i64 x4] 85)) hb2
        have F0 := box_below E0.out hb2w
        have F2 := box_below E2.out hb2w
        have HM2 : Hid (w2.ownsMap Tryz.prog 3 rdP (w.heap.size + 1) k (mapOf (buildP (ps.take k)))) := map_below HM.out hb2w (by omega)
        have hbr2 : Below w.heap.size w w2 := bel_then hbr hb2w hbr.size
        have hsr2 : w.heap.size + 1 + 1 < w2.heap.size := Nat.lt_of_lt_of_le hsr hb2w.size
        have d1 := box_cell F0 1 _ rfl
        have d2 := box_cell F2 0 _ rfl
        have g0 := box_cell K6 0 _ rfl
        have g1 := box_cell K6 1 _ rfl
        have g2 := box_cell K6 2 _ rfl
        have g3 := box_cell K6 3 _ rfl
        have g4 := box_cell K6 4 _ rfl
        have E02 := Lib.hid F0
        have E22 := Lib.hid F2
        have HPM : Hid (ps.getD k z5 ∈ ps) := get_mem HKP.out
        clear hb2 hb2w K6 F0 F2 E0 E2 HM c0 c1 c2 hc0 hc1 hc2 hc3 hc4 hbr hsr
        cases hpb : podB (x0, x1, x2, x3, x4)
        · have HG : Hid (¬ FGood ps nx) := fun h => by
            have h1 := (h.2.2.1 _ HPM.out).1
            rw [HZ.out, ← podB_iff, hpb] at h1
            cases h1
          go_wp2
          go_ret2
          exact crewed_no HG.out hbr2
        have HPO : Hid (PodOk (x0, x1, x2, x3, x4)) := (podB_iff _).1 hpb
        by_cases hid : x0 < nx
        · have hd : decide (nx ≤ x0) = false := by simp; omega
          have hwf : (Lit.int .i64 x0).wf = true := id_wf (by have := HPO.out.1; simp at this; omega)
          obtain ⟨w3, hrun, hM3, hg3⟩ := (show w2.drew.ownsMap Tryz.prog 3 rdP (w.heap.size + 1) k (mapOf (buildP (ps.take k))) from HM2.out.drew).update (t := 217) (e := 85) law Tryz.underlying217 (by unfold maxLen; omega) (key := .int .i64 x0) (val := .agg #[.int .i64 x0, .int .i64 x1, .int .i64 x2, .int .i64 x3, .int .i64 x4]) (kl := .int .i64 x0) (d := .held (podV (x0, x1, x2, x3, x4))) (ps := []) (keyOf_int_mk Tryz.underlying3 hwf) rfl
          go_wp2_with fail
          go_still_tail 7, (by kernel_rfl)
          have hbr3 : Below w.heap.size w w3 := hbr2.drew.grown hg3 hbr2.size (by intro q hq; cases hq; omega)
          have E03 : Hid (w3.heap[w.heap.size]? = some (.cells #[.slice (some ⟨b, off, none⟩) n c, .int .i64 nx] 34)) := (hg3.block w.heap.size (by show _ < w2.heap.size; omega) (by simp)).trans E02.out
          have E23 : Hid (w3.heap[w.heap.size + 1 + 1]? = some (.cells #[.map (some (w.heap.size + 1)), .int .i64 nx] 219)) := (hg3.block (w.heap.size + 1 + 1) (by show _ < w2.heap.size; omega) (by simp)).trans E22.out
          have hsr3 : w.heap.size + 1 + 1 < w3.heap.size := Nat.lt_of_lt_of_le hsr2 hg3.size
          have HM3 : Hid (w3.ownsMap Tryz.prog 3 rdP (w.heap.size + 1) (k + 1) (mapOf (buildP (ps.take (k + 1))))) := by
            show World.ownsMap _ _ _ _ _ _ _
            rw [build_take ps k HKP.out, HZ.out, ← map_put]
            exact hM3
          have HA3 : Hid (∀ p ∈ ps.take (k + 1), PodOk p ∧ p.1 < nx) := fun p hp => by
            rcases take_mem HKP.out hp with h | h
            · exact HA.out p h
            · rw [h, HZ.out]; exact ⟨HPO.out, hid⟩
          clear hM3 hg3
          go_wp2
          go_roundw
          case rel => exact ⟨k + 1, by omega, by go_num, E03, E23, HM3, hbr3, hsr3, HA3⟩
          case measure => simp [RowKit.intOf]; omega
        · have HG : Hid (¬ FGood ps nx) := fun h => by
            have h1 := (h.2.2.1 _ HPM.out).2
            rw [HZ.out] at h1
            exact hid h1
          have hd : decide (nx ≤ x0) = true := by simp; omega
          go_wp2
          go_ret2
          exact crewed_no HG.out hbr2
      · have HK : Hid (k = n) := (by omega : k = n)
        obtain ⟨m, hm⟩ : ∃ m, m = buildP ps := ⟨_, rfl⟩
        have hkn := HK.out
        have htk : ps.take k = ps := List.take_of_length_le (by rw [HL.out]; omega)
        rw [htk] at HM HA
        rw [← hm] at HM
        have hml : m.length ≤ 30 := by rw [hm]; have := len_build ps n; rw [List.take_of_length_le (by rw [HL.out]; exact Nat.le_refl _)] at this; omega
        have HC : Hid (CrewAt wr (w.heap.size + 1 + 1) (w.heap.size + 1) 30 m nx) := ⟨E2.out, HM.out.mono (by omega), by rw [hm]; exact asc_build ps, fun p hp => by
          rw [hm] at hp
          have h1 := (HA.out p (mem_build hp)).1.1
          omega⟩
        have HMB := Lib.hid hm
        clear hm hkn htk HM c2
        go_wp2_with fail
        go_region_held3 (fun w' => w'.cell? ⟨w.heap.size, 0, none⟩ = some (.slice A n c)) (first | go_keep | (refine cell_keep hb4 ?_ <;> simp only [*]))
          (first | (go_at_call 179; refine (told_any (w.heap.size + 1 + 1) (w.heap.size + 1) 30 m nx _ (by exact ⟨HC.out.box, HC.out.own, HC.out.asc, HC.out.ids⟩) (by omega)).mono ?_; rintro e w4 ⟨A4, c4, rfl, hO4, hb4⟩; have hb4' : Below wr.heap.size wr w4 := undrew hb4; have HO4 := Lib.hid hO4; clear hO4) | (go_at_call 178; refine (equal_any A4 A m.length c4 n c m ps w4.heap.size B _ (by exact HO4.out.podsAll) (by exact HR.out.below (bel_then hbr hb4' hbr.size) hB) (by omega) hn).mono ?_; rintro e w5 ⟨rfl, q, rfl⟩))
        all_goals
          have HB4 := Lib.hid (bel_then hbr hb4' hbr.size)
          have HC4 := Lib.hid (HC.out.below hb4')
          clear hb4 hb4' HO4
          obtain ⟨r, hr⟩ : ∃ r, r = decide (m = ps) := ⟨_, rfl⟩
          rw [← hr]
          have HRR := Lib.hid hr
          clear hr
          go_wp2
          go_ret2
          have hg : r = true ↔ FGood ps nx := by
            rw [HRR.out, decide_eq_true_iff, HMB.out, build_iff]
            exact ⟨fun h => ⟨by have := HL.out; omega, HNX.out, HA.out, h⟩, fun h => h.2.2.2⟩
          refine ⟨r, _, rfl, below_drewN HB4.out _, hg, fun hrt => ⟨w.heap.size + 1 + 1, w.heap.size + 1, rfl, by omega, by omega, ?_⟩⟩
          have e : m = ps := by rw [HRR.out] at hrt; simpa using hrt
          have h := HC4.out
          rw [e] at h
          exact ⟨h.box, h.own, h.asc, h.ids⟩
end Go.Proofs.YtklgjjmcflgjeaaGreat.Crew
namespace Go.Proofs.YtklgjjmcflgjeaaGreat.Crew
open Go.ChangeShapes Go.WideShapes Go.ChangeAt Go.RowKit Go.Maps Go.Sort Go.Shelf
open LK Pods FleetV Has Ints
open Tick (inB in_t in_f tokB tok_t tickOk_any)
theorem fleetOk_any (A : Option Addr) (n c : Nat) (nx : Int) (ps : PList) (B : Nat) (w : World) (hr : IsPods w B A n ps) (hB : B ≤ w.heap.size) (hn : n ≤ 1048576) :
    Calls Tryz.prog 90 #[.agg #[.slice A n c, .int .i64 nx]] w (Says (.bool (decide (FGood ps nx))) w) := by
  have HR := Lib.hid hr
  clear hr
  go_enter Tryz.func90, Tryz.ntmps90
  go_wp2_with fail
  refine (crewOf_any A n c nx ps B _ (HR.out.below (bel1 _ _) hB) (by simp; omega) hn).mono ?_
  rintro e w2 ⟨r, o, rfl, hb, hg, _⟩
  have HB := Lib.hid (bel_then (bel1 w _) hb (by simp))
  have HG := Lib.hid hg
  clear hb hg
  go_wp2
  go_ret
  refine ⟨?_, HB.out⟩
  have e : r = decide (FGood ps nx) := by rw [Bool.eq_iff_iff, HG.out]; simp
  rw [e]
  rfl
end Go.Proofs.YtklgjjmcflgjeaaGreat.Crew
