/-
  THE CONTRACT of wheelOf over this seat's translation: a wheel of its own that holds the ring's lists, where each timer stands in the list of its tick; nothing that was there has turned.
-/
import Derived.Test.YtpghccbknlokcaaImplRead
import Derived.Test.YtpghccbknlokcaaCloneW
import Derived.Test.YtpghccbknlokcaaRoundRegion
import Derived.Deep.RegionHeld3
import Derived.Deep.DeepCutAuto
import Derived.Deep.OwnRows
namespace Go.Proofs.Ytpghccbknlokcaa.Ring
open Go.ChangeShapes Go.WideShapes Go.ChangeAt Go.RowKit Go.Shelf
open Go.Proofs.Ytpghccbknlokcaa.Timers Go.Proofs.Ytpghccbknlokcaa.WheelOk
open Go.Proofs.Ytpghccbknlokcaa.Tick (tokB tok_t)
open Go.Proofs.Ytpghccbknlokcaa.Spoke (spokeV spoke_t spokeOf_any)
set_option linter.unusedVariables false
set_option linter.unusedSimpArgs false
attribute [local go_sem] Oper.semAt_some

/-- Eight slices that are nil. -/
def nil8 : Array Value := madeCells #[.slice none 0 0] 8
theorem make8 (W : World) : (Instr.makeSlice 24 (.int .i64 8) (.int .i64 8)).run Try.prog W = .ok (.slice (some ⟨W.heap.size, 0, none⟩) 8 8) (W.alloc (.cells nil8 96)) :=
  run_make_row' (P := Try.prog) 24 96 (.slice none 0 0) 24 Try.underlying24 info66 rfl .i64 .i64 8 (by omega) (by omega) W
theorem nil8_list : nil8.toList = List.replicate 8 (.slice none 0 0) := toList_madeCells_one _ _
/-- Eight empty lists, just made. -/
theorem own8 (W : World) (lo : Nat) (h : lo ≤ W.heap.size) : OwnS (W.alloc (.cells nil8 96)) lo (W.heap.size + 1) (some ⟨W.heap.size, 0, none⟩) 8 8 empty8 := by
  have hrow : (W.alloc (.cells nil8 96)).ownsRow lo 96 1 (.slice (some ⟨W.heap.size, 0, none⟩) 8 8) 8 (List.replicate 8 (.slice none 0 0)) := by
    refine ⟨by simp, .inr ⟨W.heap.size, 8, nil8, rfl, h, heap_alloc_new W _, Nat.le_refl _, by unfold maxLen; omega, by simp [nil8, madeCells], ?_⟩⟩
    rw [nil8_list]
    rfl
  have h5 := OwnS.made hrow (by simp)
  have h6 : (W.alloc (.cells nil8 96)).heap.size = W.heap.size + 1 := by simp
  rw [h6] at h5
  exact h5

/-- What stands behind the making of the new wheel: its box, its eight empty lists. -/
def Fresh (w wx : World) (now : Int) (v : Value) : Prop :=
  ∃ gb gs, v = .pointer (some ⟨gb, 0, none⟩) ∧ wx.heap[gb]? = some (.cells #[.int .i64 now, .slice (some ⟨gs, 0, none⟩) 8 8] 26 (0, 0)) ∧
    OwnS wx (w.heap.size + 1) wx.heap.size (some ⟨gs, 0, none⟩) 8 8 empty8 ∧ Below (w.heap.size + 1) (w.alloc (.cells #[.int .i64 0, .slice none 0 0] 26)) wx ∧ w.heap.size + 1 ≤ gb

theorem Fresh.drew {w wx : World} {now : Int} {v : Value} (h : Fresh w wx now v) : Fresh w wx.drew now v := by
  obtain ⟨gb, gs, h1, h2, h3, h4, h5⟩ := h
  exact ⟨gb, gs, h1, h2, h3, h4.drew, h5⟩
theorem fresh1 (w : World) (now : Int) : Fresh w (((w.alloc (.cells #[.int .i64 0, .slice none 0 0] 26)).alloc (.cells nil8 96)).alloc (.cells #[.int .i64 now, .slice (some ⟨w.heap.size + 1, 0, none⟩) 8 8] 26)) now (.pointer (some ⟨w.heap.size + 1 + 1, 0, none⟩)) := by
  obtain ⟨w0, hw0⟩ : ∃ w0, w0 = w.alloc (.cells #[.int .i64 0, .slice none 0 0] 26) := ⟨_, rfl⟩
  have hs : w0.heap.size = w.heap.size + 1 := by rw [hw0]; simp
  unfold Fresh
  rw [← hw0, ← hs]
  have hO := own8 w0 w0.heap.size (Nat.le_refl _)
  have hb := heap_alloc_new (w0.alloc (.cells nil8 96)) (.cells #[.int .i64 now, .slice (some ⟨w0.heap.size, 0, none⟩) 8 8] 26)
  rw [World.size_alloc] at hb
  refine ⟨w0.heap.size + 1, w0.heap.size, rfl, hb, ?_, below_a2 _ _ _, by omega⟩
  exact (hO.below (below_a1 _ _)).more (by simp)
theorem fresh2 (w : World) (now : Int) : Fresh w (((w.alloc (.cells #[.int .i64 0, .slice none 0 0] 26)).alloc (.cells #[.int .i64 now, .slice (some ⟨w.heap.size + 1 + 1, 0, none⟩) 8 8] 26)).alloc (.cells nil8 96)) now (.pointer (some ⟨w.heap.size + 1, 0, none⟩)) := by
  obtain ⟨w0, hw0⟩ : ∃ w0, w0 = w.alloc (.cells #[.int .i64 0, .slice none 0 0] 26) := ⟨_, rfl⟩
  have hs : w0.heap.size = w.heap.size + 1 := by rw [hw0]; simp
  unfold Fresh
  rw [← hw0, ← hs]
  have hO := own8 (w0.alloc (.cells #[.int .i64 now, .slice (some ⟨w0.heap.size + 1, 0, none⟩) 8 8] 26)) w0.heap.size (by simp)
  have hb := heap_alloc_new w0 (.cells #[.int .i64 now, .slice (some ⟨w0.heap.size + 1, 0, none⟩) 8 8] 26)
  refine ⟨w0.heap.size, w0.heap.size + 1, rfl, ?_, ?_, below_a2 _ _ _, by omega⟩
  · rw [Below.heap_alloc _ _ _ (by simp)]
    exact hb
  · rw [World.size_alloc] at hO
    exact hO.more (by simp)

theorem own_other {w w' : World} {base : Nat} {e : TypeId} {size n : Nat} {v : Value} {xs : List Value} {row : Option Nat} (h : w.ownsRow base e size v n xs) (hg : w.grownBy w' row) (hr : ∀ r, row = some r → ∃ o : Obj, w.heap[r]? = some o ∧ o.isCells = false) : w'.ownsRow base e size v n xs := by
  refine h.kept hg ?_
  cases hb : v.ownBlock with
  | none => exact .inl rfl
  | some q =>
    refine .inr fun e2 => ?_
    obtain ⟨o, ho, hc⟩ := hr q e2.symm
    rcases h.2 with ⟨rfl, _⟩ | ⟨g1, cap1, cur1, rfl, _, hh1, _⟩
    · simp [Value.ownBlock] at hb
    · simp [Value.ownBlock] at hb
      subst hb
      rw [hh1] at ho
      injection ho with ho
      subst ho
      simp [Obj.isCells] at hc
theorem OwnS.other {w w' : World} {lo hi : Nat} {A : Option Addr} {n c : Nat} {ss : List TList} {row : Option Nat} (h : OwnS w lo hi A n c ss) (hg : w.grownBy w' row) (hr : ∀ r, row = some r → ∃ o : Obj, w.heap[r]? = some o ∧ o.isCells = false) : OwnS w' lo hi A n c ss := by
  refine ⟨h.1, fun hn => ?_⟩
  obtain ⟨g, vs, e, hg2, hrow, hj, hd⟩ := h.2 hn
  refine ⟨g, vs, e, hg2, own_other hrow hg hr, fun j hjn => ?_, hd⟩
  obtain ⟨A', c', hv, hT⟩ := hj j hjn
  exact ⟨A', c', hv, hT.1, own_other hT.2.1 hg hr, hT.2.2⟩

theorem row_ne_blk {w : World} {base : Nat} {e e' : TypeId} {size n gb : Nat} {v : Value} {xs : List Value} {cs : Array Value} {z : Nat × Nat} (h : w.ownsRow base e size v n xs) (hg : w.heap[gb]? = some (.cells cs e' z)) (hne : e ≠ e') : v.ownBlock ≠ some gb := by
  intro hb
  rcases h.2 with ⟨rfl, _⟩ | ⟨g1, cap1, cur1, rfl, _, hh1, _⟩
  · simp [Value.ownBlock] at hb
  · simp [Value.ownBlock] at hb
    subst hb
    rw [hh1] at hg
    injection hg with h3
    injection h3 with _ h4
    exact hne h4

theorem row_cells {w : World} {base : Nat} {e : TypeId} {size n : Nat} {v : Value} {xs : List Value} (h : w.ownsRow base e size v n xs) (j : Nat) (o : Obj) (hb : v.ownBlock = some j) (hg : w.heap[j]? = some o) : o.isCells = true := by
  rcases h.2 with ⟨rfl, _⟩ | ⟨g1, cap1, cur1, rfl, _, hh1, _⟩
  · simp [Value.ownBlock] at hb
  · simp [Value.ownBlock] at hb
    subst hb
    rw [hh1] at hg
    injection hg with h3
    rw [← h3]
    rfl

/-- One timer is put behind the list of its tick. -/
def fill1 (acc : List TList) (p : Int × Int) : List TList := acc.set (norm p.2 % 8).toNat (acc.getD (norm p.2 % 8).toNat [] ++ [(p.1, norm p.2)])
def fill (pre : TList) : List TList := pre.foldl fill1 empty8
theorem fill_snoc (pre : TList) (x : Int × Int) : fill (pre ++ [x]) = fill1 (fill pre) x := by simp [fill]
theorem fill1_length (acc : List TList) (p : Int × Int) : (fill1 acc p).length = acc.length := by simp [fill1]
theorem fold_length (pre : TList) : ∀ acc : List TList, (pre.foldl fill1 acc).length = acc.length := by
  induction pre with
  | nil => intro acc; rfl
  | cons p pre ih => intro acc; rw [List.foldl_cons, ih, fill1_length]
theorem fill_length (pre : TList) : (fill pre).length = 8 := by unfold fill; rw [fold_length]; rfl
theorem fill1_at (acc : List TList) (p : Int × Int) (j : Nat) (h : acc.length = 8) : (fill1 acc p).getD j [] = if j = (norm p.2 % 8).toNat then acc.getD j [] ++ [(p.1, norm p.2)] else acc.getD j [] := by
  unfold fill1
  split
  · rename_i e
    subst e
    rw [Timers.getD_set_eq]
    omega
  · rename_i e
    rw [Timers.getD_set_ne _ _ _ _ e]
theorem fold_at (pre : TList) (j : Nat) : ∀ acc : List TList, acc.length = 8 → (pre.foldl fill1 acc).getD j [] = acc.getD j [] ++ (pre.filter fun p => decide (j = (norm p.2 % 8).toNat)).map fun p => (p.1, norm p.2) := by
  induction pre with
  | nil => intro acc _; simp
  | cons p pre ih =>
    intro acc h
    rw [List.foldl_cons, ih _ (by rw [fill1_length]; exact h), fill1_at acc p j h, List.filter_cons]
    by_cases e : j = (norm p.2 % 8).toNat
    · rw [if_pos e, if_pos (by simpa using e), List.map_cons, List.append_assoc]
      rfl
    · rw [if_neg e, if_neg (by simpa using e)]
theorem fill_at (pre : TList) (j : Nat) : (fill pre).getD j [] = (pre.filter fun p => decide (j = (norm p.2 % 8).toNat)).map fun p => (p.1, norm p.2) := by
  unfold fill
  rw [fold_at pre j empty8 rfl]
  have : empty8.getD j [] = [] := getD_rep 8 j
  rw [this, List.nil_append]
theorem fill_len (pre : TList) (j : Nat) : ((fill pre).getD j []).length ≤ pre.length := by
  rw [fill_at, List.length_map]
  exact List.length_filter_le _ _
theorem filt_none (l : TList) (q : Int × Int → Bool) (h : ∀ p ∈ l, q p = false) : l.filter q = [] := by
  rw [List.filter_eq_nil_iff]
  intro p hp
  rw [h p hp]
  decide
theorem filt_flat (rs : List TList) (q : Int × Int → Bool) (j b : Nat) (h1 : ∀ i, ∀ p ∈ rs.getD i [], q p = decide (b + i = j)) : rs.flatten.filter q = if b ≤ j then rs.getD (j - b) [] else [] := by
  induction rs generalizing b with
  | nil => simp
  | cons l rs ih =>
    rw [List.flatten_cons, List.filter_append, ih (b + 1) (fun i p hp => by rw [h1 (i + 1) p (by simpa using hp)]; congr 1; exact propext ⟨fun h => by omega, fun h => by omega⟩)]
    have h0 := h1 0
    by_cases e : b = j
    · subst e
      rw [List.filter_eq_self.2 (fun p hp => by rw [h0 p (by simpa using hp)]; simp), if_neg (by omega), if_pos (Nat.le_refl _), Nat.sub_self, List.append_nil]
      rfl
    · rw [filt_none l q (fun p hp => by rw [h0 p (by simpa using hp)]; simp [e]), List.nil_append]
      by_cases e2 : b ≤ j
      · rw [if_pos e2, if_pos (by omega)]
        obtain ⟨d, hd⟩ : ∃ d, j - b = d + 1 := ⟨j - b - 1, by omega⟩
        rw [hd, show j - (b + 1) = d by omega]
        simp
      · rw [if_neg e2, if_neg (by omega)]
theorem map_same {l : TList} {f : Int × Int → Int × Int} (h : ∀ p ∈ l, f p = p) : l.map f = l := by
  conv => rhs; rw [← List.map_id l]
  exact List.map_congr_left h
/-- Filled from lists in which each timer stands where it belongs: those lists. -/
theorem fill_flat (rs : List TList) (hl : rs.length = 8) (hT : ∀ j t, t ∈ rs.getD j [] → tokB t.2 = true ∧ spokeV t.2 = (j : Int)) : fill rs.flatten = rs := by
  refine List.ext_getElem (by rw [fill_length, hl]) fun j h1 h2 => ?_
  have e1 : (fill rs.flatten)[j] = (fill rs.flatten).getD j [] := (getD_lt _ j [] h1).symm
  have e2 : rs[j] = rs.getD j [] := (getD_lt _ j [] h2).symm
  have hq : ∀ i, ∀ p ∈ rs.getD i [], decide (j = (norm p.2 % 8).toNat) = decide (0 + i = j) := by
    intro i p hp
    obtain ⟨h5, h6⟩ := hT i p hp
    rw [spoke_t h5] at h6
    rw [norm_of h5]
    congr 1
    exact propext ⟨fun h => by omega, fun h => by omega⟩
  rw [e1, e2, fill_at, filt_flat rs _ j 0 hq, if_pos (Nat.zero_le _), Nat.sub_zero]
  exact map_same fun p hp => Prod.ext rfl (norm_of (hT j p hp).1)

set_option maxRecDepth 100000 in
set_option maxHeartbeats 2000000 in
theorem wheelOf_any (lo g : Nat) (now : Int) (rs : List TList) (w : World) (hR : OwnR w lo g now rs) (hT : ∀ j t, t ∈ rs.getD j [] → tokB t.2 = true ∧ spokeV t.2 = (j : Int)) (hF : tot rs ≤ 100) :
    Calls Try.prog 51 #[.pointer (some ⟨g, 0, none⟩)] w (CopiedW w now rs) := by
  obtain ⟨n0, nf⟩ := hR.now_cell
  have hgl := hR.lt
  have HR := Lib.hid hR
  clear hR
  obtain ⟨i0, hi, hz0, hz1, hz2⟩ := info_parts info66
  refine (callsIn_wide (n := 6)).1 ?_
  refine callsIn_of_wp_marks Try.func51 rfl trivial ?_ rfl
  simp only [Try.ntmps51, List.size_toArray, List.length_cons, List.length_nil, Nat.reduceAdd, Nat.reduceSub, Array.replicate_succ, Array.replicate_zero, List.push_toArray, List.append_toArray, List.nil_append, List.cons_append]
  have hmk := make8
  refine wpIn_wide.2 ?_
  go_upto_region 1 with fail
  go_cut [3] from 7 to 12 (fun s3 wx => Fresh w wx now s3)
  case first =>
    have hne := World.new_ne (w.alloc (.cells #[.int .i64 0, .slice none 0 0] 26)) ⟨g, 0, none⟩ (below_keep (below_a1 _ _) n0)
    have n1 := below_keep (below_a1 w (.cells #[.int .i64 0, .slice none 0 0] 26)) n0
    go_region_held3 (fun w' => w'.cell? ⟨g, 0, none⟩ = some (.int .i64 now)) (first | go_keep | (exact below_keep (below_a1 _ _) (by assumption))) (first | (fail))
    all_goals (go_wp2_with fail; go_meet; first | exact (fresh1 w now).drew | exact (fresh2 w now).drew)
  case rest =>
    obtain ⟨gb, gs, rfl, hblk, hO, hbel, hle⟩ := hcut
    have HBLK := Lib.hid hblk
    have HO := Lib.hid hO
    clear hblk hO hmk
    go_wp2_with (go_at_call 58; refine (callsIn_wide.1 (timers_in Fence.wide 6 trivial rfl _ _)).mono ?_; rintro e w' ⟨rfl, rfl⟩)
    refine (wpIn_wide (n := 6)).1 ?_
    have hcs := hbel.size
    rw [World.size_alloc] at hcs
    have hB0 : Below (w.heap.size + 1) (w.alloc (.cells #[.int .i64 0, .slice none 0 0] 26)) (wc.alloc (.cells #[.pointer (some ⟨g, 0, none⟩)] 84)) := hbel.alloc hcs _
    have hB1 : Below w.heap.size w (wc.alloc (.cells #[.pointer (some ⟨g, 0, none⟩)] 84)) := (below_a1 w (.cells #[.int .i64 0, .slice none 0 0] 26)).trans (hB0.mono (Nat.le_succ _))
    have hbx := box1_new wc (.pointer (some ⟨g, 0, none⟩)) 84
    have hgw : gb < wc.heap.size := (Array.getElem?_eq_some_iff.1 HBLK.out).1
    rename_i KK hcont
    have HL : Hid (rs.length = 8) := by obtain ⟨vs, h1, h2, _⟩ := HR.out; exact h2
    refine wpIn_rangeFunc_ownF rfl (by omega) (gf := 102) (lb := #[.pointer (some ⟨wc.heap.size, 0, none⟩)]) rfl trivial (enters_of Try.func102 (by kernel_rfl) rfl)
      (timers_stops Fence.wide _ trivial rfl (by omega) wc.heap.size w.heap.size g rs _ (fun j t h => (hT j t h).1) hF (by simp) (by simp; omega) hbx.1 (HR.out.reads.keep hB1)) belowK_t (belowK_b (by simp; omega)) (Below.refl _ _) (fun _ => rfl)
      (fun pre W => (W.heap[gb]? = some (.cells #[.int .i64 now, .slice (some ⟨gs, 0, none⟩) 8 8] 26 (0, 0)) ∧ OwnS W (w.heap.size + 1) W.heap.size (some ⟨gs, 0, none⟩) 8 8 (fill pre)) ∧ Below (w.heap.size + 1) (w.alloc (.cells #[.int .i64 0, .slice none 0 0] 26)) W)
      (fun _ _ _ => False)
      (OwnFrom.and (Own.from (fun s A B row hs hg hr => ⟨(grownBy_keeps_cells hg hr hs.1 rfl).trans hs.1, (OwnS.other hs.2 hg hr).more hg.size⟩) _) (ownFrom_below (by simp) (by simp; omega)))
      (fun _ _ _ _ _ hs _ _ => hs)
      ⟨⟨by rw [Below.heap_alloc _ _ _ hgw]; exact HBLK.out, ((HO.out.below (below_a1 _ _)).more (by simp))⟩, hB0⟩
      (fun x => { tmps := #[.pointer (some ⟨g, 0, none⟩), undef, .pointer (some ⟨w.heap.size, 0, none⟩), .pointer (some ⟨gb, 0, none⟩), .int .i64 x.1, .int .i64 (norm x.2), undef, u7, u8, u9, u10, u11, u12, .pointer (some ⟨g, 0, none⟩), .func (.func 102) #[] #[.pointer (some ⟨wc.heap.size, 0, none⟩)], .int .i64 x.1, .int .i64 (norm x.2), undef, undef, undef, undef, undef, undef, undef, undef, undef, undef, undef, undef, undef, undef, undef, undef, undef], defers := [] }) ?assign ?body ?done ?stop
    case assign =>
      intro l x W K hK
      simp only [encs]
      gi_wp2
      simpa [encs] using hK
    case body =>
      rintro l pre x W ⟨⟨hb, hO1⟩, hB⟩ hlen
      have hsp : spokeV (norm x.2) = (norm x.2 % 8) := spoke_t (norm_tok x.2)
      obtain ⟨j, hj⟩ : ∃ j, j = (norm x.2 % 8).toNat := ⟨_, rfl⟩
      have hj8 : j < 8 := by omega
      have hsj : spokeV (norm x.2) = (j : Int) := by omega
      obtain ⟨y, hy⟩ : ∃ y, y = norm x.2 := ⟨_, rfl⟩
      rw [← hy] at hsj
      simp only [← hy]
      obtain ⟨A1, c1, hcell, hfr, hTj⟩ := hO1.cell hj8
      obtain ⟨m, hm⟩ : ∃ m, m = ((fill pre).getD j []).length := ⟨_, rfl⟩
      have hm1 : m ≤ 100 := by have := fill_len pre j; omega
      rw [← hm] at hcell hTj
      have HM := Lib.hid hm
      have HJ := Lib.hid hj
      have HY := Lib.hid hy
      have HSJ := Lib.hid hsj
      have HO1 := Lib.hid hO1
      have HT1 := Lib.hid hTj
      obtain ⟨c0, c1', f0, f1⟩ := blk2 hb
      have HB := Lib.hid hb
      clear hm hj hy hsj hO1 hTj hb hsp
      gi_wp2_with (refine ⟨trivial, ?_⟩; gi_at_call 99; refine (CallsIn.inRound l (callsIn_wide.2 (spokeOf_any _ _))).mono ?_; rintro e w' ⟨rfl, rfl⟩; simp only [HSJ.out])
      obtain ⟨W1, hW1⟩ : ∃ W1, W1 = (W.alloc (.cells #[.int .i64 x.1, .int .i64 y] 98)).drew := ⟨_, rfl⟩
      have hb01 : Below W.heap.size W W1 := by rw [hW1]; exact (below_a1 _ _).drew
      have hs1 : W1.heap.size = W.heap.size + 1 := by rw [hW1]; exact World.size_alloc _ _
      have HO2 := Lib.hid (HO1.out.below hb01)
      have HROW2 := Lib.hid (own_below HT1.out.2.1 hb01)
      have hcm1 : W1.cell? ⟨gs, j, none⟩ = some (.slice A1 m c1) := below_keep hb01 hcell
      have HCM : Hid (W1.cell? ⟨gs, j, none⟩ = some (.slice A1 ((fill pre).getD j []).length c1)) := by rw [HM.out] at hcm1; exact hcm1
      have hgbl : gb < W.heap.size := (Array.getElem?_eq_some_iff.1 HB.out).1
      have HB2 : Hid (W1.heap[gb]? = some (.cells #[.int .i64 now, .slice (some ⟨gs, 0, none⟩) 8 8] 26 (0, 0))) := (hb01.block gb hgbl).trans HB.out
      have hrne := row_ne_blk HROW2.out HB2.out (by decide)
      have hgne : gs ≠ gb := by
        obtain ⟨g', vs, e, _, hrow, _⟩ := HO2.out.2 (by omega)
        intro e2
        exact row_ne_blk hrow HB2.out (by decide) (by rw [e2]; rfl)
      obtain ⟨gg, hgg, hglo, hghi⟩ := HO1.out.at_ (by omega)
      have hgsl : w.heap.size + 1 ≤ gs := by injection hgg with e; injection e with e; omega
      clear hgg hglo hghi
      have hnews : W1.heap[W.heap.size]? = some (.cells #[.int .i64 x.1, .int .i64 y] 98 (0, 0)) := by rw [hW1]; exact heap_alloc_new W _
      have HNEWS := Lib.hid hnews
      have HRNE := Lib.hid hrne
      obtain ⟨i1, hi1, hy0, hy1, hy2⟩ := info_parts info68
      have hloW : w.heap.size + 1 ≤ W.heap.size := by have := hB.size; simp at this; exact this
      clear hnews hrne hcm1
      have hcellA := below_keep (below_a1 W (.cells #[.int .i64 x.1, .int .i64 y] 98)) hcell
      have hbA := below_keep (below_a1 W (.cells #[.int .i64 x.1, .int .i64 y] 98)) c1'
      have hj0 : (0 : Int) ≤ (j : Int) := by omega
      have hj1 : (j : Int) < 8 := by omega
      refine wpIn_region_round (fun w' => w'.cell? ⟨gb, 1, none⟩ = some (.slice (some ⟨gs, 0, none⟩) 8 8)) l _ (by kernel_rfl) (calm_of (by kernel_rfl)) ?lets c1' ?_
      case lets => rintro ⟨_, _, h⟩; exact h
      intro hHeld
      refine wpAnyH_take (i := 0) (v := ?v0) rfl (by kernel_rfl) (by kernel_rfl) (by kernel_rfl) (fun _ _ _ h => h) (Or.inl ⟨by rfl, ?hy0⟩) (by assumption) ?_
      case hy0 => (intro w0 hSw; (try dsimp only at hSw); go_simp <;> with_reducible rfl)
      try simp only [Act.put, List.getElem_toArray, List.getElem_cons_zero, List.getElem_cons_succ, List.setIfInBounds_toArray, List.set_cons_zero, List.set_cons_succ]
      refine wpAnyH_take (i := 1) (v := ?v1) rfl (by kernel_rfl) (by kernel_rfl) (by kernel_rfl) (fun _ _ _ h => h) (Or.inl ⟨by rfl, ?hy1⟩) (by assumption) ?_
      case hy1 => (intro w0 hSw; (try dsimp only at hSw); go_simp <;> with_reducible rfl)
      try simp only [Act.put, List.getElem_toArray, List.getElem_cons_zero, List.getElem_cons_succ, List.setIfInBounds_toArray, List.set_cons_zero, List.set_cons_succ]
      refine wpAnyH_take (i := 2) (v := ?v2) rfl (by kernel_rfl) (by kernel_rfl) (by kernel_rfl) (fun _ _ _ h => h) (Or.inl ⟨by rfl, ?hy2⟩) (by assumption) ?_
      case hy2 => (intro w0 hSw; (try dsimp only at hSw); go_simp <;> with_reducible rfl)
      try simp only [Act.put, List.getElem_toArray, List.getElem_cons_zero, List.getElem_cons_succ, List.setIfInBounds_toArray, List.set_cons_zero, List.set_cons_succ]
      refine wpAnyH_take (i := 3) (v := ?v3) rfl (by kernel_rfl) (by kernel_rfl) (by kernel_rfl) (fun _ _ _ h => h) (Or.inl ⟨by rfl, ?hy3⟩) (by assumption) ?_
      case hy3 => (intro w0 hSw; (try dsimp only at hSw); go_simp <;> with_reducible rfl)
      try simp only [Act.put, List.getElem_toArray, List.getElem_cons_zero, List.getElem_cons_succ, List.setIfInBounds_toArray, List.set_cons_zero, List.set_cons_succ]
      refine wpAnyH_take (i := 4) (v := ?v4) rfl (by kernel_rfl) (by kernel_rfl) (by kernel_rfl) (fun _ _ _ h => h) (Or.inl ⟨by rfl, ?hy4⟩) (by assumption) ?_
      case hy4 => (intro w0 hSw; (try dsimp only at hSw); go_simp <;> with_reducible rfl)
      try simp only [Act.put, List.getElem_toArray, List.getElem_cons_zero, List.getElem_cons_succ, List.setIfInBounds_toArray, List.set_cons_zero, List.set_cons_succ]
      refine wpAnyH_take (i := 5) (v := ?v5) rfl (by kernel_rfl) (by kernel_rfl) (by kernel_rfl) (fun _ _ _ h => h) (Or.inl ⟨by rfl, ?hy5⟩) (by assumption) ?_
      case hy5 => (intro w0 hSw; (try dsimp only at hSw); go_simp <;> with_reducible rfl)
      try simp only [Act.put, List.getElem_toArray, List.getElem_cons_zero, List.getElem_cons_succ, List.setIfInBounds_toArray, List.set_cons_zero, List.set_cons_succ]
      refine wpAnyH_take (i := 6) (v := ?v6) rfl (by kernel_rfl) (by kernel_rfl) (by kernel_rfl) (fun _ _ _ h => h) (Or.inl ⟨by rfl, ?hy6⟩) (by assumption) ?_
      case hy6 => (intro w0 hSw; (try dsimp only at hSw); go_simp <;> with_reducible rfl)
      try simp only [Act.put, List.getElem_toArray, List.getElem_cons_zero, List.getElem_cons_succ, List.setIfInBounds_toArray, List.set_cons_zero, List.set_cons_succ]
      refine wpAnyH_take (i := 8) (v := ?v8) rfl (by kernel_rfl) (by kernel_rfl) (by kernel_rfl) (fun _ _ _ h => h) (Or.inl ⟨by rfl, ?hy8⟩) (by assumption) ?_
      case hy8 => (intro w0 hSw; (try dsimp only at hSw); go_simp <;> with_reducible rfl)
      try simp only [Act.put, List.getElem_toArray, List.getElem_cons_zero, List.getElem_cons_succ, List.setIfInBounds_toArray, List.set_cons_zero, List.set_cons_succ]
      refine wpAnyH_take (i := 9) (v := ?v9) rfl (by kernel_rfl) (by kernel_rfl) (by kernel_rfl) (fun _ _ _ h => h) (Or.inl ⟨by rfl, ?hy9⟩) (by assumption) ?_
      case hy9 => (intro w0 hSw; (try dsimp only at hSw); go_simp <;> with_reducible rfl)
      try simp only [Act.put, List.getElem_toArray, List.getElem_cons_zero, List.getElem_cons_succ, List.setIfInBounds_toArray, List.set_cons_zero, List.set_cons_succ]
      refine wpAnyH_take (i := 10) (v := ?v10) rfl (by kernel_rfl) (by kernel_rfl) (by kernel_rfl) (fun _ _ _ h => h) (Or.inl ⟨by rfl, ?hy10⟩) (by assumption) ?_
      case hy10 => (intro w0 hSw; (try dsimp only at hSw); go_simp <;> with_reducible rfl)
      try simp only [Act.put, List.getElem_toArray, List.getElem_cons_zero, List.getElem_cons_succ, List.setIfInBounds_toArray, List.set_cons_zero, List.set_cons_succ]
      refine wpAnyH_ready (rs := [7, 11]) (by kernel_rfl) (by simp) (AllReadyH.cons rfl (fun K hK => ?A) (AllReadyH.cons rfl (fun K hK => ?B) AllReadyH.nil))
      case' A =>
        go_simp
        refine hK.out _ _ (by exact c1') (fun hHeld => ?_)
        clear hK K
        try simp only [Act.put, List.getElem_toArray, List.getElem_cons_zero, List.getElem_cons_succ, List.setIfInBounds_toArray, List.set_cons_zero, List.set_cons_succ]
        refine wpAnyH_ready (rs := [11]) (by kernel_rfl) (by simp) (AllReadyH.cons rfl (fun K hK => ?_) AllReadyH.nil)
        go_simp
        refine hK.out _ _ hbA (fun hHeld => ?_)
        clear hK K
        try simp only [Act.put, List.getElem_toArray, List.getElem_cons_zero, List.getElem_cons_succ, List.setIfInBounds_toArray, List.set_cons_zero, List.set_cons_succ]
      case' B =>
        go_simp
        refine hK.out _ _ hbA (fun hHeld => ?_)
        clear hK K
        try simp only [Act.put, List.getElem_toArray, List.getElem_cons_zero, List.getElem_cons_succ, List.setIfInBounds_toArray, List.set_cons_zero, List.set_cons_succ]
        refine wpAnyH_ready (rs := [7]) (by kernel_rfl) (by simp) (AllReadyH.cons rfl (fun K hK => ?_) AllReadyH.nil)
        go_simp
        refine hK.out _ _ hbA (fun hHeld => ?_)
        clear hK K
        try simp only [Act.put, List.getElem_toArray, List.getElem_cons_zero, List.getElem_cons_succ, List.setIfInBounds_toArray, List.set_cons_zero, List.set_cons_succ]
      all_goals
        rw [← hW1]
        refine wpAnyH_ready (rs := [12]) (by kernel_rfl) (by simp) (AllReadyH.cons rfl (fun K hK => ?_) AllReadyH.nil)
        refine step_append_lies W1 rfl (.tmp 26) (.tmp 30) 96 rfl (w.heap.size + 1) 98 i1 _ 2 16 Try.underlying96 hi1 hy0 hy1 hy2 rfl (by omega) (.slice A1 m c1) m _ rfl (by exact HROW2.out) ⟨W.heap.size, 0, none⟩ 1 1 [.int .i64 x.1, .int .i64 y] rfl rfl (World.news_of_block (cs := #[.int .i64 x.1, .int .i64 y]) HNEWS.out) (by intro u hu; simp at hu; rcases hu with rfl | rfl <;> rfl) (by omega) (by unfold maxLen; omega) (by omega) (by omega) (W.heap.size + 1) hs1 ?_
        intro g2 cap2 w2 hown2 hgr2 hat2 hlt2
        have hT2 : OwnT w2 (w.heap.size + 1) w2.heap.size (some ⟨g2, 0, none⟩) (m + 1) cap2 ((fill pre).getD j [] ++ [(x.1, y)]) :=
          ⟨by simp [HM.out], by rw [flat_app]; exact hown2, fun p e => by injection e with e; subst e; exact hlt2⟩
        have hsz2 := hgr2.size
        obtain ⟨hO3, hf3, u3, hu3⟩ := HO2.out.put2 hj8 HCM.out (by rw [← HM.out]; exact hgr2) hT2 (by omega) (by
          rw [← HM.out]
          rcases hat2 with h | h
          · exact .inl h.symm
          · refine .inr fun q hq => ?_
            have : g2 = q := by simpa [Value.ownBlock] using hq
            subst this
            omega) (by omega)
        have hgb2 : w2.heap[gb]? = some (.cells #[.int .i64 now, .slice (some ⟨gs, 0, none⟩) 8 8] 26 (0, 0)) := (hgr2.block gb (by omega) (fun e => HRNE.out e.symm)).trans HB2.out
        obtain ⟨d0, d1, _, _⟩ := blk2 hgb2
        have hgb3 : (w2.setCell ⟨gs, j, none⟩ (.slice (some ⟨g2, 0, none⟩) (m + 1) cap2)).heap[gb]? = some (.cells #[.int .i64 now, .slice (some ⟨gs, 0, none⟩) 8 8] 26 (0, 0)) := (Below.heap_setCell w2 ⟨gs, j, none⟩ _ gb (fun e => hgne e.symm)).trans hgb2
        obtain ⟨d2, d3, _, _⟩ := blk2 hgb3
        have HO3 := Lib.hid hO3
        have HGB3 := Lib.hid hgb3
        have HGR := Lib.hid hgr2
        have HT2 := Lib.hid hT2
        refine hK.out _ _ d1 (fun hHeld => ?_)
        clear hK K hO3 hgb3 hgr2 hT2 hown2 hat2 hgb2
        try simp only [Act.put, List.getElem_toArray, List.getElem_cons_zero, List.getElem_cons_succ, List.setIfInBounds_toArray, List.set_cons_zero, List.set_cons_succ]
        refine wpAnyH_take (i := 13) (v := ?v13) rfl (by kernel_rfl) (by kernel_rfl) (by kernel_rfl) (fun _ _ _ h => h) (Or.inl ⟨by rfl, ?hy13⟩) (by assumption) ?_
        case hy13 => (intro w0 hSw; (try dsimp only at hSw); go_simp <;> with_reducible rfl)
        try simp only [Act.put, List.getElem_toArray, List.getElem_cons_zero, List.getElem_cons_succ, List.setIfInBounds_toArray, List.set_cons_zero, List.set_cons_succ]
        refine wpAnyH_ready (rs := [14]) (by kernel_rfl) (by simp) (AllReadyH.cons rfl (fun K hK => ?_) AllReadyH.nil)
        go_simp
        refine hK.out _ _ d3 (fun hHeld => ?_)
        clear hK K
        refine wpAnyH_done (by kernel_rfl) ?_ _
        refine ⟨?_, ?_, ⟨HGB3.out, ?_⟩, ?_⟩
        · exact ((by rw [hW1]; exact (KeepsOthers.alloc W _).trans (KeepsOthers.drew _) : KeepsOthers W W1).trans (KeepsOthers.of_grownBy HGR.out (row_cells HROW2.out))).trans (KeepsOthers.setCell _ _ _)
        · exact ((hb01.mono (by omega)).grown HGR.out (by omega) (fun q hq => by have := HT1.out.blk q hq; omega)).setCell (p := ⟨gs, j, none⟩) (by show _ ≤ gs; omega) _
        · rw [fill_snoc]
          unfold fill1
          rw [← HJ.out, ← HY.out]
          have h5 : (w2.setCell ⟨gs, j, none⟩ (.slice (some ⟨g2, 0, none⟩) (m + 1) cap2)).heap.size = w2.heap.size := by simp [World.setCell]
          rw [h5]
          exact HO3.out
        · exact ((hB.trans (hb01.mono hloW)).grown HGR.out (by omega) (fun q hq => (HT1.out.blk q hq).1)).setCell (p := ⟨gs, j, none⟩) (by show _ ≤ gs; omega) _
    case done =>
      rintro D ys W hD rfl ⟨⟨hb, hO5⟩, hB⟩ hK
      rw [fill_flat rs HL.out hT] at hO5
      have HO5 := Lib.hid hO5
      obtain ⟨c0, c1, f0, f1⟩ := blk2 hb
      have hrb : W.heap[w.heap.size]? = some (.cells #[.int .i64 0, .slice none 0 0] 26 (0, 0)) := (hB.block _ (by omega)).trans (heap_alloc_new w _)
      obtain ⟨d0, d1, e0, e1⟩ := blk2 hrb
      have hgne : gb ≠ w.heap.size := by omega
      clear hO5 hb hrb
      refine hcont _ _ ?_
      go_wp2
      obtain ⟨Z, hZ⟩ : ∃ Z, Z = (W.setCell ⟨w.heap.size, 0, none⟩ (.int .i64 now)).setCell ⟨w.heap.size, 1, none⟩ (.slice (some ⟨gs, 0, none⟩) 8 8) := ⟨_, rfl⟩
      rw [← hZ]
      have hK' : Z.heap[D]? = some (.deferred (some [])) := by
        rw [hZ]
        exact (KeepsOthers.setCell _ _ _).same D _ ((KeepsOthers.setCell _ _ _).same D _ hK rfl) rfl
      have hz0' : Z.cell? ⟨w.heap.size, 0, none⟩ = some (.int .i64 now) := by simp [hZ, go_sem, d0, d1]
      have hz1' : Z.cell? ⟨w.heap.size, 1, none⟩ = some (.slice (some ⟨gs, 0, none⟩) 8 8) := by simp [hZ, go_sem, d0, d1]
      have hOZ : OwnS Z (w.heap.size + 1) W.heap.size (some ⟨gs, 0, none⟩) 8 8 rs := by
        rw [hZ]
        exact (HO5.out.setLow (p := ⟨w.heap.size, 0, none⟩) (by show w.heap.size < _; omega) _).setLow (p := ⟨w.heap.size, 1, none⟩) (by show w.heap.size < _; omega) _
      have hBZ : Below w.heap.size w Z := by
        rw [hZ]
        exact ((((below_a1 w (.cells #[.int .i64 0, .slice none 0 0] 26)).trans (hB.mono (Nat.le_succ _))).setCell (p := ⟨w.heap.size, 0, none⟩) (Nat.le_refl _) _)).setCell (p := ⟨w.heap.size, 1, none⟩) (Nat.le_refl _) _
      have hsZ : Z.heap.size = W.heap.size := by rw [hZ]; simp [World.setCell]
      have hgP := grownBy_putObj' Z D (.deferred none)
      have hrP : ∀ r, some D = some r → ∃ o : Obj, Z.heap[r]? = some o ∧ o.isCells = false := fun r e => by cases e; exact ⟨_, hK', rfl⟩
      refine ⟨by simp, .inl ⟨_, _, rfl, run_takeDeferred hK', ?_⟩⟩
      have hc5 := cell_kept hz0' hgP hrP
      have hc6 := cell_kept hz1' hgP hrP
      have h8 := HL.out
      refine ⟨.agg #[.int .i64 now, .slice (some ⟨gs, 0, none⟩) 8 8], ?_, some ⟨gs, 0, none⟩, 8, by rw [h8], ?_, ?_⟩
      · simp [results, Try.f51, go_sem, hc5, hc6]
      · rw [h8]
        exact ((OwnS.other hOZ hgP hrP).base (Nat.le_succ _)).more (by have := hgP.size; omega)
      · exact hBZ.trans (belowK_b (w := w) (Nat.le_refl _) Z D _ _ (by simp at hD; omega) hK' rfl rfl)
    case stop =>
      rintro D c pre W _ _ h _
      exact h.elim
end Go.Proofs.Ytpghccbknlokcaa.Ring
