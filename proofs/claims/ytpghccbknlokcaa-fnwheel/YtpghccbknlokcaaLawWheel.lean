/-
  THE WALK of laws.FnWheel over this seat's translation: it answers true and turns nothing that was there.
-/
import Derived.Test.YtpghccbknlokcaaWheelSt
import Derived.Test.YtpghccbknlokcaaWheelTools
import Derived.Test.YtpghccbknlokcaaByteAt
import Derived.Test.YtpghccbknlokcaaSpecOk
import Derived.Test.YtpghccbknlokcaaLawKit
import Derived.Test.YtpghccbknlokcaaBytes
import Derived.Maps.AppendAt
import Derived.Deep.DeepCutAuto
import Derived.Deep.Cut
import Derived.Deep.QuietTactic
import Derived.BigQuiet
namespace Go.Proofs.Ytpghccbknlokcaa.Ring
open Go.ChangeShapes Go.WideShapes Go.ChangeAt Go.RowKit
open Go.Proofs.Ytpghccbknlokcaa.LK (box_lt box_below box_new box_alloc box_cell box_frozen box2 box_set box_other bel1 bel2 bel3 bel_then)
open Go.Proofs.Ytpghccbknlokcaa.Timers Go.Proofs.Ytpghccbknlokcaa.WheelOk Go.Proofs.Ytpghccbknlokcaa.Has
open Go.Proofs.Ytpghccbknlokcaa.Ints (IsInts IsB big_any at_any)
open Go.Proofs.Ytpghccbknlokcaa.Tick (tokB tok_t inB)
open Go.Proofs.Ytpghccbknlokcaa.TickList (soonF stepV)
set_option linter.unusedVariables false
set_option linter.unusedSimpArgs false

theorem isB_bytes {w : World} {B : Nat} {A : Option Addr} {n : Nat} {bs : List Int} (h : Bytes.IsBytes w B A n bs) : IsB w B A n := fun hn => by
  obtain ⟨b, off, e, hlt, hc⟩ := h.2.2 hn
  refine ⟨b, off, e, hlt, fun j hj => ⟨bs.getD j 0, hc j hj, ?_⟩⟩
  have hl : j < bs.length := by rw [h.1]; exact hj
  exact h.2.1 _ (by simp [List.getD, hl])
theorem row_ap {w : World} {base base' : Nat} {e e' : TypeId} {size size' n n' : Nat} {u v : Value} {xs ys : List Value} (h : w.ownsRow base e size u n xs) (h' : w.ownsRow base' e' size' v n' ys) (hne : e ≠ e') : u.ownBlock = none ∨ u.ownBlock ≠ v.ownBlock := by
  cases hb : u.ownBlock with
  | none => exact .inl rfl
  | some q => exact .inr fun e2 => row_ne h h' hne hb e2.symm
theorem slots_ints {w w' : World} {lo hi : Nat} {A : Option Addr} {n c : Nat} {ss : List TList} {base m : Nat} {v : Value} {xs : List Value} (h : OwnS w lo hi A n c ss) (hI : w.ownsRow base 3 1 v m xs) (hg : w.grownBy w' v.ownBlock) : OwnS w' lo hi A n c ss := by
  refine ⟨h.1, fun hn => ?_⟩
  obtain ⟨g, vs, e, hg2, hrow, hj, hd⟩ := h.2 hn
  refine ⟨g, vs, e, hg2, hrow.kept hg (row_ap hrow hI (by decide)), fun j hjn => ?_, hd⟩
  obtain ⟨A', c', hv, hT⟩ := hj j hjn
  exact ⟨A', c', hv, hT.1, hT.2.1.kept hg (row_ap hT.2.1 hI (by decide)), hT.2.2⟩
theorem grown_set (w : World) (b i : Nat) (u : Value) : w.grownBy (w.setCell ⟨b, i, none⟩ u) (some b) := ⟨rfl, rfl, rfl, by simp [World.setCell], fun k _ hne => Below.heap_setCell w ⟨b, i, none⟩ u k (fun e => hne (by rw [e]))⟩
theorem slots_box {w : World} {lo hi wb i : Nat} {A : Option Addr} {n c : Nat} {ss : List TList} {cs : Array Value} (h : OwnS w lo hi A n c ss) (hbx : w.heap[wb]? = some (.cells cs 26)) (u : Value) : OwnS (w.setCell ⟨wb, i, none⟩ u) lo hi A n c ss := by
  have hg := grown_set w wb i u
  refine ⟨h.1, fun hn => ?_⟩
  obtain ⟨g, vs, e, hg2, hrow, hj, hd⟩ := h.2 hn
  refine ⟨g, vs, e, hg2, hrow.kept hg (.inr (row_ne_blk hrow hbx (by decide))), fun j hjn => ?_, hd⟩
  obtain ⟨A', c', hv, hT⟩ := hj j hjn
  exact ⟨A', c', hv, hT.1, hT.2.1.kept hg (.inr (row_ne_blk hT.2.1 hbx (by decide))), hT.2.2⟩
theorem int_app {w' : World} {base k g cap : Nat} {zs : List Int} {z : Int} (hl : zs.length = k) (hown : w'.ownsRow base 3 1 (.slice (some ⟨g, 0, none⟩) (k + 1) cap) (k + 1) (zs.map (Value.int .i64) ++ [.int .i64 z])) : OwnI w' base (some ⟨g, 0, none⟩) (k + 1) cap (zs ++ [z]) :=
  ⟨by simp [hl], by rw [List.map_append]; exact hown⟩
theorem ownI_low {w : World} {b b' : Nat} {A : Option Addr} {n c : Nat} {zs : List Int} (h : OwnI w b A n c zs) (hb : b' ≤ b) : OwnI w b' A n c zs := by
  refine ⟨h.1, h.2.1, ?_⟩
  rcases h.2.2 with h0 | ⟨g, cap, cur, h1, h2, h3⟩
  · exact .inl h0
  · exact .inr ⟨g, cap, cur, h1, by omega, h3⟩
theorem swap_ap {u v : Option Nat} (h : u = none ∨ u ≠ v) : v = none ∨ v ≠ u := by
  rcases h with rfl | h
  · cases v
    · exact .inl rfl
    · exact .inr (by simp)
  · exact .inr (Ne.symm h)
theorem news1 (w : World) (x : Value) (t : TypeId) : ∀ j u, [x][j]? = some u → (w.alloc (.cells #[x] t)).cell? ((⟨w.heap.size, 0, none⟩ : Addr).add j) = some u := by
  intro j u hu
  cases j with
  | zero =>
    simp at hu
    subst hu
    simp [Addr.add]
  | succ j => simp at hu
theorem box_ints {w w' : World} {b base m : Nat} {v : Value} {xs : List Value} {cs : Array Value} (h : w.heap[b]? = some (.cells cs 26)) (hI : w.ownsRow base 3 1 v m xs) (hg : w.grownBy w' v.ownBlock) : w'.heap[b]? = some (.cells cs 26) :=
  (hg.block b (box_lt h) (fun e => row_ne_blk hI h (by decide) e.symm)).trans h
/-- The wheel's variable, at block wb. -/
structure Wh (w wr : World) (wb : Nat) (now : Int) (A : Option Addr) (c : Nat) (ss : List TList) : Prop where
  bx : wr.heap[wb]? = some (.cells #[.int .i64 now, .slice A 8 c] 26)
  own : OwnS wr w.heap.size wr.heap.size A 8 c ss
  be : Below w.heap.size w wr
section
variable {w wr w' : World} {wb : Nat} {now : Int} {A : Option Addr} {c : Nat} {ss : List TList}
theorem Wh.below (h : Wh w wr wb now A c ss) (hb : Below wr.heap.size wr w') : Wh w w' wb now A c ss := ⟨box_below h.bx hb, (h.own.below hb).more hb.size, bel_then h.be hb h.be.size⟩
theorem Wh.ints {m : Nat} {v : Value} {xs : List Value} (h : Wh w wr wb now A c ss) (hw : w.heap.size ≤ wb) (hI : wr.ownsRow (wb + 1) 3 1 v m xs) (hg : wr.grownBy w' v.ownBlock) : Wh w w' wb now A c ss :=
  ⟨(hg.block wb (box_lt h.bx) (fun e => by have := (hI.lt wb e.symm).1; omega)).trans h.bx, (slots_ints h.own hI hg).more hg.size, h.be.grown hg h.be.size (fun q hq => by have := (hI.lt q hq).1; omega)⟩
/-- Another wheel is stored. -/
theorem Wh.put {now2 : Int} {A2 : Option Addr} {c2 : Nat} {ss2 : List TList} (h : Wh w wr wb now A c ss) (hw : w.heap.size ≤ wb) (hO : OwnS wr w.heap.size wr.heap.size A2 8 c2 ss2) : Wh w ((wr.setCell ⟨wb, 0, none⟩ (.int .i64 now2)).setCell ⟨wb, 1, none⟩ (.slice A2 8 c2)) wb now2 A2 c2 ss2 := by
  refine ⟨box_set (i := 1) (box_set (i := 0) h.bx _) _, ?_, (h.be.setCell (p := ⟨wb, 0, none⟩) hw _).setCell (p := ⟨wb, 1, none⟩) hw _⟩
  have h5 := slots_box (slots_box hO h.bx (i := 0) (.int .i64 now2)) (box_set (i := 0) h.bx _) (i := 1) (.slice A2 8 c2)
  refine h5.more ?_
  simp [World.setCell]
theorem ints_set {base : Nat} {A5 : Option Addr} {k c5 : Nat} {zs : List Int} (h : OwnI wr base A5 k c5 zs) (p : Addr) (hp : p.block < base) (u : Value) : OwnI (wr.setCell p u) base A5 k c5 zs := by
  refine ⟨h.1, h.2.1, ?_⟩
  rcases h.2.2 with h0 | ⟨g, cap, cur, h1, h2, h3, h4⟩
  · exact .inl h0
  · exact .inr ⟨g, cap, cur, h1, h2, (Below.heap_setCell wr p u g (by omega)).trans h3, h4⟩
end
theorem St.eight {now : Int} {ss : List TList} {ps : TList} (h : St now ss ps) : ss.length = 8 := h.1.1
theorem St.small {now : Int} {ss : List TList} {ps : TList} (h : St now ss ps) : ∀ j, (ss.getD j []).length ≤ 1048576 := fun j => by have h1 := tot_get ss j; have h2 := h.good.few; omega

set_option maxRecDepth 100000 in
set_option maxHeartbeats 12800000 in
theorem law_wheel (A : Option Addr) (n c : Nat) (bs : List Int) (w : World) (hr : Bytes.IsBytes w w.heap.size A n bs) :
    Calls Try.prog 3 #[.slice A n c] w fun e w' => e = .returned (.bool true) ∧ Below w.heap.size w w' := by
  obtain ⟨iI, hiI, hI0, hI1, hI2⟩ := info_parts infoInt
  have HR := Lib.hid (isB_bytes hr)
  clear hr
  by_cases hbig : (1048576 : Int) < n
  · have hd : decide ((1048576 : Int) < n) = true := by simp; omega
    go_enter Try.func3, Try.ntmps3
    go_wp2_with (go_at_call 7; refine (big_any A n c _).mono ?_; rintro e w' ⟨rfl, rfl⟩)
    go_ret
    exact ⟨rfl, Below.refl _ _⟩
  · have hd : decide ((1048576 : Int) < n) = false := by simp; omega
    have hn : n ≤ 1048576 := by omega
    clear hbig
    go_enter Try.func3, Try.ntmps3
    go_wp2_with (go_at_call 7; refine (big_any A n c _).mono ?_; rintro e w' ⟨rfl, rfl⟩)
    refine (at_any A n c 0 w.heap.size w HR.out hn (by omega)).mono ?_
    rintro e w' ⟨x0, rfl, hx0, hx1, rfl⟩
    go_wp2_with fail
    refine (newWheel_ok x0 w (by simp [tokB]; omega)).mono ?_
    rintro e w1 ⟨A1, c1, rfl, hO1, hb1⟩
    have hO1 : OwnS w1 w.heap.size w1.heap.size A1 8 c1 empty8 := hO1
    show (fun e w' => _) (Ending.returned (.tuple #[.agg #[.int .i64 x0, .slice A1 8 c1], .bool true])) w1
    go_wp2_with fail
    obtain ⟨wb, hwb⟩ : ∃ wb, wb = w1.heap.size := ⟨_, rfl⟩
    have hww : w.heap.size ≤ wb := by rw [hwb]; exact hb1.size
    rw [← hwb]
    have HW0 : Hid (Wh w (((w1.alloc (.cells #[.int .i64 x0, .slice A1 8 c1] 26)).alloc (.cells #[] 3)).alloc (.cells #[] 3)) wb x0 A1 c1 empty8) := by
      have hbq := bel3 w1 (.cells #[.int .i64 x0, .slice A1 8 c1] 26) (.cells #[] 3) (.cells #[] 3)
      refine ⟨by rw [hwb]; exact box_alloc (box_alloc (box_new _ _) _) _, ?_, bel_then hb1 hbq hb1.size⟩
      exact (((hO1.below (bel1 _ _)).below (bel1 _ _)).below (bel1 _ _)).more (by simp; omega)
    have HE5 : Hid (OwnI (((w1.alloc (.cells #[.int .i64 x0, .slice A1 8 c1] 26)).alloc (.cells #[] 3)).alloc (.cells #[] 3)) (wb + 1) (some ⟨wb + 1, 0, none⟩) 0 0 []) := by
      rw [hwb]
      have h5 := World.ownsRow_lit (base := w1.heap.size + 1) (e := 3) (size := 1) (w1.alloc (.cells #[.int .i64 x0, .slice A1 8 c1] 26)) #[] 0 (by simp) (Nat.zero_le _) rfl
      rw [World.size_alloc] at h5
      exact OwnI.below ⟨rfl, h5⟩ (bel1 _ _)
    have HE6 : Hid (OwnI (((w1.alloc (.cells #[.int .i64 x0, .slice A1 8 c1] 26)).alloc (.cells #[] 3)).alloc (.cells #[] 3)) (wb + 1) (some ⟨wb + 1 + 1, 0, none⟩) 0 0 []) := by
      rw [hwb]
      have h5 := World.ownsRow_lit (base := w1.heap.size + 1) (e := 3) (size := 1) ((w1.alloc (.cells #[.int .i64 x0, .slice A1 8 c1] 26)).alloc (.cells #[] 3)) #[] 0 (by simp) (Nat.zero_le _) rfl
      simp only [World.size_alloc] at h5
      exact ⟨rfl, h5⟩
    have HWB := Lib.hid hwb
    clear hO1 hb1 hwb
    go_loopw [5, 6, 7] (fun v5 v6 v7 wr => ∃ (i k : Nat) (now : Int) (Aw : Option Addr) (cw : Nat) (ss : List TList) (ps : TList) (A5 : Option Addr) (c5 : Nat) (A6 : Option Addr) (c6 : Nat), 1 ≤ i ∧ i ≤ 80 ∧ v5 = .slice A5 k c5 ∧ v6 = .slice A6 k c6 ∧ v7 = .int .i64 i ∧ Hid (ps.length = k) ∧ k < i ∧ 0 ≤ now ∧ now ≤ 255 + 12 * (i : Int) ∧ Hid (St now ss ps) ∧ Hid (Wh w wr wb now Aw cw ss) ∧ Hid (OwnI wr (wb + 1) A5 k c5 (ps.map Prod.fst)) ∧ Hid (OwnI wr (wb + 1) A6 k c6 (ps.map Prod.snd))) (fun _ _ i _ => 80 - (intOf i).toNat)
    case atStart => exact ⟨1, 0, x0, A1, c1, empty8, [], _, _, _, _, by omega, by omega, rfl, rfl, rfl, rfl, by omega, hx0, by omega, ⟨held_empty, ⟨by simp [tokB]; omega, (fun p hp => by cases hp), by simp, by simp⟩⟩, HW0, HE5, HE6⟩
    case round =>
      obtain ⟨i, k, now, Aw, cw, ss, ps, A5, c5, A6, c6, hi1, hi8, rfl, rfl, rfl, HPL, hki, hn0, hn1, HST, HW, H5, H6⟩ := hrel
      have hlw : wb < wr.heap.size := box_lt HW.out.bx
      clear HW0 HE5 HE6
      by_cases hgo : i < n ∧ i < 80
      · obtain ⟨hg1, hg2⟩ := hgo
        have hd1 : decide ((i : Int) < (n : Int)) = true := by simp; omega
        have hd2 : decide ((i : Int) < 80) = true := by simp; omega
        go_wp2_with fail
        refine (at_any A n c i w.heap.size wr (HR.out.below HW.out.be (Nat.le_refl _)) hn (by omega)).mono ?_
        rintro e w' ⟨x, rfl, hxa, hxb, rfl⟩
        obtain ⟨u, hu⟩ : ∃ u, Int.tmod x 23 = u := ⟨_, rfl⟩
        have hu2 : 0 ≤ u ∧ u < 23 := by rw [← hu, Int.tmod_eq_emod_of_nonneg hxa]; omega
        have h4 : Int.tmod x 4 = 0 ∨ Int.tmod x 4 = 1 ∨ Int.tmod x 4 = 2 ∨ Int.tmod x 4 = 3 := by rw [Int.tmod_eq_emod_of_nonneg hxa]; omega
        obtain ⟨b0, b1, f0, f1⟩ := box2 HW.out.bx
        rcases h4 with h4 | h4 | h4 | h4
        iterate 2
          · obtain ⟨y0, hy0⟩ : ∃ y0, x / 3 % 50 = y0 := ⟨_, rfl⟩
            have hy2 : 0 ≤ y0 ∧ y0 < 50 := by omega
            obtain ⟨T, hT⟩ : ∃ T, now + 1 + y0 = T := ⟨_, rfl⟩
            have hT2 : now < T ∧ T ≤ 100000 := by omega
            obtain ⟨hAB, hAS, hSN⟩ := HST.out.arm (x := 1 + u) (y := T) (by omega) hT2.1 (by omega) (by rw [HPL.out]; omega)
            have HAB := Lib.hid hAB
            have HSN := Lib.hid hSN
            have HAS := Lib.hid hAS
            have HA8 : Hid ((armS now ss (1 + u) T).length = 8) := by show _ = _; rw [hAS]; exact hSN.eight
            have HSM := Lib.hid HST.out.small
            clear hAB hSN hAS
            go_wp2_with fail
            refine (armTimer_w now (1 + u) T Aw 8 cw ss wr.heap.size wr HW.out.own.reads (Nat.le_refl _) (by omega) HSM.out).mono ?_
            rintro e w2 ⟨A2, c2, rfl, hO2, hb2⟩
            rw [HA8.out] at hO2 ⊢
            rw [HAS.out] at hO2
            rw [HAB.out]
            have hb2m := hb2.alloc hb2.size (.cells #[.int .i64 now, .slice A2 8 c2] 26)
            have KN2 := Lib.hid (box_new w2 (.cells #[.int .i64 now, .slice A2 8 c2] 26))
            have HW2 := Lib.hid (HW.out.below hb2m)
            have HN2 : Hid (OwnS (w2.alloc (.cells #[.int .i64 now, .slice A2 8 c2] 26)) w.heap.size (w2.alloc (.cells #[.int .i64 now, .slice A2 8 c2] 26)).heap.size A2 8 c2 (armL (1 + u) T ss)) := ((hO2.base (by omega)).below (bel1 _ _)).more (by simp)
            have H52 := Lib.hid (H5.out.below hb2m)
            have H62 := Lib.hid (H6.out.below hb2m)
            have hs2 := hb2.size
            clear hO2 hb2 hb2m b0 b1 f0 f1 HW H5 H6 HSM HA8
            go_wp2_with fail
            refine (without_any A5 A6 k c5 c6 ps (1 + u) _ _ H52.out.ints H62.out.ints (Nat.le_refl _) (by omega)).mono ?_
            rintro e w3 ⟨A7, C7, c7, d7, rfl, ⟨hI7, hI8, hap⟩, hb3⟩
            have hs3 := hb3.size
            simp only [World.size_alloc] at hs3
            obtain ⟨r, hr⟩ : ∃ r, r = (offL (1 + u) ps).length := ⟨_, rfl⟩
            have hrk : r ≤ k := by rw [hr, ← HPL.out]; exact off_len _ _
            rw [← hr] at hI7 hI8 hap ⊢
            have HRR := Lib.hid hr
            have hI7 : OwnI w3 (wb + 1) A7 r c7 ((offL (1 + u) ps).map Prod.fst) := ownI_low hI7 (by simp; omega)
            have hI8 : OwnI w3 (wb + 1) C7 r d7 ((offL (1 + u) ps).map Prod.snd) := ownI_low hI8 (by simp; omega)
            obtain ⟨z7, hz7⟩ : ∃ z7, z7 = (offL (1 + u) ps).map Prod.fst := ⟨_, rfl⟩
            obtain ⟨z8, hz8⟩ : ∃ z8, z8 = (offL (1 + u) ps).map Prod.snd := ⟨_, rfl⟩
            rw [← hz7] at hI7
            rw [← hz8] at hI8
            have HZ7 : Hid ((offL (1 + u) ps ++ [(1 + u, T)]).map Prod.fst = z7 ++ [1 + u]) := by show _ = _; rw [hz7]; simp
            have HZ8 : Hid ((offL (1 + u) ps ++ [(1 + u, T)]).map Prod.snd = z8 ++ [T]) := by show _ = _; rw [hz8]; simp
            have HI7 := Lib.hid hI7
            have HI8 := Lib.hid hI8
            have HAP := Lib.hid hap
            have HW3 := Lib.hid (HW2.out.below hb3)
            have HN3 : Hid (OwnS w3 w.heap.size w3.heap.size A2 8 c2 (armL (1 + u) T ss)) := (HN2.out.below hb3).more (by simp; omega)
            have KN3 := Lib.hid (box_below KN2.out hb3)
            clear hI7 hI8 hap hb3 hr H52 H62 HW2 HN2 KN2 hz7 hz8
            go_wp2_with (at_builtin; refine wpList_append_lies _ rfl (.tmp 79) (.tmp 81) _ rfl (wb + 1) 3 iI _ 1 8 Try.underlying30 hiI hI0 hI1 hI2 rfl (by omega) (.slice A7 r c7) r (z7.map (Value.int .i64)) rfl ?o1 ⟨w3.heap.size, 0, none⟩ 1 1 [.int .i64 (1 + u)] rfl rfl ?o2 ?o3 (by omega) ?o4 ?o5 ?o6 (w3.heap.size + 1) (by simp) ?_)
            case o1 => exact (HI7.out.below (bel1 _ _)).2
            case o2 => exact news1 _ _ _
            case o3 => intro z hz; simp at hz; subst hz; rfl
            case o4 => unfold maxLen; omega
            case o5 => omega
            case o6 => simp; omega
            intro g4 cap4 w4 hown4 hgr4 hat4 hlt4
            have hI7' := (HI7.out.below (bel1 w3 (.cells #[.int .i64 (1 + u)] 3))).2
            have HJ4 := Lib.hid (int_app HI7.out.1 hown4)
            have HK4 := Lib.hid ((HI8.out.below (bel1 w3 (.cells #[.int .i64 (1 + u)] 3))).grown hgr4 (swap_ap HAP.out))
            have HG4 : Hid ((Value.slice (some ⟨g4, 0, none⟩) (r + 1) cap4).ownBlock = none ∨ (Value.slice (some ⟨g4, 0, none⟩) (r + 1) cap4).ownBlock ≠ (Value.slice C7 r d7).ownBlock) := by
              refine .inr fun e => ?_
              have e5 : (Value.slice C7 r d7).ownBlock = some g4 := e.symm
              have h6 := (HI8.out.lt g4 e5).2
              rcases hat4 with h7 | h7
              · rcases HAP.out with h8 | h8
                · rw [h8] at h7; cases h7
                · exact h8 (h7.trans e5.symm)
              · omega
            have HW4 := Lib.hid ((HW3.out.below (bel1 w3 (.cells #[.int .i64 (1 + u)] 3))).ints hww hI7' hgr4)
            have HN4 : Hid (OwnS w4 w.heap.size w4.heap.size A2 8 c2 (armL (1 + u) T ss)) := (slots_ints (HN3.out.below (bel1 w3 (.cells #[.int .i64 (1 + u)] 3))) hI7' hgr4).more (by have := hgr4.size; simp at this; omega)
            have KN4 := Lib.hid (box_ints (box_alloc KN3.out _) hI7' hgr4)
            have hl4 : wb < w4.heap.size := box_lt HW4.out.bx
            clear hown4 hgr4 hat4 hlt4 hI7' HI7 HI8 HAP HW3 HN3 KN3
            go_wp2_with (at_builtin; refine wpList_append_lies _ rfl (.tmp 83) (.tmp 85) _ rfl (wb + 1) 3 iI _ 1 8 Try.underlying30 hiI hI0 hI1 hI2 rfl (by omega) (.slice C7 r d7) r (z8.map (Value.int .i64)) rfl ?o1 ⟨w4.heap.size, 0, none⟩ 1 1 [.int .i64 T] rfl rfl ?o2 ?o3 (by omega) ?o4 ?o5 ?o6 (w4.heap.size + 1) (by simp) ?_)
            case o1 => exact (HK4.out.below (bel1 _ _)).2
            case o2 => exact news1 _ _ _
            case o3 => intro z hz; simp at hz; subst hz; rfl
            case o4 => unfold maxLen; omega
            case o5 => omega
            case o6 => simp; omega
            intro g5 cap5 w5 hown5 hgr5 hat5 hlt5
            have hK4' := (HK4.out.below (bel1 w4 (.cells #[.int .i64 T] 3))).2
            have HK5 := Lib.hid (int_app HK4.out.1 hown5)
            have HJ5 := Lib.hid ((HJ4.out.below (bel1 w4 (.cells #[.int .i64 T] 3))).grown hgr5 HG4.out)
            have HW5 := Lib.hid ((HW4.out.below (bel1 w4 (.cells #[.int .i64 T] 3))).ints hww hK4' hgr5)
            have HN5 : Hid (OwnS w5 w.heap.size w5.heap.size A2 8 c2 (armL (1 + u) T ss)) := (slots_ints (HN4.out.below (bel1 w4 (.cells #[.int .i64 T] 3))) hK4' hgr5).more (by have := hgr5.size; simp at this; omega)
            have KN5 := Lib.hid (box_ints (box_alloc KN4.out _) hK4' hgr5)
            clear hown5 hgr5 hat5 hlt5 hK4' HJ4 HK4 HG4 HW4 HN4 KN4
            obtain ⟨n0, n1, _, _⟩ := box2 KN5.out
            obtain ⟨b0, b1, f0, f1⟩ := box2 HW5.out.bx
            have HWN := Lib.hid (HW5.out.put hww (now2 := now) HN5.out)
            have HJN := Lib.hid (ints_set (ints_set HJ5.out ⟨wb, 0, none⟩ (by show wb < wb + 1; omega) (.int .i64 now)) ⟨wb, 1, none⟩ (by show wb < wb + 1; omega) (.slice A2 8 c2))
            have HKN := Lib.hid (ints_set (ints_set HK5.out ⟨wb, 0, none⟩ (by show wb < wb + 1; omega) (.int .i64 now)) ⟨wb, 1, none⟩ (by show wb < wb + 1; omega) (.slice A2 8 c2))
            have HPN : Hid ((offL (1 + u) ps ++ [(1 + u, T)]).length = r + 1) := by show _ = _; rw [List.length_append, ← HRR.out]; rfl
            go_wp2
            go_roundw
            case rel => exact ⟨i + 1, r + 1, now, A2, c2, armL (1 + u) T ss, offL (1 + u) ps ++ [(1 + u, T)], _, _, _, _, by omega, by omega, rfl, rfl, by go_num, HPN, by omega, hn0, by omega, HSN, HWN, by rw [HZ7.out]; exact HJN, by rw [HZ8.out]; exact HKN⟩
            case measure => simp [intOf]; omega
        · obtain ⟨hSB, hSS, hSN⟩ := HST.out.stop (1 + u)
          have HSB := Lib.hid hSB
          have HSS := Lib.hid hSS
          have HSN := Lib.hid hSN
          have HA8 : Hid ((stopS now ss (1 + u)).length = 8) := by show _ = _; rw [hSS]; exact hSN.eight
          have HSM := Lib.hid HST.out.small
          clear hSB hSS hSN
          go_wp2_with fail
          refine (stopTimer_w now (1 + u) Aw 8 cw ss wr.heap.size wr HW.out.own.reads (Nat.le_refl _) (by omega) HSM.out).mono ?_
          rintro e w2 ⟨A2, c2, rfl, hO2, hb2⟩
          rw [HA8.out] at hO2 ⊢
          rw [HSS.out] at hO2
          rw [HSB.out]
          obtain ⟨hb, hhb⟩ : ∃ hb, hb = hasB (ps.map Prod.fst) (1 + u) := ⟨_, rfl⟩
          rw [← hhb]
          have HHB := Lib.hid hhb
          have hbb : (hb != hb) = false := by simp
          have hb2m := hb2.alloc hb2.size (.cells #[.int .i64 now, .slice A2 8 c2] 26)
          have KN2 := Lib.hid (box_new w2 (.cells #[.int .i64 now, .slice A2 8 c2] 26))
          have HW2 := Lib.hid (HW.out.below hb2m)
          have HN2 : Hid (OwnS (w2.alloc (.cells #[.int .i64 now, .slice A2 8 c2] 26)) w.heap.size (w2.alloc (.cells #[.int .i64 now, .slice A2 8 c2] 26)).heap.size A2 8 c2 (stopL (1 + u) ss)) := ((hO2.base (by omega)).below (bel1 _ _)).more (by simp)
          have H52 := Lib.hid (H5.out.below hb2m)
          have H62 := Lib.hid (H6.out.below hb2m)
          have hs2 := hb2.size
          clear hO2 hb2 hb2m b0 b1 f0 f1 HW H5 H6 HSM HA8 hhb
          go_wp2_with fail
          refine (within_any A5 k c5 (ps.map Prod.fst) (1 + u) _ _ H52.out.ints (by omega)).mono ?_
          rintro e w' ⟨rfl, rfl⟩
          rw [← HHB.out]
          go_wp2_with fail
          refine (without_any A5 A6 k c5 c6 ps (1 + u) _ _ H52.out.ints H62.out.ints (Nat.le_refl _) (by omega)).mono ?_
          rintro e w3 ⟨A7, C7, c7, d7, rfl, ⟨hI7, hI8, hap⟩, hb3⟩
          have hs3 := hb3.size
          simp only [World.size_alloc] at hs3
          obtain ⟨r, hr⟩ : ∃ r, r = (offL (1 + u) ps).length := ⟨_, rfl⟩
          have hrk : r ≤ k := by rw [hr, ← HPL.out]; exact off_len _ _
          rw [← hr] at hI7 hI8 hap ⊢
          have HRR : Hid ((offL (1 + u) ps).length = r) := hr.symm
          have HI7 : Hid (OwnI w3 (wb + 1) A7 r c7 ((offL (1 + u) ps).map Prod.fst)) := ownI_low hI7 (by simp; omega)
          have HI8 : Hid (OwnI w3 (wb + 1) C7 r d7 ((offL (1 + u) ps).map Prod.snd)) := ownI_low hI8 (by simp; omega)
          have HW3 := Lib.hid (HW2.out.below hb3)
          have HN3 : Hid (OwnS w3 w.heap.size w3.heap.size A2 8 c2 (stopL (1 + u) ss)) := (HN2.out.below hb3).more (by simp; omega)
          have KN3 := Lib.hid (box_below KN2.out hb3)
          clear hI7 hI8 hap hb3 hr H52 H62 HW2 HN2 KN2
          obtain ⟨n0, n1, _, _⟩ := box2 KN3.out
          obtain ⟨b0, b1, f0, f1⟩ := box2 HW3.out.bx
          have HWN := Lib.hid (HW3.out.put hww (now2 := now) HN3.out)
          have HJN := Lib.hid (ints_set (ints_set HI7.out ⟨wb, 0, none⟩ (by show wb < wb + 1; omega) (.int .i64 now)) ⟨wb, 1, none⟩ (by show wb < wb + 1; omega) (.slice A2 8 c2))
          have HKN := Lib.hid (ints_set (ints_set HI8.out ⟨wb, 0, none⟩ (by show wb < wb + 1; omega) (.int .i64 now)) ⟨wb, 1, none⟩ (by show wb < wb + 1; omega) (.slice A2 8 c2))
          go_wp2
          go_roundw
          case rel => exact ⟨i + 1, r, now, A2, c2, stopL (1 + u) ss, offL (1 + u) ps, _, _, _, _, by omega, by omega, rfl, rfl, by go_num, HRR, by omega, hn0, by omega, HSN, HWN, HJN, HKN⟩
          case measure => simp [intOf]; omega
        · obtain ⟨q, hq⟩ : ∃ q : Nat, x / 4 % 12 = (q : Int) := ⟨(x / 4 % 12).toNat, by omega⟩
          have hq12 : q < 12 := by omega
          obtain ⟨hTN, hTS, hTZ, hSN⟩ := HST.out.turn q (by omega) (by omega)
          have HTN := Lib.hid hTN
          have HTS := Lib.hid hTS
          have HTZ := Lib.hid hTZ
          have HSN := Lib.hid hSN
          have HT8 : Hid ((turnSS now ss q).length = 8) := by show _ = _; rw [hTS]; exact hSN.eight
          have HSM := Lib.hid HST.out.small
          clear hTN hTS hTZ hSN
          obtain ⟨wo, rfl⟩ : ∃ wo, wo = wr := ⟨_, rfl⟩
          go_wp2_with fail
          simp only [hq]
          clear hq
          go_loopw [17, 18] (fun v17 v18 wq => ∃ (j r : Nat) (A17 : Option Addr) (c17 : Nat), j ≤ q ∧ v17 = .slice A17 r c17 ∧ v18 = .int .i64 (now + 1 + (j : Int)) ∧ r ≤ 80 * j ∧ Hid (OwnI wq wo.heap.size A17 r c17 (toldP now ps j)) ∧ Hid (Below wo.heap.size wo wq)) (fun _ v _ => (now + 12 - intOf v).toNat)
          case atStart => exact ⟨0, 0, _, _, Nat.zero_le _, rfl, by simp, Nat.zero_le _, ⟨rfl, World.ownsRow_lit (base := wo.heap.size) (e := 3) (size := 1) wo #[] 0 (Nat.le_refl _) (Nat.zero_le _) rfl⟩, bel1 _ _⟩
          case round =>
            obtain ⟨j, r, A17, c17, hjq, rfl, rfl, hr80, H17, HB17⟩ := hrel
            have hso := HB17.out.size
            by_cases hlt : j < q
            · have hle : now + 1 + (j : Int) ≤ now + (q : Int) := by omega
              go_wp2_with fail
              go_loopw [17, 19] (fun v17 v19 wz => ∃ (kk r : Nat) (A17 : Option Addr) (c17 : Nat), kk ≤ k ∧ v17 = .slice A17 r c17 ∧ v19 = .int .i64 kk ∧ r ≤ 80 * j + kk ∧ Hid (OwnI wz wo.heap.size A17 r c17 (toldP now ps j ++ toldL (now + 1 + (j : Int)) (ps.take kk))) ∧ Hid (Below wo.heap.size wo wz)) (fun _ v _ => k - (intOf v).toNat)
              case atStart => exact ⟨0, r, A17, c17, Nat.zero_le _, rfl, rfl, by omega, by simpa [toldL] using H17, HB17⟩
              case round =>
                obtain ⟨kk, r, A17, c17, hkk, rfl, rfl, hr2, H17, HB17⟩ := hrel
                have hso := HB17.out.size
                by_cases hlt2 : kk < k
                · obtain ⟨b5, off5, z, rfl, hbB5, hz, hc5⟩ := (H5.out.below HB17.out).ints.at_ hlt2
                  obtain ⟨b6, off6, y, rfl, hbB6, hy, hc6⟩ := (H6.out.below HB17.out).ints.at_ hlt2
                  have hkl : kk < ps.length := by rw [HPL.out]; exact hlt2
                  have HZY : Hid (ps.getD kk (0, 0) = (z, y)) := by
                    show _ = _
                    rw [hz, hy]
                    simp [List.getD, hkl]
                  have HTS2 := Lib.hid (told_snoc (now + 1 + (j : Int)) ps kk hkl HZY.out)
                  clear hz hy
                  by_cases hyt : y = now + 1 + (j : Int)
                  · have hbe : (y == now + 1 + (j : Int)) = true := by simpa using hyt
                    have HTT : Hid (toldL (now + 1 + (j : Int)) (ps.take (kk + 1)) = toldL (now + 1 + (j : Int)) (ps.take kk) ++ [z]) := by show _ = _; rw [HTS2.out, hbe]; rfl
                    obtain ⟨zw, hzw⟩ : ∃ zw, zw = toldP now ps j ++ toldL (now + 1 + (j : Int)) (ps.take kk) := ⟨_, rfl⟩
                    rw [← hzw] at H17
                    have HZW := Lib.hid hzw
                    clear hzw hyt
                    go_wp2_with (at_builtin; refine wpList_append_lies _ rfl (.tmp 139) (.tmp 144) _ rfl wo.heap.size 3 iI _ 1 8 Try.underlying30 hiI hI0 hI1 hI2 rfl (by omega) (.slice A17 r c17) r (zw.map (Value.int .i64)) rfl ?o1 ⟨wr.heap.size, 0, none⟩ 1 1 [.int .i64 z] rfl rfl ?o2 ?o3 (by omega) ?o4 ?o5 ?o6 (wr.heap.size + 1) (by simp) ?_)
                    case o1 => exact (H17.out.below (bel1 _ _)).2
                    case o2 => exact news1 _ _ _
                    case o3 => intro v hv; simp at hv; subst hv; rfl
                    case o4 => unfold maxLen; omega
                    case o5 => omega
                    case o6 => simp; omega
                    intro g4 cap4 w4 hown4 hgr4 hat4 hlt4
                    have HN17 : Hid (OwnI w4 wo.heap.size (some ⟨g4, 0, none⟩) (r + 1) cap4 (toldP now ps j ++ toldL (now + 1 + (j : Int)) (ps.take (kk + 1)))) := by
                      rw [HTT.out, ← List.append_assoc, ← HZW.out]
                      exact int_app H17.out.1 hown4
                    have HNB : Hid (Below wo.heap.size wo w4) := (HB17.out.alloc HB17.out.size _).grown hgr4 (by simp; omega) (fun v hv => (H17.out.lt v hv).1)
                    clear hown4 hgr4 hat4 hlt4
                    go_wp2
                    go_roundw
                    case rel => exact ⟨kk + 1, r + 1, _, _, by omega, rfl, by go_num, by omega, HN17, HNB⟩
                    case measure => simp [intOf]; omega
                  · have hbe : (y == now + 1 + (j : Int)) = false := by simpa using hyt
                    have HN17 : Hid (OwnI wr wo.heap.size A17 r c17 (toldP now ps j ++ toldL (now + 1 + (j : Int)) (ps.take (kk + 1)))) := by
                      rw [HTS2.out, hbe]
                      exact H17.out
                    clear hyt
                    go_wp2
                    go_roundw
                    case rel => exact ⟨kk + 1, r, _, _, by omega, rfl, by go_num, by omega, HN17, HB17⟩
                    case measure => simp [intOf]; omega
                · have HN17 : Hid (OwnI wr wo.heap.size A17 r c17 (toldP now ps (j + 1))) := by
                    have h5 := H17.out
                    rw [List.take_of_length_le (by rw [HPL.out]; omega), ← told_left now (now + 1 + (j : Int)) ps j (by omega)] at h5
                    have e5 : toldP now ps (j + 1) = toldP now ps j ++ toldL (now + 1 + (j : Int)) (leftP now ps j) := by
                      show toldP now ps j ++ toldL (now + (j : Int) + 1) (leftP now ps j) = _
                      rw [show now + (j : Int) + 1 = now + 1 + (j : Int) by omega]
                    rw [e5]
                    exact h5
                  go_wp2
                  go_roundw
                  case rel => exact ⟨j + 1, r, A17, c17, by omega, rfl, by go_num, by omega, HN17, HB17⟩
                  case measure => simp [intOf]; omega
            · have hjq2 : j = q := by omega
              subst hjq2
              have hgt : ¬ (now + 1 + (j : Int) ≤ now + (j : Int)) := by omega
              have HW1 := Lib.hid (HW.out.below HB17.out)
              have H51 := Lib.hid (H5.out.below HB17.out)
              have H61 := Lib.hid (H6.out.below HB17.out)
              obtain ⟨zs, hzs⟩ : ∃ zs, zs = toldP now ps j := ⟨_, rfl⟩
              rw [← hzs] at H17 HTZ
              have HZS := Lib.hid hzs
              clear b0 b1 f0 f1 hzs
              obtain ⟨b0, b1, f0, f1⟩ := box2 HW1.out.bx
              go_wp2_with fail
              refine (turnWheel_w now j Aw 8 cw ss wr.heap.size wr HW1.out.own.reads (Nat.le_refl _) (by omega) HSM.out).mono ?_
              rintro e w3 ⟨A2, c2, A1t, c1t, mid, rfl, hmid, hO3, hI3, _, hb3⟩
              rw [HT8.out] at hO3 ⊢
              rw [HTS.out] at hO3
              rw [HTZ.out] at hI3 ⊢
              rw [HTN.out]
              have hzr : zs.length = r := H17.out.1
              rw [hzr] at hI3 ⊢
              have hs3 := hb3.size
              have hb3m := hb3.alloc hb3.size (.cells #[.int .i64 (now + (j : Int)), .slice A2 8 c2] 26)
              have KN3 := Lib.hid (box_new w3 (.cells #[.int .i64 (now + (j : Int)), .slice A2 8 c2] 26))
              have HW3 := Lib.hid (HW1.out.below hb3m)
              have hlwr : w.heap.size ≤ wr.heap.size := by omega
              have HN3 : Hid (OwnS (w3.alloc (.cells #[.int .i64 (now + (j : Int)), .slice A2 8 c2] 26)) w.heap.size (w3.alloc (.cells #[.int .i64 (now + (j : Int)), .slice A2 8 c2] 26)).heap.size A2 8 c2 (turnR now ss j)) := ((hO3.base (by omega)).below (bel1 _ _)).more (by simp)
              have HI3 := Lib.hid (hI3.below (bel1 w3 (.cells #[.int .i64 (now + (j : Int)), .slice A2 8 c2] 26)))
              have H173 := Lib.hid (H17.out.below hb3m)
              have H53 := Lib.hid (H51.out.below hb3m)
              have H63 := Lib.hid (H61.out.below hb3m)
              obtain ⟨n0, n1, _, _⟩ := box2 KN3.out
              clear b0 b1 f0 f1 hO3 hI3 hb3 hb3m HW1 H51 H61 H17 HW H5 H6
              go_wp2_with fail
              refine (same_any A1t A17 r c1t c17 zs _ _ _ HI3.out.ints H173.out.ints (by omega)).mono ?_
              rintro e w' ⟨rfl, mm, rfl⟩
              obtain ⟨V, hV⟩ : ∃ V, V = (w3.alloc (.cells #[.int .i64 (now + (j : Int)), .slice A2 8 c2] 26)).drewN mm := ⟨_, rfl⟩
              have hbV : Below (w3.alloc (.cells #[.int .i64 (now + (j : Int)), .slice A2 8 c2] 26)).heap.size (w3.alloc (.cells #[.int .i64 (now + (j : Int)), .slice A2 8 c2] 26)) V := by rw [hV]; exact Ints.below_drewN (Below.refl _ _) _
              have hsV : (w3.alloc (.cells #[.int .i64 (now + (j : Int)), .slice A2 8 c2] 26)).heap.size ≤ V.heap.size := hbV.size
              simp only [World.size_alloc] at hsV
              rw [← hV]
              have KNV := Lib.hid (box_below KN3.out hbV)
              have HWV := Lib.hid (HW3.out.below hbV)
              have HNV : Hid (OwnS V w.heap.size V.heap.size A2 8 c2 (turnR now ss j)) := (HN3.out.below hbV).more (by simp; omega)
              have H17V := Lib.hid (H173.out.below hbV)
              have H5V := Lib.hid (H53.out.below hbV)
              have H6V := Lib.hid (H63.out.below hbV)
              have hlV : wb < V.heap.size := box_lt HWV.out.bx
              clear hV hbV n0 n1 KN3 HW3 HN3 H173 H53 H63 HI3
              obtain ⟨n0, n1, _, _⟩ := box2 KNV.out
              go_wp2_with fail
              go_loopw [5, 6, 22] (fun v5 v6 v22 wz => ∃ (jj rr : Nat) (A7 : Option Addr) (c7 : Nat) (C7 : Option Addr) (d7 : Nat) (pz : TList), jj ≤ r ∧ rr ≤ k ∧ v5 = .slice A7 rr c7 ∧ v6 = .slice C7 rr d7 ∧ v22 = .int .i64 jj ∧ Hid (pz = (zs.take jj).foldl (fun q x => offL x q) ps) ∧ Hid (pz.length = rr) ∧ Hid (OwnI wz (wb + 1) A7 rr c7 (pz.map Prod.fst)) ∧ Hid (OwnI wz (wb + 1) C7 rr d7 (pz.map Prod.snd)) ∧ Hid (Below V.heap.size V wz)) (fun _ _ v _ => r - (intOf v).toNat)
              case atStart => exact ⟨0, k, A5, c5, A6, c6, ps, Nat.zero_le _, Nat.le_refl _, rfl, rfl, rfl, rfl, HPL, H5V, H6V, Below.refl _ _⟩
              case round =>
                obtain ⟨jj, rr, A7, c7, C7, d7, pz, hjj, hrr, rfl, rfl, rfl, HPZ, HRL, H7, H8, HBV⟩ := hrel
                have hsz := HBV.out.size
                by_cases hlt3 : jj < r
                · obtain ⟨b7, off7, z, rfl, hbB7, hz, hc7⟩ := (H17V.out.below HBV.out).ints.at_ hlt3
                  have hjl : jj < zs.length := by rw [hzr]; exact hlt3
                  have HPN : Hid (offL z pz = (zs.take (jj + 1)).foldl (fun q x => offL x q) ps) := by
                    show _ = _
                    rw [List.take_succ_eq_append_getElem hjl, List.foldl_append, ← HPZ.out, hz]
                    simp [List.getD, hjl]
                  clear hz
                  go_wp2_with fail
                  refine (without_any A7 C7 rr c7 d7 pz z _ _ H7.out.ints H8.out.ints (Nat.le_refl _) (by omega)).mono ?_
                  rintro e w5 ⟨E7, G7, e7, g7, rfl, ⟨hI7, hI8, hap⟩, hb5⟩
                  obtain ⟨r5, hr5⟩ : ∃ r5, r5 = (offL z pz).length := ⟨_, rfl⟩
                  have hr5k : r5 ≤ k := by rw [hr5]; have := off_len z pz; have := HRL.out; omega
                  rw [← hr5] at hI7 hI8 hap ⊢
                  have HR5 : Hid ((offL z pz).length = r5) := hr5.symm
                  have HI7 : Hid (OwnI w5 (wb + 1) E7 r5 e7 ((offL z pz).map Prod.fst)) := ownI_low hI7 (by omega)
                  have HI8 : Hid (OwnI w5 (wb + 1) G7 r5 g7 ((offL z pz).map Prod.snd)) := ownI_low hI8 (by omega)
                  have HB5 := Lib.hid (bel_then HBV.out hb5 HBV.out.size)
                  clear hI7 hI8 hap hb5 hr5
                  go_wp2
                  go_roundw
                  case rel => exact ⟨jj + 1, r5, E7, e7, G7, g7, offL z pz, by omega, hr5k, rfl, rfl, by go_num, HPN, HR5, HI7, HI8, HB5⟩
                  case measure => simp [intOf]; omega
                · have HPE : Hid (pz = leftP now ps j) := by
                    show _ = _
                    rw [HPZ.out, List.take_of_length_le (by rw [hzr]; omega), HZS.out]
                    exact fold_told HST.out.2.once j
                  have KNE := Lib.hid (box_below KNV.out HBV.out)
                  have HWE := Lib.hid (HWV.out.below HBV.out)
                  have HNE : Hid (OwnS wr w.heap.size wr.heap.size A2 8 c2 (turnR now ss j)) := (HNV.out.below HBV.out).more hsz
                  clear n0 n1
                  obtain ⟨n0, n1, _, _⟩ := box2 KNE.out
                  obtain ⟨b0, b1, f0, f1⟩ := box2 HWE.out.bx
                  have HWN := Lib.hid (HWE.out.put hww (now2 := now + (j : Int)) HNE.out)
                  have HJN := Lib.hid (ints_set (ints_set H7.out ⟨wb, 0, none⟩ (by show wb < wb + 1; omega) (.int .i64 (now + (j : Int)))) ⟨wb, 1, none⟩ (by show wb < wb + 1; omega) (.slice A2 8 c2))
                  have HKN := Lib.hid (ints_set (ints_set H8.out ⟨wb, 0, none⟩ (by show wb < wb + 1; omega) (.int .i64 (now + (j : Int)))) ⟨wb, 1, none⟩ (by show wb < wb + 1; omega) (.slice A2 8 c2))
                  go_wp2
                  go_roundw
                  case rel => exact ⟨i + 1, rr, now + (j : Int), A2, c2, turnR now ss j, leftP now ps j, _, _, _, _, by omega, by omega, rfl, rfl, by go_num, by rw [← HPE.out]; exact HRL, by omega, by omega, by omega, HSN, HWN, by rw [← HPE.out]; exact HJN, by rw [← HPE.out]; exact HKN⟩
                  case measure => simp [intOf]; omega
      · go_upto_region 7 with fail
        go_cut [42] (fun v wx => v = .bool false ∧ wr = wx)
        case first =>
          by_cases h1 : i < n
          · have hd1 : decide ((i : Int) < (n : Int)) = true := by simp; omega
            have hd2 : decide ((i : Int) < 80) = false := by simp; omega
            go_wp2_with fail
            go_meet
            case rel => exact ⟨rfl, rfl⟩
          · have hd1 : decide ((i : Int) < (n : Int)) = false := by simp; omega
            go_wp2_with fail
            go_meet
            case rel => exact ⟨rfl, rfl⟩
        case rest =>
          obtain ⟨rfl, rfl⟩ := hcut
          clear hgo
          have HWK := Lib.hid HST.out.wheelB
          have HCT : Hid (countV now ss = (k : Int)) := by show _ = _; rw [HST.out.count, HPL.out]
          have HSO := Lib.hid HST.out.soon
          have HSM := Lib.hid HST.out.small
          obtain ⟨b0, b1, _, _⟩ := box2 HW.out.bx
          have hnek : ((k : Int) != (k : Int)) = false := by simp
          go_wp2_with fail
          refine (specWheelOk_any now Aw 8 cw ss wr.heap.size wr HW.out.own.reads (Nat.le_refl _) (by omega) HSM.out).mono ?_
          rintro e w2 ⟨rfl, hb2⟩
          rw [HWK.out]
          have HW2 := Lib.hid (HW.out.below hb2)
          have H52 := Lib.hid (H5.out.below hb2)
          have H62 := Lib.hid (H6.out.below hb2)
          clear hb2 b0 b1 HW H5 H6
          obtain ⟨b0, b1, _, _⟩ := box2 HW2.out.bx
          go_wp2_with fail
          refine (count_w now Aw 8 cw ss w2.heap.size w2 HW2.out.own.reads (Nat.le_refl _) (by omega) HSM.out).mono ?_
          rintro e w3 ⟨rfl, hb3⟩
          rw [HCT.out]
          have HW3 := Lib.hid (HW2.out.below hb3)
          have H53 := Lib.hid (H52.out.below hb3)
          have H63 := Lib.hid (H62.out.below hb3)
          clear hb3 b0 b1 HW2 H52 H62
          go_wp2_with fail
          go_loopw [23, 24] (fun v23 v24 wq => ∃ (j : Nat) (sn : Int), j ≤ k ∧ v24 = .int .i64 j ∧ v23 = .int .i64 sn ∧ Hid (sn = soonF ((ps.take j).map Prod.snd)) ∧ Hid (Below w3.heap.size w3 wq)) (fun _ v _ => k - (intOf v).toNat)
          case atStart => exact ⟨0, -1, Nat.zero_le _, rfl, rfl, rfl, Below.refl _ _⟩
          case round =>
            obtain ⟨j, sn, hj, rfl, rfl, HSNN, HB⟩ := hrel
            have HWr := Lib.hid (HW3.out.below HB.out)
            have H5r := Lib.hid (H53.out.below HB.out)
            have H6r := Lib.hid (H63.out.below HB.out)
            obtain ⟨b0, b1, _, _⟩ := box2 HWr.out.bx
            by_cases hlt : j < k
            · obtain ⟨b5, off5, z, rfl, hbB5, hz, hc5⟩ := H5r.out.ints.at_ hlt
              obtain ⟨b6, off6, y, rfl, hbB6, hy, hc6⟩ := H6r.out.ints.at_ hlt
              have hkl : j < ps.length := by rw [HPL.out]; exact hlt
              have hzy : ps.getD j (0, 0) = (z, y) := by
                rw [hz, hy]
                simp [List.getD, hkl]
              have hmem : (z, y) ∈ ps := by
                rw [← hzy]
                simp [List.getD, hkl]
              have HTM : Hid (timerV now ss z = y) := HST.out.timer hmem
              have hty := (HST.out.2.at_ _ hmem).2.1
              have hty2 := tok_t hty
              have HNX : Hid (soonF ((ps.take (j + 1)).map Prod.snd) = if sn < 0 ∨ y < sn then y else sn) := by
                show _ = _
                have e5 : ps.take (j + 1) = ps.take j ++ [(z, y)] := by
                  rw [List.take_succ_eq_append_getElem hkl, ← hzy]
                  simp [List.getD, hkl]
                rw [e5, List.map_append]
                unfold soonF
                rw [List.foldl_append]
                show stepV (soonF ((ps.take j).map Prod.snd)) y = _
                rw [← HSNN.out, step_yes hty]
              have hyy : (y != y) = false := by simp
              clear hz hy hzy hmem hty
              go_wp2_with fail
              go_region_held3 (fun w' => w'.cell? ⟨wb, 0, none⟩ = some (.int .i64 now) ∧ w'.cell? ⟨wb, 1, none⟩ = some (.slice Aw 8 cw) ∧ w'.cell? ⟨b5, off5 + j, none⟩ = some (.int .i64 z) ∧ w'.cell? ⟨b6, off6 + j, none⟩ = some (.int .i64 y))
                (first | (go_keep; done) | exact ⟨LK.cell_keep hb4 b0, LK.cell_keep hb4 b1, LK.cell_keep hb4 hc5, LK.cell_keep hb4 hc6⟩)
                (first | (go_at_call 18; refine (timerOf_w now z Aw 8 cw ss wr.heap.size _ (by exact (HWr.out.below (w' := wr.drew) (Below.refl _ _).drew).own.reads) (by exact Nat.le_refl _) (by omega) HSM.out).mono ?_; rintro e w4 ⟨rfl, hb4q⟩; rw [HTM.out]; have hb4 : Below wr.heap.size wr w4 := LK.undrew hb4q; clear hb4q))
              all_goals
                have HB4 := Lib.hid (bel_then HB.out hb4 HB.out.size)
                have hc6' := LK.cell_keep hb4 hc6
                clear hb4 b0 b1 hc5 hc6
                by_cases hs0 : sn < 0
                · have HNX2 : Hid (y = soonF ((ps.take (j + 1)).map Prod.snd)) := by show _ = _; rw [HNX.out, if_pos (.inl hs0)]
                  have hds : decide (sn < 0) = true := by simpa using hs0
                  go_wp2
                  go_roundw
                  case rel => exact ⟨j + 1, y, by omega, by go_num, rfl, HNX2, HB4⟩
                  case measure => simp [intOf]; omega
                · have hds : decide (sn < 0) = false := by simpa using hs0
                  by_cases hs1 : y < sn
                  · have HNX2 : Hid (y = soonF ((ps.take (j + 1)).map Prod.snd)) := by show _ = _; rw [HNX.out, if_pos (.inr hs1)]
                    have hds1 : decide (y < sn) = true := by simpa using hs1
                    go_wp2
                    go_roundw
                    case rel => exact ⟨j + 1, y, by omega, by go_num, rfl, HNX2, HB4⟩
                    case measure => simp [intOf]; omega
                  · have HNX2 : Hid (sn = soonF ((ps.take (j + 1)).map Prod.snd)) := by show _ = _; rw [HNX.out, if_neg (by omega)]
                    have hds1 : decide (y < sn) = false := by simpa using hs1
                    go_wp2
                    go_roundw
                    case rel => exact ⟨j + 1, sn, by omega, by go_num, rfl, HNX2, HB4⟩
                    case measure => simp [intOf]; omega
            · have HEND : Hid (soonW now ss = sn) := by
                show _ = _
                have h5 := HSNN.out
                rw [List.take_of_length_le (by rw [HPL.out]; omega)] at h5
                rw [HSO.out, h5]
              go_wp2_with fail
              refine (soonest_w now Aw 8 cw ss wr.heap.size wr HWr.out.own.reads (Nat.le_refl _) (by omega) HSM.out).mono ?_
              rintro e w4 ⟨rfl, hb4⟩
              rw [HEND.out]
              have HB4 := Lib.hid (HWr.out.below hb4).be
              have hss : (sn == sn) = true := by simp
              clear hb4
              go_wp2
              go_ret
              exact ⟨rfl, HB4.out⟩
end Go.Proofs.Ytpghccbknlokcaa.Ring
