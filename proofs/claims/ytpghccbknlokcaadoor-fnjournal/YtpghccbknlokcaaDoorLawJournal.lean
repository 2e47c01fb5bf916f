/-
  THE WALK of laws.FnJournal over this seat's translation: it answers true and turns nothing that was there.
-/
import Derived.Test.YtpghccbknlokcaaDoorJourEnd
import Derived.Test.YtpghccbknlokcaaDoorSameRecs
import Derived.Test.YtpghccbknlokcaaDoorByteAt
import Derived.Deep.DeepCutAuto
import Derived.Deep.Cut
namespace Go.Proofs.YtpghccbknlokcaaDoor.JL
open Go.ChangeShapes Go.WideShapes Go.ChangeAt Go.RowKit
open Go.Proofs.YtpghccbknlokcaaDoor.LK Go.Proofs.YtpghccbknlokcaaDoor.Jour
open Go.Proofs.YtpghccbknlokcaaDoor.Ints (IsInts IsB big_any at_any)
open Go.Proofs.YtpghccbknlokcaaDoor.Has (OwnI)
open Go.Proofs.YtpghccbknlokcaaDoor.Bytes (IsBytes OwnB)
open Go.Proofs.YtpghccbknlokcaaDoor.Rd (catF infoRec)
open Go.Proofs.YtpghccbknlokcaaDoor.RecTy (rty RRd)
open Go.Proofs.YtpghccbknlokcaaDoor.Rec (recB RList OwnRs OwnRsH flatH lit2_news IsRecs row_ne rec_4 sameRecords_same)
set_option linter.unusedVariables false
set_option linter.unusedSimpArgs false

theorem isB_of {w : World} {B : Nat} {A : Option Addr} {n : Nat} {bs : List Int} (h : IsBytes w B A n bs) : IsB w B A n := fun hn => by
  obtain ⟨b, off, e, hlt, hc⟩ := h.2.2 hn
  refine ⟨b, off, e, hlt, fun j hj => ⟨bs.getD j 0, hc j hj, ?_⟩⟩
  have hl : j < bs.length := by rw [h.1]; exact hj
  exact h.2.1 _ (by simp [List.getD, hl])
/-- A journal's two files, owned. -/
structure JAt (w : World) (lo : Nat) (A1 : Option Addr) (m c1 : Nat) (A2 : Option Addr) (n c2 : Nat) (s : Int) (d : JD) : Prop where
  o1 : OwnB w lo A1 m c1 d.1
  o2 : OwnB w lo A2 n c2 d.2.1
  sf : s = d.2.2
section
variable {w w' : World} {lo lo' : Nat} {A1 A2 : Option Addr} {m c1 n c2 : Nat} {s : Int} {d : JD}
theorem JAt.crd (h : JAt w lo A1 m c1 A2 n c2 s d) : JourC.CRd w w.heap.size (.agg #[.slice A1 m c1, .slice A2 n c2, .int .i64 s]) d := by
  obtain ⟨o1, o2, rfl⟩ := h
  obtain rfl : d.1.length = m := o1.1
  obtain rfl : d.2.1.length = n := o2.1
  exact ⟨A1, c1, A2, c2, rfl, o1.bytes, o2.bytes, JourC.own_room o1, JourC.own_room o2⟩
theorem JAt.below (h : JAt w lo A1 m c1 A2 n c2 s d) (hb : Below w.heap.size w w') : JAt w' lo A1 m c1 A2 n c2 s d := ⟨h.o1.below hb, h.o2.below hb, h.sf⟩
theorem JAt.low (h : JAt w lo A1 m c1 A2 n c2 s d) (hl : lo' ≤ lo) : JAt w lo' A1 m c1 A2 n c2 s d := ⟨own_base h.o1 (fun k hk => by have := (h.o1.lt k hk).1; omega), own_base h.o2 (fun k hk => by have := (h.o2.lt k hk).1; omega), h.sf⟩
theorem ownB_grow {b : Nat} {A : Option Addr} {k c : Nat} {zs : List Int} {A4 : Option Addr} {n4 c4 : Nat} {hs : List Rec.Hd} {rs : RList} (h : OwnB w b A k c zs) (hr : OwnRsH w lo A4 n4 c4 hs rs) (hg : w.grownBy w' (Value.slice A4 n4 c4).ownBlock) : OwnB w' b A k c zs := by
  refine own_same h (fun q hq => hg.block q (h.lt q hq).2 (fun e => ?_))
  rcases row_ne h.2.2 hr.2.2.1 (by decide) with h5 | h5
  · rw [hq] at h5; cases h5
  · exact h5 (hq.trans e)
theorem JAt.grow {A4 : Option Addr} {n4 c4 : Nat} {hs : List Rec.Hd} {rs : RList} (h : JAt w lo' A1 m c1 A2 n c2 s d) (hr : OwnRsH w lo A4 n4 c4 hs rs) (hg : w.grownBy w' (Value.slice A4 n4 c4).ownBlock) : JAt w' lo' A1 m c1 A2 n c2 s d := ⟨ownB_grow h.o1 hr hg, ownB_grow h.o2 hr hg, h.sf⟩
theorem JAt.turned {S : Nat → Prop} (h : JAt w lo A1 m c1 A2 n c2 s d) (ht : Turned S w w') (hS : ∀ k, S k → k < lo) : JAt w' lo A1 m c1 A2 n c2 s d :=
  ⟨own_same h.o1 (fun k hk => ht.block k (h.o1.lt k hk).2 (fun e => by have := hS k e; have := (h.o1.lt k hk).1; omega)), own_same h.o2 (fun k hk => ht.block k (h.o2.lt k hk).2 (fun e => by have := hS k e; have := (h.o2.lt k hk).1; omega)), h.sf⟩
theorem made_jat {x : Value} {e : Ending} (h : Made1 jty d x w e w') : ∃ A1 m c1 A2 n c2 s, e = .returned (.tuple #[.agg #[.slice A1 m c1, .slice A2 n c2, .int .i64 s], x]) ∧ JAt w' w.heap.size A1 m c1 A2 n c2 s d ∧ Below w.heap.size w w' := by
  obtain ⟨v, S, rfl, hH, hb⟩ := h
  obtain ⟨⟨A1, c1, A2, c2, rfl, h1, h2, s1, s2, _⟩, hin, _⟩ := hH
  exact ⟨A1, _, c1, A2, _, c2, _, rfl, ⟨own_base h1 (fun k hk => (hin k (s1 k hk)).1), own_base h2 (fun k hk => (hin k (s2 k hk)).1), rfl⟩, hb⟩
end
theorem ownRs_turned {w w' : World} {base : Nat} {A : Option Addr} {n c : Nat} {hs : List Rec.Hd} {rs : RList} {S : Nat → Prop} (h : OwnRsH w base A n c hs rs) (ht : Turned S w w') (hS : ∀ k, S k → k < base) : OwnRsH w' base A n c hs rs :=
  RecsTy.ownH_same h (RecsTy.own_in h) (fun k hk => ht.block k hk.2 (fun e => by have := hS k e; have := hk.1; omega))
theorem ownI_turned {w w' : World} {base : Nat} {A : Option Addr} {n c : Nat} {zs : List Int} {S : Nat → Prop} (h : OwnI w base A n c zs) (ht : Turned S w w') (hS : ∀ k, S k → k < base) : OwnI w' base A n c zs :=
  RecTy.ownI_same h (fun k hk => ht.block k (h.lt k hk).2 (fun e => by have := hS k e; have := (h.lt k hk).1; omega))
/-- A journal is stored into its variable, and a variable made behind it. -/
theorem turned_j (w : World) (b : Nat) (u0 u1 u2 : Value) : Turned (fun k => k = b) w (((w.setCell ⟨b, 0, none⟩ u0).setCell ⟨b, 1, none⟩ u1).setCell ⟨b, 2, none⟩ u2) := sets3 (S := fun k => k = b) rfl rfl rfl
theorem cutRec (A : Option Addr) (n c q : Nat) (hq : q ≤ c) (W : World) : (Instr.slice 26 (.slice A n c) none (some (.int .i64 q)) none).run Tryd.prog W = .ok (.slice A q c) W := by
  obtain ⟨i0, hi, hz0, hz1, hz2⟩ := info_parts infoRec
  rw [run_slice_h W 26 A n c (by kernel_rfl) .i64 q (by omega) (by omega)]
  have hs : (sizeOf (Tryd.prog.elem 26)).run Tryd.prog W = .ok 2 W := by
    have he : Tryd.prog.elem 26 = 30 := by kernel_rfl
    rw [he]
    simp [sizeOf, typeInfo, hi, hz1]
  rw [hs]
  have h0 : (if c = 0 then A else A.map (·.add (0 * 2))) = A := by
    split
    · rfl
    · cases A <;> simp [Addr.add]
  simpa [Result.andThen, sliced] using h0
theorem recs_take {w : World} {B : Nat} {A : Option Addr} {n m : Nat} {a b : RList} (h : IsRecs w B A n (a ++ b)) (hm : a.length = m) : IsRecs w B A m a := by
  have hl := h.1
  rw [List.length_append] at hl
  refine ⟨hm, fun h0 => ?_⟩
  obtain ⟨b', off, e, hlt, hc⟩ := h.2 (by omega)
  refine ⟨b', off, e, hlt, fun j hj => ?_⟩
  have e2 : (a ++ b).getD j (0, []) = a.getD j (0, []) := RecsTy.getD_l a b _ j (by omega)
  have h5 := hc j (by omega)
  rw [e2] at h5
  exact h5
theorem made_srs {w w' : World} {x : Value} {e : Ending} {rs : RList} (h : Made1 RecsTy.sty rs x w e w') : ∃ A c S, e = .returned (.tuple #[.slice A rs.length c, x]) ∧ Has RecsTy.sty w' w.heap.size w'.heap.size S (.slice A rs.length c) rs ∧ Below w.heap.size w w' := by
  obtain ⟨v, S, rfl, hH, hb⟩ := h
  obtain ⟨A, c, hs, rfl, _⟩ := hH.own
  exact ⟨A, c, S, rfl, hH, hb⟩
theorem all_at {rs : RList} (h : AllOk rs) : ∀ j, j < rs.length → recB (rs.getD j (0, [])).1 (rs.getD j (0, [])).2 = true := fun j hj => h _ (by simp [List.getD, hj])
theorem rec_one {x kd : Int} {i : Nat} (hx : 0 ≤ x ∧ x < 256) (hi : i < 30) (hk : 0 ≤ kd ∧ kd < 9) : recB kd [x, (i : Int) * 1000] = true := by
  simp [recB, Tick.inB, Bytes.numB]
  omega

set_option maxRecDepth 100000 in
set_option maxHeartbeats 12800000 in
theorem law_journal (A : Option Addr) (n c : Nat) (bs : List Int) (aT aB aO : Addr) (w : World) (hE : Rd.Errs w.heap.size w aT aB aO) (hK : Rd.ErrBlk w.heap.size w aT aB) (hr : IsBytes w w.heap.size A n bs) :
    Calls Tryd.prog 3 #[.slice A n c] w fun e w' => e = .returned (.bool true) ∧ Below w.heap.size w w' := by
  obtain ⟨i0, hi0, hz0, hz1, hz2⟩ := info_parts infoRec
  have HR := Lib.hid (isB_of hr)
  have HE := Lib.hid hE
  have HK := Lib.hid hK
  clear hr hE hK
  by_cases hbig : (1048576 : Int) < n
  · have hd : decide ((1048576 : Int) < n) = true := by simp; omega
    go_enter Tryd.func3, Tryd.ntmps3
    go_wp2_with (go_at_call 5; refine (big_any A n c _).mono ?_; rintro e w' ⟨rfl, rfl⟩)
    go_ret
    exact ⟨rfl, Below.refl _ _⟩
  · have hd : decide ((1048576 : Int) < n) = false := by simp; omega
    have hn : n ≤ 1048576 := by omega
    clear hbig
    go_enter Tryd.func3, Tryd.ntmps3
    go_wp2_with (go_at_call 5; refine (big_any A n c _).mono ?_; rintro e w' ⟨rfl, rfl⟩)
    go_loopw [4, 5, 6] (fun v4 v5 v6 wr => ∃ (i sf : Nat) (A4 : Option Addr) (c4 : Nat) (rs : RList) (A1 : Option Addr) (m c1 : Nat) (A2 : Option Addr) (q c2 : Nat) (s : Int), i ≤ 30 ∧ v4 = .slice A4 i c4 ∧ v5 = .int .i64 sf ∧ v6 = .int .i64 i ∧ sf ≤ i ∧ Hid (AllOk rs) ∧ Hid (OwnRs wr (w.heap.size + 1) A4 i c4 rs) ∧ Hid (JAt wr (w.heap.size + 1) A1 m c1 A2 q c2 s (atD rs sf)) ∧ Hid (wr.heap[w.heap.size]? = some (.cells #[.slice A1 m c1, .slice A2 q c2, .int .i64 s] 25)) ∧ Hid (Below w.heap.size w wr)) (fun _ _ i _ => 30 - (intOf i).toNat)
    case atStart =>
      refine ⟨0, 0, _, _, [], none, 0, 0, none, 0, 0, 0, by omega, rfl, rfl, rfl, Nat.le_refl _, (fun r hr => by cases hr), ?_, ⟨own_nil _ _, own_nil _ _, rfl⟩, box_alloc (box_new _ _) _, bel2 _ _ _⟩
      have h5 := OwnRs.empty (w.alloc (.cells #[.slice none 0 0, .slice none 0 0, .int .i64 0] 25))
      simp only [World.size_alloc] at h5
      exact h5
    case round =>
      obtain ⟨i, sf, A4, c4, rs, A1, m, c1, A2, q, c2, s, hi, rfl, rfl, rfl, hsf, HALL, HO, HJ, KB, HB⟩ := hrel
      have HLEN : Hid (rs.length = i) := HO.out.len
      obtain ⟨hs, hH⟩ := HO.out
      have HOH := Lib.hid hH
      have HLT : Hid (∀ j, j < i → ∀ u, (Rec.hdV (hs.getD j Rec.hd0)).ownBlock = some u → u < wr.heap.size) := fun j hj u hu => ((hH.2.2.2.1 j hj).2.lt u hu).2
      clear hH
      have hsl : w.heap.size < wr.heap.size := box_lt KB.out
      by_cases hgo : i < n ∧ i < 30
      · obtain ⟨hg1, hg2⟩ := hgo
        have hd1 : decide ((i : Int) < (n : Int)) = true := by simp; omega
        have hd2 : decide ((i : Int) < 30) = true := by simp; omega
        go_wp2_with fail
        refine (at_any A n c i w.heap.size wr (HR.out.below HB.out (Nat.le_refl _)) hn (by omega)).mono ?_
        rintro e w' ⟨x, rfl, hx0, hx1, rfl⟩
        obtain ⟨kd, hkd⟩ : ∃ kd, Int.tmod x 9 = kd := ⟨_, rfl⟩
        obtain ⟨r3, hr3⟩ : ∃ r3, Int.tmod x 3 = r3 := ⟨_, rfl⟩
        have hkd2 : 0 ≤ kd ∧ kd < 9 := by rw [← hkd, Int.tmod_eq_emod_of_nonneg hx0]; omega
        have HRB : Hid (recB kd [x, (i : Int) * 1000] = true) := rec_one ⟨hx0, hx1⟩ hg2 hkd2
        obtain ⟨b0, b1, b2, _⟩ := box3 KB.out
        go_wp2_with fail
        obtain ⟨V, hV⟩ : ∃ V, V = (wr.alloc (.cells #[.int .i64 x, .int .i64 ((i : Int) * 1000)] 3)).alloc (.cells #[.int .i64 kd, .slice (some ⟨wr.heap.size, 0, none⟩) 2 2] 30) := ⟨_, rfl⟩
        have hbV : Below wr.heap.size wr V := by rw [hV]; exact bel2 _ _ _
        have KR : Hid (V.heap[wr.heap.size + 1]? = some (.cells #[.int .i64 kd, .slice (some ⟨wr.heap.size, 0, none⟩) 2 2] 30)) := by
          rw [hV]
          have h5 := box_new (wr.alloc (.cells #[.int .i64 x, .int .i64 ((i : Int) * 1000)] 3)) (.cells #[.int .i64 kd, .slice (some ⟨wr.heap.size, 0, none⟩) 2 2] 30)
          simp only [World.size_alloc] at h5
          exact h5
        have HOI : Hid (OwnI V (w.heap.size + 1) (some ⟨wr.heap.size, 0, none⟩) 2 2 [x, (i : Int) * 1000]) := by
          rw [hV]
          exact OwnI.below ⟨rfl, World.ownsRow_lit wr #[.int .i64 x, .int .i64 ((i : Int) * 1000)] 2 (by omega) (by unfold maxLen; omega) rfl⟩ (bel1 _ _)
        have HOV := Lib.hid (HOH.out.below hbV)
        have HJV := Lib.hid (HJ.out.below hbV)
        have KBV := Lib.hid (box_below KB.out hbV)
        have HBV := Lib.hid (bel_then HB.out hbV HB.out.size)
        have hsV : wr.heap.size + 1 < V.heap.size := box_lt KR.out
        have HAP := Lib.hid (app_val (sf := sf) (r := (kd, [x, (i : Int) * 1000])) HALL.out (by rw [HLEN.out]; exact hg2) (by rw [HLEN.out]; exact hsf) HRB.out)
        have HFW : Hid (jty.Few (atD rs sf)) := at_few HALL.out (by rw [HLEN.out]; exact hi)
        rw [← hV]
        clear hV hbV b0 b1 b2 HB HO HOH HJ KB
        refine (appendRecord_any V V.heap.size V.heap.size _ _ (atD rs sf) (kd, [x, (i : Int) * 1000]) HJV.out.crd.rd (Nat.le_refl _) ⟨_, _, rfl, HOI.out.ints⟩ (Nat.le_refl _) HFW.out (by show 2 ≤ 1048576; omega)).mono ?_
        intro e w2 hm2
        rw [HAP.out.1, HAP.out.2] at hm2
        obtain ⟨B1, m', e1, B2, q', e2, s', rfl, hJ2, hb2⟩ := made_jat hm2
        have KB2 := Lib.hid (box_below KBV.out hb2)
        have KR2 := Lib.hid (box_below KR.out hb2)
        have HO2 := Lib.hid (HOV.out.below hb2)
        have HI2 := Lib.hid (HOI.out.below hb2)
        have HJ2 := Lib.hid hJ2
        have HB2 := Lib.hid (bel_then HBV.out hb2 HBV.out.size)
        have hs2 := hb2.size
        obtain ⟨b0, b1, b2, f0, f1, f2⟩ := box3 KB2.out
        have hlb : w.heap.size < w2.heap.size := box_lt KB2.out
        clear hb2 hJ2 hm2 KBV KR HOV HOI HBV HJV HAP
        go_upto_region 15 with fail
        obtain ⟨X, hX⟩ : ∃ X, X = (((w2.setCell ⟨w.heap.size, 0, none⟩ (.slice B1 m' e1)).setCell ⟨w.heap.size, 1, none⟩ (.slice B2 q' e2)).setCell ⟨w.heap.size, 2, none⟩ (.int .i64 s')).alloc (.cells #[.slice B1 m' e1, .slice B2 q' e2, .int .i64 s'] 25) := ⟨_, rfl⟩
        have htX : Turned (fun k => k = w.heap.size) w2 X := by rw [hX]; exact (turned_j w2 w.heap.size _ _ _).trans (Turned.of_below (bel1 _ _))
        have KBX : Hid (X.heap[w.heap.size]? = some (.cells #[.slice B1 m' e1, .slice B2 q' e2, .int .i64 s'] 25)) := by rw [hX]; exact box_alloc (box_set (i := 2) (box_set (i := 1) (box_set (i := 0) KB2.out _) _) _) _
        have KRX := Lib.hid (box_turned KR2.out htX (by show ¬ (wr.heap.size + 1 = w.heap.size); omega))
        have HOX := Lib.hid (ownRs_turned HO2.out htX (fun k hk => by omega))
        have HIX := Lib.hid (ownI_turned HI2.out htX (fun k hk => by omega))
        have HJX : Hid (JAt X (w.heap.size + 1) B1 m' e1 B2 q' e2 s' (atD (rs ++ [(kd, [x, (i : Int) * 1000])]) sf)) := (HJ2.out.low (by omega)).turned htX (fun k hk => by omega)
        have HBX : Hid (Below w.heap.size w X) := Turned.low HB2.out htX (fun k hk => by omega) HB2.out.size
        have hsX : w2.heap.size ≤ X.heap.size := htX.size
        rw [← hX]
        obtain ⟨k0, k1, _, _⟩ := box2 KRX.out
        have HRW : Hid ((X.alloc (.cells #[.int .i64 kd, .slice (some ⟨wr.heap.size, 0, none⟩) 2 2] 30)).ownsRow (w.heap.size + 1) 30 2 (.slice A4 i c4) i (flatH hs)) := (HOX.out.below (bel1 _ _)).2.2.1
        clear hX htX b0 b1 b2 f0 f1 f2 KB2 KR2 HO2 HI2 HJ2 HB2
        go_wp2_with (at_builtin; refine wpList_append_own_at _ rfl (.tmp 56) (.tmp 58) _ rfl (w.heap.size + 1) 30 i0 _ 2 32 Tryd.underlying26 hi0 hz0 hz1 hz2 rfl (by omega) (.slice A4 i c4) i (flatH hs) rfl ?o1 ⟨X.heap.size, 0, none⟩ 1 1 [.int .i64 kd, .slice (some ⟨wr.heap.size, 0, none⟩) 2 2] rfl rfl ?o2 ?o3 ?o4 ?o5 ?o6 ?_)
        case o1 => exact HRW.out
        case o2 => exact lit2_news X (.int .i64 kd) (.slice (some ⟨wr.heap.size, 0, none⟩) 2 2) 30
        case o3 => intro u hu; simp at hu; rcases hu with rfl | rfl <;> rfl
        case o4 => unfold maxLen; omega
        case o5 => omega
        case o6 => simp; omega
        intro v6 w6 hown6 hgr6 _ hat6
        have hO' := HOX.out.below (bel1 X (.cells #[.int .i64 kd, .slice (some ⟨wr.heap.size, 0, none⟩) 2 2] 30))
        have hin : RecsTy.Inner (X.alloc (.cells #[.int .i64 kd, .slice (some ⟨wr.heap.size, 0, none⟩) 2 2] 30)) (w.heap.size + 1) 1 [(kd, some ⟨wr.heap.size, 0, none⟩, 2, 2)] [(kd, [x, (i : Int) * 1000])] := by
          refine ⟨rfl, rfl, fun j hj => ?_, fun j j' hj hj' hne => by omega⟩
          obtain rfl : j = 0 := by omega
          exact ⟨rfl, HIX.out.below (bel1 _ _)⟩
        have hDD : RecsTy.Dis hs i [(kd, some ⟨wr.heap.size, 0, none⟩, 2, 2)] 1 := by
          intro j j' hj hj' u hu e
          obtain rfl : j' = 0 := by omega
          have h5 := HLT.out j hj u hu
          have h6 : wr.heap.size = u := by simpa [Rec.hdV, Value.ownBlock] using e
          omega
        obtain ⟨A6, c6, rfl, hO6⟩ := RecsTy.ownH_join hO' hin hDD hown6 hgr6
        have HO6 : Hid (OwnRs w6 (w.heap.size + 1) A6 (i + 1) c6 (rs ++ [(kd, [x, (i : Int) * 1000])])) := ⟨_, hO6⟩
        have HJ6 : Hid (JAt w6 (w.heap.size + 1) B1 m' e1 B2 q' e2 s' (atD (rs ++ [(kd, [x, (i : Int) * 1000])]) sf)) := (HJX.out.below (bel1 _ _)).grow hO' hgr6
        have KB6 : Hid (w6.heap[w.heap.size]? = some (.cells #[.slice B1 m' e1, .slice B2 q' e2, .int .i64 s'] 25)) := (hgr6.block w.heap.size (by simp; omega) (fun e => by have := (hO'.2.2.1.lt _ e.symm).1; omega)).trans (box_alloc KBX.out _)
        have HB6 : Hid (Below w.heap.size w w6) := (HBX.out.alloc HBX.out.size _).grown hgr6 (by simp; omega) (fun u hu => by have := (hO'.2.2.1.lt u hu).1; omega)
        have HAL6 : Hid (AllOk (rs ++ [(kd, [x, (i : Int) * 1000])])) := all_snoc HALL.out HRB.out
        have HLN6 : Hid ((rs ++ [(kd, [x, (i : Int) * 1000])]).length = i + 1) := by show _ = _; rw [List.length_append, HLEN.out]; rfl
        obtain ⟨rs6, hrs6⟩ : ∃ rs6, rs6 = rs ++ [(kd, [x, (i : Int) * 1000])] := ⟨_, rfl⟩
        rw [← hrs6] at HO6 HJ6 HAL6 HLN6
        clear hown6 hgr6 hat6 hO' hin hDD hO6 k0 k1 HRW HOX HIX HJX KBX KRX HBX hrs6
        by_cases hr0 : r3 = 0
        · have hb3 : (r3 == 0) = true := by simp [hr0]
          obtain ⟨g0, g1, g2, h0, h1, h2⟩ := box3 KB6.out
          have hl6 : w.heap.size < w6.heap.size := box_lt KB6.out
          have HFW6 : Hid (jty.Few (atD rs6 sf)) := at_few HAL6.out (by rw [HLN6.out]; omega)
          have HSY : Hid (syncD (atD rs6 sf) = atD rs6 (i + 1)) := by show _ = _; rw [sync_val HAL6.out (by rw [HLN6.out]; omega), HLN6.out]
          clear hr0
          go_wp2_with fail
          refine (syncTail_any w6 w6.heap.size _ (atD rs6 sf) HJ6.out.crd.rd (Nat.le_refl _) HFW6.out).mono ?_
          intro e w7 hm7
          rw [HSY.out] at hm7
          obtain ⟨D1, m7, d1, D2, q7, d2, s7, rfl, hJ7, hb7⟩ := made_jat hm7
          have k7 := box_below KB6.out hb7
          obtain ⟨t0, t1, t2, l0, l1, l2⟩ := box3 k7
          have htY := turned_j w7 w.heap.size (.slice D1 m7 d1) (.slice D2 q7 d2) (.int .i64 s7)
          have hs7 := hb7.size
          have KBY : Hid ((((w7.setCell ⟨w.heap.size, 0, none⟩ (.slice D1 m7 d1)).setCell ⟨w.heap.size, 1, none⟩ (.slice D2 q7 d2)).setCell ⟨w.heap.size, 2, none⟩ (.int .i64 s7)).heap[w.heap.size]? = some (.cells #[.slice D1 m7 d1, .slice D2 q7 d2, .int .i64 s7] 25)) := box_set (i := 2) (box_set (i := 1) (box_set (i := 0) k7 _) _) _
          have HOY : Hid (OwnRs (((w7.setCell ⟨w.heap.size, 0, none⟩ (.slice D1 m7 d1)).setCell ⟨w.heap.size, 1, none⟩ (.slice D2 q7 d2)).setCell ⟨w.heap.size, 2, none⟩ (.int .i64 s7)) (w.heap.size + 1) A6 (i + 1) c6 rs6) := by
            obtain ⟨hs6, h6⟩ := HO6.out
            exact ⟨hs6, ownRs_turned (h6.below hb7) htY (fun k hk => by omega)⟩
          have HJY := Lib.hid ((hJ7.low (by omega : w.heap.size + 1 ≤ w6.heap.size)).turned htY (fun k hk => by omega))
          have HBY : Hid (Below w.heap.size w (((w7.setCell ⟨w.heap.size, 0, none⟩ (.slice D1 m7 d1)).setCell ⟨w.heap.size, 1, none⟩ (.slice D2 q7 d2)).setCell ⟨w.heap.size, 2, none⟩ (.int .i64 s7))) := Turned.low (bel_then HB6.out hb7 HB6.out.size) htY (fun k hk => by omega) (bel_then HB6.out hb7 HB6.out.size).size
          clear hm7 hJ7 hb7 k7 htY
          go_wp2
          go_roundw
          case rel => exact ⟨i + 1, i + 1, A6, c6, rs6, _, _, _, _, _, _, _, by omega, rfl, by go_num, by go_num, Nat.le_refl _, HAL6, HOY, HJY, KBY, HBY⟩
          case measure => simp [intOf]; omega
        · have hb3 : (r3 == 0) = false := by simp [hr0]
          clear hr0
          go_wp2
          go_roundw
          case rel => exact ⟨i + 1, sf, A6, c6, rs6, _, _, _, _, _, _, _, by omega, rfl, rfl, by go_num, by omega, HAL6, HO6, HJ6, KB6, HB6⟩
          case measure => simp [intOf]; omega
      · go_upto_region 7 with fail
        go_cut [34] (fun v wx => v = .bool false ∧ wr = wx)
        case first =>
          by_cases h1 : i < n
          · have hd1 : decide ((i : Int) < (n : Int)) = true := by simp; omega
            have hd2 : decide ((i : Int) < 30) = false := by simp; omega
            go_wp2_with fail
            go_meet
            case rel => exact ⟨rfl, rfl⟩
          · have hd1 : decide ((i : Int) < (n : Int)) = false := by simp; omega
            go_wp2_with fail
            go_meet
            case rel => exact ⟨rfl, rfl⟩
        case rest =>
          obtain ⟨rfl, rfl⟩ := hcut
          clear hgo HOH HLT
          obtain ⟨b0, b1, b2, _⟩ := box3 KB.out
          have HFW : Hid (jty.Few (atD rs sf)) := at_few HALL.out (by rw [HLEN.out]; exact hi)
          have HJK : Hid (jok (atD rs sf) = true) := at_ok HALL.out (by rw [HLEN.out]; exact hi)
          go_wp2_with fail
          go_cut [11, 12] (fun s11 s12 wx => ∃ (bt : Nat) (C1 : Option Addr) (p1 e1 : Nat) (C2 : Option Addr) (p2 e2 : Nat) (st k : Int), s11 = .pointer (some ⟨bt, 0, none⟩) ∧ s12 = .bool true ∧ Hid (wx.heap[bt]? = some (.cells #[.slice C1 p1 e1, .slice C2 p2 e2, .int .i64 st] 25)) ∧ Hid (JAt wx (w.heap.size + 1) C1 p1 e1 C2 p2 e2 st (crashD (atD rs sf) k)) ∧ Hid (Below wr.heap.size wr wx))
          case first =>
            go_region_held3 (fun w' => w'.cell? ⟨w.heap.size, 0, none⟩ = some (.slice A1 m c1) ∧ w'.cell? ⟨w.heap.size, 1, none⟩ = some (.slice A2 q c2) ∧ w'.cell? ⟨w.heap.size, 2, none⟩ = some (.int .i64 s))
              (first | (go_keep; done) | exact ⟨far1 (by omega) (far1 (by omega) (far1 (by omega) z0)), far1 (by omega) (far1 (by omega) (far1 (by omega) z1)), far1 (by omega) (far1 (by omega) (far1 (by omega) z2))⟩ | exact ⟨z0, z1, z2⟩ | (refine ⟨cell_keep (bel1 _ _) z0, cell_keep (bel1 _ _) z1, cell_keep (bel1 _ _) z2⟩))
              (first
                | (go_at_call 6; refine (at_any A n c 0 w.heap.size _ (by first | exact HR.out.below HB.out.drew (Nat.le_refl _) | exact HR.out.below (HB.out.drew.alloc HB.out.size _) (Nat.le_refl _)) hn (by omega)).mono ?_; rintro e w' ⟨x, rfl, hx0, hx1, rfl⟩)
                | (go_at_call 9; refine (crashTail_any _ _ wr.heap.size _ (atD rs sf) (by first | exact jty.rd_below HJ.out.crd.rd (Below.refl _ _).drew (Nat.le_refl _) | exact jty.rd_below HJ.out.crd.rd ((Below.refl _ _).drew.alloc (Nat.le_refl _) _) (Nat.le_refl _)) (by first | exact Nat.le_refl _ | exact Nat.le_of_lt (by simp)) HFW.out).mono ?_; intro e w2 hm2; rw [HJK.out] at hm2; obtain ⟨C1, p1, e1, C2, p2, e2, st, rfl, hJ2, hb2⟩ := made_jat hm2; (try have hb2' : Below (wr.alloc (.cells #[.slice none 0 0, .slice none 0 0, .int .i64 0] 25)).heap.size (wr.alloc (.cells #[.slice none 0 0, .slice none 0 0, .int .i64 0] 25)) w2 := undrew hb2); have hbq : Below wr.heap.size wr w2 := (by first | exact al1 hb2' | exact undrew hb2); (try have hJz := JAt.low (lo' := wr.heap.size + 1) hJ2 (by show wr.heap.size + 1 ≤ (wr.alloc (.cells #[.slice none 0 0, .slice none 0 0, .int .i64 0] 25)).heap.size; simp)); obtain ⟨z0, z1, z2, _⟩ := box3 (box_below KB.out hbq); have hsq := hbq.size; (try have bz := box_below (box_new wr (.cells #[.slice none 0 0, .slice none 0 0, .int .i64 0] 25)) hb2'); (try have y0 := box_cell bz 0 (.slice none 0 0) rfl); (try have y1 := box_cell bz 1 (.slice none 0 0) rfl); (try have y2 := box_cell bz 2 (.int .i64 0) rfl); (try have x0 := box_frozen bz 0); (try have x1 := box_frozen bz 1); (try have x2 := box_frozen bz 2); (try have hbz := box_lt bz); clear hm2))
            all_goals
              go_wp2_with fail
              go_meet
              case rel =>
                first
                  | exact ⟨_, _, _, _, _, _, _, _, _, rfl, rfl, box_new _ _, (hJ2.low (by show w.heap.size + 1 ≤ wr.heap.size; omega)).below (bel1 _ _), hbq.alloc hbq.size _⟩
                  | exact ⟨_, _, _, _, _, _, _, _, _, rfl, rfl, box_set (i := 2) (box_set (i := 1) (box_set (i := 0) bz _) _) _, (hJz.turned (turned_j _ _ _ _ _) (fun k hk => by omega)).low (by omega), ((hbq.setCell (p := ⟨wr.heap.size, 0, none⟩) (Nat.le_refl _) _).setCell (p := ⟨wr.heap.size, 1, none⟩) (Nat.le_refl _) _).setCell (p := ⟨wr.heap.size, 2, none⟩) (Nat.le_refl _) _⟩
          case rest =>
            obtain ⟨bt, C1, p1, e1, C2, p2, e2, st, k, rfl, rfl, KT, HJT, HBT⟩ := hcut
            obtain ⟨a, b, ea, hsa, hA, hla, E1, E2, E3, E4, E5, E6, E7, E8, E9, E10, E11, E12⟩ := ends HALL.out (by rw [HLEN.out]; exact hi) (by rw [HLEN.out]; exact hsf) k
            have hca := catF_len hA
            obtain ⟨dA, hdA⟩ : ∃ dA : JD, dA = ([], catF a, ((catF a).length : Int)) := ⟨_, rfl⟩
            obtain ⟨dP, hdP⟩ : ∃ dP : JD, dP = (catF a, [], 0) := ⟨_, rfl⟩
            have HFA : Hid (jty.Few dA) := by rw [hdA]; show ([] : List Int).length + (catF a).length ≤ 1048576; simp; omega
            have HFP : Hid (jty.Few dP) := by rw [hdP]; show (catF a).length + ([] : List Int).length ≤ 1048576; simp; omega
            have HPT : Hid (dP.2.1.length = 0) := by rw [hdP]; rfl
            rw [← hdA] at E1 E3 E4 E5 E6 E7 E8
            rw [← hdP] at E8 E9 E10 E11 E12
            obtain ⟨L, hL⟩ : ∃ L, L = lostV (crashD (atD rs sf) k) := ⟨_, rfl⟩
            rw [← hL] at E2
            have HE1 := Lib.hid E1
            have HE3 := Lib.hid E3
            have HE4 := Lib.hid E4
            have HE5 := Lib.hid E5
            have HE6 := Lib.hid E6
            have HE7 := Lib.hid E7
            have HE8 := Lib.hid E8
            have HE9 := Lib.hid E9
            have HE10 := Lib.hid E10
            have HE11 := Lib.hid E11
            have HE12 := Lib.hid E12
            have HL := Lib.hid hL
            have HEA := Lib.hid ea
            have HAA := Lib.hid hA
            obtain ⟨ga, hga⟩ : ∃ ga, ga = a.length := ⟨_, rfl⟩
            have HGA := Lib.hid hga
            have hgi : ga ≤ i := by have h5 := HLEN.out; rw [ea, List.length_append] at h5; omega
            have HGL : Hid (sf ≤ ga) := by rw [hga]; exact hsa
            have HFC : Hid (jty.Few (crashD (atD rs sf) k)) := few_crash HFW.out k
            have hbc : Below w.heap.size w wc := bel_then HB.out HBT.out HB.out.size
            have HBC := Lib.hid hbc
            have HOC := Lib.hid (HO.out.below HBT.out)
            have hc4 : i ≤ c4 := by
              obtain ⟨hs4, h4⟩ := HO.out
              rcases h4.2.2.1.2 with ⟨e, e0⟩ | ⟨g, cap, cur, e, _, _, h7, _⟩
              · injection e with _ e5 e6; omega
              · injection e with _ _ e6; omega
            have hcutr : ∀ W : World, (Instr.slice 26 (.slice A4 i c4) none (some (.int .i64 ga)) none).run Tryd.prog W = .ok (.slice A4 ga c4) W := cutRec A4 i c4 ga (by omega)
            have hq1 : decide (L < 0) = false := by simp; omega
            have hq2 : decide ((ga : Int) < (sf : Int)) = false := by have h5 := HGL.out; simp; omega
            have hq3 : decide ((i : Int) < (ga : Int)) = false := by simp; omega
            obtain ⟨t0, t1, t2, _⟩ := box3 KT.out
            clear E1 E2 E3 E4 E5 E6 E7 E8 E9 E10 E11 E12 hL ea hA hdA hdP hbc b0 b1 b2 HJ KB HO HBT hca hga hsa HJK HFW
            go_wp2_with fail
            refine (mendTail_any aT aB aO wc wc.heap.size _ (crashD (atD rs sf) k) HJT.out.crd.rd (Nat.le_refl _) HFC.out (Rd.errs_up (HE.out.below HBC.out (Nat.le_refl _)) HBC.out.size) (blk_up (HK.out.below HBC.out (Nat.le_refl _)) HBC.out.size)).mono ?_
            intro e w3 hm3
            rw [HE1.out, ← HL.out] at hm3
            obtain ⟨D1, p3, d1, D2, p4, d2, s3, rfl, hJ3, hb3⟩ := made_jat hm3
            have hb3m := hb3.alloc hb3.size (.cells #[.slice D1 p3 d1, .slice D2 p4 d2, .int .i64 s3] 25)
            have KM := Lib.hid (box_new w3 (.cells #[.slice D1 p3 d1, .slice D2 p4 d2, .int .i64 s3] 25))
            have HJ3 := Lib.hid (hJ3.below (bel1 w3 (.cells #[.slice D1 p3 d1, .slice D2 p4 d2, .int .i64 s3] 25)))
            have HO3 := Lib.hid (HOC.out.below hb3m)
            have HB3 := Lib.hid (bel_then HBC.out hb3m HBC.out.size)
            clear hm3 hJ3 hb3 hb3m t0 t1 t2 HJT KT HOC HBC HFC HE1 HL
            go_wp2_with fail
            refine (readJournal_any aT aB aO _ _ _ dA HJ3.out.crd (Nat.le_refl _) HFA.out (Rd.errs_up (HE.out.below HB3.out (Nat.le_refl _)) HB3.out.size) (blk_up (HK.out.below HB3.out (Nat.le_refl _)) HB3.out.size)).mono ?_
            intro e w4 hm4
            rw [HE3.out, HE4.out] at hm4
            obtain ⟨Ag, cg, Sg, rfl, hG4, hb4⟩ := made_srs hm4
            rw [← HGA.out] at hG4 ⊢
            have KM4 := Lib.hid (box_below KM.out hb4)
            have HJ4 := Lib.hid (HJ3.out.below hb4)
            have HO4 := Lib.hid (HO3.out.below hb4)
            have HG4 := Lib.hid hG4
            have HB4 := Lib.hid (bel_then HB3.out hb4 HB3.out.size)
            clear hm4 hG4 hb4 HJ3 KM HO3 HB3 HE3 HE4
            go_wp2_with fail
            have HRG : Hid (∀ (W : World), Has RecsTy.sty W (w3.heap.size + 1) w4.heap.size Sg (.slice Ag ga cg) a → IsRecs W W.heap.size Ag ga a) := by
              intro W hW
              obtain ⟨A', c', e, h5⟩ := hW.rd
              injection e with e1 e2 e3
              subst e1
              rw [HGA.out]
              exact h5
            have HG4' : Hid (Has RecsTy.sty w4 (w3.heap.size + 1) w4.heap.size Sg (.slice Ag ga cg) a) := by have h5 := HG4.out; simp only [World.size_alloc] at h5; exact h5
            refine (sameRecords_same Ag A4 ga cg c4 a w4.heap.size w4.heap.size w4 (HRG.out w4 HG4'.out) (recs_take (b := b) (by rw [← HEA.out]; exact HO4.out.reads) HGA.out.symm) (Nat.le_refl _) (Nat.le_refl _) (by omega) (fun j hj => all_at HAA.out j (by rw [← HGA.out]; exact hj))).mono ?_
            rintro e w5 ⟨rfl, hb5⟩
            have KM5 := Lib.hid (box_below KM4.out hb5)
            have HJ5 := Lib.hid (HJ4.out.below hb5)
            have HG5 := Lib.hid (HG4'.out.below hb5)
            have HB5 := Lib.hid (bel_then HB4.out hb5 HB4.out.size)
            obtain ⟨t0, t1, t2, _⟩ := box3 KM5.out
            clear hb5 KM4 HJ4 HO4 HG4 HG4' HB4
            go_wp2_with fail
            refine (mendTail_any aT aB aO w5 w5.heap.size _ dA HJ5.out.crd.rd (Nat.le_refl _) HFA.out (Rd.errs_up (HE.out.below HB5.out (Nat.le_refl _)) HB5.out.size) (blk_up (HK.out.below HB5.out (Nat.le_refl _)) HB5.out.size)).mono ?_
            intro e w6 hm6
            rw [HE5.out, HE6.out] at hm6
            obtain ⟨F1, p5, f1, F2, p6, f2, s6, rfl, hJ6, hb6⟩ := made_jat hm6
            have hb6m := hb6.alloc hb6.size (.cells #[.slice F1 p5 f1, .slice F2 p6 f2, .int .i64 s6] 25)
            have HJ6 := Lib.hid (hJ6.below (bel1 w6 (.cells #[.slice F1 p5 f1, .slice F2 p6 f2, .int .i64 s6] 25)))
            have HG6 := Lib.hid (HG5.out.below hb6m)
            have HB6 := Lib.hid (bel_then HB5.out hb6m HB5.out.size)
            clear hm6 hJ6 hb6 hb6m t0 t1 t2 HG5 HB5 HJ5 KM5 HE5 HE6
            go_wp2_with fail
            have HSF : Hid (RecsTy.sty.Few a) := by
              have h5 := HFA.out
              show RecsTy.cntR a ≤ 1048576
              have h6 : ∀ l : RList, AllOk l → RecsTy.cntR l ≤ 13 * l.length := by
                intro l
                induction l with
                | nil => intro _; simp [RecsTy.cntR]
                | cons r l ih =>
                  intro hl
                  have h7 := ih (fun x hx => hl x (List.mem_cons_of_mem _ hx))
                  have h8 := (Rec.rec_t (hl r (List.mem_cons_self ..))).2.1
                  simp only [RecsTy.cntR, List.length_cons]
                  omega
              have h9 := h6 a HAA.out
              have h10 := HGA.out
              omega
            refine (compactTo_any _ _ (w6.alloc (.cells #[.slice F1 p5 f1, .slice F2 p6 f2, .int .i64 s6] 25)).heap.size _ _ dA a HJ6.out.crd.rd (Nat.le_refl _) ⟨Ag, cg, by rw [HGA.out], by have h5 := HRG.out _ HG6.out; rw [HGA.out] at h5; exact h5⟩ (Nat.le_refl _) HFA.out HSF.out).mono ?_
            intro e w7 hm7
            rw [HE7.out, HE8.out] at hm7
            obtain ⟨P1, p7, g1, P2, p8, g2, s7, rfl, hJ7, hb7⟩ := made_jat hm7
            obtain rfl : p8 = 0 := by have h5 := hJ7.o2.1; rw [HPT.out] at h5; exact h5.symm
            have hb7m := hb7.alloc hb7.size (.cells #[.slice P1 p7 g1, .slice P2 0 g2, .int .i64 s7] 25)
            have KP := Lib.hid (box_new w7 (.cells #[.slice P1 p7 g1, .slice P2 0 g2, .int .i64 s7] 25))
            have HJ7 := Lib.hid (hJ7.below (bel1 w7 (.cells #[.slice P1 p7 g1, .slice P2 0 g2, .int .i64 s7] 25)))
            have HG7 := Lib.hid (HG6.out.below hb7m)
            have HB7 := Lib.hid (bel_then HB6.out hb7m HB6.out.size)
            clear hm7 hJ7 hb7 hb7m HG6 HB6 HJ6 HE7 HE8
            go_wp2_with fail
            refine (readJournal_any aT aB aO _ _ _ dP HJ7.out.crd (Nat.le_refl _) HFP.out (Rd.errs_up (HE.out.below HB7.out (Nat.le_refl _)) HB7.out.size) (blk_up (HK.out.below HB7.out (Nat.le_refl _)) HB7.out.size)).mono ?_
            intro e w8 hm8
            rw [HE9.out, HE10.out] at hm8
            obtain ⟨Ah, ch, Sh, rfl, hH8, hb8⟩ := made_srs hm8
            rw [← HGA.out] at hH8 ⊢
            have KP8 := Lib.hid (box_below KP.out hb8)
            have HJ8 := Lib.hid (HJ7.out.below hb8)
            have HG8 := Lib.hid (HG7.out.below hb8)
            have HB8 := Lib.hid (bel_then HB7.out hb8 HB7.out.size)
            have HH8 : Hid (IsRecs w8 w8.heap.size Ah ga a) := by
              obtain ⟨A', c', e, h5⟩ := hH8.rd
              injection e with e1 e2 e3
              subst e1
              rw [HGA.out]
              exact h5
            clear hm8 hH8 hb8 HJ7 KP HG7 HB7 HE9 HE10
            go_wp2_with fail
            refine (sameRecords_same Ah Ag ga ch cg a w8.heap.size w8.heap.size w8 HH8.out (HRG.out w8 HG8.out) (Nat.le_refl _) (Nat.le_refl _) (by omega) (fun j hj => all_at HAA.out j (by rw [← HGA.out]; exact hj))).mono ?_
            rintro e w9 ⟨rfl, hb9⟩
            have KP9 := Lib.hid (box_below KP8.out hb9)
            have HJ9 := Lib.hid (HJ8.out.below hb9)
            have HB9 := Lib.hid (bel_then HB8.out hb9 HB8.out.size)
            obtain ⟨t0, t1, t2, _⟩ := box3 KP9.out
            clear hb9 KP8 HJ8 HB8 HH8 HG8
            go_wp2_with fail
            refine (roomLeft_any w9 w9.heap.size _ dP HJ9.out.crd.rd (Nat.le_refl _) HFP.out).mono ?_
            rintro e w10 ⟨rfl, hb10⟩
            rw [HE11.out]
            have KP10 := Lib.hid (box_below KP9.out hb10)
            have HJ10 := Lib.hid (HJ9.out.below hb10)
            have HB10 := Lib.hid (bel_then HB9.out hb10 HB9.out.size)
            clear t0 t1 t2
            obtain ⟨t0, t1, t2, _⟩ := box3 KP10.out
            clear hb10 KP9 HJ9 HB9
            go_wp2_with fail
            refine (specJournalOk_any w10 w10.heap.size _ dP HJ10.out.crd.rd HFP.out).mono ?_
            rintro e w11 ⟨rfl, hb11⟩
            rw [HE12.out]
            have HB11 := Lib.hid (bel_then HB10.out hb11 HB10.out.size)
            clear hb11 t0 t1 t2
            go_wp2
            go_ret
            exact ⟨rfl, HB11.out⟩
end Go.Proofs.YtpghccbknlokcaaDoor.JL
