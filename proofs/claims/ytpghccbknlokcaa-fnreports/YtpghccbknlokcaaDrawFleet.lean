/-
  THE CONTRACT of the model's l05DrawFleet over this seat's translation: some fleet, in memory of its own.
-/
import Derived.Test.YtpghccbknlokcaaDrawFV
import Derived.Test.YtpghccbknlokcaaSpecGo
import Derived.Deep.RegionHeld3
import Derived.Deep.RegionLaw
import Derived.Deep.Cut
namespace Go.Proofs.Ytpghccbknlokcaa.DrawF
open Go.ChangeShapes Go.WideShapes Go.ChangeAt Go.RowKit
open Go.Proofs.Ytpghccbknlokcaa.LK Go.Proofs.Ytpghccbknlokcaa.Pods Go.Proofs.Ytpghccbknlokcaa.FleetV Go.Proofs.Ytpghccbknlokcaa.Draw Go.Proofs.Ytpghccbknlokcaa.Crew
open Go.Proofs.Ytpghccbknlokcaa.DrawTick (lit_cells)
set_option linter.unusedVariables false
set_option linter.unusedSimpArgs false

theorem ids_cell {w : World} {lo q m c : Nat} {ps : PList} (h : OwnP w lo (some ⟨q, 0, none⟩) m c ps) (j : Nat) (hj : j < m) : w.cell? ⟨q, j * 5, none⟩ = some (.int .i64 (ps.getD j z5).1) := by
  obtain ⟨b, off, x0, x1, x2, x3, x4, hbb, _, hv, hd0, _⟩ := h.podsAll.at_ hj
  injection hbb with hbb
  injection hbb with e1 e2
  subst e1 e2
  rw [hv]
  simpa using hd0
theorem made1_own {d : FleetTy.fty.D} {x : Value} {W w' : World} {e : Ending} (h : Made1 FleetTy.fty d x W e w') : ∃ A m c ps nx, d = (ps, nx) ∧ e = .returned (.tuple #[.agg #[.slice A m c, .int .i64 nx], x]) ∧ OwnP w' W.heap.size A m c ps ∧ Below W.heap.size W w' := by
  obtain ⟨v', S, rfl, ⟨⟨A, c, rfl, hO, hS⟩, hin, _⟩, hb⟩ := h
  exact ⟨A, _, c, d.1, d.2, rfl, rfl, hO.base (fun k hk => (hin k (hS k hk)).1), hb⟩
theorem lit_grown (w : World) {w' : World} (T : TypeId) (l : List Int) {g : Nat} (hg : (w.alloc (.cells (l.map (Value.int .i64)).toArray T)).grownBy w' (some g)) (hne : w.heap.size ≠ g) (j : Nat) (hj : j < l.length) : w'.cell? ⟨w.heap.size, j, none⟩ = some (.int .i64 (l.getD j 0)) :=
  (World.cell?_of_block (hg.block w.heap.size (by simp) (by simp; omega))).trans (lit_cells w T l j hj)
theorem said_alloc {w w' : World} {B g : Nat} {A : Option Addr} {n cap : Nat} {zs : List UInt8} {e : Ending} (h : FleetSaid w B g A n cap zs e w') (o : Obj) : FleetSaid w B g A n cap zs e (w'.alloc o) := by
  obtain ⟨A', m, c', ps, nx, h1, h2, h3, h4, h5, h6⟩ := h
  exact ⟨A', m, c', ps, nx, h1, h2, h3, h4.below (bel1 _ _), h5.alloc o, grown_alloc h6 o⟩
/-- Some fleet in the variable. -/
def DR (k : Nat) (w wr : World) (fb B g : Nat) (A : Option Addr) (n cap : Nat) (zs : List UInt8) : Prop := ∃ A' m c' ps nx, Dr w wr fb B g A n cap zs A' m c' ps nx ∧ Fine k ps nx

set_option maxRecDepth 100000 in
set_option maxHeartbeats 6400000 in
theorem drawFleet_any (N : Nat) (hN : N ≤ 30) (w : World) (B g : Nat) (A : Option Addr) (n cap : Nat) (zs : List UInt8) (hc : CurAt w B g A n cap zs) :
    Calls Try.prog 104 #[.pointer (some ⟨g, 0, none⟩), .int .i64 N] w (FleetSaid w B g A n cap zs) := by
  obtain ⟨i0, hi0, hz0, hz1, hz2⟩ := info_parts infoP
  have hgl : g < w.heap.size := hc.lt
  have HC := Lib.hid hc
  clear hc
  go_enter Try.func104, Try.ntmps104
  go_wp2_with fail
  refine (specNewFleet_any _).mono ?_
  intro e w1 hm
  obtain ⟨A1, c1, rfl, hO1, hb1⟩ := made_own hm
  have hD1 : Dr w (w1.alloc (.cells #[.slice A1 0 c1, .int .i64 1] 44)) w1.heap.size B g A n cap zs A1 0 c1 [] 1 :=
    ⟨box_alloc (box_below (box_new w (.cells #[.slice none 0 0, .int .i64 0] 44)) hb1) _, box_new _ _, (hO1.down (by simp)).below (bel1 _ _), ((HC.out.alloc _).below hb1).alloc _, grown_alloc (grown_trans (grown_bel (bel1 _ _)) (grown_bel hb1)) _⟩
  have hs1 : w.heap.size < w1.heap.size := by have := hb1.size; simp at this; omega
  have HD1 : Hid (DR 30 w (w1.alloc (.cells #[.slice A1 0 c1, .int .i64 1] 44)) w1.heap.size B g A n cap zs) := ⟨_, _, _, _, _, hD1, fine_new _⟩
  clear hD1 hm hO1 hb1 HC
  go_wp2_with fail
  generalize hfb : w1.heap.size = fb at HD1 hs1
  go_loopg [6, 7] N (fun k s6 s7 wr => ∃ (i : Nat) (now : Int), i + k = N ∧ 0 ≤ now ∧ now ≤ 4 * (i : Int) ∧ s7 = .int .i64 i ∧ s6 = .int .i64 now ∧ Hid (DR 30 w wr fb B g A n cap zs))
  case atStart => exact ⟨0, 0, by omega, by omega, by omega, rfl, rfl, HD1⟩
  case round =>
    obtain ⟨i, now, hik, hn0, hn1, rfl, rfl, HD⟩ := hrel
    obtain ⟨A', m, c', ps, nx, hD, hF⟩ := HD.out
    have hm30 : m ≤ 30 := by have := hF.1; rw [hD.own.1] at this; exact this
    have HDa := Lib.hid hD
    have HF := Lib.hid hF
    clear hD hF HD
    by_cases hlt : i < N
    · go_wp2_with fail
      refine (below_any 4 (by omega) _ B g A n cap zs HDa.out.cur).mono ?_
      rintro e w2 ⟨x, hx, _, rfl, hc2, hg2⟩
      have hx4 : (x : Int) < 4 := hx (by omega)
      have HD2 := Lib.hid (HDa.out.step hgl hs1 hg2 hc2)
      have hfl2 : fb < w2.heap.size := HD2.out.sz
      clear hx hc2 hg2 HDa
      have b0 := box_cell HD2.out.box 0 _ rfl
      have b1 := box_cell HD2.out.box 1 _ rfl
      go_upto_if 25 with fail
      go_cut [8] (fun s8 wx => ∃ id : Int, s8 = .int .i64 id ∧ Hid (DR 30 w wx fb B g A n cap zs))
      case first =>
        by_cases hm0 : 0 < m
        · obtain ⟨q, hA2, hq0, hq1⟩ := HD2.out.own.at0 hm0
          subst hA2
          go_wp2_with fail
          obtain ⟨f, hf, hf2⟩ : ∃ f : Nat → Int, (∀ j, j < m → w2.cell? ⟨q, j * 5, none⟩ = some (.int .i64 (f j))) ∧ Hid (∀ (W : World), OwnP W (w.heap.size + 1) (some ⟨q, 0, none⟩) m c' ps → ∀ j, j < m → W.cell? ⟨q, j * 5, none⟩ = some (.int .i64 (f j))) := ⟨fun j => (ps.getD j z5).1, ids_cell HD2.out.own, fun W h => ids_cell h⟩
          go_region_held3 (fun w' => w'.cell? ⟨fb, 0, none⟩ = some (.slice (some ⟨q, 0, none⟩) m c') ∧ ∀ j, j < m → w'.cell? ⟨q, j * 5, none⟩ = some (.int .i64 (f j)))
            (first | (go_keep; done) | exact ⟨box_cell HD3.out.box 0 _ rfl, hf2.out _ HD3.out.own⟩ | exact ⟨b0, hf⟩)
            (first | (go_at_call 62; refine (below_any (m : Int) (by omega) _ B g A n cap zs (by exact cur_drew HD2.out.cur)).mono ?_; rintro e w3 ⟨y, hy, _, rfl, hc3, hg3⟩; have HD3 := Lib.hid (HD2.out.step hgl hs1 (undrew_g hg3) hc3); have hym : y < m := (by have := hy (by omega); omega)))
          all_goals
            go_wp2_with fail
            go_meet
            case rel => exact ⟨_, rfl, ⟨_, _, _, _, _, HD3.out, HF.out⟩⟩
        · go_wp2_with fail
          go_meet
          case rel => exact ⟨_, rfl, ⟨_, _, _, _, _, HD2.out, HF.out⟩⟩
      case rest =>
        obtain ⟨id, rfl, HDc⟩ := hcut
        clear HD2 HF hm30 b0 b1 hfl2
        obtain ⟨A', m, c', ps, nx, hD, hF⟩ := HDc.out
        have hm30 : m ≤ 30 := by have := hF.1; rw [hD.own.1] at this; exact this
        have HDa := Lib.hid hD
        have HF := Lib.hid hF
        clear hD hF HDc
        go_wp2_with fail
        refine (below_any 6 (by omega) _ B g A n cap zs HDa.out.cur).mono ?_
        rintro e w4 ⟨v, hv, _, rfl, hc4, hg4⟩
        have hv6 : v = 0 ∨ v = 1 ∨ v = 2 ∨ v = 3 ∨ v = 4 ∨ v = 5 := by have := hv (by omega); omega
        have HD4 := Lib.hid (HDa.out.step hgl hs1 hg4 hc4)
        have hfl4 : fb < w4.heap.size := HD4.out.sz
        have hgl4 : g < w4.heap.size := HD4.out.cur.lt
        have b0 := box_cell HD4.out.box 0 _ rfl
        have b1 := box_cell HD4.out.box 1 _ rfl
        clear hv hc4 hg4 HDa
        rcases hv6 with rfl | rfl | rfl | rfl | rfl | rfl
        iterate 2
          · go_wp2_with fail
            go_region_law
              (first
                | (go_simp; go_at_call 129; refine (specAddPod_any A' m c' nx _ _ ps _ _ (by exact HD5.out.own.podsAll) (Nat.le_refl _) (by omega)).mono ?_; intro e w6 hm6; obtain ⟨A6, m6, c6, ps6, nx6, hd6, rfl, hO6, hb6⟩ := made1_own hm6; have HE6 := Lib.hid hd6; clear hd6 hm6; have k0 := box_cell (box_below HD5.out.box hb6) 0 _ rfl; have k1 := box_cell (box_below HD5.out.box hb6) 1 _ rfl; have j0 := box_frozen (box_below HD5.out.box hb6) 0; have j1 := box_frozen (box_below HD5.out.box hb6) 1; simp only [])
                | (go_simp; go_at_call 62; refine (below_any 3 (by omega) _ B g A n cap zs (by exact cur_drew HD4.out.cur)).mono ?_; rintro e w5 ⟨y, hy, _, rfl, hc5, hg5⟩; have HD5 := Lib.hid (HD4.out.step hgl hs1 (undrew_g hg5) hc5); have hy3 : (y : Int) < 3 := hy (by omega); have hwd : IntKind.i64.wrap (1 + (y : Int)) = 1 + (y : Int) := (by rw [IntKind.wrap_i64]; omega); have hfl5 : fb < w5.heap.size := HD5.out.sz; have h50 := box_cell HD5.out.box 0 _ rfl; have h51 := box_cell HD5.out.box 1 _ rfl; simp only []))
            all_goals
              have HD7 := Lib.hid (HD5.out.put hgl hs1 hb6 hO6 nx6)
              have HF7 : Hid (Fine 30 ps6 nx6) := by have h := fine_add (1 + (y : Int)) (now + (x : Int)) HF.out (by omega); rw [HE6.out] at h; exact h
              clear hO6 hb6 k0 k1 j0 j1 HE6 HD5 hc5 hg5 h50 h51
              go_wp2
              go_roundg (gk - 1)
              case measure => omega
              case rel => exact ⟨i + 1, now + (x : Int), by omega, by omega, by omega, by go_num, rfl, ⟨_, _, _, _, _, HD7.out, HF7.out⟩⟩
        iterate 3
          · go_wp2_with fail
            go_region_law
              (first
                | (go_simp; go_at_call 21; refine (specTakeReport_any A' m c' nx _ _ _ _ ps _ _ (by exact HD8.out.own.podsAll) (Nat.le_refl _) (by omega)).mono ?_; intro e w6 hm6; obtain ⟨A6, m6, c6, ps6, nx6, hd6, rfl, hO6, hb6⟩ := made1_own hm6; have HE6 := Lib.hid hd6; clear hd6 hm6; have k0 := box_cell (box_below HD8.out.box hb6) 0 _ rfl; have k1 := box_cell (box_below HD8.out.box hb6) 1 _ rfl; have j0 := box_frozen (box_below HD8.out.box hb6) 0; have j1 := box_frozen (box_below HD8.out.box hb6) 1; simp only [])
                | (have hq := hordB; clear hq; go_simp; go_at_call 64; refine (pick_any [1, 2, 2, 2, 3, 4] w5.heap.size 6 6 rfl (by omega) (by omega) (w5.alloc (.cells (([1, 2, 2, 2, 3, 4] : List Int).map (Value.int .i64)).toArray 3)) B g A n cap zs (HD5.out.cur.alloc _) (by have := HD5.out.cur.lt; omega) (fun j hj => lit_cells w5 _ [1, 2, 2, 2, 3, 4] j hj)).mono ?_; rintro e w8 ⟨z, _, rfl, hc8, hg8⟩; have HD8 := Lib.hid ((HD5.out.alloc _).step hgl hs1 hg8 hc8); have h80 := box_cell HD8.out.box 0 _ rfl; have h81 := box_cell HD8.out.box 1 _ rfl; simp only [])
                | (have hq := HLIT; clear hq; go_simp; go_at_call 64; refine (pick_any [1, 2, 2, 2, 3, 4] w4.heap.size 6 6 rfl (by omega) (by omega) _ B g A n cap zs HD5.out.cur (by omega) HLIT.out).mono ?_; rintro e w8 ⟨z, _, rfl, hc8, hg8⟩; have HD8 := Lib.hid (HD5.out.step hgl hs1 hg8 hc8); have h80 := box_cell HD8.out.box 0 _ rfl; have h81 := box_cell HD8.out.box 1 _ rfl; simp only [])
                | (go_simp; go_at_call 62; refine (below_any 9 (by omega) _ B g A n cap zs ?hcur).mono ?_; (case hcur => with_reducible exact cur_drew HD4.out.cur); rintro e w5 ⟨y, hy, _, rfl, hc5, hg5⟩; have hy3 : (y : Int) < 9 := hy (by omega); have hwd : IntKind.i64.wrap (1 + (y : Int)) = 1 + (y : Int) := (by rw [IntKind.wrap_i64]; omega); have HD5 := Lib.hid (HD4.out.step hgl hs1 (undrew_g hg5) hc5); have hordB : True := trivial; have hfl5 : fb < w5.heap.size := HD5.out.sz; have h50 := box_cell HD5.out.box 0 _ rfl; have h51 := box_cell HD5.out.box 1 _ rfl; simp only [])
                | (go_simp; go_at_call 62; refine (below_any 9 (by omega) _ B g A n cap zs ?hcur).mono ?_; (case hcur => with_reducible exact cur_drew (HD4.out.cur.alloc _)); rintro e w5 ⟨y, hy, _, rfl, hc5, hg5⟩; have hy3 : (y : Int) < 9 := hy (by omega); have hwd : IntKind.i64.wrap (1 + (y : Int)) = 1 + (y : Int) := (by rw [IntKind.wrap_i64]; omega); have HD5 := Lib.hid ((HD4.out.alloc _).step hgl hs1 (undrew_g hg5) hc5); have hlit : ∀ j, j < 6 → w5.cell? ⟨w4.heap.size, j, none⟩ = some (.int .i64 (([1, 2, 2, 2, 3, 4] : List Int).getD j 0)) := lit_grown w4 3 [1, 2, 2, 2, 3, 4] (undrew_g hg5) (by omega); have HLIT := Lib.hid hlit; clear hlit; have hfl5 : fb < w5.heap.size := HD5.out.sz; have h50 := box_cell HD5.out.box 0 _ rfl; have h51 := box_cell HD5.out.box 1 _ rfl; simp only []))
            all_goals
              have HD7 := Lib.hid (HD8.out.put hgl hs1 hb6 hO6 nx6)
              have HF7 : Hid (Fine 30 ps6 nx6) := by have h := fine_take id (1 + (y : Int)) z (now + (x : Int)) HF.out; rw [HE6.out] at h; exact h
              clear hO6 hb6 k0 k1 j0 j1 HE6 HD5 HD8 hc5 hg5 h50 h51 hc8 hg8 h80 h81
              go_wp2
              go_roundg (gk - 1)
              case measure => omega
              case rel => exact ⟨i + 1, now + (x : Int), by omega, by omega, by omega, by go_num, rfl, ⟨_, _, _, _, _, HD7.out, HF7.out⟩⟩
        · go_wp2_with fail
          refine (specMarkGoing_any A' m c' nx _ _ ps _ _ (by exact HD4.out.own.podsAll) (Nat.le_refl _) (by omega)).mono ?_
          intro e w6 hm6
          obtain ⟨A6, m6, c6, ps6, nx6, hd6, rfl, hO6, hb6⟩ := made1_own hm6
          have HD7 := Lib.hid (HD4.out.put hgl hs1 hb6 hO6 nx6)
          have HF7 : Hid (Fine 30 ps6 nx6) := by have h := fine_go id (now + (x : Int)) HF.out; rw [hd6] at h; exact h
          have k0 := box_cell (box_below HD4.out.box hb6) 0 _ rfl
          have k1 := box_cell (box_below HD4.out.box hb6) 1 _ rfl
          have j0 := box_frozen (box_below HD4.out.box hb6) 0
          have j1 := box_frozen (box_below HD4.out.box hb6) 1
          clear hO6 hb6 hd6 hm6
          go_wp2
          go_roundg (gk - 1)
          case measure => omega
          case rel => exact ⟨i + 1, now + (x : Int), by omega, by omega, by omega, by go_num, rfl, ⟨_, _, _, _, _, HD7.out, HF7.out⟩⟩
    · go_upto_region 20 with fail
      go_cut [84] (fun v wx => ∃ (bb : Bool) (A' : Option Addr) (m c' : Nat) (ps : PList) (nx : Int), v = .bool bb ∧ (bb = true → 0 < m) ∧ Hid (Dr w wx fb B g A n cap zs A' m c' ps nx) ∧ Hid (Fine 30 ps nx))
      case first =>
        go_wp2_with fail
        refine (once_any 12 (by omega) _ B g A n cap zs HDa.out.cur).mono ?_
        rintro e w2 ⟨bb, rfl, hc2, hg2⟩
        have HD2 := Lib.hid (HDa.out.step hgl hs1 hg2 hc2)
        have b0 := box_cell HD2.out.box 0 _ rfl
        clear hc2 hg2
        cases bb
        · go_wp2_with fail
          go_meet
          case rel => exact ⟨false, _, _, _, _, _, rfl, (fun h => by cases h), HD2, HF⟩
        · by_cases hm0 : 0 < m
          · have hdm : decide ((0 : Int) < (m : Int)) = true := by simp; omega
            go_wp2_with fail
            go_meet
            case rel => exact ⟨true, _, _, _, _, _, rfl, (fun _ => hm0), HD2, HF⟩
          · have hdm : decide ((0 : Int) < (m : Int)) = false := by simp; omega
            go_wp2_with fail
            go_meet
            case rel => exact ⟨false, _, _, _, _, _, rfl, (fun h => by cases h), HD2, HF⟩
      case rest =>
        clear HDa HF hm30 hlt hik hn0 hn1
        obtain ⟨bb, A', m, c', ps, nx, rfl, hbm, HD2, HF2⟩ := hcut
        have hm30 : m ≤ 30 := by have := HF2.out.1; rw [HD2.out.own.1] at this; exact this
        go_upto_if 84 with fail
        go_cut [] (fun wx => Hid (DR 40 w wx fb B g A n cap zs))
        case first =>
          cases bb
          · go_wp2_with fail
            go_meet
            case rel => exact ⟨_, _, _, _, _, HD2.out, fine_more HF2.out (by omega)⟩
          · have hm0 : 0 < m := hbm rfl
            clear hbm
            obtain ⟨q, hA2, hq0, hq1⟩ := HD2.out.own.at0 hm0
            subst hA2
            have b0 := box_cell HD2.out.box 0 _ rfl
            go_wp2_with fail
            refine (below_any (m : Int) (by omega) _ B g A n cap zs HD2.out.cur).mono ?_
            rintro e w3 ⟨y, hy, _, rfl, hc3, hg3⟩
            have hyn : y < m := by have := hy (by omega); omega
            have hyl : y < ps.length := by rw [HD2.out.own.1]; exact hyn
            have HD3 := Lib.hid (HD2.out.step hgl hs1 hg3 hc3)
            clear hy hc3 hg3 b0 hq0 hq1 HD2
            go_wp2_with fail
            refine (below_any 5 (by omega) _ B g A n cap zs HD3.out.cur).mono ?_
            rintro e w4 ⟨v, hv, _, rfl, hc4, hg4⟩
            have hv5 : v = 0 ∨ v = 1 ∨ v = 2 ∨ v = 3 ∨ v = 4 := by have := hv (by omega); omega
            have HD4 := Lib.hid (HD3.out.step hgl hs1 hg4 hc4)
            have hfl4 : fb < w4.heap.size := HD4.out.sz
            have hgl4 : g < w4.heap.size := HD4.out.cur.lt
            have hql4 : q < w4.heap.size := (HD4.out.own.lt q (by simp [Value.ownBlock])).2
            have hqf : q ≠ fb := own_ne HD4.out.own HD4.out.box (by decide) q (by simp [Value.ownBlock])
            have b0 := box_cell HD4.out.box 0 _ rfl
            have hy0 : (0 : Int) ≤ (y : Int) := by omega
            have hy1 : (y : Int) < (m : Int) := by omega
            clear hv hc4 hg4 HD3
            rcases hv5 with rfl | rfl | rfl | rfl | rfl
            · have hid := ids_cell HD4.out.own y hyn
              obtain ⟨id, hide⟩ : ∃ id, id = (ps.getD y z5).1 := ⟨_, rfl⟩
              rw [← hide] at hid
              have HID : Hid (IdOk id) := by rw [hide]; exact fine_at HF2.out hyl
              clear hide
              go_wp2_with fail
              refine (pick_any [0, id, 1000000000, 1000000001] w4.heap.size 4 4 rfl (by omega) (by omega) _ B g A n cap zs (HD4.out.cur.alloc _) (by omega) (fun j hj => lit_cells w4 _ [0, id, 1000000000, 1000000001] j hj)).mono ?_
              rintro e w5 ⟨z, hz, rfl, hc5, hg5⟩
              have HZ : Hid (IdOk z) := by
                have h5 := HID.out
                simp only [List.mem_cons, List.not_mem_nil, or_false] at hz
                rcases hz with rfl | rfl | rfl | rfl
                · exact ⟨by omega, by omega⟩
                · exact h5
                · exact ⟨by omega, by omega⟩
                · exact ⟨by omega, by omega⟩
              have HD5 := Lib.hid ((HD4.out.alloc (.cells (([0, id, 1000000000, 1000000001] : List Int).map (Value.int .i64)).toArray 3)).step hgl hs1 hg5 hc5)
              have HD6 := Lib.hid (HD5.out.next hgl hs1 z)
              obtain ⟨_, e1, _, g1⟩ := box2 HD5.out.box
              clear hz hc5 hg5 b0 hid
              go_wp2_with fail
              go_meet
              case rel => exact ⟨_, _, _, _, _, HD6.out, fine_next (fine_more HF2.out (by omega)) HZ.out⟩
            · go_wp2_with fail
              obtain ⟨⟨u0, hu0⟩, ⟨u1, hu1⟩, ⟨u2, hu2⟩, ⟨u3, hu3⟩, ⟨u4, hu4⟩, hfz, _⟩ := own_cells5 HD4.out.own hyn
              clear hu0 hu1 hu2 hu3 hu4 hfz
              go_region_held3 (fun w' => w'.cell? ⟨fb, 0, none⟩ = some (.slice (some ⟨q, 0, none⟩) m c'))
                (first | (go_keep; done) | exact box_cell HD6.out.box 0 _ rfl | exact box_cell HD5.out.box 0 _ rfl)
                (first | (go_at_call 64; refine (pick_any [0, 1000, 1001] w4.heap.size 3 3 rfl (by omega) (by omega) _ B g A n cap zs (by exact cur_drew (HD4.out.cur.alloc _)) (by omega) (by exact fun j hj => lit_cells w4 _ [0, 1000, 1001] j hj)).mono ?_; rintro e w5 ⟨z, hz, rfl, hc5, hg5⟩; have HD5 := Lib.hid ((HD4.out.alloc (.cells (([0, 1000, 1001] : List Int).map (Value.int .i64)).toArray 3)).step hgl hs1 (undrew_g hg5) hc5); have HD6 := Lib.hid (HD5.out.field hgl hs1 hyn (i := 1) (by omega) (by omega) z); obtain ⟨⟨u0, hu0⟩, ⟨u1, hu1⟩, ⟨u2, hu2⟩, ⟨u3, hu3⟩, ⟨u4, hu4⟩, hfz, _⟩ := own_cells5 HD5.out.own hyn; have hf0 := hfz (y * 5 + 1)))
              all_goals
                have HF6 := Lib.hid (fine_set (j := y) (fine_more HF2.out (by omega : 30 ≤ 40)) (by rw [setF_id]; exact fine_at HF2.out hyl : IdOk (setF (ps.getD y z5) 1 z).1))
                clear hz hc5 hg5 hu0 hu1 hu2 hu3 hu4 hfz hf0
                go_wp2_with fail
                go_meet
                case rel => exact ⟨_, _, _, _, _, HD6.out, HF6.out⟩
            · go_wp2_with fail
              obtain ⟨⟨u0, hu0⟩, ⟨u1, hu1⟩, ⟨u2, hu2⟩, ⟨u3, hu3⟩, ⟨u4, hu4⟩, hfz, _⟩ := own_cells5 HD4.out.own hyn
              clear hu0 hu1 hu2 hu3 hu4 hfz
              go_region_held3 (fun w' => w'.cell? ⟨fb, 0, none⟩ = some (.slice (some ⟨q, 0, none⟩) m c'))
                (first | (go_keep; done) | exact box_cell HD6.out.box 0 _ rfl | exact box_cell HD5.out.box 0 _ rfl)
                (first | (go_at_call 64; refine (pick_any [-1, 5] w4.heap.size 2 2 rfl (by omega) (by omega) _ B g A n cap zs (by exact cur_drew (HD4.out.cur.alloc _)) (by omega) (by exact fun j hj => lit_cells w4 _ [-1, 5] j hj)).mono ?_; rintro e w5 ⟨z, hz, rfl, hc5, hg5⟩; have HD5 := Lib.hid ((HD4.out.alloc (.cells (([-1, 5] : List Int).map (Value.int .i64)).toArray 3)).step hgl hs1 (undrew_g hg5) hc5); have HD6 := Lib.hid (HD5.out.field hgl hs1 hyn (i := 2) (by omega) (by omega) z); obtain ⟨⟨u0, hu0⟩, ⟨u1, hu1⟩, ⟨u2, hu2⟩, ⟨u3, hu3⟩, ⟨u4, hu4⟩, hfz, _⟩ := own_cells5 HD5.out.own hyn; have hf0 := hfz (y * 5 + 2)))
              all_goals
                have HF6 := Lib.hid (fine_set (j := y) (fine_more HF2.out (by omega : 30 ≤ 40)) (by rw [setF_id]; exact fine_at HF2.out hyl : IdOk (setF (ps.getD y z5) 2 z).1))
                clear hz hc5 hg5 hu0 hu1 hu2 hu3 hu4 hfz hf0
                go_wp2_with fail
                go_meet
                case rel => exact ⟨_, _, _, _, _, HD6.out, HF6.out⟩
            · obtain ⟨b9, off9, x0, x1, x2, x3, x4, hbb, _, hvv, hk0, hk1, hk2, hk3, hk4⟩ := HD4.out.own.podsAll.at_ hm0
              injection hbb with hbb
              injection hbb with eb1 eb2
              subst eb1 eb2
              simp only [Nat.zero_mul, Nat.add_zero, Nat.zero_add] at hk0 hk1 hk2 hk3 hk4
              have HX : Hid (IdOk x0) := by
                have h5 := fine_at HF2.out (j := 0) (by omega)
                rw [hvv] at h5
                exact h5
              have hgr1 : m ≤ 30 := hm30
              clear hvv
              go_wp2_with fail
              go_region_law (refine step_append_lies _ (by rfl) (.tmp 127) (.tmp 132) 42 (by rfl) (w.heap.size + 1) 52 i0 _ 5 40 Try.underlying42 hi0 hz0 hz1 hz2 rfl (by omega) (.slice (some ⟨q, 0, none⟩) m c') m (flat ps) rfl (by exact HD4.out.own.2.alloc _) ⟨w4.heap.size, 0, none⟩ 1 1 [.int .i64 x0, .int .i64 x1, .int .i64 x2, .int .i64 x3, .int .i64 x4] rfl rfl (by exact FleetSpec.news_new w4 [.int .i64 x0, .int .i64 x1, .int .i64 x2, .int .i64 x3, .int .i64 x4] 52) (by intro u hu; simp at hu; rcases hu with rfl | rfl | rfl | rfl | rfl <;> rfl) (by omega) (by unfold maxLen; omega) (by omega) (by simp; omega) (w4.heap.size + 1) (by simp) ?_; intro g6 cap6 w5 hown hgr hat hlt5; have hpu := (HD4.out.alloc (.cells #[.int .i64 x0, .int .i64 x1, .int .i64 x2, .int .i64 x3, .int .i64 x4] 52)).push hgl hs1 (p := (x0, x1, x2, x3, x4)) hown (show (w4.alloc (.cells #[.int .i64 x0, .int .i64 x1, .int .i64 x2, .int .i64 x3, .int .i64 x4] 52)).grownBy w5 (Value.slice (some ⟨q, 0, none⟩) m c').ownBlock from ⟨hgr.os, hgr.tape, hgr.output, hgr.size, hgr.block⟩) (by simpa using hat); have q0 := box_cell hpu.1 0 _ rfl; have q1 := box_frozen hpu.1 0)
              all_goals
                have HD6 := Lib.hid hpu.2
                have HF6 : Hid (Fine 40 (ps ++ [(x0, x1, x2, x3, x4)]) nx) := fine_more (fine_push HF2.out HX.out) (by omega)
                clear hown hgr hat hlt5 hpu
                go_wp2_with fail
                go_meet
                case rel => exact ⟨_, _, _, _, _, HD6.out, HF6.out⟩
            · go_wp2_with fail
              obtain ⟨⟨u0, hu0⟩, ⟨u1, hu1⟩, ⟨u2, hu2⟩, ⟨u3, hu3⟩, ⟨u4, hu4⟩, hfz, _⟩ := own_cells5 HD4.out.own hyn
              clear hu0 hu1 hu2 hu3 hu4 hfz
              go_region_held3 (fun w' => w'.cell? ⟨fb, 0, none⟩ = some (.slice (some ⟨q, 0, none⟩) m c'))
                (first | (go_keep; done) | exact box_cell HD6.out.box 0 _ rfl | exact box_cell HD5.out.box 0 _ rfl)
                (first | (go_at_call 64; refine (pick_any [-1, 1000000000, 1000000001] w4.heap.size 3 3 rfl (by omega) (by omega) _ B g A n cap zs (by exact cur_drew (HD4.out.cur.alloc _)) (by omega) (by exact fun j hj => lit_cells w4 _ [-1, 1000000000, 1000000001] j hj)).mono ?_; rintro e w5 ⟨z, hz, rfl, hc5, hg5⟩; have HD5 := Lib.hid ((HD4.out.alloc (.cells (([-1, 1000000000, 1000000001] : List Int).map (Value.int .i64)).toArray 3)).step hgl hs1 (undrew_g hg5) hc5); have HD6 := Lib.hid (HD5.out.field hgl hs1 hyn (i := 3) (by omega) (by omega) z); obtain ⟨⟨u0, hu0⟩, ⟨u1, hu1⟩, ⟨u2, hu2⟩, ⟨u3, hu3⟩, ⟨u4, hu4⟩, hfz, _⟩ := own_cells5 HD5.out.own hyn; have hf0 := hfz (y * 5 + 3)))
              all_goals
                have HF6 := Lib.hid (fine_set (j := y) (fine_more HF2.out (by omega : 30 ≤ 40)) (by rw [setF_id]; exact fine_at HF2.out hyl : IdOk (setF (ps.getD y z5) 3 z).1))
                clear hz hc5 hg5 hu0 hu1 hu2 hu3 hu4 hfz hf0
                go_wp2_with fail
                go_meet
                case rel => exact ⟨_, _, _, _, _, HD6.out, HF6.out⟩
        case rest =>
          clear HD2 HF2 hbm hm30
          obtain ⟨A', m, c', ps, nx, hD, hF⟩ := hcut.out
          have hm40 : m ≤ 40 := by have := hF.1; rw [hD.own.1] at this; exact this
          have HDa := Lib.hid hD
          have HF := Lib.hid hF
          clear hD hF hcut
          go_wp2_with fail
          refine (once_any 25 (by omega) _ B g A n cap zs HDa.out.cur).mono ?_
          rintro e w2 ⟨bb, rfl, hc2, hg2⟩
          have HD2 := Lib.hid (HDa.out.step hgl hs1 hg2 hc2)
          clear hc2 hg2 HDa
          cases bb
          · obtain ⟨d0, d1, _, _⟩ := box2 HD2.out.box
            obtain ⟨t0, t1, v0, v1⟩ := box2 HD2.out.r4
            have hlz : w.heap.size < w2.heap.size := box_lt HD2.out.r4
            go_wp2
            refine bodyPost_ret (v := .agg #[.slice A' m c', .int .i64 nx]) (by simp [results, Try.results104, go_sem, t0, t1]) rfl ?_
            exact HD2.out.end_ hgl HF.out
          · go_wp2_with fail
            go_loopg [] (41 - m) (fun k wr => ∃ (A' : Option Addr) (m c' : Nat) (ps : PList) (nx : Int), m + k = 41 ∧ Hid (Dr w wr fb B g A n cap zs A' m c' ps nx) ∧ Hid (Fine 40 ps nx))
            case atStart => exact ⟨A', m, c', ps, nx, by omega, HD2, HF⟩
            case round =>
              clear HD2 HF
              obtain ⟨A', m, c', ps, nx, hmk, HDr, HFr⟩ := hrel
              have b0 := box_cell HDr.out.box 0 _ rfl
              have hlr : fb < wr.heap.size := HDr.out.sz
              go_wp2_with fail
              go_region_held3 (fun w' => w'.cell? ⟨fb, 0, none⟩ = some (.slice A' m c'))
                (first | (go_keep; done) | exact box_cell HD3.out.box 0 _ rfl)
                (first | (go_at_call 62; refine (below_any 2 (by omega) _ B g A n cap zs (by exact cur_drew HDr.out.cur)).mono ?_; rintro e w3 ⟨y, hy, _, rfl, hc3, hg3⟩; have HD3 := Lib.hid (HDr.out.step hgl hs1 (undrew_g hg3) hc3); have hy2 : (y : Int) < 2 := hy (by omega); have hw29 : IntKind.i64.wrap (29 + (y : Int)) = 29 + (y : Int) := (by rw [IntKind.wrap_i64]; omega)))
              all_goals
                clear hy hc3 hg3 b0
                by_cases hlt : (m : Int) < 29 + (y : Int)
                · obtain ⟨b0, b1, f0, f1⟩ := box2 HD3.out.box
                  have hfl3 : fb < w3.heap.size := HD3.out.sz
                  go_wp2_with fail
                  refine (specAddPod_any A' m c' nx 2 0 ps _ _ HD3.out.own.podsAll (Nat.le_refl _) (by omega)).mono ?_
                  intro e w6 hm6
                  by_cases hA : AddOk ps nx 2 0
                  · rw [(add_yes hA).1, (add_yes hA).2] at hm6
                    have hnx : 1 ≤ nx := hA.1.2.1.1
                    have hnz : (nx == 0) = false := by simp; omega
                    obtain ⟨A6, m6, c6, ps6, nx6, hd6, rfl, hO6, hb6⟩ := made1_own hm6
                    have HF6 : Hid (Fine 40 ps6 nx6) := by have h := fine_add 2 0 HFr.out (by omega); rw [(add_yes hA).1, hd6] at h; exact h
                    have hm6 : m6 = m + 1 := by
                      injection hd6 with e1 e2
                      have h5 := hO6.1
                      rw [← e1, List.length_append, HD3.out.own.1] at h5
                      exact h5.symm
                    subst hm6
                    have HD7 := Lib.hid ((HD3.out.put hgl hs1 hb6 hO6 nx6).alloc (.cells #[.slice A6 (m + 1) c6, .int .i64 nx6] 44))
                    have k0 := box_cell (box_below HD3.out.box hb6) 0 _ rfl
                    have k1 := box_cell (box_below HD3.out.box hb6) 1 _ rfl
                    have j0 := box_frozen (box_below HD3.out.box hb6) 0
                    have j1 := box_frozen (box_below HD3.out.box hb6) 1
                    have hfl6 : fb < w6.heap.size := box_lt (box_below HD3.out.box hb6)
                    clear hO6 hb6 hd6 hA b0 b1 f0 f1 HD3
                    go_wp2
                    go_roundg (gk - 1)
                    case measure => omega
                    case rel => exact ⟨_, _, _, _, _, by omega, HD7, HF6⟩
                  · rw [(add_no hA).1, (add_no hA).2] at hm6
                    obtain ⟨A6, m6, c6, ps6, nx6, hd6, rfl, hO6, hb6⟩ := made1_own hm6
                    have HD7 := Lib.hid ((HD3.out.below hb6).alloc (.cells #[.slice A6 m6 c6, .int .i64 nx6] 44))
                    have HD6 := Lib.hid (HD3.out.below hb6)
                    have hfl6 : fb < w6.heap.size := HD6.out.sz
                    clear hO6 hb6 hd6 hA b0 b1 f0 f1 HD3 hm6
                    obtain ⟨d0, d1, _, _⟩ := box2 HD6.out.box
                    obtain ⟨t0, t1, v0, v1⟩ := box2 HD6.out.r4
                    have hlz : w.heap.size < w6.heap.size := box_lt HD6.out.r4
                    go_wp2
                    refine bodyPost_ret (v := .agg #[.slice A' m c', .int .i64 nx]) (by simp [results, Try.results104, go_sem, t0, t1, hlz]) rfl ?_
                    exact said_alloc (HD6.out.end_ hgl HFr.out) _
                · obtain ⟨d0, d1, _, _⟩ := box2 HD3.out.box
                  obtain ⟨t0, t1, v0, v1⟩ := box2 HD3.out.r4
                  have hlz : w.heap.size < w3.heap.size := box_lt HD3.out.r4
                  go_wp2
                  refine bodyPost_ret (v := .agg #[.slice A' m c', .int .i64 nx]) (by simp [results, Try.results104, go_sem, t0, t1]) rfl ?_
                  exact HD3.out.end_ hgl HFr.out
end Go.Proofs.Ytpghccbknlokcaa.DrawF
