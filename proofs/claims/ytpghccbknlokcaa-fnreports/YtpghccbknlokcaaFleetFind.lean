/-
  FindPod and NewFleet, the model's and the program's, over this seat's translation.
-/
import Derived.Test.YtpghccbknlokcaaFleetGo
namespace Go.Proofs.Ytpghccbknlokcaa.Crew
open Go.ChangeShapes Go.WideShapes Go.ChangeAt Go.RowKit Go.Maps Go.Sort Go.Shelf
open Go.Proofs.Ytpghccbknlokcaa.LK Go.Proofs.Ytpghccbknlokcaa.Pods Go.Proofs.Ytpghccbknlokcaa.FleetV Go.Proofs.Ytpghccbknlokcaa.Has Go.Proofs.Ytpghccbknlokcaa.Ints
open Go.Proofs.Ytpghccbknlokcaa.FleetSpec (atP at_cases at_any copy_any specFleetOk_any)
set_option linter.unusedVariables false

def findO (d : PList × Int) (id : Int) : Option Pd := if FGood d.1 d.2 then fndP d.1 id else none
def findP (d : PList × Int) (id : Int) : Pd := (findO d id).getD z5
def findB (d : PList × Int) (id : Int) : Bool := (findO d id).isSome
theorem find_no {d : PList × Int} {id : Int} (h : findO d id = none) : findP d id = z5 ∧ findB d id = false := by simp [findP, findB, h]
theorem find_yes {d : PList × Int} {id : Int} {p : Pd} (h : findO d id = some p) : findP d id = p ∧ findB d id = true := by simp [findP, findB, h]
def podT (p : Pd) (b : Bool) : Value := .tuple #[.agg #[.int .i64 p.1, .int .i64 p.2.1, .int .i64 p.2.2.1, .int .i64 p.2.2.2.1, .int .i64 p.2.2.2.2], .bool b]

set_option maxRecDepth 100000 in
set_option maxHeartbeats 3200000 in
theorem findPod_any (A : Option Addr) (n c : Nat) (nx id : Int) (ps : PList) (B : Nat) (w : World) (hr : IsPods w B A n ps) (hB : B ≤ w.heap.size) (hn : n ≤ 1048576) (hid : (Lit.int .i64 id).wf = true) :
    Calls Try.prog 23 #[.agg #[.slice A n c, .int .i64 nx], .int .i64 id] w (Says (podT (findP (ps, nx) id) (findB (ps, nx) id)) w) := by
  have HR := Lib.hid hr
  clear hr
  have k1 : ((w.alloc (.cells #[.slice A n c, .int .i64 nx] 44)).alloc (.cells #[.int .i64 0, .int .i64 0, .int .i64 0, .int .i64 0, .int .i64 0] 52)).heap[w.heap.size + 1]? = some (.cells #[.int .i64 0, .int .i64 0, .int .i64 0, .int .i64 0, .int .i64 0] 52) := by
    have h := box_new (w.alloc (.cells #[.slice A n c, .int .i64 nx] 44)) (.cells #[.int .i64 0, .int .i64 0, .int .i64 0, .int .i64 0, .int .i64 0] 52)
    simp only [World.size_alloc] at h
    exact h
  have K1 := Lib.hid k1
  clear k1
  go_enter Try.func23, Try.ntmps23
  go_wp2_with fail
  refine (crewOf_any A n c nx ps B _ (HR.out.below (bel2 _ _ _) hB) (by simp; omega) hn).mono ?_
  rintro e w2 ⟨r, o, rfl, hb, hg, hC⟩
  have hbw : Below w.heap.size w w2 := bel_then (bel2 w _ _) hb (by simp; omega)
  have E1 := box_below K1.out hb
  have HG := Lib.hid hg
  have HBW := Lib.hid hbw
  have hs2 : w.heap.size + 1 < w2.heap.size := box_lt E1
  have f0 := box_cell E1 0 _ rfl
  have f1 := box_cell E1 1 _ rfl
  have f2 := box_cell E1 2 _ rfl
  have f3 := box_cell E1 3 _ rfl
  have f4 := box_cell E1 4 _ rfl
  have g0 := box_frozen E1 0
  have g1 := box_frozen E1 1
  have g2 := box_frozen E1 2
  have g3 := box_frozen E1 3
  have g4 := box_frozen E1 4
  clear hb hg E1 K1 hbw
  cases r
  · have HN := Lib.hid (find_no (d := (ps, nx)) (id := id) (if_neg (fun h => by have := HG.out.2 h; cases this)))
    clear hC
    go_wp2
    refine bodyPost_ret (v := .tuple #[.agg #[.int .i64 0, .int .i64 0, .int .i64 0, .int .i64 0, .int .i64 0], .bool false]) (by simp [results, Try.results23, go_sem, f0, f1, f2, f3, f4]) rfl ?_
    rw [HN.out.1, HN.out.2]
    exact ⟨rfl, set5_below HBW.out (w.heap.size + 1) 0 z5 (by omega)⟩
  · obtain ⟨cb, mb, rfl, hcb, hmb, hC⟩ := hC rfl
    have hgd := HG.out.1 rfl
    have c0 : w2.cell? ⟨cb, 0, none⟩ = some (.map (some mb)) := box_cell hC.box 0 _ rfl
    obtain ⟨v, qs, hrun, hv⟩ := hC.own.look_ok (t := 121) (e := 52) law Try.underlying121 (zeroP _) (zd := .held _) (zp := []) rfl (keyOf_int_mk Try.underlying3 hid)
    rw [map_at] at hv
    rw [map_has] at hrun
    have hvv : rdP v = some (.held v, []) := rfl
    rw [hvv] at hv
    simp only [Option.some.injEq, Prod.mk.injEq] at hv
    replace hv := hv.1
    have hfo : findO (ps, nx) id = fndP ps id := if_pos hgd
    cases hf : fndP ps id with
    | none =>
      rw [hf] at hv hrun hfo
      injection hv with hv
      subst hv
      have HN := Lib.hid (find_no hfo)
      simp only [Option.isSome] at hrun
      clear hvv hC hfo hf hgd
      go_wp2
      refine bodyPost_ret (v := .tuple #[.agg #[.int .i64 0, .int .i64 0, .int .i64 0, .int .i64 0, .int .i64 0], .bool false]) (by simp [results, Try.results23, go_sem, f0, f1, f2, f3, f4, hs2]) rfl ?_
      rw [HN.out.1, HN.out.2]
      exact ⟨rfl, (set5_below HBW.out (w.heap.size + 1) 0 z5 (by omega)).alloc (by rw [set5_size]; exact HBW.out.size) _⟩
    | some p =>
      rw [hf] at hv hrun hfo
      injection hv with hv
      obtain ⟨y0, y1, y2, y3, y4⟩ := p
      have hv2 : v = .agg #[.int .i64 y0, .int .i64 y1, .int .i64 y2, .int .i64 y3, .int .i64 y4] := hv
      subst hv2
      have HY := Lib.hid (find_yes hfo)
      simp only [Option.isSome] at hrun
      clear hvv hC hfo hf hgd hv
      go_wp2
      refine bodyPost_ret (v := .tuple #[.agg #[.int .i64 y0, .int .i64 y1, .int .i64 y2, .int .i64 y3, .int .i64 y4], .bool true]) (by simp [results, Try.results23, go_sem, f0, f1, f2, f3, f4, hs2]) rfl ?_
      rw [HY.out.1, HY.out.2]
      exact ⟨rfl, (set5_below HBW.out (w.heap.size + 1) 0 (y0, y1, y2, y3, y4) (by omega)).alloc (by rw [set5_size]; exact HBW.out.size) _⟩
theorem specNewFleet_any (w : World) : Calls Try.prog 128 #[] w (Made FleetTy.fty ([], 1) w) := by
  go_enter Try.func128, Try.ntmps128
  go_wp2
  refine bodyPost_ret (v := .agg #[.slice none 0 0, .int .i64 1]) (by simp [results, Try.results128, go_sem]) rfl ?_
  exact FleetTy.made_of (lo := w.heap.size) (Below.refl _ _) (OwnP.nil w w.heap.size) (Nat.le_refl _) (S := fun _ => False) (fun _ h => h.elim) (Turned.of_below (bel1 _ _))
end Go.Proofs.Ytpghccbknlokcaa.Crew
