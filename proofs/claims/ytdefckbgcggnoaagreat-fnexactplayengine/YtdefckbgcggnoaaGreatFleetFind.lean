/-
  FindPod and NewFleet, the model's and the program's, over this seat's translation.
-/
import Derived.Test.YtdefckbgcggnoaaGreatFleetGo
namespace Go.Proofs.YtdefckbgcggnoaaGreat.Crew
open Go.ChangeShapes Go.WideShapes Go.ChangeAt Go.RowKit Go.Maps Go.Sort Go.Shelf
open Go.Proofs.YtdefckbgcggnoaaGreat.LK Go.Proofs.YtdefckbgcggnoaaGreat.Pods Go.Proofs.YtdefckbgcggnoaaGreat.FleetV Go.Proofs.YtdefckbgcggnoaaGreat.Has Go.Proofs.YtdefckbgcggnoaaGreat.Ints
open Go.Proofs.YtdefckbgcggnoaaGreat.FleetSpec (atP at_cases at_any copy_any specFleetOk_any)
set_option linter.unusedVariables false

def findO (d : PList × Int) (id : Int) : Option Pd := if FGood d.1 d.2 then fndP d.1 id else none
def findP (d : PList × Int) (id : Int) : Pd := (findO d id).getD z5
def findB (d : PList × Int) (id : Int) : Bool := (findO d id).isSome
theorem find_no {d : PList × Int} {id : Int} (h : findO d id = none) : findP d id = z5 ∧ findB d id = false := by simp [findP, findB, h]
theorem find_yes {d : PList × Int} {id : Int} {p : Pd} (h : findO d id = some p) : findP d id = p ∧ findB d id = true := by simp [findP, findB, h]
def podT (p : Pd) (b : Bool) : Value := .tuple #[.agg #[.int .i64 p.1, .int .i64 p.2.1, .int .i64 p.2.2.1, .int .i64 p.2.2.2.1, .int .i64 p.2.2.2.2], .bool b]

theorem newFleet_any (w : World) : Calls Tryz.prog 104 #[] w (Made FleetTy.fty ([], 1) w) := by
  go_enter Tryz.func104, Tryz.ntmps104
  go_wp2
  refine bodyPost_ret (v := .agg #[.slice none 0 0, .int .i64 1]) (by simp [results, Tryz.results104, go_sem]) rfl ?_
  exact FleetTy.made_of (lo := w.heap.size) (Below.refl _ _) (OwnP.nil w w.heap.size) (Nat.le_refl _) (S := fun _ => False) (fun _ h => h.elim) (Turned.of_below (bel1 _ _))
theorem specNewFleet_any (w : World) : Calls Tryz.prog 87 #[] w (Made FleetTy.fty ([], 1) w) := by
  go_enter Tryz.func87, Tryz.ntmps87
  go_wp2
  refine bodyPost_ret (v := .agg #[.slice none 0 0, .int .i64 1]) (by simp [results, Tryz.results87, go_sem]) rfl ?_
  exact FleetTy.made_of (lo := w.heap.size) (Below.refl _ _) (OwnP.nil w w.heap.size) (Nat.le_refl _) (S := fun _ => False) (fun _ h => h.elim) (Turned.of_below (bel1 _ _))
set_option maxRecDepth 100000 in
set_option maxHeartbeats 3200000 in
theorem specFindPod_any (A : Option Addr) (n c : Nat) (nx id : Int) (ps : PList) (B : Nat) (w : World) (hr : IsPods w B A n ps) (hB : B ≤ w.heap.size) (hn : n ≤ 1048576) :
    Calls Tryz.prog 145 #[.agg #[.slice A n c, .int .i64 nx], .int .i64 id] w (Says (podT (findP (ps, nx) id) (findB (ps, nx) id)) w) := by
  have HL : Hid (ps.length = n) := hr.1
  have HR := Lib.hid hr
  clear hr
  have k0 : ((w.alloc (.cells #[.slice A n c, .int .i64 nx] 34)).alloc (.cells #[.int .i64 0, .int .i64 0, .int .i64 0, .int .i64 0, .int .i64 0] 77)).heap[w.heap.size]? = some (.cells #[.slice A n c, .int .i64 nx] 34) := box_alloc (box_new _ _) _
  have k1 : ((w.alloc (.cells #[.slice A n c, .int .i64 nx] 34)).alloc (.cells #[.int .i64 0, .int .i64 0, .int .i64 0, .int .i64 0, .int .i64 0] 77)).heap[w.heap.size + 1]? = some (.cells #[.int .i64 0, .int .i64 0, .int .i64 0, .int .i64 0, .int .i64 0] 77) := by
    have h := box_new (w.alloc (.cells #[.slice A n c, .int .i64 nx] 34)) (.cells #[.int .i64 0, .int .i64 0, .int .i64 0, .int .i64 0, .int .i64 0] 77)
    simp only [World.size_alloc] at h
    exact h
  have K0 := Lib.hid k0
  have K1 := Lib.hid k1
  clear k0 k1
  go_enter Tryz.func145, Tryz.ntmps145
  go_wp2_with fail
  refine (at_any A n c nx id ps B _ (HR.out.below (bel2 _ _ _) hB) (by simp; omega) hn).mono ?_
  rintro e w3 ⟨rfl, hb3⟩
  have E0 := Lib.hid (box_below K0.out hb3)
  have E1 := Lib.hid (box_below K1.out hb3)
  have HB3 := Lib.hid (bel_then (bel2 w _ _) hb3 (by simp; omega))
  have e00 := box_cell E0.out 0 _ rfl
  have e01 := box_cell E0.out 1 _ rfl
  obtain ⟨at0, hat⟩ : ∃ at0, at0 = atP ps id := ⟨_, rfl⟩
  rw [← hat]
  have HAT := Lib.hid hat
  clear hat hb3 K0 K1
  go_wp2_with fail
  refine (specFleetOk_any A n c nx ps B _ (HR.out.below HB3.out hB) (by have := HB3.out.size; omega) hn).mono ?_
  rintro e w4 ⟨rfl, hb4⟩
  have F0 := box_below E0.out hb4
  have F1 := box_below E1.out hb4
  have HBW := Lib.hid (bel_then HB3.out hb4 HB3.out.size)
  have hs4 : w.heap.size + 1 < w4.heap.size := box_lt F1
  have e00 := box_cell F0 0 _ rfl
  have f0 := box_cell F1 0 _ rfl
  have f1 := box_cell F1 1 _ rfl
  have f2 := box_cell F1 2 _ rfl
  have f3 := box_cell F1 3 _ rfl
  have f4 := box_cell F1 4 _ rfl
  have g0 := box_frozen F1 0
  have g1 := box_frozen F1 1
  have g2 := box_frozen F1 2
  have g3 := box_frozen F1 3
  have g4 := box_frozen F1 4
  clear hb4 E0 E1 F0 F1
  by_cases hg : FGood ps nx
  · rw [decide_eq_true hg]
    have hfo : findO (ps, nx) id = fndP ps id := if_pos hg
    rcases at_cases ps id with ⟨hat, hfn⟩ | ⟨j, hj, hat, hfn, hjid⟩
    · have HN := Lib.hid (find_no (hfo.trans hfn))
      have ha : at0 = -1 := HAT.out.trans hat
      subst ha
      clear hg hat hfn hfo
      go_wp2
      refine bodyPost_ret (v := .tuple #[.agg #[.int .i64 0, .int .i64 0, .int .i64 0, .int .i64 0, .int .i64 0], .bool false]) (by simp [results, Tryz.results145, go_sem, f0, f1, f2, f3, f4]) rfl ?_
      rw [HN.out.1, HN.out.2]
      exact ⟨rfl, set5_below HBW.out (w.heap.size + 1) 0 z5 (by omega)⟩
    · have ha : at0 = (j : Int) := HAT.out.trans hat
      subst ha
      have hjn : j < n := by rw [← HL.out]; exact hj
      obtain ⟨b, off, x0, x1, x2, x3, x4, rfl, hbB, hz, hc0, hc1, hc2, hc3, hc4⟩ := (HR.out.below HBW.out hB).at_ hjn
      rw [hz] at hfn
      have HY := Lib.hid (find_yes (hfo.trans hfn))
      clear hg hat hfn hfo hz hjid HAT
      go_wp2
      refine bodyPost_ret (v := .tuple #[.agg #[.int .i64 x0, .int .i64 x1, .int .i64 x2, .int .i64 x3, .int .i64 x4], .bool true]) (by simp [results, Tryz.results145, go_sem, f0, f1, f2, f3, f4]) rfl ?_
      rw [HY.out.1, HY.out.2]
      exact ⟨rfl, set5_below HBW.out (w.heap.size + 1) 0 (x0, x1, x2, x3, x4) (by omega)⟩
  · rw [decide_eq_false hg]
    have HN := Lib.hid (find_no (d := (ps, nx)) (id := id) (if_neg hg))
    clear hg
    go_wp2
    refine bodyPost_ret (v := .tuple #[.agg #[.int .i64 0, .int .i64 0, .int .i64 0, .int .i64 0, .int .i64 0], .bool false]) (by simp [results, Tryz.results145, go_sem, f0, f1, f2, f3, f4]) rfl ?_
    rw [HN.out.1, HN.out.2]
    exact ⟨rfl, set5_below HBW.out (w.heap.size + 1) 0 z5 (by omega)⟩
end Go.Proofs.YtdefckbgcggnoaaGreat.Crew
