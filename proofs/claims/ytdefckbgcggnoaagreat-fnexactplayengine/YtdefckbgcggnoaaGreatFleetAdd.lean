/-
  AddPod, the model's and the program's, over this seat's translation.
-/
import Derived.Test.YtdefckbgcggnoaaGreatFleetTop
import Derived.Test.YtdefckbgcggnoaaGreatFleetSpec2
namespace Go.Proofs.YtdefckbgcggnoaaGreat.Crew
open Go.ChangeShapes Go.WideShapes Go.ChangeAt Go.RowKit Go.Maps Go.Sort Go.Shelf
open Go.Proofs.YtdefckbgcggnoaaGreat.LK Go.Proofs.YtdefckbgcggnoaaGreat.Pods Go.Proofs.YtdefckbgcggnoaaGreat.FleetV Go.Proofs.YtdefckbgcggnoaaGreat.Has Go.Proofs.YtdefckbgcggnoaaGreat.Ints
open Go.Proofs.YtdefckbgcggnoaaGreat.Tick (inB in_t in_f tokB tok_t tok_f tickOk_any)
set_option linter.unusedVariables false

theorem made_own {ps : PList} {x : Int} {W w' : World} {e : Ending} (h : Made FleetTy.fty (ps, x) W e w') : ∃ A c, e = .returned (.agg #[.slice A ps.length c, .int .i64 x]) ∧ OwnP w' W.heap.size A ps.length c ps ∧ Below W.heap.size W w' := by
  obtain ⟨v', S, rfl, ⟨⟨A, c, rfl, hO, hS⟩, hin, _⟩, hb⟩ := h
  exact ⟨A, c, rfl, hO.base (fun k hk => (hin k (hS k hk)).1), hb⟩
theorem made1_of {w w2 w3 : World} {lo : Nat} {S : Nat → Prop} {A : Option Addr} {n c : Nat} {ps : PList} {x : Int} {y : Value} (hb : Below w.heap.size w w2) (hO : OwnP w2 lo A n c ps) (hlo : w.heap.size ≤ lo) (hS : ∀ k, S k → w.heap.size ≤ k ∧ k < lo) (ht : Turned S w2 w3) :
    Made1 FleetTy.fty (ps, x) y w (.returned (.tuple #[.agg #[.slice A n c, .int .i64 x], y])) w3 := by
  obtain ⟨v', S', e, H, hb'⟩ := FleetTy.made_of (x := x) hb hO hlo hS ht
  injection e with e
  subst e
  exact ⟨_, S', rfl, H, hb'⟩

def AddOk (ps : PList) (nx rev now : Int) : Prop := FGood ps nx ∧ (1 ≤ rev ∧ rev ≤ 1000) ∧ (0 ≤ now ∧ now ≤ 1000000000) ∧ ps.length < 30 ∧ nx < 1000000000
instance (ps : PList) (nx rev now : Int) : Decidable (AddOk ps nx rev now) := by unfold AddOk; infer_instance
def addD (d : PList × Int) (rev now : Int) : PList × Int := if AddOk d.1 d.2 rev now then (d.1 ++ [(d.2, rev, 0, 0, now)], d.2 + 1) else d
def addV (d : PList × Int) (rev now : Int) : Int := if AddOk d.1 d.2 rev now then d.2 else 0
theorem add_yes {ps : PList} {nx rev now : Int} (h : AddOk ps nx rev now) : addD (ps, nx) rev now = (ps ++ [(nx, rev, 0, 0, now)], nx + 1) ∧ addV (ps, nx) rev now = nx := ⟨if_pos h, if_pos h⟩
theorem add_no {ps : PList} {nx rev now : Int} (h : ¬ AddOk ps nx rev now) : addD (ps, nx) rev now = (ps, nx) ∧ addV (ps, nx) rev now = 0 := ⟨if_neg h, if_neg h⟩
theorem few_add {d : PList × Int} (rev now : Int) (h : FleetTy.fty.Few d) : FleetTy.fty.Few (addD d rev now) := by
  obtain ⟨ps, nx⟩ := d
  by_cases hA : AddOk ps nx rev now
  · rw [(add_yes hA).1]
    have := hA.2.2.2.1
    show (ps ++ [_]).length ≤ 1048576
    simp
    omega
  · rw [(add_no hA).1]; exact h
theorem good_app {ps : PList} {nx rev now : Int} (h : FGood ps nx) : FGood (ps ++ [(nx, rev, 0, 0, now)]) (nx + 1) ↔ AddOk ps nx rev now := by
  constructor
  · intro g
    have h1 := g.1
    have h2 := g.2.1
    obtain ⟨⟨_, h4, _, _, h5⟩, _⟩ := g.2.2.1 (nx, rev, 0, 0, now) (by simp)
    simp at h1 h4 h5
    exact ⟨h, h4, h5, by omega, by omega⟩
  · intro a
    obtain ⟨_, h1, h2, h3, h4⟩ := a
    refine ⟨by simp; omega, by have := h.2.1; omega, fun p hp => ?_, ?_⟩
    · rcases List.mem_append.1 hp with hp | hp
      · have := h.2.2.1 p hp
        exact ⟨this.1, by omega⟩
      · obtain rfl : p = (nx, rev, 0, 0, now) := by simpa using hp
        have := h.2.1
        exact ⟨⟨⟨by show 1 ≤ nx; omega, by show nx ≤ _; omega⟩, h1, ⟨by show (0 : Int) ≤ 0; omega, by show (0 : Int) ≤ 4; omega⟩, ⟨by show (0 : Int) ≤ 0; omega, by show (0 : Int) ≤ 1000000000; omega⟩, h2⟩, by show nx < nx + 1; omega⟩
    · refine List.pairwise_append.2 ⟨h.2.2.2, by simp, fun a ha b hb => ?_⟩
      obtain rfl : b = (nx, rev, 0, 0, now) := by simpa using hb
      exact (h.2.2.1 a ha).2

set_option maxRecDepth 100000 in
set_option maxHeartbeats 3200000 in
/-- add, at a crew of pods that are ok, with a rev and a tick that are ok. -/
theorem crewAdd_any (cb mb : Nat) (ps : PList) (nx rev now : Int) (w : World) (hC : CrewAt w cb mb 30 ps nx) (hg : FGood ps nx) (hrv : 1 ≤ rev ∧ rev ≤ 1000) (hnw : 0 ≤ now ∧ now ≤ 1000000000) (lo : Nat) (hcb : lo ≤ cb) (hmb : lo ≤ mb) :
    Calls Tryz.prog 240 #[.pointer (some ⟨cb, 0, none⟩), .int .i64 rev, .int .i64 now] w fun e w' => e = .returned (.int .i64 (addV (ps, nx) rev now)) ∧ CrewAt w' cb mb 31 (addD (ps, nx) rev now).1 (addD (ps, nx) rev now).2 ∧ Below lo w w' := by
  have c0 : w.cell? ⟨cb, 0, none⟩ = some (.map (some mb)) := box_cell hC.box 0 _ rfl
  have c1 : w.cell? ⟨cb, 1, none⟩ = some (.int .i64 nx) := box_cell hC.box 1 _ rfl
  have hlen := hC.own.len (t := 176) (e := 77) Tryz.underlying176 3
  rw [map_size] at hlen
  have HC := Lib.hid hC
  have HG := Lib.hid hg
  have hl30 := hg.1
  have hn1 := hg.2.1.1
  have hn2 := hg.2.1.2
  clear hC hg
  by_cases h30 : ps.length = 30
  · have HA : Hid (¬ AddOk ps nx rev now) := fun h => by have := h.2.2.2.1; omega
    have hd : ((ps.length : Int) == 30) = true := by simp; omega
    have hno := add_no HA.out
    rw [hno.1, hno.2]
    clear hno
    go_enter Tryz.func240, Tryz.ntmps240
    go_wp2
    go_ret
    exact ⟨rfl, ⟨HC.out.box, HC.out.own.mono (by omega), HC.out.asc, HC.out.ids⟩, Below.refl _ _⟩
  by_cases hmx : nx = 1000000000
  · have HA : Hid (¬ AddOk ps nx rev now) := fun h => by have := h.2.2.2.2; omega
    have hd : ((ps.length : Int) == 30) = false := by simp; omega
    have hd2 : (nx == 1000000000) = true := by simp; omega
    have hno := add_no HA.out
    rw [hno.1, hno.2]
    clear hno
    go_enter Tryz.func240, Tryz.ntmps240
    go_wp2
    go_ret
    exact ⟨rfl, ⟨HC.out.box, HC.out.own.mono (by omega), HC.out.asc, HC.out.ids⟩, Below.refl _ _⟩
  · have HA : Hid (AddOk ps nx rev now) := ⟨HG.out, hrv, hnw, by omega, by omega⟩
    have hd : ((ps.length : Int) == 30) = false := by simp; omega
    have hd2 : (nx == 1000000000) = false := by simp; omega
    have hyes := add_yes HA.out
    rw [hyes.1, hyes.2]
    clear hyes
    obtain ⟨w3, hrun, hM3, hg3⟩ := HC.out.own.update (t := 176) (e := 77) law Tryz.underlying176 (by unfold maxLen; omega) (key := .int .i64 nx) (val := .agg #[.int .i64 nx, .int .i64 rev, .int .i64 0, .int .i64 0, .int .i64 now]) (kl := .int .i64 nx) (d := .held (podV (nx, rev, 0, 0, now))) (ps := []) (keyOf_int_mk Tryz.underlying3 (id_wf (by omega))) rfl
    have hne : cb ≠ mb := fun e => by
      have h1 := HC.out.box
      obtain ⟨es, clock, hb, _⟩ := HC.out.own
      rw [e, hb] at h1
      cases h1
    have B3 : w3.heap[cb]? = some (.cells #[.map (some mb), .int .i64 nx] 178 (0, 0)) := (hg3.block cb (box_lt HC.out.box) (by simp [hne])).trans HC.out.box
    have d1 := box_cell B3 1 _ rfl
    have f1 := box_frozen B3 1
    have hM4 := hM3.setCell (a := ⟨cb, 1, none⟩) (Ne.symm hne) (.int .i64 (nx + 1))
    have B4 := box_set (i := 1) B3 (.int .i64 (nx + 1))
    have hb4 : Below lo w (w3.setCell ⟨cb, 1, none⟩ (.int .i64 (nx + 1))) := (((Below.refl lo w).grown hg3 (by have := HC.out.own.lt; omega) (by intro q hq; cases hq; exact hmb))).setCell (p := ⟨cb, 1, none⟩) hcb _
    have HM4 := Lib.hid hM4
    have HB4 := Lib.hid B4
    clear hM3 hg3 hM4 B3 B4
    go_enter Tryz.func240, Tryz.ntmps240
    go_wp2
    go_ret
    refine ⟨rfl, ⟨HB4.out, ?_, ?_, ?_⟩, hb4⟩
    · have h := HM4.out
      rw [map_put ps (nx, rev, 0, 0, now)] at h
      rw [insP_last (fun q hq => (HG.out.2.2.1 q hq).2)] at h
      exact h
    · exact ((good_app HG.out).2 HA.out).2.2.2
    · intro p hp
      have := (((good_app HG.out).2 HA.out).2.2.1 p hp).1.1
      omega
set_option maxRecDepth 100000 in
set_option maxHeartbeats 3200000 in
theorem addPod_any (A : Option Addr) (n c : Nat) (nx rev now : Int) (ps : PList) (B : Nat) (w : World) (hr : IsPods w B A n ps) (hB : B ≤ w.heap.size) (hn : n ≤ 1048576) :
    Calls Tryz.prog 218 #[.agg #[.slice A n c, .int .i64 nx], .int .i64 rev, .int .i64 now] w (Made1 FleetTy.fty (addD (ps, nx) rev now) (.int .i64 (addV (ps, nx) rev now)) w) := by
  have HL : Hid (ps.length = n) := hr.1
  have HR := Lib.hid hr
  clear hr
  have k0 : ((w.alloc (.cells #[.slice A n c, .int .i64 nx] 34)).alloc (.cells #[.slice none 0 0, .int .i64 0] 34)).heap[w.heap.size]? = some (.cells #[.slice A n c, .int .i64 nx] 34) := box_alloc (box_new _ _) _
  have k1 : ((w.alloc (.cells #[.slice A n c, .int .i64 nx] 34)).alloc (.cells #[.slice none 0 0, .int .i64 0] 34)).heap[w.heap.size + 1]? = some (.cells #[.slice none 0 0, .int .i64 0] 34) := by
    have h := box_new (w.alloc (.cells #[.slice A n c, .int .i64 nx] 34)) (.cells #[.slice none 0 0, .int .i64 0] 34)
    simp only [World.size_alloc] at h
    exact h
  have K0 := Lib.hid k0
  have K1 := Lib.hid k1
  clear k0 k1
  go_enter Tryz.func218, Tryz.ntmps218
  go_wp2_with fail
  refine (crewOf_any A n c nx ps B _ (HR.out.below (bel2 _ _ _) hB) (by simp; omega) hn).mono ?_
  rintro e w2 ⟨r, o, rfl, hb, hg, hC⟩
  have hbw : Below w.heap.size w w2 := bel_then (bel2 w _ _) hb (by simp; omega)
  have E0 := box_below K0.out hb
  have E1 := box_below K1.out hb
  have hs2 : w.heap.size + 1 + 1 ≤ w2.heap.size := by have := hb.size; simp at this; omega
  have HG := Lib.hid hg
  have HBW := Lib.hid hbw
  have a0 := box_cell E0 0 _ rfl
  have a1 := box_cell E0 1 _ rfl
  have X1 := Lib.hid E1
  clear hb hg E0 E1 K0 K1 hbw
  by_cases hok : r = true ∧ inB rev 1 1000 = true ∧ tokB now = true
  · obtain ⟨rfl, h1, h2⟩ := hok
    have hgd := HG.out.1 rfl
    obtain ⟨cb, mb, rfl, hcb, hmb, hC⟩ := hC rfl
    simp only [World.size_alloc] at hcb hmb
    have HC := Lib.hid hC
    have HGD := Lib.hid hgd
    clear hC hgd
    go_wp2_with (first | (go_at_call 80; refine (revOk_any _ _).mono ?_; rintro e w' ⟨rfl, rfl⟩; rw [h1]) | (go_at_call 78; refine (tickOk_any _ _).mono ?_; rintro e w' ⟨rfl, rfl⟩; rw [h2]))
    refine (crewAdd_any cb mb ps nx rev now _ HC.out HGD.out (in_t h1) (tok_t h2) (w.heap.size + 1 + 1) hcb hmb).mono ?_
    rintro e w3 ⟨rfl, hC3, hb3⟩
    have hbw3 : Below w.heap.size w w3 := HBW.out.trans (hb3.mono (by omega))
    have Y1 : Hid (w3.heap[w.heap.size + 1]? = some (.cells #[.slice none 0 0, .int .i64 0] 34)) := (hb3.block _ (by omega)).trans X1.out
    have HC3 := Lib.hid hC3
    have HB3 := Lib.hid hbw3
    have hl3 : (addD (ps, nx) rev now).1.length ≤ 1000 := by
      by_cases hA : AddOk ps nx rev now
      · rw [(add_yes hA).1]; have := hA.2.2.2.1; simp; omega
      · rw [(add_no hA).1]; have := HGD.out.1; show ps.length ≤ 1000; omega
    clear hC3 hbw3 hb3 a0 a1
    obtain ⟨D, hD⟩ : ∃ D, D = addD (ps, nx) rev now := ⟨_, rfl⟩
    obtain ⟨V, hV⟩ : ∃ V, V = addV (ps, nx) rev now := ⟨_, rfl⟩
    rw [← hD] at hl3 HC3
    rw [← hV]
    have HD := Lib.hid hD
    have HV := Lib.hid hV
    clear hD hV
    obtain ⟨m, mx⟩ := D
    go_wp2_with fail
    refine (fleet_any cb mb 31 m mx _ HC3.out hl3).mono ?_
    intro e w4 hM
    obtain ⟨A4, c4, rfl, hO4, hb4⟩ := made_own hM
    have Z1 := box_below Y1.out hb4
    have z0 := box_cell Z1 0 _ rfl
    have z1 := box_cell Z1 1 _ rfl
    have y0 := box_frozen Z1 0
    have y1 := box_frozen Z1 1
    have hs3 : w.heap.size + 1 < w3.heap.size := box_lt Y1.out
    have HB4 := Lib.hid (bel_then HB3.out hb4 HB3.out.size)
    have HO4 := Lib.hid hO4
    obtain ⟨q, hq⟩ : ∃ q, q = m.length := ⟨_, rfl⟩
    rw [← hq] at HO4 ⊢
    clear hM hb4 hO4 Z1 hq
    go_wp2
    refine bodyPost_ret (v := .tuple #[.agg #[.slice A4 q c4, .int .i64 mx], .int .i64 V]) (by simp [results, Tryz.results218, go_sem, z0, z1]) rfl ?_
    rw [← HD.out, ← HV.out]
    exact made1_of HB4.out HO4.out (by omega) (S := fun k => k = w.heap.size + 1) (fun k hk => by omega) ((Turned.set (S := fun k => k = w.heap.size + 1) _ ⟨w.heap.size + 1, 0, none⟩ _ rfl).trans (Turned.set (S := fun k => k = w.heap.size + 1) _ ⟨w.heap.size + 1, 1, none⟩ _ rfl))
  · have HA : Hid (¬ AddOk ps nx rev now) := fun h => hok ⟨HG.out.2 h.1, by simp [inB, h.2.1], by simp [tokB, h.2.2.1]⟩
    have HNO := Lib.hid (add_no HA.out)
    clear hC
    have h3 : r = false ∨ (r = true ∧ inB rev 1 1000 = false) ∨ (r = true ∧ inB rev 1 1000 = true ∧ tokB now = false) := by cases r <;> cases h1 : inB rev 1 1000 <;> cases h2 : tokB now <;> simp_all
    rcases h3 with rfl | ⟨rfl, h1⟩ | ⟨rfl, h1, h2⟩
    all_goals
        (go_wp2_with (first | (go_at_call 80; refine (revOk_any _ _).mono ?_; rintro e w' ⟨rfl, rfl⟩; rw [h1]) | (go_at_call 78; refine (tickOk_any _ _).mono ?_; rintro e w' ⟨rfl, rfl⟩; rw [h2]))
         refine (sameFleet_any A n c nx ps B _ (HR.out.below HBW.out hB) (by have := HBW.out.size; omega) hn).mono ?_
         intro e w4 hM
         obtain ⟨A4, c4, rfl, hO4, hb4⟩ := made_own hM
         have Z1 := box_below X1.out hb4
         have z0 := box_cell Z1 0 _ rfl
         have z1 := box_cell Z1 1 _ rfl
         have y0 := box_frozen Z1 0
         have y1 := box_frozen Z1 1
         have HB4 := Lib.hid (bel_then HBW.out hb4 HBW.out.size)
         have HO4 := Lib.hid hO4
         obtain ⟨q, hq⟩ : ∃ q, q = ps.length := ⟨_, rfl⟩
         rw [← hq] at HO4 ⊢
         clear hM hb4 hO4 Z1 hq a0 a1 hok
         go_wp2
         refine bodyPost_ret (v := .tuple #[.agg #[.slice A4 q c4, .int .i64 nx], .int .i64 0]) (by simp [results, Tryz.results218, go_sem, z0, z1]) rfl ?_
         rw [HNO.out.1, HNO.out.2]
         exact made1_of HB4.out HO4.out (by omega) (S := fun k => k = w.heap.size + 1) (fun k hk => by omega) ((Turned.set (S := fun k => k = w.heap.size + 1) _ ⟨w.heap.size + 1, 0, none⟩ _ rfl).trans (Turned.set (S := fun k => k = w.heap.size + 1) _ ⟨w.heap.size + 1, 1, none⟩ _ rfl)))
end Go.Proofs.YtdefckbgcggnoaaGreat.Crew
