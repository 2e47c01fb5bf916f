import Derived.Test.YtklgjjmcflgjeaaGreatR06
import Derived.Test.YtklgjjmcflgjeaaGreatR07
set_option linter.unusedVariables false
set_option linter.unusedSimpArgs false
namespace Go.Proofs.YtklgjjmcflgjeaaGreat.Crew
open Go.ChangeShapes Go.WideShapes Go.ChangeAt Go.RowKit Go.Maps Go.Sort Go.Shelf
open LK Pods FleetV Has Ints
open Tick (inB in_t in_f tokB tok_t tickOk_any)
theorem made_own {ps : PList} {x : Int} {W w' : World} {e : Ending} (h : Made FleetTy.fty (ps, x) W e w') : ∃ A c, e = .returned (.agg #[.slice A ps.length c, .int .i64 x]) ∧ OwnP w' W.heap.size A ps.length c ps ∧ Below W.heap.size W w' := by
  obtain ⟨v', S, rfl, ⟨⟨A, c, rfl, hO, hS⟩, hin, _⟩, hb⟩ := h
  exact ⟨A, c, rfl, hO.base (fun k hk => (hin k (hS k hk)).1), hb⟩
theorem made1_of {w w2 w3 : World} {lo : Nat} {S : Nat → Prop} {A : Option Addr} {n c : Nat} {ps : PList} {x : Int} {y : Value} (hb : Below w.heap.size w w2) (hO : OwnP w2 lo A n c ps) (hlo : w.heap.size ≤ lo) (hS : ∀ k, S k → w.heap.size ≤ k ∧ k < lo) (ht : Turned S w2 w3) :
    Made1 FleetTy.fty (ps, x) y w (.returned (.tuple #[.agg #[.slice A n c, .int .i64 x], y])) w3 := by
  obtain ⟨v', S', e, H, hb'⟩ := FleetTy.made_of (x := x) hb hO hlo hS ht
  injection e with e
  subst e
  exact ⟨_, S', rfl, H, hb'⟩
def AddOk (ps : PList) (nx rev now : Int) : Prop := FGood ps nx ∧ (1 ≤ rev ∧ rev ≤ 1000) ∧ (0 ≤ now ∧ now ≤ 1000000000) ∧ ps.length < 30 ∧ nx < 1000000000
instance (ps : PList) (nx rev now : Int) : Decidable (AddOk ps nx rev now) := by unfold AddOk; infer_instance
def addD (d : PList × Int) (rev now : Int) : PList × Int := if AddOk d.1 d.2 rev now then (d.1 ++ [(d.2, rev, 0, 0, now)], d.2 + 1) else d
def addV (d : PList × Int) (rev now : Int) : Int := if AddOk d.1 d.2 rev now then d.2 else 0
theorem add_yes {ps : PList} {nx rev now : Int} (h : AddOk ps nx rev now) : addD (ps, nx) rev now = (ps ++ [(nx, rev, 0, 0, now)], nx + 1) ∧ addV (ps, nx) rev now = nx := ⟨if_pos h, if_pos h⟩
theorem add_no {ps : PList} {nx rev now : Int} (h : ¬ AddOk ps nx rev now) : addD (ps, nx) rev now = (ps, nx) ∧ addV (ps, nx) rev now = 0 := ⟨if_neg h, if_neg h⟩
theorem few_add {d : PList × Int} (rev now : Int) (h : FleetTy.fty.Few d) : FleetTy.fty.Few (addD d rev now) := by
  obtain ⟨ps, nx⟩ := d
  by_cases hA : AddOk ps nx rev now
  · rw [(add_yes hA).1]
    have := hA.2.2.2.1
    show (ps ++ [_]).length ≤ 1048576
    simp
    omega
  · rw [(add_no hA).1]; exact h
theorem good_app {ps : PList} {nx rev now : Int} (h : FGood ps nx) : FGood (ps ++ [(nx, rev, 0, 0, now)]) (nx + 1) ↔ AddOk ps nx rev now := by
  constructor
  · intro g
    have h1 := g.1
    have h2 := g.2.1
    obtain ⟨⟨_, h4, _, _, h5⟩, _⟩ := g.2.2.1 (nx, rev, 0, 0, now) (by simp)
    simp at h1 h4 h5
    exact ⟨h, h4, h5, by omega, by omega⟩
  · intro a
    obtain ⟨_, h1, h2, h3, h4⟩ := a
    refine ⟨by simp; omega, by have := h.2.1; omega, fun p hp => ?_, ?_⟩
    · rcases List.mem_append.1 hp with hp | hp
      · have := h.2.2.1 p hp
        exact ⟨this.1, by omega⟩
      · obtain rfl : p = (nx, rev, 0, 0, now) := by simpa using hp
        have := h.2.1
        exact ⟨⟨⟨by show 1 ≤ nx; omega, by show nx ≤ _; omega⟩, h1, ⟨by show (0 : Int) ≤ 0; omega, by show (0 : Int) ≤ 4; omega⟩, ⟨by show (0 : Int) ≤ 0; omega, by show (0 : Int) ≤ 1000000000; omega⟩, h2⟩, by show nx < nx + 1; omega⟩
    · refine List.pairwise_append.2 ⟨h.2.2.2, by simp, fun a ha b hb => ?_⟩
      obtain rfl : b = (nx, rev, 0, 0, now) := by simpa using hb
      exact (h.2.2.1 a ha).2
set_option maxRecDepth 100000 in
set_option maxHeartbeats 3200000 in
theorem crewAdd_any (cb mb : Nat) (ps : PList) (nx rev now : Int) (w : World) (hC : CrewAt w cb mb 30 ps nx) (hg : FGood ps nx) (hrv : 1 ≤ rev ∧ rev ≤ 1000) (hnw : 0 ≤ now ∧ now ≤ 1000000000) (lo : Nat) (hcb : lo ≤ cb) (hmb : lo ≤ mb) :
    Calls Tryz.prog 288 #[.pointer (some ⟨cb, 0, none⟩), .int .i64 rev, .int .i64 now] w fun e w' => e = .returned (.int .i64 (addV (ps, nx) rev now)) ∧ CrewAt w' cb mb 31 (addD (ps, nx) rev now).1 (addD (ps, nx) rev now).2 ∧ Below lo w w' := by
  have c0 : w.cell? ⟨cb, 0, none⟩ = some (.map (some mb)) := box_cell hC.box 0 _ rfl
  have c1 : w.cell? ⟨cb, 1, none⟩ = some (.int .i64 nx) := box_cell hC.box 1 _ rfl
  have hlen := hC.own.len (t := 217) (e := 85) Tryz.underlying217 3
  rw [map_size] at hlen
  have HC := Lib.hid hC
  have HG := Lib.hid hg
  have hl30 := hg.1
  have hn1 := hg.2.1.1
  have hn2 := hg.2.1.2
  clear hC hg
  by_cases h30 : ps.length = 30
  · have HA : Hid (¬ AddOk ps nx rev now) := fun h => by have := h.2.2.2.1; omega
    have hd : ((ps.length : Int) == 30) = true := by simp; omega
    have hno := add_no HA.out
    rw [hno.1, hno.2]
    clear hno
    go_enter Tryz.func288, Tryz.ntmps288
    go_wp2
    go_ret
    exact ⟨rfl, ⟨HC.out.box, HC.out.own.mono (by omega), HC.out.asc, HC.out.ids⟩, Below.refl _ _⟩
  by_cases hmx : nx = 1000000000
  · have HA : Hid (¬ AddOk ps nx rev now) := fun h => by have := h.2.2.2.2; omega
    have hd : ((ps.length : Int) == 30) = false := by simp; omega
    have hd2 : (nx == 1000000000) = true := by simp; omega
    have hno := add_no HA.out
    rw [hno.1, hno.2]
    clear hno
    go_enter Tryz.func288, Tryz.ntmps288
    go_wp2
    go_ret
    exact ⟨rfl, ⟨HC.out.box, HC.out.own.mono (by omega), HC.out.asc, HC.out.ids⟩, Below.refl _ _⟩
  · have HA : Hid (AddOk ps nx rev now) := ⟨HG.out, hrv, hnw, by omega, by omega⟩
    have hd : ((ps.length : Int) == 30) = false := by simp; omega
    have hd2 : (nx == 1000000000) = false := by simp; omega
    have hyes := add_yes HA.out
    rw [hyes.1, hyes.2]
    clear hyes
    obtain ⟨w3, hrun, hM3, hg3⟩ := HC.out.own.update (t := 217) (e := 85) law Tryz.underlying217 (by unfold maxLen; omega) (key := .int .i64 nx) (val := .agg #[.int .i64 nx, .int .i64 rev, .int .i64 0, .int .i64 0, .int .i64 now]) (kl := .int .i64 nx) (d := .held (podV (nx, rev, 0, 0, now))) (ps := []) (keyOf_int_mk Tryz.underlying3 (id_wf (by omega))) rfl
    have hne : cb ≠ mb := fun e => by
      have h1 := HC.out.box
      obtain ⟨es, clock, hb, _⟩ := HC.out.own
      rw [e, hb] at h1
      cases h1
    have B3 : w3.heap[cb]? = some (.cells #[.map (some mb), .int .i64 nx] 219 (0, 0)) := (hg3.block cb (box_lt HC.out.box) (by simp [hne])).trans HC.out.box
    have d1 := box_cell B3 1 _ rfl
    have f1 := box_frozen B3 1
    have hM4 := hM3.setCell (a := ⟨cb, 1, none⟩) (Ne.symm hne) (.int .i64 (nx + 1))
    have B4 := box_set (i := 1) B3 (.int .i64 (nx + 1))
    have hb4 : Below lo w (w3.setCell ⟨cb, 1, none⟩ (.int .i64 (nx + 1))) := (((Below.refl lo w).grown hg3 (by have := HC.out.own.lt; omega) (by intro q hq; cases hq; exact hmb))).setCell (p := ⟨cb, 1, none⟩) hcb _
    have HM4 := Lib.hid hM4
    have HB4 := Lib.hid B4
    clear hM3 hg3 hM4 B3 B4
    go_enter Tryz.func288, Tryz.ntmps288
    go_wp2
    go_ret
    refine ⟨rfl, ⟨HB4.out, ?_, ?_, ?_⟩, hb4⟩
    · have h := HM4.out
      rw [map_put ps (nx, rev, 0, 0, now)] at h
      rw [insP_last (fun q hq => (HG.out.2.2.1 q hq).2)] at h
      exact h
    · exact ((good_app HG.out).2 HA.out).2.2.2
    · intro p hp
      have := (((good_app HG.out).2 HA.out).2.2.1 p hp).1.1
      omega
set_option maxRecDepth 100000 in
set_option maxHeartbeats 3200000 in
theorem addPod_any (A : Option Addr) (n c : Nat) (nx rev now : Int) (ps : PList) (B : Nat) (w : World) (hr : IsPods w B A n ps) (hB : B ≤ w.heap.size) (hn : n ≤ 1048576) :
    Calls Tryz.prog 266 #[.agg #[.slice A n c, .int .i64 nx], .int .i64 rev, .int .i64 now] w (Made1 FleetTy.fty (addD (ps, nx) rev now) (.int .i64 (addV (ps, nx) rev now)) w) := by
  have HL : Hid (ps.length = n) := hr.1
  have HR := Lib.hid hr
  clear hr
  have k0 : ((w.alloc (.cells #[.slice A n c, .int .i64 nx] 34)).alloc (.cells #[.slice none 0 0, .int .i64 0] 34)).heap[w.heap.size]? = some (.cells #[.slice A n c, .int .i64 nx] 34) := box_alloc (box_new _ _) _
  have k1 : ((w.alloc (.cells #[.slice A n c, .int .i64 nx] 34)).alloc (.cells #[.slice none 0 0, .int .i64 0] 34)).heap[w.heap.size + 1]? = some (.cells #[.slice none 0 0, .int .i64 0] 34) := by
    have h := box_new (w.alloc (.cells #[.slice A n c, .int .i64 nx] 34)) (.cells #[.slice none 0 0, .int .i64 0] 34)
    simp only [World.size_alloc] at h
    exact h
  have K0 := Lib.hid k0
  have K1 := Lib.hid k1
  clear k0 k1
  go_enter Tryz.func266, Tryz.ntmps266
  go_wp2_with fail
  refine (crewOf_any A n c nx ps B _ (HR.out.below (bel2 _ _ _) hB) (by simp; omega) hn).mono ?_
  rintro e w2 ⟨r, o, rfl, hb, hg, hC⟩
  have hbw : Below w.heap.size w w2 := bel_then (bel2 w _ _) hb (by simp; omega)
  have E0 := box_below K0.out hb
  have E1 := box_below K1.out hb
  have hs2 : w.heap.size + 1 + 1 ≤ w2.heap.size := by have := hb.size; simp at this; omega
  have HG := Lib.hid hg
  have HBW := Lib.hid hbw
  have a0 := box_cell E0 0 _ rfl
  have a1 := box_cell E0 1 _ rfl
  have X1 := Lib.hid E1
  clear hb hg E0 E1 K0 K1 hbw
  by_cases hok : r = true ∧ inB rev 1 1000 = true ∧ tokB now = true
  · obtain ⟨rfl, h1, h2⟩ := hok
    have hgd := HG.out.1 rfl
    obtain ⟨cb, mb, rfl, hcb, hmb, hC⟩ := hC rfl
    simp only [World.size_alloc] at hcb hmb
    have HC := Lib.hid hC
    have HGD := Lib.hid hgd
    clear hC hgd
    go_wp2_with (first | (go_at_call 93; refine (revOk_any _ _).mono ?_; rintro e w' ⟨rfl, rfl⟩; rw [h1]) | (go_at_call 91; refine (tickOk_any _ _).mono ?_; rintro e w' ⟨rfl, rfl⟩; rw [h2]))
    refine (crewAdd_any cb mb ps nx rev now _ HC.out HGD.out (in_t h1) (tok_t h2) (w.heap.size + 1 + 1) hcb hmb).mono ?_
    rintro e w3 ⟨rfl, hC3, hb3⟩
    have hbw3 : Below w.heap.size w w3 := HBW.out.trans (hb3.mono (by omega))
    have Y1 : Hid (w3.heap[w.heap.size + 1]? = some (.cells #[.slice none 0 0, .int .i64 0] 34)) := (hb3.block _ (by omega)).trans X1.out
    have HC3 := Lib.hid hC3
    have HB3 := Lib.hid hbw3
    have hl3 : (addD (ps, nx) rev now).1.length ≤ 1000 := by
      by_cases hA : AddOk ps nx rev now
      · rw [(add_yes hA).1]; have := hA.2.2.2.1; simp; omega
      · rw [(add_no hA).1]; have := HGD.out.1; show ps.length ≤ 1000; omega
    clear hC3 hbw3 hb3 a0 a1
    obtain ⟨D, hD⟩ : ∃ D, D = addD (ps, nx) rev now := ⟨_, rfl⟩
    obtain ⟨V, hV⟩ : ∃ V, V = addV (ps, nx) rev now := ⟨_, rfl⟩
    rw [← hD] at hl3 HC3
    rw [← hV]
    have HD := Lib.hid hD
    have HV := Lib.hid hV
    clear hD hV
    obtain ⟨m, mx⟩ := D
    go_wp2_with fail
    refine (fleet_any cb mb 31 m mx _ HC3.out hl3).mono ?_
    intro e w4 hM
    obtain ⟨A4, c4, rfl, hO4, hb4⟩ := made_own hM
    have Z1 := box_below Y1.out hb4
    have z0 := box_cell Z1 0 _ rfl
    have z1 := box_cell Z1 1 _ rfl
    have y0 := box_frozen Z1 0
    have y1 := box_frozen Z1 1
    have hs3 : w.heap.size + 1 < w3.heap.size := box_lt Y1.out
    have HB4 := Lib.hid (bel_then HB3.out hb4 HB3.out.size)
    have HO4 := Lib.hid hO4
    obtain ⟨q, hq⟩ : ∃ q, q = m.length := ⟨_, rfl⟩
    rw [← hq] at HO4 ⊢
    clear hM hb4 hO4 Z1 hq
    go_wp2
    refine bodyPost_ret (v := .tuple #[.agg #[.slice A4 q c4, .int .i64 mx], .int .i64 V]) (by simp [results, Tryz.results266, go_sem, z0, z1]) rfl ?_
    rw [← HD.out, ← HV.out]
    exact made1_of HB4.out HO4.out (by omega) (S := fun k => k = w.heap.size + 1) (fun k hk => by omega) ((Turned.set (S := fun k => k = w.heap.size + 1) _ ⟨w.heap.size + 1, 0, none⟩ _ rfl).trans (Turned.set (S := fun k => k = w.heap.size + 1) _ ⟨w.heap.size + 1, 1, none⟩ _ rfl))
  · have HA : Hid (¬ AddOk ps nx rev now) := fun h => hok ⟨HG.out.2 h.1, by simp [inB, h.2.1], by simp [tokB, h.2.2.1]⟩
    have HNO := Lib.hid (add_no HA.out)
    clear hC
    have h3 : r = false ∨ (r = true ∧ inB rev 1 1000 = false) ∨ (r = true ∧ inB rev 1 1000 = true ∧ tokB now = false) := by cases r <;> cases h1 : inB rev 1 1000 <;> cases h2 : tokB now <;> simp_all
    rcases h3 with rfl | ⟨rfl, h1⟩ | ⟨rfl, h1, h2⟩
    all_goals
        (go_wp2_with (first | (go_at_call 93; refine (revOk_any _ _).mono ?_; rintro e w' ⟨rfl, rfl⟩; rw [h1]) | (go_at_call 91; refine (tickOk_any _ _).mono ?_; rintro e w' ⟨rfl, rfl⟩; rw [h2]))
         refine (sameFleet_any A n c nx ps B _ (HR.out.below HBW.out hB) (by have := HBW.out.size; omega) hn).mono ?_
         intro e w4 hM
         obtain ⟨A4, c4, rfl, hO4, hb4⟩ := made_own hM
         have Z1 := box_below X1.out hb4
         have z0 := box_cell Z1 0 _ rfl
         have z1 := box_cell Z1 1 _ rfl
         have y0 := box_frozen Z1 0
         have y1 := box_frozen Z1 1
         have HB4 := Lib.hid (bel_then HBW.out hb4 HBW.out.size)
         have HO4 := Lib.hid hO4
         obtain ⟨q, hq⟩ : ∃ q, q = ps.length := ⟨_, rfl⟩
         rw [← hq] at HO4 ⊢
         clear hM hb4 hO4 Z1 hq a0 a1 hok
         go_wp2
         refine bodyPost_ret (v := .tuple #[.agg #[.slice A4 q c4, .int .i64 nx], .int .i64 0]) (by simp [results, Tryz.results266, go_sem, z0, z1]) rfl ?_
         rw [HNO.out.1, HNO.out.2]
         exact made1_of HB4.out HO4.out (by omega) (S := fun k => k = w.heap.size + 1) (fun k hk => by omega) ((Turned.set (S := fun k => k = w.heap.size + 1) _ ⟨w.heap.size + 1, 0, none⟩ _ rfl).trans (Turned.set (S := fun k => k = w.heap.size + 1) _ ⟨w.heap.size + 1, 1, none⟩ _ rfl)))
end Go.Proofs.YtklgjjmcflgjeaaGreat.Crew
namespace Go.Proofs.YtklgjjmcflgjeaaGreat.Crew
open Go.ChangeShapes Go.WideShapes Go.ChangeAt Go.RowKit Go.Maps Go.Sort Go.Shelf
open LK Pods FleetV Has Ints
theorem turned_drew {S : Nat → Prop} {a b : World} (h : Turned S a b) : Turned S a b.drew := ⟨h.os, h.tape, h.output, h.size, h.block⟩
theorem own_ne {w : World} {lo : Nat} {A : Option Addr} {n c : Nat} {ps : PList} {q : Nat} {cs : Array Value} {t : TypeId} {f : Nat × Nat} (h : OwnP w lo A n c ps) (hq : w.heap[q]? = some (.cells cs t f)) (ht : t ≠ 85) (k : Nat) (hk : (Value.slice A n c).ownBlock = some k) : k ≠ q := by
  intro e
  subst e
  rcases h.2.2 with ⟨h, _⟩ | ⟨g, cap, cur, h, _, hh, _⟩
  · injection h with h; rw [h] at hk; simp [Value.ownBlock] at hk
  · rw [h] at hk
    simp [Value.ownBlock] at hk
    subst hk
    rw [hq] at hh
    injection hh with hh
    injection hh with _ h2
    exact ht h2
set_option maxRecDepth 100000 in
set_option maxHeartbeats 6400000 in
theorem specAddPod_any (A : Option Addr) (n c : Nat) (nx rev now : Int) (ps : PList) (B : Nat) (w : World) (hr : IsPods w B A n ps) (hB : B ≤ w.heap.size) (hn : n ≤ 1048576) :
    Calls Tryz.prog 192 #[.agg #[.slice A n c, .int .i64 nx], .int .i64 rev, .int .i64 now] w (Made1 FleetTy.fty (addD (ps, nx) rev now) (.int .i64 (addV (ps, nx) rev now)) w) := by
  obtain ⟨i0, hi0, hz0, hz1, hz2⟩ := info_parts infoP
  have HL : Hid (ps.length = n) := hr.1
  have HR := Lib.hid hr
  clear hr
  have k0 : ((w.alloc (.cells #[.slice A n c, .int .i64 nx] 34)).alloc (.cells #[.slice none 0 0, .int .i64 0] 34)).heap[w.heap.size]? = some (.cells #[.slice A n c, .int .i64 nx] 34) := box_alloc (box_new _ _) _
  have k1 : ((w.alloc (.cells #[.slice A n c, .int .i64 nx] 34)).alloc (.cells #[.slice none 0 0, .int .i64 0] 34)).heap[w.heap.size + 1]? = some (.cells #[.slice none 0 0, .int .i64 0] 34) := by
    have h := box_new (w.alloc (.cells #[.slice A n c, .int .i64 nx] 34)) (.cells #[.slice none 0 0, .int .i64 0] 34)
    simp only [World.size_alloc] at h
    exact h
  have K0 := Lib.hid k0
  have K1 := Lib.hid k1
  clear k0 k1
  go_enter Tryz.func192, Tryz.ntmps192
  go_wp2_with fail
  refine (FleetSpec.copy_any A n c nx ps B _ (HR.out.below (bel2 _ _ _) hB) (by simp; omega) hn).mono ?_
  intro e w2 hM
  obtain ⟨A2, c2, rfl, hO, hb⟩ := made_own hM
  simp only [World.size_alloc] at hO
  rw [HL.out] at hO ⊢
  have hbw : Below w.heap.size w w2 := bel_then (bel2 w _ _) hb (by simp; omega)
  have hs2 : w.heap.size + 1 + 1 ≤ w2.heap.size := by have := hb.size; simp at this; omega
  have E0 : Hid ((w2.alloc (.cells #[.slice A2 n c2, .int .i64 nx] 34)).heap[w.heap.size]? = some (.cells #[.slice A n c, .int .i64 nx] 34)) := box_alloc (box_below K0.out hb) _
  have E1 : Hid ((w2.alloc (.cells #[.slice A2 n c2, .int .i64 nx] 34)).heap[w.heap.size + 1]? = some (.cells #[.slice none 0 0, .int .i64 0] 34)) := box_alloc (box_below K1.out hb) _
  have E2 : Hid ((w2.alloc (.cells #[.slice A2 n c2, .int .i64 nx] 34)).heap[w2.heap.size]? = some (.cells #[.slice A2 n c2, .int .i64 nx] 34)) := box_new _ _
  have HO := Lib.hid (hO.below (bel1 w2 (.cells #[.slice A2 n c2, .int .i64 nx] 34)))
  have HB := Lib.hid (hbw.alloc hbw.size (.cells #[.slice A2 n c2, .int .i64 nx] 34))
  have a0 : w2.cell? ⟨w.heap.size, 0, none⟩ = some (.slice A n c) := box_cell (box_below K0.out hb) 0 _ rfl
  have a1 : w2.cell? ⟨w.heap.size, 1, none⟩ = some (.int .i64 nx) := box_cell (box_below K0.out hb) 1 _ rfl
  have hl0 : w.heap.size < w2.heap.size := by omega
  have hl1 : w.heap.size + 1 < w2.heap.size := by omega
  clear hM hO hb hbw K0 K1
  go_wp2_with fail
  refine (FleetSpec.specFleetOk_any A n c nx ps B _ (HR.out.below HB.out hB) (by have := HB.out.size; simp at this ⊢; omega) hn).mono ?_
  rintro e w3 ⟨rfl, hb3⟩
  have F0 := box_below E0.out hb3
  have F1 := box_below E1.out hb3
  have F2 := box_below E2.out hb3
  have HO3 := Lib.hid (HO.out.below hb3)
  have HB3 := Lib.hid (bel_then HB.out hb3 HB.out.size)
  have hs3 : w2.heap.size + 1 ≤ w3.heap.size := by have := hb3.size; simp at this; omega
  clear hb3 E0 E1 E2 HO HB a0 a1
  have f00 := box_cell F0 0 _ rfl
  have f01 := box_cell F0 1 _ rfl
  have f10 := box_cell F1 0 _ rfl
  have f11 := box_cell F1 1 _ rfl
  have f20 := box_cell F2 0 _ rfl
  have f21 := box_cell F2 1 _ rfl
  have g10 := box_frozen F1 0
  have g11 := box_frozen F1 1
  have g20 := box_frozen F2 0
  have g21 := box_frozen F2 1
  by_cases hg : FGood ps nx
  · rw [decide_eq_true hg]
    have HG := Lib.hid hg
    have hn30 : n ≤ 30 := by have := hg.1; have := HL.out; omega
    have hx1 := hg.2.1.1
    have hx2 := hg.2.1.2
    clear hg
    go_wp2_with (at_builtin; refine wpList_append_own _ rfl (.tmp 16) (.tmp 22) _ rfl (w.heap.size + 1 + 1) 85 i0 _ 5 40 Tryz.underlying32 hi0 hz0 hz1 hz2 rfl (by omega) (.slice A2 n c2) n (flat ps) rfl ?o1 ⟨w3.heap.size, 0, none⟩ 1 1 [.int .i64 nx, .int .i64 rev, .int .i64 0, .int .i64 0, .int .i64 now] rfl rfl ?o2 ?o3 ?o4 ?o5 ?o6 ?_)
    case o1 => exact (HO3.out.2.alloc _)
    case o2 => exact news_new w3 [.int .i64 nx, .int .i64 rev, .int .i64 0, .int .i64 0, .int .i64 now] 85
    case o3 => intro u hu; simp at hu; rcases hu with rfl | rfl | rfl | rfl | rfl <;> rfl
    case o4 => unfold maxLen; omega
    case o5 => omega
    case o6 => simp; omega
    intro v2 w5 hown hgr _
    obtain ⟨A5, c5, rfl, hO5⟩ := own_app (ps := ps) (p := (nx, rev, 0, 0, now)) HL.out hown
    have hne : ∀ q, (Value.slice A2 n c2).ownBlock = some q → w.heap.size + 1 + 1 ≤ q ∧ q ≠ w2.heap.size := fun q hq => ⟨(HO3.out.lt q hq).1, own_ne HO3.out F2 (by decide) q hq⟩
    have keep : ∀ (q : Nat) (o : Obj), (q < w.heap.size + 1 + 1 ∨ q = w2.heap.size) → w3.heap[q]? = some o → w5.heap[q]? = some o := fun q o hq ho => (hgr.block q (by have := box_lt ho; simp; omega) (fun e => by have := hne q e.symm; omega)).trans (box_alloc ho _)
    have G0 := keep _ _ (.inl (by omega)) F0
    have G1 := keep _ _ (.inl (by omega)) F1
    have G2 := keep _ _ (.inr rfl) F2
    have hb5 : Below w.heap.size w w5 := ((HB3.out.alloc HB3.out.size _).grown hgr (by have := HB3.out.size; simp; omega) (fun qq hq => by have := (hne qq hq).1; omega))
    have hne5 := fun q hq => own_ne hO5 G2 (by decide) q hq
    obtain ⟨W6, hW6⟩ : ∃ W6, W6 = (w5.setCell ⟨w2.heap.size, 0, none⟩ (.slice A5 (n + 1) c5)).setCell ⟨w2.heap.size, 1, none⟩ (.int .i64 (nx + 1)) := ⟨_, rfl⟩
    have ht6 : Turned (fun k => k = w2.heap.size) w5 W6 := by rw [hW6]; exact (Turned.set (S := fun k => k = w2.heap.size) _ ⟨w2.heap.size, 0, none⟩ _ rfl).trans (Turned.set (S := fun k => k = w2.heap.size) _ ⟨w2.heap.size, 1, none⟩ _ rfl)
    have I0 : Hid (W6.heap[w.heap.size]? = some (.cells #[.slice A n c, .int .i64 nx] 34)) := box_turned G0 ht6 (by omega)
    have I1 : Hid (W6.heap[w.heap.size + 1]? = some (.cells #[.slice none 0 0, .int .i64 0] 34)) := box_turned G1 ht6 (by omega)
    have I2 : Hid (W6.heap[w2.heap.size]? = some (.cells #[.slice A5 (n + 1) c5, .int .i64 (nx + 1)] 34)) := by rw [hW6]; exact box_set (i := 1) (box_set (i := 0) G2 (.slice A5 (n + 1) c5)) (.int .i64 (nx + 1))
    have HO6 : Hid (OwnP W6 (w.heap.size + 1 + 1) A5 (n + 1) c5 (ps ++ [(nx, rev, 0, 0, now)])) := hO5.same (fun q hq => ht6.block q (hO5.lt q hq).2 (hne5 q hq))
    have HB6 : Hid (Below w.heap.size w W6) := Turned.low hb5 ht6 (fun k hk => by omega) hb5.size
    have m01 := box_cell G0 1 _ rfl
    have m20 := box_cell G2 0 _ rfl
    have m21 := box_cell G2 1 _ rfl
    have n20 := box_frozen G2 0
    have n21 := box_frozen G2 1
    have hw2 : w.heap.size ≠ w2.heap.size := by omega
    clear hown hgr hO5 hne keep G0 G1 G2 hb5 hne5 ht6 F0 F1 F2 f00 f01 f10 f11 f20 f21 g10 g11 g20 g21
    go_wp2_with fail
    rw [← hW6]
    clear hW6 m01 m20 m21 n20 n21
    refine (FleetSpec.specFleetOk_any A5 (n + 1) c5 (nx + 1) (ps ++ [(nx, rev, 0, 0, now)]) W6.heap.size _ HO6.out.podsAll (Nat.le_refl _) (by omega)).mono ?_
    rintro e w7 ⟨rfl, hb7⟩
    have J0 := box_below I0.out hb7
    have J1 := box_below I1.out hb7
    have J2 := box_below I2.out hb7
    have HO7 := Lib.hid (HO6.out.below hb7)
    have HB7 := Lib.hid (bel_then HB6.out hb7 HB6.out.size)
    have hs7 : w.heap.size + 1 < w7.heap.size := box_lt J1
    clear hb7 I0 I1 I2 HO6 HB6
    have j00 := box_cell J0 0 _ rfl
    have j01 := box_cell J0 1 _ rfl
    have j10 := box_cell J1 0 _ rfl
    have j11 := box_cell J1 1 _ rfl
    have j20 := box_cell J2 0 _ rfl
    have j21 := box_cell J2 1 _ rfl
    have l10 := box_frozen J1 0
    have l11 := box_frozen J1 1
    by_cases hA : AddOk ps nx rev now
    · rw [decide_eq_true ((good_app HG.out).2 hA)]
      have HYES := Lib.hid (add_yes hA)
      clear hA J0 J1 J2
      go_wp2_with fail
      go_region
      all_goals
        go_wp2
        refine bodyPost_ret (v := .tuple #[.agg #[.slice A5 (n + 1) c5, .int .i64 (nx + 1)], .int .i64 nx]) (by simp [results, Tryz.results192, go_sem, j10, j11]) rfl ?_
        rw [HYES.out.1, HYES.out.2]
        exact made1_of (w2 := w7) HB7.out HO7.out (by omega) (S := fun k => k = w.heap.size + 1) (fun k hk => by omega) (turned_drew ((Turned.set (S := fun k => k = w.heap.size + 1) _ ⟨w.heap.size + 1, 0, none⟩ _ rfl).trans (Turned.set (S := fun k => k = w.heap.size + 1) _ ⟨w.heap.size + 1, 1, none⟩ _ rfl)))
    · rw [decide_eq_false (fun h => hA ((good_app HG.out).1 h))]
      have HNO := Lib.hid (add_no hA)
      have X1 := Lib.hid J1
      clear hA J0 J1 J2
      go_wp2_with fail
      refine (FleetSpec.copy_any A n c nx ps B _ (HR.out.below HB7.out hB) (by have := HB7.out.size; omega) hn).mono ?_
      intro e w8 hM
      obtain ⟨A8, c8, rfl, hO8, hb8⟩ := made_own hM
      rw [HL.out] at hO8 ⊢
      have Z1 := box_below X1.out hb8
      have z0 := box_cell Z1 0 _ rfl
      have z1 := box_cell Z1 1 _ rfl
      have y0 := box_frozen Z1 0
      have y1 := box_frozen Z1 1
      have HB8 := Lib.hid (bel_then HB7.out hb8 HB7.out.size)
      have HO8 := Lib.hid hO8
      clear hM hb8 hO8 Z1 j00 j01 j10 j11 j20 j21 l10 l11
      go_wp2
      refine bodyPost_ret (v := .tuple #[.agg #[.slice A8 n c8, .int .i64 nx], .int .i64 0]) (by simp [results, Tryz.results192, go_sem, z0, z1]) rfl ?_
      rw [HNO.out.1, HNO.out.2]
      exact made1_of HB8.out HO8.out (by omega) (S := fun k => k = w.heap.size + 1) (fun k hk => by omega) ((Turned.set (S := fun k => k = w.heap.size + 1) _ ⟨w.heap.size + 1, 0, none⟩ _ rfl).trans (Turned.set (S := fun k => k = w.heap.size + 1) _ ⟨w.heap.size + 1, 1, none⟩ _ rfl))
  · rw [decide_eq_false hg]
    have HNO : Hid (_ ∧ _) := add_no (ps := ps) (nx := nx) (rev := rev) (now := now) (fun h => hg h.1)
    clear hg F0 F1 F2
    go_wp2
    refine bodyPost_ret (v := .tuple #[.agg #[.slice A2 n c2, .int .i64 nx], .int .i64 0]) (by simp [results, Tryz.results192, go_sem, f10, f11]) rfl ?_
    rw [HNO.out.1, HNO.out.2]
    exact made1_of HB3.out HO3.out (by omega) (S := fun k => k = w.heap.size + 1) (fun k hk => by omega) ((Turned.set (S := fun k => k = w.heap.size + 1) _ ⟨w.heap.size + 1, 0, none⟩ _ rfl).trans (Turned.set (S := fun k => k = w.heap.size + 1) _ ⟨w.heap.size + 1, 1, none⟩ _ rfl))
end Go.Proofs.YtklgjjmcflgjeaaGreat.Crew
namespace Go.Proofs.YtklgjjmcflgjeaaGreat.Crew
open Go.ChangeShapes Go.WideShapes Go.ChangeAt Go.RowKit Go.Maps Go.Sort Go.Shelf
open LK Pods FleetV Has Ints
open Tick (inB in_t in_f tokB tok_t tickOk_any specTickOk_any)
open FleetSpec (atP at_cases at_any copy_any specFleetOk_any)
def goP (d : PList × Int) (id now : Int) : Option Pd := if FGood d.1 d.2 ∧ tokB now = true then (match fndP d.1 id with | some p => if p.2.2.1 = 4 then none else some (p.1, p.2.1, 4, p.2.2.2.1, now) | none => none) else none
def goD (d : PList × Int) (id now : Int) : PList × Int := match goP d id now with | some p => (setP p d.1, d.2) | none => d
def goB (d : PList × Int) (id now : Int) : Bool := (goP d id now).isSome
theorem go_no {d : PList × Int} {id now : Int} (h : goP d id now = none) : goD d id now = d ∧ goB d id now = false := by simp [goD, goB, h]
theorem go_yes {d : PList × Int} {id now : Int} {p : Pd} (h : goP d id now = some p) : goD d id now = (setP p d.1, d.2) ∧ goB d id now = true := by simp [goD, goB, h]
theorem few_go {d : PList × Int} (id now : Int) (h : FleetTy.fty.Few d) : FleetTy.fty.Few (goD d id now) := by
  cases e : goP d id now with
  | none => rw [(go_no e).1]; exact h
  | some p => rw [(go_yes e).1]; show (setP p d.1).length ≤ 1048576; rw [len_setP]; exact h
theorem set_setP {ps : PList} {p : Pd} {j : Nat} (h : Asc ps) (hj : j < ps.length) (he : (ps.getD j z5).1 = p.1) : ps.set j p = setP p ps := by
  have hg : ps.getD j z5 = ps[j] := by simp [List.getD, hj]
  rw [hg] at he
  apply List.ext_getElem
  · simp [setP]
  · intro i h1 h2
    have hi : i < ps.length := by simpa using h1
    simp only [setP, List.getElem_map]
    by_cases hij : j = i
    · subst hij
      simp [he]
    · rw [List.getElem_set_ne hij]
      have hne : ps[i].1 ≠ p.1 := by
        rw [← he]
        rcases Nat.lt_or_gt_of_ne hij with h3 | h3
        · have := List.pairwise_iff_getElem.1 h j i hj hi h3; omega
        · have := List.pairwise_iff_getElem.1 h i j hi hj h3; omega
      rw [if_neg hne]
theorem flat_set2 (ps : PList) (j : Nat) (a b : Int) (hj : j < ps.length) : ((flat ps).set (j * 5 + 2) (.int .i64 a)).set (j * 5 + 4) (.int .i64 b) = flat (ps.set j ((ps.getD j z5).1, (ps.getD j z5).2.1, a, (ps.getD j z5).2.2.2.1, b)) := by
  induction ps generalizing j with
  | nil => simp at hj
  | cons x l ih =>
    cases j with
    | zero => simp [flat_cons, cells5]
    | succ j =>
      have e2 : (j + 1) * 5 + 2 = j * 5 + 2 + 1 + 1 + 1 + 1 + 1 := by omega
      have e4 : (j + 1) * 5 + 4 = j * 5 + 4 + 1 + 1 + 1 + 1 + 1 := by omega
      have e : (x :: l).getD (j + 1) z5 = l.getD j z5 := by simp [List.getD]
      rw [e2, e4, e, List.set_cons_succ, flat_cons, flat_cons, ← ih j (by simpa using hj)]
      simp only [cells5, List.cons_append, List.nil_append, List.set_cons_succ]
theorem own_set2 {w : World} {base g n cap j : Nat} {ps : PList} (h : OwnP w base (some ⟨g, 0, none⟩) n cap ps) (hj : j < n) (a b : Int) :
    OwnP ((w.setCell ⟨g, j * 5 + 2, none⟩ (.int .i64 a)).setCell ⟨g, j * 5 + 4, none⟩ (.int .i64 b)) base (some ⟨g, 0, none⟩) n cap (ps.set j ((ps.getD j z5).1, (ps.getD j z5).2.1, a, (ps.getD j z5).2.2.2.1, b)) := by
  refine ⟨by simpa using h.1, ?_⟩
  rw [← flat_set2 ps j a b (by rw [h.1]; exact hj)]
  exact ((h.2.stored (j * 5 + 2) (.int .i64 a)).1.stored (j * 5 + 4) (.int .i64 b)).1
set_option maxRecDepth 100000 in
set_option maxHeartbeats 3200000 in
theorem crewGo_any (cb mb : Nat) (ps : PList) (nx id now : Int) (w : World) (hC : CrewAt w cb mb 30 ps nx) (hg : FGood ps nx) (hnw : tokB now = true) (hid : (Lit.int .i64 id).wf = true) (lo : Nat) (hlo : lo ≤ w.heap.size) (hmb : lo ≤ mb) :
    Calls Tryz.prog 286 #[.pointer (some ⟨cb, 0, none⟩), .int .i64 id, .int .i64 now] w fun e w' => e = .returned (.bool (goB (ps, nx) id now)) ∧ CrewAt w' cb mb 31 (goD (ps, nx) id now).1 nx ∧ Below lo w w' := by
  have c0 : w.cell? ⟨cb, 0, none⟩ = some (.map (some mb)) := box_cell hC.box 0 _ rfl
  have hkey : keyOf Tryz.prog 3 (.int .i64 id) = some (.int .i64 id) := keyOf_int_mk Tryz.underlying3 hid
  obtain ⟨v, qs, hrun, hv⟩ := hC.own.look_ok (t := 217) (e := 85) law Tryz.underlying217 (zeroP _) (zd := .held _) (zp := []) rfl hkey
  rw [map_at] at hv
  rw [map_has] at hrun
  have hvv : rdP v = some (.held v, []) := rfl
  rw [hvv] at hv
  simp only [Option.some.injEq, Prod.mk.injEq] at hv
  replace hv := hv.1
  have HC := Lib.hid hC
  have HG := Lib.hid hg
  have hcb := box_lt hC.box
  have hml := hC.own.lt
  cases hf : fndP ps id with
  | none =>
    rw [hf] at hv hrun
    injection hv with hv
    subst hv
    have HN := Lib.hid (go_no (d := (ps, nx)) (id := id) (now := now) (by simp [goP, hf]))
    simp only [Option.isSome] at hrun
    clear hvv hC hg
    go_enter Tryz.func286, Tryz.ntmps286
    go_wp2
    go_ret
    rw [HN.out.1, HN.out.2]
    have h := HC.out.below (bel1 w (.cells #[.int .i64 0, .int .i64 0, .int .i64 0, .int .i64 0, .int .i64 0] 85))
    exact ⟨rfl, ⟨h.box, h.own.mono (by omega), h.asc, h.ids⟩, (bel1 _ _).mono hlo⟩
  | some p =>
    rw [hf] at hv hrun
    injection hv with hv
    obtain ⟨y0, y1, y2, y3, y4⟩ := p
    have hv2 : v = .agg #[.int .i64 y0, .int .i64 y1, .int .i64 y2, .int .i64 y3, .int .i64 y4] := hv
    subst hv2
    simp only [Option.isSome] at hrun
    obtain ⟨hpm, hpi⟩ := fnd_mem hf
    have hpi : y0 = id := hpi
    subst hpi
    clear hvv hv hC
    by_cases h4 : y2 = 4
    · have HN := Lib.hid (go_no (d := (ps, nx)) (id := y0) (now := now) (by simp [goP, hf, h4]))
      have hd : (y2 == 4) = true := by simp [h4]
      clear h4 hf
      go_enter Tryz.func286, Tryz.ntmps286
      go_wp2
      go_ret
      rw [HN.out.1, HN.out.2]
      have h := HC.out.below (bel1 w (.cells #[.int .i64 y0, .int .i64 y1, .int .i64 y2, .int .i64 y3, .int .i64 y4] 85))
      exact ⟨rfl, ⟨h.box, h.own.mono (by omega), h.asc, h.ids⟩, (bel1 _ _).mono hlo⟩
    · have HY := Lib.hid (go_yes (d := (ps, nx)) (id := y0) (now := now) (p := (y0, y1, 4, y3, now)) (by simp [goP, hf, h4, hg, hnw]))
      have hd : (y2 == 4) = false := by simp [h4]
      obtain ⟨V, hV⟩ : ∃ V, V = w.alloc (.cells #[.int .i64 y0, .int .i64 y1, .int .i64 4, .int .i64 y3, .int .i64 now] 85) := ⟨_, rfl⟩
      have hbV : Below w.heap.size w V := by rw [hV]; exact bel1 _ _
      have hCV := HC.out.below hbV
      obtain ⟨w3, hrun3, hM3, hg3⟩ := (show V.drew.ownsMap Tryz.prog 3 rdP mb 30 (mapOf ps) from hCV.own.drew).update (t := 217) (e := 85) law Tryz.underlying217 (by unfold maxLen; omega) (key := .int .i64 y0) (val := .agg #[.int .i64 y0, .int .i64 y1, .int .i64 4, .int .i64 y3, .int .i64 now]) (kl := .int .i64 y0) (d := .held (podV (y0, y1, 4, y3, now))) (ps := []) hkey rfl
      have hne : cb ≠ mb := fun e => by
        have h1 := HC.out.box
        obtain ⟨es, clock, hb, _⟩ := HC.out.own
        rw [e, hb] at h1
        cases h1
      have B3 : Hid (w3.heap[cb]? = some (.cells #[.map (some mb), .int .i64 nx] 219 (0, 0))) := (hg3.block cb (box_lt hCV.box) (by simp [hne])).trans hCV.box
      have hb3 : Below lo w w3 := ((hbV.mono hlo).drew).grown hg3 (by have := hbV.size; show lo ≤ V.heap.size; omega) (by intro q hq; cases hq; exact hmb)
      have HM3 : Hid (w3.ownsMap Tryz.prog 3 rdP mb 31 (mapOf (setP (y0, y1, 4, y3, now) ps))) := by
        show World.ownsMap _ _ _ _ _ _ _
        rw [← insP_set (p := (y0, y1, 4, y3, now)) HC.out.asc hpm rfl, ← map_put]
        exact hM3
      have cv : V.cell? ⟨cb, 0, none⟩ = some (.map (some mb)) := box_cell hCV.box 0 _ rfl
      have KV : V.heap[w.heap.size]? = some (.cells #[.int .i64 y0, .int .i64 y1, .int .i64 4, .int .i64 y3, .int .i64 now] 85) := by rw [hV]; exact box_new _ _
      have v0 := box_cell KV 0 _ rfl
      have v1 := box_cell KV 1 _ rfl
      have v2 := box_cell KV 2 _ rfl
      have v3 := box_cell KV 3 _ rfl
      have v4 := box_cell KV 4 _ rfl
      have HID : Hid (∀ q ∈ setP (y0, y1, 4, y3, now) ps, 0 ≤ q.1 ∧ q.1 ≤ 1000000000) := fun q hq => by
        rcases mem_setP hq with rfl | hq
        · exact HC.out.ids (y0, y1, y2, y3, y4) hpm
        · exact HC.out.ids q hq
      clear hM3 hg3 h4 hf hkey hCV KV
      go_enter Tryz.func286, Tryz.ntmps286
      go_wp2_with fail
      rw [← hV]
      clear hV
      go_still_tail 6, (by kernel_rfl)
      go_wp2
      go_ret
      rw [HY.out.1, HY.out.2]
      exact ⟨rfl, ⟨B3.out, HM3.out, asc_setP HC.out.asc, HID.out⟩, hb3⟩
set_option maxRecDepth 100000 in
set_option maxHeartbeats 3200000 in
theorem markGoing_any (A : Option Addr) (n c : Nat) (nx id now : Int) (ps : PList) (B : Nat) (w : World) (hr : IsPods w B A n ps) (hB : B ≤ w.heap.size) (hn : n ≤ 1048576) (hid : (Lit.int .i64 id).wf = true) :
    Calls Tryz.prog 263 #[.agg #[.slice A n c, .int .i64 nx], .int .i64 id, .int .i64 now] w (Made1 FleetTy.fty (goD (ps, nx) id now) (.bool (goB (ps, nx) id now)) w) := by
  have HL : Hid (ps.length = n) := hr.1
  have HR := Lib.hid hr
  clear hr
  have k0 : ((w.alloc (.cells #[.slice A n c, .int .i64 nx] 34)).alloc (.cells #[.slice none 0 0, .int .i64 0] 34)).heap[w.heap.size]? = some (.cells #[.slice A n c, .int .i64 nx] 34) := box_alloc (box_new _ _) _
  have k1 : ((w.alloc (.cells #[.slice A n c, .int .i64 nx] 34)).alloc (.cells #[.slice none 0 0, .int .i64 0] 34)).heap[w.heap.size + 1]? = some (.cells #[.slice none 0 0, .int .i64 0] 34) := by
    have h := box_new (w.alloc (.cells #[.slice A n c, .int .i64 nx] 34)) (.cells #[.slice none 0 0, .int .i64 0] 34)
    simp only [World.size_alloc] at h
    exact h
  have K0 := Lib.hid k0
  have K1 := Lib.hid k1
  clear k0 k1
  go_enter Tryz.func263, Tryz.ntmps263
  go_wp2_with fail
  refine (crewOf_any A n c nx ps B _ (HR.out.below (bel2 _ _ _) hB) (by simp; omega) hn).mono ?_
  rintro e w2 ⟨r, o, rfl, hb, hg, hC⟩
  have hbw : Below w.heap.size w w2 := bel_then (bel2 w _ _) hb (by simp; omega)
  have E0 := box_below K0.out hb
  have E1 := box_below K1.out hb
  have hs2 : w.heap.size + 1 + 1 ≤ w2.heap.size := by have := hb.size; simp at this; omega
  have HG := Lib.hid hg
  have HBW := Lib.hid hbw
  have X0 := Lib.hid E0
  have X1 := Lib.hid E1
  have a0 := box_cell E0 0 _ rfl
  have a1 := box_cell E0 1 _ rfl
  clear hb hg E0 E1 K0 K1 hbw
  have h3 : r = false ∨ (r = true ∧ tokB now = false) ∨ (r = true ∧ tokB now = true) := by cases r <;> cases h2 : tokB now <;> simp
  rcases h3 with rfl | ⟨rfl, h2⟩ | ⟨rfl, h2⟩
  · have HNO := Lib.hid (go_no (d := (ps, nx)) (id := id) (now := now) (if_neg (fun h => by have := HG.out.2 h.1; cases this)))
    clear hC
    go_wp2_with fail
    refine (sameFleet_any A n c nx ps B _ (HR.out.below HBW.out hB) (by have := HBW.out.size; omega) hn).mono ?_
    intro e w4 hM
    obtain ⟨A4, c4, rfl, hO4, hb4⟩ := made_own hM
    have Z1 := box_below X1.out hb4
    have z0 := box_cell Z1 0 _ rfl
    have z1 := box_cell Z1 1 _ rfl
    have y0 := box_frozen Z1 0
    have y1 := box_frozen Z1 1
    have HB4 := Lib.hid (bel_then HBW.out hb4 HBW.out.size)
    have HO4 := Lib.hid hO4
    obtain ⟨q, hq⟩ : ∃ q, q = ps.length := ⟨_, rfl⟩
    rw [← hq] at HO4 ⊢
    clear hM hb4 hO4 Z1 hq a0 a1
    go_wp2
    refine bodyPost_ret (v := .tuple #[.agg #[.slice A4 q c4, .int .i64 nx], .bool false]) (by simp [results, Tryz.results263, go_sem, z0, z1]) rfl ?_
    rw [HNO.out.1, HNO.out.2]
    exact made1_of HB4.out HO4.out (by omega) (S := fun k => k = w.heap.size + 1) (fun k hk => by omega) ((Turned.set (S := fun k => k = w.heap.size + 1) _ ⟨w.heap.size + 1, 0, none⟩ _ rfl).trans (Turned.set (S := fun k => k = w.heap.size + 1) _ ⟨w.heap.size + 1, 1, none⟩ _ rfl))
  · have HNO := Lib.hid (go_no (d := (ps, nx)) (id := id) (now := now) (if_neg (fun h => by have := h.2; rw [h2] at this; cases this)))
    clear hC
    go_wp2_with (go_at_call 91; refine (tickOk_any _ _).mono ?_; rintro e w' ⟨rfl, rfl⟩; rw [h2])
    refine (sameFleet_any A n c nx ps B _ (HR.out.below HBW.out hB) (by have := HBW.out.size; omega) hn).mono ?_
    intro e w4 hM
    obtain ⟨A4, c4, rfl, hO4, hb4⟩ := made_own hM
    have Z1 := box_below X1.out hb4
    have z0 := box_cell Z1 0 _ rfl
    have z1 := box_cell Z1 1 _ rfl
    have y0 := box_frozen Z1 0
    have y1 := box_frozen Z1 1
    have HB4 := Lib.hid (bel_then HBW.out hb4 HBW.out.size)
    have HO4 := Lib.hid hO4
    obtain ⟨q, hq⟩ : ∃ q, q = ps.length := ⟨_, rfl⟩
    rw [← hq] at HO4 ⊢
    clear hM hb4 hO4 Z1 hq a0 a1
    go_wp2
    refine bodyPost_ret (v := .tuple #[.agg #[.slice A4 q c4, .int .i64 nx], .bool false]) (by simp [results, Tryz.results263, go_sem, z0, z1]) rfl ?_
    rw [HNO.out.1, HNO.out.2]
    exact made1_of HB4.out HO4.out (by omega) (S := fun k => k = w.heap.size + 1) (fun k hk => by omega) ((Turned.set (S := fun k => k = w.heap.size + 1) _ ⟨w.heap.size + 1, 0, none⟩ _ rfl).trans (Turned.set (S := fun k => k = w.heap.size + 1) _ ⟨w.heap.size + 1, 1, none⟩ _ rfl))
  · have hgd := HG.out.1 rfl
    obtain ⟨cb, mb, rfl, hcb, hmb, hC⟩ := hC rfl
    simp only [World.size_alloc] at hcb hmb
    have HC := Lib.hid hC
    have HGD := Lib.hid hgd
    clear hC hgd
    go_wp2_with (go_at_call 91; refine (tickOk_any _ _).mono ?_; rintro e w' ⟨rfl, rfl⟩; rw [h2])
    refine (crewGo_any cb mb ps nx id now _ HC.out HGD.out h2 hid (w.heap.size + 1 + 1) hs2 hmb).mono ?_
    rintro e w3 ⟨rfl, hC3, hb3⟩
    have hbw3 : Below w.heap.size w w3 := HBW.out.trans (hb3.mono (by omega))
    have Y0 := (hb3.block w.heap.size (by omega)).trans X0.out
    have Y1 : Hid (w3.heap[w.heap.size + 1]? = some (.cells #[.slice none 0 0, .int .i64 0] 34)) := (hb3.block _ (by omega)).trans X1.out
    have b0 := box_cell Y0 0 _ rfl
    have b1 := box_cell Y0 1 _ rfl
    have HC3 := Lib.hid hC3
    have HB3 := Lib.hid hbw3
    have hs3 : w.heap.size + 1 < w3.heap.size := box_lt Y1.out
    clear hC3 hbw3 hb3 a0 a1 X0 X1 Y0
    cases e : goP (ps, nx) id now with
    | none =>
      have HNO := Lib.hid (go_no e)
      rw [HNO.out.2]
      clear e
      go_wp2_with fail
      refine (sameFleet_any A n c nx ps B _ (HR.out.below HB3.out hB) (by have := HB3.out.size; omega) hn).mono ?_
      intro e w4 hM
      obtain ⟨A4, c4, rfl, hO4, hb4⟩ := made_own hM
      have Z1 := box_below Y1.out hb4
      have z0 := box_cell Z1 0 _ rfl
      have z1 := box_cell Z1 1 _ rfl
      have y0 := box_frozen Z1 0
      have y1 := box_frozen Z1 1
      have HB4 := Lib.hid (bel_then HB3.out hb4 HB3.out.size)
      have HO4 := Lib.hid hO4
      obtain ⟨q, hq⟩ : ∃ q, q = ps.length := ⟨_, rfl⟩
      rw [← hq] at HO4 ⊢
      clear hM hb4 hO4 Z1 hq b0 b1
      go_wp2
      refine bodyPost_ret (v := .tuple #[.agg #[.slice A4 q c4, .int .i64 nx], .bool false]) (by simp [results, Tryz.results263, go_sem, z0, z1]) rfl ?_
      rw [HNO.out.1, HNO.out.2]
      exact made1_of HB4.out HO4.out (by omega) (S := fun k => k = w.heap.size + 1) (fun k hk => by omega) ((Turned.set (S := fun k => k = w.heap.size + 1) _ ⟨w.heap.size + 1, 0, none⟩ _ rfl).trans (Turned.set (S := fun k => k = w.heap.size + 1) _ ⟨w.heap.size + 1, 1, none⟩ _ rfl))
    | some p =>
      have HY := Lib.hid (go_yes e)
      rw [HY.out.2]
      rw [HY.out.1] at HC3
      have HC4 : Hid (CrewAt w3 cb mb 31 (setP p ps) nx) := HC3.out
      have hl3 : (setP p ps).length ≤ 1000 := by rw [len_setP]; have := HGD.out.1; omega
      clear e HC3
      go_wp2_with fail
      refine (fleet_any cb mb 31 (setP p ps) nx _ HC4.out hl3).mono ?_
      intro e w4 hM
      obtain ⟨A4, c4, rfl, hO4, hb4⟩ := made_own hM
      have Z1 := box_below Y1.out hb4
      have z0 := box_cell Z1 0 _ rfl
      have z1 := box_cell Z1 1 _ rfl
      have y0 := box_frozen Z1 0
      have y1 := box_frozen Z1 1
      have HB4 := Lib.hid (bel_then HB3.out hb4 HB3.out.size)
      have HO4 := Lib.hid hO4
      obtain ⟨q, hq⟩ : ∃ q, q = (setP p ps).length := ⟨_, rfl⟩
      rw [← hq] at HO4 ⊢
      clear hM hb4 hO4 Z1 hq b0 b1
      go_wp2
      refine bodyPost_ret (v := .tuple #[.agg #[.slice A4 q c4, .int .i64 nx], .bool true]) (by simp [results, Tryz.results263, go_sem, z0, z1]) rfl ?_
      rw [HY.out.1, HY.out.2]
      exact made1_of HB4.out HO4.out (by omega) (S := fun k => k = w.heap.size + 1) (fun k hk => by omega) ((Turned.set (S := fun k => k = w.heap.size + 1) _ ⟨w.heap.size + 1, 0, none⟩ _ rfl).trans (Turned.set (S := fun k => k = w.heap.size + 1) _ ⟨w.heap.size + 1, 1, none⟩ _ rfl))
end Go.Proofs.YtklgjjmcflgjeaaGreat.Crew
