/-
  FLEETS (a list of pods and a number) as a kind of data: the contracts of the laws' toFleet, szFleet, eqFleet, markFleet, heldFleet over this seat's translation; and how a fleet comes in as an argument of a law.
-/
import Derived.Test.YtlghdmakaocokaaGreatDoorPods
import Derived.Test.YtlghdmakaocokaaGreatDoorRec
import Derived.Test.YtlghdmakaocokaaGreatDoorFlatOpen
namespace Go.Proofs.YtlghdmakaocokaaGreatDoor.FleetTy
open Go.ChangeShapes Go.WideShapes Go.ChangeAt Go.RowKit Go.Joins Go.Deep
open Go.Proofs.YtlghdmakaocokaaGreatDoor.LK Go.Proofs.YtlghdmakaocokaaGreatDoor.Pods
set_option linter.unusedVariables false

/-- Pods, Next. -/
abbrev FD := PList × Int
def FRd (w : World) (B : Nat) (v : Value) (d : FD) : Prop := ∃ A c, v = .agg #[.slice A d.1.length c, .int .i64 d.2] ∧ IsPods w B A d.1.length d.1
def FOwn (w : World) (S : Nat → Prop) (v : Value) (d : FD) : Prop := ∃ A c, v = .agg #[.slice A d.1.length c, .int .i64 d.2] ∧ OwnP w 0 A d.1.length c d.1 ∧ (∀ k, (Value.slice A d.1.length c).ownBlock = some k → S k)
def fty : Ty where
  D := FD
  Rd := FRd
  Own := FOwn
  Few := fun d => d.1.length ≤ 1048576
  cnt := fun d => 5 * d.1.length
  mark := fun k d => (marksP k d.1.length, d.2)
  rd_below := by
    rintro w w' B C v d ⟨A, c, rfl, h1⟩ hb hC
    exact ⟨A, c, rfl, h1.below hb hC⟩
  own_rd := by
    rintro w S v d B ⟨A, c, rfl, h1, s1⟩ hB
    exact ⟨A, c, rfl, h1.pods (fun k hk => hB k (s1 k hk))⟩
  own_same := by
    rintro w w' S v d ⟨A, c, rfl, h1, s1⟩ hs
    exact ⟨A, c, rfl, h1.same (fun k hk => hs k (s1 k hk)), s1⟩
  few_cnt := by intro d h; omega
theorem shape {w : World} {lo hi : Nat} {S : Nat → Prop} {v : Value} {d : FD} (h : Has fty w lo hi S v d) : ∃ A n c x, v = .agg #[.slice A n c, .int .i64 x] := by
  obtain ⟨A, c, e, _⟩ := h.own
  exact ⟨_, _, _, _, e⟩
/-- An own list in new memory, and a number: a fleet of one's own. -/
theorem has_of {w w' : World} {lo : Nat} {A : Option Addr} {c : Nat} {ps : PList} {x : Int} (h : OwnP w' lo A ps.length c ps) (hlo : lo ≤ w'.heap.size) : Has fty w' lo w'.heap.size (fun k => lo ≤ k ∧ k < w'.heap.size) (.agg #[.slice A ps.length c, .int .i64 x]) (ps, x) :=
  ⟨⟨A, c, rfl, h.zero, fun k hk => h.lt k hk⟩, fun k hk => hk, Nat.le_refl _⟩
theorem made_of {w w2 w3 : World} {lo : Nat} {S : Nat → Prop} {A : Option Addr} {n c : Nat} {ps : PList} {x : Int} (hb : Below w.heap.size w w2) (hO : OwnP w2 lo A n c ps) (hlo : w.heap.size ≤ lo) (hS : ∀ k, S k → w.heap.size ≤ k ∧ k < lo) (ht : Turned S w2 w3) :
    Made fty (ps, x) w (.returned (.agg #[.slice A n c, .int .i64 x])) w3 := by
  have hz := ht.size
  have hl := hO.1
  subst hl
  refine ⟨_, fun k => w.heap.size ≤ k ∧ k < w3.heap.size, rfl, ⟨⟨A, c, rfl, hO.zero.same fun k hk => ht.block k (hO.lt k hk).2 (fun e => by have := hO.lt k hk; have := hS k e; omega), fun k hk => ?_⟩, fun k hk => hk, Nat.le_refl _⟩, Turned.low hb ht (fun k hk => (hS k hk).1) hb.size⟩
  have := hO.lt k hk
  exact ⟨by omega, by omega⟩
theorem own_app {w' : World} {base n : Nat} {v' : Value} {ps : PList} {p : Pd} (hl : ps.length = n) (h : w'.ownsRow base 51 5 v' (n + 1) (flat ps ++ cells5 p)) : ∃ A c, v' = .slice A (n + 1) c ∧ OwnP w' base A (n + 1) c (ps ++ [p]) := by
  obtain ⟨g, cap, rfl, _⟩ := h.form (by omega)
  exact ⟨_, _, rfl, by simp [hl], by rw [flat_app, flat_one]; exact h⟩
set_option maxHeartbeats 800000 in
theorem szFleet_any (A : Option Addr) (c : Nat) (d : FD) (w : World) (h : d.1.length ≤ maxLen) : SzC 21 fty (.agg #[.slice A d.1.length c, .int .i64 d.2]) d w := by
  intro W k _ hk0 hk1
  obtain ⟨ps, x⟩ := d
  obtain ⟨n, hn⟩ : ∃ n, n = ps.length := ⟨_, rfl⟩
  simp only [← hn] at h ⊢
  have HN := Lib.hid hn
  clear hn
  go_enter Tryz.func21, Tryz.ntmps21
  go_wp2_with fail
  refine (szPodS_any A n c k _ h hk0 hk1).mono ?_
  rintro e w1 ⟨r, rfl, rfl | ⟨hr, h3⟩, rfl⟩
  · go_wp2
    go_ret
    exact ⟨-1, rfl, bel1 _ _, .inl rfl⟩
  · have hd : decide (r < 0) = false := by simp; omega
    have HR := Lib.hid hr
    have H3 := Lib.hid h3
    clear hr h3
    go_wp2
    go_ret
    refine ⟨r, rfl, bel1 _ _, .inr ⟨H3.out, by have := HR.out; omega, ?_⟩⟩
    show ps.length ≤ 1048576
    have := HN.out; have := HR.out; have := H3.out; omega
set_option maxRecDepth 100000 in
set_option maxHeartbeats 1600000 in
theorem toFleet_any : ToC 26 fty := by
  rintro w B v ⟨ps, x⟩ ⟨A, c, rfl, h1⟩ hB hf
  have hf : ps.length ≤ 1048576 := hf
  have H1 := Lib.hid h1
  obtain ⟨n, hn⟩ : ∃ n, n = ps.length := ⟨_, rfl⟩
  simp only [← hn] at H1 hf ⊢
  have HN := Lib.hid hn
  clear h1 hn
  go_enter Tryz.func26, Tryz.ntmps26
  go_wp2_with fail
  refine (toPodS_any A n c ps B _ (H1.out.below (bel3 _ _ _ _) hB) (by simp; omega) hf).mono ?_
  rintro e w4 ⟨g1, rfl, hO1, hb1⟩
  obtain ⟨k0, k1, k2⟩ := Rec.old3 hb1
  have hb01 : Below w.heap.size w w4 := Rec.below_alloc3 hb1
  have HO1 := Lib.hid (show OwnP w4 (w.heap.size + 1 + 1 + 1) _ _ _ _ by simpa using hO1)
  have p0 : w4.cell? ⟨w.heap.size, 1, none⟩ = some (.int .i64 x) := box_cell k0 1 _ rfl
  have p1 : w4.cell? ⟨w.heap.size + 1 + 1, 0, none⟩ = some (.slice none 0 0) := box_cell k2 0 _ rfl
  have p2 : w4.cell? ⟨w.heap.size + 1 + 1, 1, none⟩ = some (.int .i64 0) := box_cell k2 1 _ rfl
  have q0 := box_frozen k2 0
  have q1 := box_frozen k2 1
  have r0 : w4.cell? ⟨w.heap.size + 1, 0, none⟩ = some (.slice none 0 0) := box_cell k1 0 _ rfl
  have r1 : w4.cell? ⟨w.heap.size + 1, 1, none⟩ = some (.int .i64 0) := box_cell k1 1 _ rfl
  have s0 := box_frozen k1 0
  have s1 := box_frozen k1 1
  have HB := Lib.hid hb01
  have hlt : w.heap.size + 1 + 1 < w4.heap.size := box_lt k2
  clear hb1 hO1 hb01 k0 k1 k2
  go_wp2
  refine bodyPost_ret (v := .agg #[.slice (some ⟨g1, 0, none⟩) n n, .int .i64 x]) (by simp [results, Tryz.results26, go_sem, r0, r1]) rfl ?_
  have hl := HN.out
  have ht : Turned (fun k => k = w.heap.size + 1 ∨ k = w.heap.size + 1 + 1) w4 _ := (((Turned.set w4 ⟨w.heap.size + 1 + 1, 0, none⟩ (.slice (some ⟨g1, 0, none⟩) n n) (.inr rfl)).trans (Turned.set _ ⟨w.heap.size + 1 + 1, 1, none⟩ (.int .i64 x) (.inr rfl))).trans (Turned.set _ ⟨w.heap.size + 1, 0, none⟩ (.slice (some ⟨g1, 0, none⟩) n n) (.inl rfl))).trans (Turned.set _ ⟨w.heap.size + 1, 1, none⟩ (.int .i64 x) (.inl rfl))
  have hz := ht.size
  have hk : ∀ k, (Value.slice (some ⟨g1, 0, none⟩) n n).ownBlock = some k → w.heap.size + 1 + 1 + 1 ≤ k ∧ k < w4.heap.size := fun k hk => HO1.out.lt k hk
  refine ⟨_, fun k => k = g1, rfl, ⟨⟨some ⟨g1, 0, none⟩, n, by rw [hl], ?_, fun k hk => by simpa [Value.ownBlock] using hk.symm⟩, fun k hk2 => ?_, Nat.le_refl _⟩, Turned.low HB.out ht (fun k hk => by omega) HB.out.size⟩
  · rw [← hl]
    exact HO1.out.zero.same fun k hkk => ht.block k (hk k hkk).2 (by have := hk k hkk; omega)
  · subst hk2
    have := hk k rfl
    omega
set_option maxHeartbeats 800000 in
theorem eqFleet_any : EqC 33 fty := by
  rintro w B B' v v' ⟨ps, x⟩ ⟨A, c, rfl, h1⟩ ⟨C, e, rfl, g1⟩ hB hB' hf
  have hf : ps.length ≤ 1048576 := hf
  obtain ⟨n, hn⟩ : ∃ n, n = ps.length := ⟨_, rfl⟩
  simp only [← hn] at h1 g1 hf ⊢
  have H1 := Lib.hid h1
  have G1 := Lib.hid g1
  clear h1 g1 hn
  go_enter Tryz.func33, Tryz.ntmps33
  go_wp2_with fail
  refine (eqPodS_same A C n c e ps B B' _ (H1.out.below (bel2 _ _ _) hB) (G1.out.below (bel2 _ _ _) hB') (by simp; omega) (by simp; omega) hf).mono ?_
  rintro e2 w2 ⟨rfl, hb2⟩
  have hbw : Below w.heap.size w w2 := (bel2 w _ _).trans (hb2.mono (by simp; omega))
  have m0 := cell_keep hb2 (show World.cell? _ ⟨w.heap.size, 1, none⟩ = some (.int .i64 x) from by simp)
  have m1 := cell_keep hb2 (show World.cell? _ ⟨w.heap.size + 1, 1, none⟩ = some (.int .i64 x) from by simp)
  have HB := Lib.hid hbw
  clear hb2 hbw
  go_wp2
  go_ret
  exact ⟨rfl, HB.out⟩
section
variable {H : Type} {enc : TypeId × Value → H} {w : World} {base : Nat} {spare : Nat → Bool} {held : Bool}
def tup5 (l : List Int) : Pd := (l.getD 0 0, l.getD 1 0, l.getD 2 0, l.getD 3 0, l.getD 4 0)
theorem flat_fields {i : Nat} {f : Field} {fs : Array Field} (h : fs.toList.zipIdx.all (fun q => q.1.offset == q.2 && q.1.type == 3) = true) (hf : fs[i]? = some f) : f.offset = i ∧ f.type = 3 := by
  have h1 : (f, i) ∈ fs.toList.zipIdx := List.mem_zipIdx_iff_getElem?.2 (by simpa using hf)
  have h2 := List.all_eq_true.1 h _ h1
  simpa using h2
theorem pods_read {fuel : Nat} {v : Value} {x : DataW H × List MemPlace} (h : DataW.trod enc Tryz.prog w base spare held fuel 27 [v] = some x) : ∃ A n c ps, v = .slice A n c ∧ IsPods w w.heap.size A n ps ∧ n ≤ maxLen := by
  obtain ⟨A, n, c, f, rfl, hn, hc⟩ := FlatOpen.open_flats (k := 5) Tryz.underlying27 Tryz.underlying79 (by kernel_rfl) rfl (by omega) (fun i f hf => flat_fields (by kernel_rfl) hf) h
  refine ⟨A, n, c, (List.range n).map (fun j => tup5 (f j)), rfl, ⟨by simp, fun hp => ?_⟩, hn⟩
  obtain ⟨b, off, rfl, hb, hj⟩ := hc hp
  refine ⟨b, off, rfl, hb, fun j hjn => ?_⟩
  obtain ⟨hl, _, hcell⟩ := hj j hjn
  have e : ((List.range n).map (fun j => tup5 (f j))).getD j z5 = tup5 (f j) := by simp [List.getD, hjn]
  rw [e]
  have hg : ∀ i, i < 5 → w.cell? ⟨b, off + (j * 5 + i), none⟩ = some (.int .i64 ((f j).getD i 0)) := by
    intro i hi
    rw [hcell i hi]
    simp [List.getD, show i < (f j).length by omega]
  exact ⟨hg 0 (by omega), hg 1 (by omega), hg 2 (by omega), hg 3 (by omega), hg 4 (by omega)⟩
set_option maxRecDepth 100000 in
theorem open_fleet {r : Reach} {b0 : Nat} {v : Value} {d : DataW H} {p : List MemPlace} (hv : Value.okWide Tryz.prog w r b0 29 v) (h : DataW.Trod enc Tryz.prog w base spare held 29 v d p) :
    ∃ A n c x dd, v = .agg #[.slice A n c, .int .i64 x] ∧ fty.Rd w w.heap.size (.agg #[.slice A n c, .int .i64 x]) dd ∧ SzC 21 fty (.agg #[.slice A n c, .int .i64 x]) dd w ∧ (Lit.int .i64 dd.2).wf = true := by
  obtain ⟨v0, v1, y0, y1, n, rfl, _, _, h0, h1⟩ := open_agg2 Tryz.underlying29 (by kernel_rfl) (by kernel_rfl) hv h
  obtain ⟨A, n', c, ps, rfl, hP, hn⟩ := pods_read h0
  obtain ⟨x, e0, hw0⟩ := DataW.trod_int Tryz.underlying3 h1
  injection e0 with e0
  subst e0
  obtain rfl : ps.length = n' := hP.1
  exact ⟨_, _, _, _, (ps, x), rfl, ⟨A, c, rfl, hP⟩, szFleet_any A c (ps, x) w hn, hw0.2⟩
end
end Go.Proofs.YtlghdmakaocokaaGreatDoor.FleetTy
