import Derived.Deep.MidRow
import Derived.Laws.CopyRow
import Derived.Lib.SlKeysI
import Derived.Maps.Ext
import Derived.OpenShut
import Derived.ProofKit
import Derived.Test.YtklgjjmcflgjeaaGreatDoorRows
import Derived.WalkKit
import Derived.Test.YtklgjjmcflgjeaaGreatDoorC00
import Derived.Test.YtklgjjmcflgjeaaGreatDoorC01
set_option linter.unusedVariables false
set_option linter.unusedSimpArgs false
namespace Go.Proofs.YtklgjjmcflgjeaaGreatDoor.FleetTy
open Go.ChangeShapes Go.WideShapes Go.ChangeAt Go.RowKit Go.Joins Go.Deep
open LK Pods
abbrev FD := PList × Int
def FRd (w : World) (B : Nat) (v : Value) (d : FD) : Prop := ∃ A c, v = .agg #[.slice A d.1.length c, .int .i64 d.2] ∧ IsPods w B A d.1.length d.1
def FOwn (w : World) (S : Nat → Prop) (v : Value) (d : FD) : Prop := ∃ A c, v = .agg #[.slice A d.1.length c, .int .i64 d.2] ∧ OwnP w 0 A d.1.length c d.1 ∧ (∀ k, (Value.slice A d.1.length c).ownBlock = some k → S k)
def fty : Ty where
  D := FD
  Rd := FRd
  Own := FOwn
  Few := fun d => d.1.length ≤ 1048576
  cnt := fun d => 5 * d.1.length
  mark := fun k d => (marksP k d.1.length, d.2)
  rd_below := by
    rintro w w' B C v d ⟨A, c, rfl, h1⟩ hb hC
    exact ⟨A, c, rfl, h1.below hb hC⟩
  own_rd := by
    rintro w S v d B ⟨A, c, rfl, h1, s1⟩ hB
    exact ⟨A, c, rfl, h1.pods (fun k hk => hB k (s1 k hk))⟩
  own_same := by
    rintro w w' S v d ⟨A, c, rfl, h1, s1⟩ hs
    exact ⟨A, c, rfl, h1.same (fun k hk => hs k (s1 k hk)), s1⟩
  few_cnt := by intro d h; omega
theorem shape {w : World} {lo hi : Nat} {S : Nat → Prop} {v : Value} {d : FD} (h : Has fty w lo hi S v d) : ∃ A n c x, v = .agg #[.slice A n c, .int .i64 x] := by
  obtain ⟨A, c, e, _⟩ := h.own
  exact ⟨_, _, _, _, e⟩
theorem has_of {w w' : World} {lo : Nat} {A : Option Addr} {c : Nat} {ps : PList} {x : Int} (h : OwnP w' lo A ps.length c ps) (hlo : lo ≤ w'.heap.size) : Has fty w' lo w'.heap.size (fun k => lo ≤ k ∧ k < w'.heap.size) (.agg #[.slice A ps.length c, .int .i64 x]) (ps, x) :=
  ⟨⟨A, c, rfl, h.zero, fun k hk => h.lt k hk⟩, fun k hk => hk, Nat.le_refl _⟩
theorem made_of {w w2 w3 : World} {lo : Nat} {S : Nat → Prop} {A : Option Addr} {n c : Nat} {ps : PList} {x : Int} (hb : Below w.heap.size w w2) (hO : OwnP w2 lo A n c ps) (hlo : w.heap.size ≤ lo) (hS : ∀ k, S k → w.heap.size ≤ k ∧ k < lo) (ht : Turned S w2 w3) :
    Made fty (ps, x) w (.returned (.agg #[.slice A n c, .int .i64 x])) w3 := by
  have hz := ht.size
  have hl := hO.1
  subst hl
  refine ⟨_, fun k => w.heap.size ≤ k ∧ k < w3.heap.size, rfl, ⟨⟨A, c, rfl, hO.zero.same fun k hk => ht.block k (hO.lt k hk).2 (fun e => by have := hO.lt k hk; have := hS k e; omega), fun k hk => ?_⟩, fun k hk => hk, Nat.le_refl _⟩, Turned.low hb ht (fun k hk => (hS k hk).1) hb.size⟩
  have := hO.lt k hk
  exact ⟨by omega, by omega⟩
theorem own_app {w' : World} {base n : Nat} {v' : Value} {ps : PList} {p : Pd} (hl : ps.length = n) (h : w'.ownsRow base 96 5 v' (n + 1) (flat ps ++ cells5 p)) : ∃ A c, v' = .slice A (n + 1) c ∧ OwnP w' base A (n + 1) c (ps ++ [p]) := by
  obtain ⟨g, cap, rfl, _⟩ := h.form (by omega)
  exact ⟨_, _, rfl, by simp [hl], by rw [flat_app, flat_one]; exact h⟩
set_option maxHeartbeats 800000 in
theorem szFleet_any (A : Option Addr) (c : Nat) (d : FD) (w : World) (h : d.1.length ≤ maxLen) : SzC 117 fty (.agg #[.slice A d.1.length c, .int .i64 d.2]) d w := by
  intro W k _ hk0 hk1
  obtain ⟨ps, x⟩ := d
  obtain ⟨n, hn⟩ : ∃ n, n = ps.length := ⟨_, rfl⟩
  simp only [← hn] at h ⊢
  have HN := Lib.hid hn
  clear hn
  go_enter Tryz.func117, Tryz.ntmps117
  go_wp2_with fail
  refine (szPodS_any A n c k _ h hk0 hk1).mono ?_
  rintro e w1 ⟨r, rfl, rfl | ⟨hr, h3⟩, rfl⟩
  · go_wp2
    go_ret
    exact ⟨-1, rfl, bel1 _ _, .inl rfl⟩
  · have hd : decide (r < 0) = false := by simp; omega
    have HR := Lib.hid hr
    have H3 := Lib.hid h3
    clear hr h3
    go_wp2
    go_ret
    refine ⟨r, rfl, bel1 _ _, .inr ⟨H3.out, by have := HR.out; omega, ?_⟩⟩
    show ps.length ≤ 1048576
    have := HN.out; have := HR.out; have := H3.out; omega
set_option maxRecDepth 100000 in
set_option maxHeartbeats 1600000 in
theorem toFleet_any : ToC 123 fty := by
  rintro w B v ⟨ps, x⟩ ⟨A, c, rfl, h1⟩ hB hf
  have hf : ps.length ≤ 1048576 := hf
  have H1 := Lib.hid h1
  obtain ⟨n, hn⟩ : ∃ n, n = ps.length := ⟨_, rfl⟩
  simp only [← hn] at H1 hf ⊢
  have HN := Lib.hid hn
  clear h1 hn
  go_enter Tryz.func123, Tryz.ntmps123
  go_wp2_with fail
  refine (toPodS_any A n c ps B _ (H1.out.below (bel3 _ _ _ _) hB) (by simp; omega) hf).mono ?_
  rintro e w4 ⟨g1, rfl, hO1, hb1⟩
  obtain ⟨k0, k1, k2⟩ := Rec.old3 hb1
  have hb01 : Below w.heap.size w w4 := Rec.below_alloc3 hb1
  have HO1 := Lib.hid (show OwnP w4 (w.heap.size + 1 + 1 + 1) _ _ _ _ by simpa using hO1)
  have p0 : w4.cell? ⟨w.heap.size, 1, none⟩ = some (.int .i64 x) := box_cell k0 1 _ rfl
  have p1 : w4.cell? ⟨w.heap.size + 1 + 1, 0, none⟩ = some (.slice none 0 0) := box_cell k2 0 _ rfl
  have p2 : w4.cell? ⟨w.heap.size + 1 + 1, 1, none⟩ = some (.int .i64 0) := box_cell k2 1 _ rfl
  have q0 := box_frozen k2 0
  have q1 := box_frozen k2 1
  have r0 : w4.cell? ⟨w.heap.size + 1, 0, none⟩ = some (.slice none 0 0) := box_cell k1 0 _ rfl
  have r1 : w4.cell? ⟨w.heap.size + 1, 1, none⟩ = some (.int .i64 0) := box_cell k1 1 _ rfl
  have s0 := box_frozen k1 0
  have s1 := box_frozen k1 1
  have HB := Lib.hid hb01
  have hlt : w.heap.size + 1 + 1 < w4.heap.size := box_lt k2
  clear hb1 hO1 hb01 k0 k1 k2
  go_wp2
  refine bodyPost_ret (v := .agg #[.slice (some ⟨g1, 0, none⟩) n n, .int .i64 x]) (by simp [results, Tryz.results123, go_sem, r0, r1]) rfl ?_
  have hl := HN.out
  have ht : Turned (fun k => k = w.heap.size + 1 ∨ k = w.heap.size + 1 + 1) w4 _ := (((Turned.set w4 ⟨w.heap.size + 1 + 1, 0, none⟩ (.slice (some ⟨g1, 0, none⟩) n n) (.inr rfl)).trans (Turned.set _ ⟨w.heap.size + 1 + 1, 1, none⟩ (.int .i64 x) (.inr rfl))).trans (Turned.set _ ⟨w.heap.size + 1, 0, none⟩ (.slice (some ⟨g1, 0, none⟩) n n) (.inl rfl))).trans (Turned.set _ ⟨w.heap.size + 1, 1, none⟩ (.int .i64 x) (.inl rfl))
  have hz := ht.size
  have hk : ∀ k, (Value.slice (some ⟨g1, 0, none⟩) n n).ownBlock = some k → w.heap.size + 1 + 1 + 1 ≤ k ∧ k < w4.heap.size := fun k hk => HO1.out.lt k hk
  refine ⟨_, fun k => k = g1, rfl, ⟨⟨some ⟨g1, 0, none⟩, n, by rw [hl], ?_, fun k hk => by simpa [Value.ownBlock] using hk.symm⟩, fun k hk2 => ?_, Nat.le_refl _⟩, Turned.low HB.out ht (fun k hk => by omega) HB.out.size⟩
  · rw [← hl]
    exact HO1.out.zero.same fun k hkk => ht.block k (hk k hkk).2 (by have := hk k hkk; omega)
  · subst hk2
    have := hk k rfl
    omega
set_option maxHeartbeats 800000 in
theorem eqFleet_any : EqC 124 fty := by
  rintro w B B' v v' ⟨ps, x⟩ ⟨A, c, rfl, h1⟩ ⟨C, e, rfl, g1⟩ hB hB' hf
  have hf : ps.length ≤ 1048576 := hf
  obtain ⟨n, hn⟩ : ∃ n, n = ps.length := ⟨_, rfl⟩
  simp only [← hn] at h1 g1 hf ⊢
  have H1 := Lib.hid h1
  have G1 := Lib.hid g1
  clear h1 g1 hn
  go_enter Tryz.func124, Tryz.ntmps124
  go_wp2_with fail
  refine (eqPodS_same A C n c e ps B B' _ (H1.out.below (bel2 _ _ _) hB) (G1.out.below (bel2 _ _ _) hB') (by simp; omega) (by simp; omega) hf).mono ?_
  rintro e2 w2 ⟨rfl, hb2⟩
  have hbw : Below w.heap.size w w2 := (bel2 w _ _).trans (hb2.mono (by simp; omega))
  have m0 := cell_keep hb2 (show World.cell? _ ⟨w.heap.size, 1, none⟩ = some (.int .i64 x) from by simp)
  have m1 := cell_keep hb2 (show World.cell? _ ⟨w.heap.size + 1, 1, none⟩ = some (.int .i64 x) from by simp)
  have HB := Lib.hid hbw
  clear hb2 hbw
  go_wp2
  go_ret
  exact ⟨rfl, HB.out⟩
set_option maxHeartbeats 800000 in
theorem markFleet_any : MarkC 125 fty := by
  rintro w lo hi S v ⟨ps, x⟩ k ⟨⟨A, c, rfl, h1, s1⟩, hin, hhi⟩ hf hk0 hk1
  have hf : ps.length ≤ 1048576 := hf
  obtain ⟨n, hn⟩ : ∃ n, n = ps.length := ⟨_, rfl⟩
  simp only [← hn] at h1 s1 hf ⊢
  have HN := Lib.hid hn
  have H1 := Lib.hid (h1.below (bel1 w (.cells #[.slice A n c, .int .i64 x] 35)))
  have S1 := Lib.hid s1
  have HI := Lib.hid hin
  have HHI := Lib.hid hhi
  clear h1 hn s1 hin hhi
  go_enter Tryz.func125, Tryz.ntmps125
  go_wp2_with fail
  refine (markPodS_any A n c ps 0 k _ H1.out hf hk0 (by omega)).mono ?_
  rintro e w2 ⟨rfl, hO2, hg2⟩
  have ht2 : Turned S w w2 := (Turned.of_below (bel1 w _)).trans (Turned.of_grown hg2 (fun q hq => S1.out q hq))
  have HO := Lib.hid hO2
  have HT := Lib.hid ht2
  clear hO2 hg2 ht2
  go_wp2
  go_ret
  have e1 := HN.out
  refine ⟨?_, ⟨⟨A, c, ?_, ?_, ?_⟩, HI.out, Nat.le_trans HHI.out HT.out.size⟩, HT.out⟩
  · show Ending.returned (.int .i64 (k + 5 * n)) = Ending.returned (.int .i64 (k + ((5 * ps.length : Nat) : Int)))
    rw [e1]; congr 2
  · show _ = Value.agg #[.slice A (marksP k ps.length).length c, .int .i64 x]
    rw [marksP_len, ← e1]
  · show OwnP w2 0 A (marksP k ps.length).length c (marksP k ps.length)
    rw [marksP_len, ← e1]; exact HO.out
  · show ∀ q, (Value.slice A (marksP k ps.length).length c).ownBlock = some q → S q
    rw [marksP_len, ← e1]; exact S1.out
set_option maxHeartbeats 800000 in
theorem heldFleet_any : HeldC 127 fty := by
  rintro w B v ⟨ps, x⟩ k ⟨A, c, rfl, h1⟩ hB hf hk0 hk1
  have hf : ps.length ≤ 1048576 := hf
  have h1 : IsPods w B A (marksP k ps.length).length (marksP k ps.length) := h1
  show Calls Tryz.prog 127 #[.agg #[.slice A (marksP k ps.length).length c, .int .i64 x], .int .i64 k] w (Says (.int .i64 (k + ((5 * ps.length : Nat) : Int))) w)
  rw [marksP_len] at h1 ⊢
  obtain ⟨n, hn⟩ : ∃ n, n = ps.length := ⟨_, rfl⟩
  simp only [← hn] at h1 hf ⊢
  have H1 := Lib.hid h1
  obtain ⟨q, hq⟩ : ∃ q : Int, q = k + 5 * n := ⟨_, rfl⟩
  have hq4 : k + ((5 * n : Nat) : Int) = q := by omega
  have hd : decide (q < 0) = false := by simp; omega
  rw [hq4]
  have HQ := Lib.hid hq
  clear h1 hn hq hq4
  go_enter Tryz.func127, Tryz.ntmps127
  go_wp2_with fail
  refine (heldPodS_any A n c k B _ (H1.out.below (bel1 _ _) hB) hf hk0 (by omega)).mono ?_
  rintro e w2 ⟨rfl, rfl⟩
  rw [← HQ.out]
  go_wp2
  go_ret
  exact ⟨rfl, bel1 _ _⟩
section
variable {H : Type} {enc : TypeId × Value → H} {w : World} {base : Nat} {spare : Nat → Bool} {held : Bool}
def tup5 (l : List Int) : Pd := (l.getD 0 0, l.getD 1 0, l.getD 2 0, l.getD 3 0, l.getD 4 0)
theorem flat_fields {i : Nat} {f : Field} {fs : Array Field} (h : fs.toList.zipIdx.all (fun q => q.1.offset == q.2 && q.1.type == 3) = true) (hf : fs[i]? = some f) : f.offset = i ∧ f.type = 3 := by
  have h1 : (f, i) ∈ fs.toList.zipIdx := List.mem_zipIdx_iff_getElem?.2 (by simpa using hf)
  have h2 := List.all_eq_true.1 h _ h1
  simpa using h2
theorem pods_read {fuel : Nat} {v : Value} {x : DataW H × List MemPlace} (h : DataW.trod enc Tryz.prog w base spare held fuel 55 [v] = some x) : ∃ A n c ps, v = .slice A n c ∧ IsPods w w.heap.size A n ps ∧ n ≤ maxLen := by
  obtain ⟨A, n, c, f, rfl, hn, hc⟩ := FlatOpen.open_flats (k := 5) Tryz.underlying55 Tryz.underlying289 (by kernel_rfl) rfl (by omega) (fun i f hf => flat_fields (by kernel_rfl) hf) h
  refine ⟨A, n, c, (List.range n).map (fun j => tup5 (f j)), rfl, ⟨by simp, fun hp => ?_⟩, hn⟩
  obtain ⟨b, off, rfl, hb, hj⟩ := hc hp
  refine ⟨b, off, rfl, hb, fun j hjn => ?_⟩
  obtain ⟨hl, _, hcell⟩ := hj j hjn
  have e : ((List.range n).map (fun j => tup5 (f j))).getD j z5 = tup5 (f j) := by simp [List.getD, hjn]
  rw [e]
  have hg : ∀ i, i < 5 → w.cell? ⟨b, off + (j * 5 + i), none⟩ = some (.int .i64 ((f j).getD i 0)) := by
    intro i hi
    rw [hcell i hi]
    simp [List.getD, show i < (f j).length by omega]
  exact ⟨hg 0 (by omega), hg 1 (by omega), hg 2 (by omega), hg 3 (by omega), hg 4 (by omega)⟩
end
end Go.Proofs.YtklgjjmcflgjeaaGreatDoor.FleetTy
namespace Go.Proofs.YtklgjjmcflgjeaaGreatDoor.FleetV
open Pods
def Asc (ps : PList) : Prop := ps.Pairwise fun p q => p.1 < q.1
instance (ps : PList) : Decidable (Asc ps) := by unfold Asc; infer_instance
def ent (p : Pd) : Lit × DataW Value := (.int .i64 p.1, .held (podV p))
def mapOf (ps : PList) : DataW Value := .map (ps.map ent)
def rdP : Value → Option (DataW Value × List MemPlace) := fun v => some (.held v, [])
def PodOk (p : Pd) : Prop := (1 ≤ p.1 ∧ p.1 ≤ 1000000000) ∧ (1 ≤ p.2.1 ∧ p.2.1 ≤ 1000) ∧ (0 ≤ p.2.2.1 ∧ p.2.2.1 ≤ 4) ∧ (0 ≤ p.2.2.2.1 ∧ p.2.2.2.1 ≤ 1000000000) ∧ 0 ≤ p.2.2.2.2 ∧ p.2.2.2.2 ≤ 1000000000
instance (p : Pd) : Decidable (PodOk p) := by unfold PodOk; infer_instance
def FGood (ps : PList) (nx : Int) : Prop := ps.length ≤ 30 ∧ (1 ≤ nx ∧ nx ≤ 1000000000) ∧ (∀ p ∈ ps, PodOk p ∧ p.1 < nx) ∧ Asc ps
instance (ps : PList) (nx : Int) : Decidable (FGood ps nx) := by unfold FGood; infer_instance
end Go.Proofs.YtklgjjmcflgjeaaGreatDoor.FleetV
namespace Go.Proofs.YtklgjjmcflgjeaaGreatDoor.Tick
open Go.ChangeShapes Go.WideShapes Go.ChangeAt Go.RowKit
def inB (x lo hi : Int) : Bool := decide (lo ≤ x) && decide (x ≤ hi)
def tokB (t : Int) : Bool := decide (0 ≤ t) && decide (t ≤ 1000000000)
def sinceV (a b : Int) : Int := if tokB a && tokB b then max 0 (b - a) else -1
theorem tok_t {t : Int} (h : tokB t = true) : 0 ≤ t ∧ t ≤ 1000000000 := by simpa [tokB] using h
theorem tok_f {t : Int} (h : tokB t = false) : t < 0 ∨ 1000000000 < t := by
  have h' : ¬ (0 ≤ t ∧ t ≤ 1000000000) := by intro c; simp [tokB, c] at h
  omega
theorem in_t {x lo hi : Int} (h : inB x lo hi = true) : lo ≤ x ∧ x ≤ hi := by simpa [inB] using h
theorem in_f {x lo hi : Int} (h : inB x lo hi = false) : x < lo ∨ hi < x := by
  have h' : ¬ (lo ≤ x ∧ x ≤ hi) := by intro c; simp [inB, c] at h
  omega
set_option maxHeartbeats 400000 in
theorem l01In_any (x lo hi : Int) (w : World) :
    Calls Tryz.prog 37 #[.int .i64 x, .int .i64 lo, .int .i64 hi] w fun e w' => e = .returned (.bool (inB x lo hi)) ∧ w = w' := by
  by_cases h0 : lo ≤ x <;> by_cases h1 : x ≤ hi
  all_goals
    go_enter Tryz.func37, Tryz.ntmps37
    go_wp2
    go_ret
    exact ⟨by simp [inB, h0, h1], rfl⟩
theorem specTickOk_any (t : Int) (w : World) :
    Calls Tryz.prog 212 #[.int .i64 t] w fun e w' => e = .returned (.bool (tokB t)) ∧ w = w' := by
  go_enter Tryz.func212, Tryz.ntmps212
  go_wp2_with (go_at_call 37; refine (l01In_any _ _ _ _).mono ?_; rintro e w' ⟨rfl, rfl⟩)
  go_ret
  exact ⟨rfl, rfl⟩
theorem ok_any (t : Int) (w : World) :
    Calls Tryz.prog 202 #[.int .i64 t] w fun e w' => e = .returned (.bool (tokB t)) ∧ w = w' := by
  by_cases h0 : 0 ≤ t <;> by_cases h1 : t ≤ 1000000000
  all_goals
    go_enter Tryz.func202, Tryz.ntmps202
    go_wp2
    go_ret
    exact ⟨by simp [tokB, h0, h1], rfl⟩
theorem tickOk_any (t : Int) (w : World) :
    Calls Tryz.prog 155 #[.int .i64 t] w fun e w' => e = .returned (.bool (tokB t)) ∧ w = w' := by
  go_enter Tryz.func155, Tryz.ntmps155
  go_wp2_with (go_at_call 202; refine (ok_any _ _).mono ?_; rintro e w' ⟨rfl, rfl⟩)
  go_ret
  exact ⟨rfl, rfl⟩
theorem ret_int {k : IntKind} {a b : Int} (h : a = b) : Ending.returned (.int k a) = .returned (.int k b) := by rw [h]
set_option maxHeartbeats 800000 in
theorem since_any (t from0 : Int) (w : World) :
    Calls Tryz.prog 291 #[.int .i64 t, .int .i64 from0] w fun e w' => e = .returned (.int .i64 (sinceV from0 t)) ∧ w = w' := by
  cases h0 : tokB t <;> cases h1 : tokB from0
  · have HV : Hid (sinceV from0 t = -1) := (by simp [sinceV, h1] : sinceV from0 t = -1)
    go_enter Tryz.func291, Tryz.ntmps291
    go_wp2_with (go_at_call 202; refine (ok_any _ _).mono ?_; rintro e w' ⟨rfl, rfl⟩)
    go_ret
    exact ⟨ret_int HV.out.symm, rfl⟩
  · have HV : Hid (sinceV from0 t = -1) := (by simp [sinceV, h0] : sinceV from0 t = -1)
    go_enter Tryz.func291, Tryz.ntmps291
    go_wp2_with (go_at_call 202; refine (ok_any _ _).mono ?_; rintro e w' ⟨rfl, rfl⟩)
    go_ret
    exact ⟨ret_int HV.out.symm, rfl⟩
  · have HV : Hid (sinceV from0 t = -1) := (by simp [sinceV, h1] : sinceV from0 t = -1)
    go_enter Tryz.func291, Tryz.ntmps291
    go_wp2_with (go_at_call 202; refine (ok_any _ _).mono ?_; rintro e w' ⟨rfl, rfl⟩)
    go_ret
    exact ⟨ret_int HV.out.symm, rfl⟩
  · have HV : Hid (sinceV from0 t = max 0 (t - from0)) := (by simp [sinceV, h0, h1] : sinceV from0 t = max 0 (t - from0))
    have b0 := tok_t h0
    have b1 := tok_t h1
    go_enter Tryz.func291, Tryz.ntmps291
    go_wp2_with (go_at_call 202; refine (ok_any _ _).mono ?_; rintro e w' ⟨rfl, rfl⟩)
    all_goals
      go_ret
      exact ⟨ret_int (by rw [HV.out]; omega), rfl⟩
theorem sinceI_any (a b : Int) (w : World) :
    Calls Tryz.prog 244 #[.int .i64 a, .int .i64 b] w fun e w' => e = .returned (.int .i64 (sinceV a b)) ∧ w = w' := by
  go_enter Tryz.func244, Tryz.ntmps244
  go_wp2_with (go_at_call 291; refine (since_any _ _ _).mono ?_; rintro e w' ⟨rfl, rfl⟩)
  go_ret
  exact ⟨rfl, rfl⟩
end Go.Proofs.YtklgjjmcflgjeaaGreatDoor.Tick
namespace Go.Proofs.YtklgjjmcflgjeaaGreatDoor.Sp
open Go.ChangeShapes Go.WideShapes Go.ChangeAt Go.RowKit Go.Joins Go.Deep
open LK
open Tick (inB in_t in_f l01In_any)
def specB (x0 x1 x2 x3 x4 x5 x6 x7 x8 x9 x10 : Int) : Bool := inB x0 1 12 && inB x1 0 x0 && inB x2 0 x0 && decide (0 < x1 + x2) && inB x3 0 1000 && inB x4 0 20 && inB x5 1 x6 && decide (x6 ≤ 10000) && inB x7 1 100000 && inB x8 1 100000 && inB x9 0 x0 && inB x10 0 1000
theorem flat_fields {i : Nat} {f : Field} {fs : Array Field} (h : fs.toList.zipIdx.all (fun q => q.1.offset == q.2 && q.1.type == 3) = true) (hf : fs[i]? = some f) : f.offset = i ∧ f.type = 3 := by
  have h1 : (f, i) ∈ fs.toList.zipIdx := List.mem_zipIdx_iff_getElem?.2 (by simpa using hf)
  have h2 := List.all_eq_true.1 h _ h1
  simpa using h2
section
variable {H : Type} {enc : TypeId × Value → H} {w : World} {base : Nat} {spare : Nat → Bool} {held : Bool}
end
set_option maxHeartbeats 1600000 in
theorem toSpec_any (x0 x1 x2 x3 x4 x5 x6 x7 x8 x9 x10 : Int) (w : World) :
    Calls Tryz.prog 30 #[.agg #[.int .i64 x0, .int .i64 x1, .int .i64 x2, .int .i64 x3, .int .i64 x4, .int .i64 x5, .int .i64 x6, .int .i64 x7, .int .i64 x8, .int .i64 x9, .int .i64 x10]] w (Says (.agg #[.int .i64 x0, .int .i64 x1, .int .i64 x2, .int .i64 x3, .int .i64 x4, .int .i64 x5, .int .i64 x6, .int .i64 x7, .int .i64 x8, .int .i64 x9, .int .i64 x10]) w) := by
  go_enter Tryz.func30, Tryz.ntmps30
  go_wp2
  exact bodyPost_ret (v := .agg #[.int .i64 x0, .int .i64 x1, .int .i64 x2, .int .i64 x3, .int .i64 x4, .int .i64 x5, .int .i64 x6, .int .i64 x7, .int .i64 x8, .int .i64 x9, .int .i64 x10]) (by simp [results, Tryz.results30, go_sem]) rfl ⟨rfl, bel3 _ _ _ _⟩
set_option maxHeartbeats 1600000 in
theorem eqSpec_same (x0 x1 x2 x3 x4 x5 x6 x7 x8 x9 x10 : Int) (w : World) :
    Calls Tryz.prog 65 #[.agg #[.int .i64 x0, .int .i64 x1, .int .i64 x2, .int .i64 x3, .int .i64 x4, .int .i64 x5, .int .i64 x6, .int .i64 x7, .int .i64 x8, .int .i64 x9, .int .i64 x10], .agg #[.int .i64 x0, .int .i64 x1, .int .i64 x2, .int .i64 x3, .int .i64 x4, .int .i64 x5, .int .i64 x6, .int .i64 x7, .int .i64 x8, .int .i64 x9, .int .i64 x10]] w (Says (.bool true) w) := by
  go_enter Tryz.func65, Tryz.ntmps65
  go_wp2
  go_ret
  exact ⟨rfl, bel2 _ _ _⟩
end Go.Proofs.YtklgjjmcflgjeaaGreatDoor.Sp
namespace Go.Proofs.YtklgjjmcflgjeaaGreatDoor.Hl
open Go.ChangeShapes Go.WideShapes Go.ChangeAt Go.RowKit
open LK Sp
open Tick (inB in_t in_f tokB tok_t tok_f sinceV)
open Tick (specTickOk_any)
open Tick (tickOk_any)
open Tick (sinceI_any)
def availB (x0 x1 x2 x3 x4 x5 x6 x7 x8 x9 x10 p2 p4 now : Int) : Bool := specB x0 x1 x2 x3 x4 x5 x6 x7 x8 x9 x10 && tokB now && decide (p2 = 2) && decide (x3 ≤ sinceV p4 now)
def lostB (x0 x1 x2 x3 x4 x5 x6 x7 x8 x9 x10 p2 p4 now : Int) : Bool := specB x0 x1 x2 x3 x4 x5 x6 x7 x8 x9 x10 && tokB now && (decide (p2 = 3) || ((decide (p2 = 0) || decide (p2 = 1)) && decide (x7 ≤ sinceV p4 now)))
def cutV (a : Int) : Int := if 1000000000 < a then -1 else a
def nextV (x0 x1 x2 x3 x4 x5 x6 x7 x8 x9 x10 p2 p4 : Int) : Int := if specB x0 x1 x2 x3 x4 x5 x6 x7 x8 x9 x10 && tokB p4 then (if p2 = 3 then p4 else if p2 = 2 then cutV (p4 + x3) else if p2 = 0 ∨ p2 = 1 then cutV (p4 + x7) else -1) else -1
end Go.Proofs.YtklgjjmcflgjeaaGreatDoor.Hl
namespace Go.Proofs.YtklgjjmcflgjeaaGreatDoor.EngV
open Tick (inB tokB sinceV)
open Pods FleetV
open Sp (specB)
open Hl (availB lostB nextV)
structure Spc where
  x0 : Int
  x1 : Int
  x2 : Int
  x3 : Int
  x4 : Int
  x5 : Int
  x6 : Int
  x7 : Int
  x8 : Int
  x9 : Int
  x10 : Int
def Spc.zero : Spc := ⟨0, 0, 0, 0, 0, 0, 0, 0, 0, 0, 0⟩
def Spc.ok (s : Spc) : Bool := specB s.x0 s.x1 s.x2 s.x3 s.x4 s.x5 s.x6 s.x7 s.x8 s.x9 s.x10
structure Eng where
  sp : Spc
  now : Int
  ph : Int
  tg : Int
  gd : Int
  ps : PList
  nx : Int
  st : Int
  tr : Int
  wt : Int
def zeroE : Eng := ⟨Spc.zero, 0, 0, 0, 0, [], 0, 0, 0, 0⟩
def spL (s : Spc) : List Value := [.int .i64 s.x0, .int .i64 s.x1, .int .i64 s.x2, .int .i64 s.x3, .int .i64 s.x4, .int .i64 s.x5, .int .i64 s.x6, .int .i64 s.x7, .int .i64 s.x8, .int .i64 s.x9, .int .i64 s.x10]
def flL (A : Option Addr) (n c : Nat) (nx : Int) : List Value := [.slice A n c, .int .i64 nx]
def enL (e : Eng) (A : Option Addr) (n c : Nat) : List Value := [.int .i64 e.sp.x0, .int .i64 e.sp.x1, .int .i64 e.sp.x2, .int .i64 e.sp.x3, .int .i64 e.sp.x4, .int .i64 e.sp.x5, .int .i64 e.sp.x6, .int .i64 e.sp.x7, .int .i64 e.sp.x8, .int .i64 e.sp.x9, .int .i64 e.sp.x10,
  .int .i64 e.now, .int .i64 e.ph, .int .i64 e.tg, .int .i64 e.gd, .slice A n c, .int .i64 e.nx, .int .i64 e.st, .int .i64 e.tr, .int .i64 e.wt]
def flV (A : Option Addr) (n c : Nat) (nx : Int) : Value := .agg (flL A n c nx).toArray
def enV (e : Eng) (A : Option Addr) (n c : Nat) : Value := .agg (enL e A n c).toArray
theorem enL_sp (e : Eng) (A : Option Addr) (n c : Nat) : ((enL e A n c).drop 0).take (spL e.sp).length = spL e.sp := rfl
theorem enL_fl (e : Eng) (A : Option Addr) (n c : Nat) : ((enL e A n c).drop 15).take (flL A n c e.nx).length = flL A n c e.nx := rfl
theorem enL_all (e : Eng) (A : Option Addr) (n c : Nat) : ((enL e A n c).drop 0).take (enL e A n c).length = enL e A n c := rfl
theorem spL_one (s : Spc) : ∀ v ∈ spL s, v.oneCell' = true := by simp [spL, Value.oneCell']
theorem flL_one (A : Option Addr) (n c : Nat) (nx : Int) : ∀ v ∈ flL A n c nx, v.oneCell' = true := by simp [flL, Value.oneCell']
theorem enL_one (e : Eng) (A : Option Addr) (n c : Nat) : ∀ v ∈ enL e A n c, v.oneCell' = true := by simp [enL, Value.oneCell']
end Go.Proofs.YtklgjjmcflgjeaaGreatDoor.EngV
namespace Go.Proofs.YtklgjjmcflgjeaaGreatDoor.Seg
open Go.ChangeShapes Go.WideShapes Go.ChangeAt Go.RowKit
open LK
section
variable {P : Program} {ops : Array Oper} {rest : List Oper} {o : Oper} {a : Act} {w : World} {Q : Exit → Act → World → Prop}
theorem wpList_wanted (hw : Region.wanted o (yielded ops a.tmps) = true) (h : ∀ K : Act → World → Prop, (∀ a w, wpList P ops Q rest a w → K a w) → o.wp P a w K Q) : wpList P ops Q (o :: rest) a w :=
  wpList_step fun K hK => by simp only [hw, if_true]; exact h K hK
theorem range_of {b off : Nat} {cs vs : List Value} {t : TypeId} {fr : Nat × Nat} (hb : w.heap[b]? = some (.cells cs.toArray t fr)) (hv : (cs.drop off).take vs.length = vs) : w.rangeAt b off vs := fun j v hj => by
  rw [cell_of_row w b (off + j) cs.toArray t fr hb]
  have hl : j < vs.length := (List.getElem?_eq_some_iff.1 hj).1
  have h2 : ((cs.drop off).take vs.length)[j]? = some v := by rw [hv]; exact hj
  rw [List.getElem?_take_of_lt hl, List.getElem?_drop] at h2
  simpa using h2
theorem wpList_get (hgd : o.guard = none) (ty : TypeId) (x : Operand) (ho : o.op = .load ty x) (b off : Nat) (hx : a.eval x = .pointer (some ⟨b, off, none⟩)) {cs : List Value} {t : TypeId} {fr : Nat × Nat}
    (hb : w.heap[b]? = some (.cells cs.toArray t fr)) (vs : List Value) (hv : (cs.drop off).take vs.length = vs) {d : TypeDesc} (hu : P.underlying ty = some d) (hd : d.isRow = true) (hi : (P.info? ty).map (·.size) = some vs.length)
    (h : wpList P ops Q rest (a.put o.dst (.agg vs.toArray)) w) : wpList P ops Q (o :: rest) a w :=
  wpList_load_mid hgd ty x ho b off hx vs d (range_of hb hv) hu hd hi h
theorem wpList_getG (hw : Region.wanted o (yielded ops a.tmps) = true) (ty : TypeId) (x : Operand) (ho : o.op = .load ty x) (b off : Nat) (hx : a.eval x = .pointer (some ⟨b, off, none⟩)) {cs : List Value} {t : TypeId} {fr : Nat × Nat}
    (hb : w.heap[b]? = some (.cells cs.toArray t fr)) (vs : List Value) (hv : (cs.drop off).take vs.length = vs) {d : TypeDesc} (hu : P.underlying ty = some d) (hd : d.isRow = true) (hi : (P.info? ty).map (·.size) = some vs.length)
    (h : wpList P ops Q rest (a.put o.dst (.agg vs.toArray)) w) : wpList P ops Q (o :: rest) a w :=
  wpList_wanted hw fun _ hK => wp_load_mid ty x ho b off hx vs d (range_of hb hv) hu hd hi (hK _ _ h)
theorem run_putAt {b off : Nat} {t T : TypeId} {cur vs new : List Value} (hb : w.heap[b]? = some (.cells cur.toArray T (0, 0))) (hi : (P.info? t).map (·.size) = some vs.length) (hl : off + vs.length ≤ cur.length) (hn : cur.take off ++ vs ++ cur.drop (off + vs.length) = new) (h1 : ∀ v ∈ vs, v.oneCell' = true) :
    (Instr.storeAt t (.pointer (some ⟨b, off, none⟩)) (.agg vs.toArray)).run P w = .ok () (w.setRow b new.toArray) := by
  have h := run_storeCells_at (P := P) b off T vs 0 cur.toArray w hb (by simpa using hl) h1
  simp only [Nat.add_zero] at h
  rw [← hn]
  cases hq : P.info? t with
  | none => simp [hq] at hi
  | some i =>
    have hs : vs.length = i.size := by simp [hq] at hi; omega
    simp only [Instr.storeAt, Instr.sureAddr, Sem.run_bind, Sem.run_pure, Result.andThen_ok]
    simp [storeVar, sizeOf, typeInfo, hq, Value.cells, hs]
    rw [← hs]
    simpa [List.append_assoc] using h
theorem wpList_put (hgd : o.guard = none) (hd : o.dst = none) (t : TypeId) (x y : Operand) (hop : o.op = Op.store t x y) (b off : Nat) (vs : List Value) (hx : a.eval x = .pointer (some ⟨b, off, none⟩)) (hy : a.eval y = .agg vs.toArray)
    {cur : List Value} {T : TypeId} (hb : w.heap[b]? = some (.cells cur.toArray T (0, 0))) (hi : (P.info? t).map (·.size) = some vs.length) (new : List Value) (hn : cur.take off ++ vs ++ cur.drop (off + vs.length) = new) (hl : off + vs.length ≤ cur.length) (h1 : ∀ v ∈ vs, v.oneCell' = true)
    (hK : wpList P ops Q rest a (w.setRow b new.toArray)) : wpList P ops Q (o :: rest) a w := by
  refine wpList_plain hgd fun K' hK' => ?_
  unfold Oper.wp
  have hr := run_putAt (P := P) (t := t) hb hi hl hn h1
  have he : (execOp a.eval o).run P w = .ok .skip (w.setRow b new.toArray) := by
    unfold execOp
    rw [hop]
    dsimp only
    rw [hx, hy]
    simp only [Sem.run_bind, hr, Result.andThen_ok]
    rfl
  rw [he, Oper.upon_skip, hd]
  exact hK' _ _ hK
theorem set_row {b i : Nat} {cur : List Value} {T : TypeId} (hb : w.heap[b]? = some (.cells cur.toArray T (0, 0))) (v : Value) (new : List Value) (hn : cur.set i v = new) : w.setCell ⟨b, i, none⟩ v = w.setRow b new.toArray := by
  rw [setCell_eq_setRow w b i cur.toArray T (0, 0) v hb, ← hn]
  congr 1
  simp
theorem set_box {b i : Nat} {cur : List Value} {T : TypeId} (hb : w.heap[b]? = some (.cells cur.toArray T (0, 0))) (v : Value) : (w.setCell ⟨b, i, none⟩ v).heap[b]? = some (.cells (cur.set i v).toArray T (0, 0)) := by
  rw [set_row hb v (cur.set i v) rfl]
  exact setRow_heap w b cur.toArray _ T (0, 0) hb
theorem row_turned (w : World) (b : Nat) (vs : Array Value) : Turned (fun k => k = b) w (w.setRow b vs) :=
  ⟨rfl, rfl, rfl, by simp, fun k _ hk => setRow_other w b k vs hk⟩
theorem row_box {b : Nat} {cur vs : Array Value} {T : TypeId} (h : w.heap[b]? = some (.cells cur T (0, 0))) : (w.setRow b vs).heap[b]? = some (.cells vs T (0, 0)) := setRow_heap w b cur vs T (0, 0) h
theorem row_far {b k : Nat} {vs : Array Value} {ob : Obj} (h : w.heap[k]? = some ob) (hne : k ≠ b) : (w.setRow b vs).heap[k]? = some ob := (setRow_other w b k vs hne).trans h
theorem row_below {B : Nat} {v V : World} (h : Below B v V) (b : Nat) (vs : Array Value) (hb : B ≤ b) (hV : B ≤ V.heap.size) : Below B v (V.setRow b vs) :=
  Turned.low h (row_turned V b vs) (fun k hk => by omega) hV
theorem set_below {B : Nat} {v V : World} (h : Below B v V) (b i : Nat) (x : Value) (hb : B ≤ b) (hV : B ≤ V.heap.size) : Below B v (V.setCell ⟨b, i, none⟩ x) :=
  Turned.low h (Turned.set (S := fun k => k = b) V ⟨b, i, none⟩ x rfl) (fun k hk => by omega) hV
theorem results_box {fn : Func} {p : Tmp} {ty : TypeId} (h : fn.results = #[.cell p ty]) (tmps : Array Value) {b : Nat} {cs : List Value} {t : TypeId} {fr : Nat × Nat} (hp : tmps.getD p undef = .pointer (some ⟨b, 0, none⟩)) (hb : w.heap[b]? = some (.cells cs.toArray t fr))
    {d : TypeDesc} (hu : P.underlying ty = some d) (hd : d.isRow = true) (hi : (P.info? ty).map (·.size) = some cs.length) : (results fn tmps).run P w = .ok (.agg cs.toArray) w :=
  results_cell_row h tmps w b t cs.toArray fr d hp hb hu (by cases d <;> simp_all) (by simpa using hi)
theorem results_box_tmp {fn : Func} {p q : Tmp} {ty : TypeId} (h : fn.results = #[.cell p ty, .tmp q]) (tmps : Array Value) {b : Nat} {cs : List Value} {t : TypeId} {fr : Nat × Nat} (hp : tmps.getD p undef = .pointer (some ⟨b, 0, none⟩)) {x : Value} (hx : tmps.getD q undef = x) (hb : w.heap[b]? = some (.cells cs.toArray t fr))
    {d : TypeDesc} (hu : P.underlying ty = some d) (hd : d.isRow = true) (hi : (P.info? ty).map (·.size) = some cs.length) : (results fn tmps).run P w = .ok (.tuple #[.agg cs.toArray, x]) w := by
  have hp' : tmps[p]?.getD undef = .pointer (some ⟨b, 0, none⟩) := by simpa using hp
  have hx' : tmps[q]?.getD undef = x := by simpa using hx
  simp [results, h, hp', hx', asAddr, run_loadVar_mid w b 0 ty cs d (range_of hb List.take_length) hu hd hi]
theorem wp_put {K : Act → World → Prop} (hd : o.dst = none) (t : TypeId) (x y : Operand) (hop : o.op = Op.store t x y) (b off : Nat) (vs : List Value) (hx : a.eval x = .pointer (some ⟨b, off, none⟩)) (hy : a.eval y = .agg vs.toArray)
    {cur : List Value} {T : TypeId} (hb : w.heap[b]? = some (.cells cur.toArray T (0, 0))) (hi : (P.info? t).map (·.size) = some vs.length) (new : List Value) (hn : cur.take off ++ vs ++ cur.drop (off + vs.length) = new) (hl : off + vs.length ≤ cur.length) (h1 : ∀ v ∈ vs, v.oneCell' = true)
    (hK : K a (w.setRow b new.toArray)) : o.wp P a w K Q := by
  unfold Oper.wp
  have hr := run_putAt (P := P) (t := t) hb hi hl hn h1
  have he : (execOp a.eval o).run P w = .ok .skip (w.setRow b new.toArray) := by
    unfold execOp
    rw [hop]
    dsimp only
    rw [hx, hy]
    simp only [Sem.run_bind, hr, Result.andThen_ok]
    rfl
  rw [he, Oper.upon_skip, hd]
  exact hK
end
end Go.Proofs.YtklgjjmcflgjeaaGreatDoor.Seg
