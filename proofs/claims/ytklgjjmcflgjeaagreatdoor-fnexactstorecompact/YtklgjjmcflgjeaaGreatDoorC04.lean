import Derived.Test.YtklgjjmcflgjeaaGreatDoorC00
import Derived.Test.YtklgjjmcflgjeaaGreatDoorC01
set_option linter.unusedVariables false
set_option linter.unusedSimpArgs false
namespace Go.Proofs.YtklgjjmcflgjeaaGreatDoor.Jour
open Go.ChangeShapes Go.WideShapes Go.ChangeAt Go.RowKit Go.Joins Go.Deep
open Bytes LK
open Ints (below_drewN)
abbrev JD := List Int × List Int × Int
def JRd (w : World) (B : Nat) (v : Value) (d : JD) : Prop := ∃ A1 c1 A2 c2, v = .agg #[.slice A1 d.1.length c1, .slice A2 d.2.1.length c2, .int .i64 d.2.2] ∧ IsBytes w B A1 d.1.length d.1 ∧ IsBytes w B A2 d.2.1.length d.2.1
def JOwn (w : World) (S : Nat → Prop) (v : Value) (d : JD) : Prop := ∃ A1 c1 A2 c2, v = .agg #[.slice A1 d.1.length c1, .slice A2 d.2.1.length c2, .int .i64 d.2.2] ∧ OwnB w 0 A1 d.1.length c1 d.1 ∧ OwnB w 0 A2 d.2.1.length c2 d.2.1 ∧
  (∀ k, (Value.slice A1 d.1.length c1).ownBlock = some k → S k) ∧ (∀ k, (Value.slice A2 d.2.1.length c2).ownBlock = some k → S k) ∧ (∀ k, (Value.slice A1 d.1.length c1).ownBlock = some k → (Value.slice A2 d.2.1.length c2).ownBlock ≠ some k)
theorem own_base {w : World} {b b' : Nat} {A : Option Addr} {n c : Nat} {zs : List Int} (h : OwnB w b A n c zs) (hb : ∀ k, (Value.slice A n c).ownBlock = some k → b' ≤ k) : OwnB w b' A n c zs := by
  refine ⟨h.1, h.2.1, h.2.2.1, ?_⟩
  rcases h.2.2.2 with h2 | ⟨g, cap, cur, h3, h4, h5⟩
  · exact .inl h2
  · refine .inr ⟨g, cap, cur, h3, hb g ?_, h5⟩
    rw [h3]; rfl
theorem own_zero {w : World} {b : Nat} {A : Option Addr} {n c : Nat} {zs : List Int} (h : OwnB w b A n c zs) : OwnB w 0 A n c zs := own_base h (fun _ _ => Nat.zero_le _)
theorem own_same {w w' : World} {b : Nat} {A : Option Addr} {n c : Nat} {zs : List Int} (h : OwnB w b A n c zs) (hs : ∀ k, (Value.slice A n c).ownBlock = some k → w'.heap[k]? = w.heap[k]?) : OwnB w' b A n c zs := by
  refine ⟨h.1, h.2.1, h.2.2.1, ?_⟩
  rcases h.2.2.2 with h2 | ⟨g, cap, cur, h3, h4, h5, h6⟩
  · exact .inl h2
  · refine .inr ⟨g, cap, cur, h3, h4, ?_, h6⟩
    rw [hs g (by rw [h3]; rfl)]; exact h5
theorem own_bytes {w : World} {b B : Nat} {A : Option Addr} {n c : Nat} {zs : List Int} (h : OwnB w b A n c zs) (hs : ∀ k, (Value.slice A n c).ownBlock = some k → k < B) : IsBytes w B A n zs := by
  obtain ⟨h1, h2, h3⟩ := h.bytes
  refine ⟨h1, h2, fun hn => ?_⟩
  obtain ⟨g, off, e, _, h4⟩ := h3 hn
  exact ⟨g, off, e, hs g (by rw [e]; rfl), h4⟩
def jty : Ty where
  D := JD
  Rd := JRd
  Own := JOwn
  Few := fun d => d.1.length + d.2.1.length ≤ 1048576
  cnt := fun d => d.1.length + d.2.1.length
  mark := fun k d => (marksB k d.1.length, marksB (k + d.1.length) d.2.1.length, d.2.2)
  rd_below := by
    rintro w w' B C v d ⟨A1, c1, A2, c2, rfl, h1, h2⟩ hb hC
    exact ⟨A1, c1, A2, c2, rfl, h1.below hb hC, h2.below hb hC⟩
  own_rd := by
    rintro w S v d B ⟨A1, c1, A2, c2, rfl, h1, h2, s1, s2, _⟩ hB
    exact ⟨A1, c1, A2, c2, rfl, own_bytes h1 (fun k hk => hB k (s1 k hk)), own_bytes h2 (fun k hk => hB k (s2 k hk))⟩
  own_same := by
    rintro w w' S v d ⟨A1, c1, A2, c2, rfl, h1, h2, s1, s2, s3⟩ hs
    exact ⟨A1, c1, A2, c2, rfl, own_same h1 (fun k hk => hs k (s1 k hk)), own_same h2 (fun k hk => hs k (s2 k hk)), s1, s2, s3⟩
  few_cnt := by intro d h; omega
theorem shape {w : World} {lo hi : Nat} {S : Nat → Prop} {v : Value} {d : JD} (h : Has jty w lo hi S v d) : ∃ A m c A' n c' s, v = .agg #[.slice A m c, .slice A' n c', .int .i64 s] := by
  obtain ⟨A1, c1, A2, c2, e, _⟩ := h.own
  exact ⟨_, _, _, _, _, _, _, e⟩
theorem has_of {w w' : World} {lo : Nat} {A1 A2 : Option Addr} {c1 c2 : Nat} {x y : List Int} {s : Int} (h1 : OwnB w lo A1 x.length c1 x) (hb : Below w.heap.size w w') (h2 : OwnB w' w.heap.size A2 y.length c2 y) (hlo : lo ≤ w.heap.size) :
    Has jty w' lo w'.heap.size (fun k => lo ≤ k ∧ k < w'.heap.size) (.agg #[.slice A1 x.length c1, .slice A2 y.length c2, .int .i64 s]) (x, y, s) := by
  have hz := hb.size
  refine ⟨⟨A1, c1, A2, c2, rfl, own_zero (h1.below hb), own_zero h2, fun k hk => ?_, fun k hk => ?_, fun k hk e => ?_⟩, fun k hk => hk, Nat.le_refl _⟩
  · have := h1.lt k hk; omega
  · have := h2.lt k hk; omega
  · have := h1.lt k hk; have := h2.lt k e; omega
theorem ob (A : Option Addr) (n c n' c' : Nat) : (Value.slice A n c).ownBlock = (Value.slice A n' c').ownBlock := by cases A <;> rfl
theorem made1_of {w w5 w6 : World} {lo hi : Nat} {S0 S : Nat → Prop} {v x : Value} {d : JD} (hH : Has jty w5 lo hi S0 v d) (hb : Below w.heap.size w w5) (ht : Turned S w5 w6) (hlo : w.heap.size ≤ lo) (hS : ∀ k, S k → w.heap.size ≤ k) (hd : ∀ k, S0 k → ¬ S k) :
    Made1 jty d x w (.returned (.tuple #[v, x])) w6 := by
  have h := hH.turned ht hd
  exact ⟨v, S0, rfl, ⟨h.own, fun k hk => by have := h.inn k hk; have := h.hi; omega, Nat.le_refl _⟩, Turned.low hb ht hS hb.size⟩
theorem sets5 {S : Nat → Prop} {w : World} {p1 p2 p3 p4 p5 : Addr} {u1 u2 u3 u4 u5 : Value} (h1 : S p1.block) (h2 : S p2.block) (h3 : S p3.block) (h4 : S p4.block) (h5 : S p5.block) :
    Turned S w (((((w.setCell p1 u1).setCell p2 u2).setCell p3 u3).setCell p4 u4).setCell p5 u5) :=
  ((((Turned.set w p1 u1 h1).trans (Turned.set _ p2 u2 h2)).trans (Turned.set _ p3 u3 h3)).trans (Turned.set _ p4 u4 h4)).trans (Turned.set _ p5 u5 h5)
theorem sets3 {S : Nat → Prop} {w : World} {p1 p2 p3 : Addr} {u1 u2 u3 : Value} (h1 : S p1.block) (h2 : S p2.block) (h3 : S p3.block) :
    Turned S w (((w.setCell p1 u1).setCell p2 u2).setCell p3 u3) :=
  ((Turned.set w p1 u1 h1).trans (Turned.set _ p2 u2 h2)).trans (Turned.set _ p3 u3 h3)
theorem made_of {w w4 w5 w6 : World} {S : Nat → Prop} {A1 A2 : Option Addr} {m n c1 c2 : Nat} {x y : List Int} {s : Int} (hb : Below w.heap.size w w5) (h1 : OwnB w5 w.heap.size A1 m c1 x) (h2 : OwnB w5 w4.heap.size A2 n c2 y)
    (hlt : ∀ k, (Value.slice A1 m c1).ownBlock = some k → k < w4.heap.size ∧ ¬ S k) (h45 : w4.heap.size ≤ w5.heap.size) (h04 : w.heap.size ≤ w4.heap.size) (hm : m = x.length) (hn : n = y.length) (ht : Turned S w5 w6) (hS : ∀ k, S k → k < w4.heap.size) (hS' : ∀ k, S k → w.heap.size ≤ k) :
    Made jty (x, y, s) w (.returned (.agg #[.slice A1 m c1, .slice A2 n c2, .int .i64 s])) w6 := by
  subst hm hn
  have hz := ht.size
  refine ⟨_, fun k => w.heap.size ≤ k ∧ k < w6.heap.size, rfl, ⟨⟨A1, c1, A2, c2, rfl, own_zero (own_same h1 fun k hk => ht.block k (h1.lt k hk).2 (hlt k hk).2), own_zero (own_same h2 fun k hk => ht.block k (h2.lt k hk).2 (fun e => ?_)), fun k hk => ?_, fun k hk => ?_, fun k hk e => ?_⟩, fun k hk => hk, Nat.le_refl _⟩, Turned.low hb ht hS' hb.size⟩
  · have := hS k e; have := h2.lt k hk; omega
  · have := h1.lt k hk; omega
  · have := h2.lt k hk; omega
  · have := hlt k hk; have := h2.lt k e; omega
theorem szByteS_any (A : Option Addr) (n c : Nat) (k : Int) (w : World) (hn : n ≤ maxLen) (hk0 : 0 ≤ k) (hk1 : k ≤ 1048576) :
    Calls Tryz.prog 73 #[.slice A n c, .int .i64 k] w fun e w' => ∃ r : Int, e = .returned (.int .i64 r) ∧ (r = -1 ∨ (r = k - n ∧ 0 ≤ r)) ∧ w' = w := by
  have hm : (n : Int) ≤ 9223372036854775807 := by unfold maxLen at hn; omega
  by_cases h : k < n
  · have hd : decide (k - (n : Int) < 0) = true := by simp; omega
    go_enter Tryz.func73, Tryz.ntmps73
    go_wp2
    go_ret
    exact ⟨-1, rfl, .inl rfl, rfl⟩
  · have hd : decide (k - (n : Int) < 0) = false := by simp; omega
    have HK : Hid (0 ≤ k - (n : Int)) := (by omega : 0 ≤ k - (n : Int))
    go_enter Tryz.func73, Tryz.ntmps73
    go_wp2
    go_ret
    exact ⟨k - n, rfl, .inr ⟨rfl, HK.out⟩, rfl⟩
set_option maxHeartbeats 800000 in
theorem szJournal_any (A1 A2 : Option Addr) (c1 c2 : Nat) (d : JD) (w : World) (h1 : d.1.length ≤ maxLen) (h2 : d.2.1.length ≤ maxLen) : SzC 28 jty (.agg #[.slice A1 d.1.length c1, .slice A2 d.2.1.length c2, .int .i64 d.2.2]) d w := by
  intro W k _ hk0 hk1
  obtain ⟨x, y, s⟩ := d
  obtain ⟨m, hm⟩ : ∃ m, m = x.length := ⟨_, rfl⟩
  obtain ⟨n, hn⟩ : ∃ n, n = y.length := ⟨_, rfl⟩
  simp only [← hm, ← hn] at h1 h2 ⊢
  have HM := Lib.hid hm
  have HN := Lib.hid hn
  clear hm hn
  go_enter Tryz.func28, Tryz.ntmps28
  go_wp2_with fail
  refine (szByteS_any A1 m c1 k _ h1 hk0 hk1).mono ?_
  rintro e w1 ⟨r, rfl, rfl | ⟨hr, h3⟩, rfl⟩
  · go_wp2
    go_ret
    exact ⟨-1, rfl, bel1 _ _, .inl rfl⟩
  · have hd : decide (r < 0) = false := by simp; omega
    have HRr := Lib.hid hr
    have hr1 : r ≤ 1048576 := by omega
    clear hr
    go_wp2_with fail
    refine (szByteS_any A2 n c2 r _ h2 h3 hr1).mono ?_
    rintro e w1 ⟨r2, rfl, rfl | ⟨hr2, h4⟩, rfl⟩
    · go_wp2
      go_ret
      exact ⟨-1, rfl, bel1 _ _, .inl rfl⟩
    · have hd2 : decide (r2 < 0) = false := by simp; omega
      have HR4 := Lib.hid h4
      have HR5 := Lib.hid hr2
      clear hr2 h4
      go_wp2
      go_ret
      refine ⟨r2, rfl, bel1 _ _, .inr ⟨HR4.out, by have := HR4.out; have := HR5.out; omega, ?_⟩⟩
      show x.length + y.length ≤ 1048576
      have := HM.out; have := HN.out; have := HRr.out; have := HR4.out; have := HR5.out; omega
set_option maxRecDepth 100000 in
set_option maxHeartbeats 1600000 in
theorem toJournal_any : ToC 31 jty := by
  rintro w B v ⟨x, y, s⟩ ⟨A1, c1, A2, c2, rfl, h1, h2⟩ hB hf
  have hf : x.length + y.length ≤ 1048576 := hf
  have H1 := Lib.hid h1
  have H2 := Lib.hid h2
  obtain ⟨m, hm⟩ : ∃ m, m = x.length := ⟨_, rfl⟩
  obtain ⟨n, hn⟩ : ∃ n, n = y.length := ⟨_, rfl⟩
  have hx : m ≤ 1048576 := by omega
  have hy : n ≤ 1048576 := by omega
  simp only [← hm, ← hn] at H1 H2 ⊢
  have HM := Lib.hid hm
  have HN := Lib.hid hn
  clear h1 h2 hf hm hn
  go_enter Tryz.func31, Tryz.ntmps31
  go_wp2_with fail
  refine (toByteS_any A1 m c1 x B _ (H1.out.below (bel3 _ _ _ _) hB) (by simp; omega) hx).mono ?_
  rintro e w4 ⟨g1, rfl, hg1, hO1, hb1⟩
  rw [← HM.out] at hO1 ⊢
  obtain ⟨k0, k1, k2⟩ := Rec.old3 hb1
  have hb01 : Below w.heap.size w w4 := Rec.below_alloc3 hb1
  have HO1 := Lib.hid (show OwnB w4 (w.heap.size + 1 + 1 + 1) _ _ _ _ by simpa using hO1)
  have hs4 : w.heap.size + 1 + 1 < w4.heap.size := box_lt k2
  have p1 : w4.cell? ⟨w.heap.size, 1, none⟩ = some (.slice A2 n c2) := box_cell k0 1 _ rfl
  have p2 : w4.cell? ⟨w.heap.size + 1 + 1, 0, none⟩ = some (.slice none 0 0) := box_cell k2 0 _ rfl
  have p3 := box_frozen k2 0
  have K0 := Lib.hid k0
  have K1 := Lib.hid k1
  have K2 := Lib.hid k2
  have HB1 := Lib.hid hb01
  clear hb1 hO1 hg1 k0 k1 k2 hb01
  go_wp2_with fail
  obtain ⟨V, hV⟩ : ∃ V, V = w4.setCell ⟨w.heap.size + 1 + 1, 0, none⟩ (.slice (some ⟨g1, 0, none⟩) m m) := ⟨_, rfl⟩
  have hsV : V.heap.size = w4.heap.size := by rw [hV]; simp [World.setCell]
  have hbV : Below w.heap.size w V := by rw [hV]; exact HB1.out.setCell (p := ⟨w.heap.size + 1 + 1, 0, none⟩) (by show w.heap.size ≤ w.heap.size + 1 + 1; omega) _
  have KV0 := box_other K0.out ⟨w.heap.size + 1 + 1, 0, none⟩ (.slice (some ⟨g1, 0, none⟩) m m) (by show w.heap.size ≠ w.heap.size + 1 + 1; omega)
  have KV1 := box_other K1.out ⟨w.heap.size + 1 + 1, 0, none⟩ (.slice (some ⟨g1, 0, none⟩) m m) (by show w.heap.size + 1 ≠ w.heap.size + 1 + 1; omega)
  have KV2 := box_set (i := 0) K2.out (.slice (some ⟨g1, 0, none⟩) m m)
  rw [← hV] at KV0 KV1 KV2
  have HOV : OwnB V (w.heap.size + 1 + 1 + 1) (some ⟨g1, 0, none⟩) m m x := by
    rw [hV]
    exact own_same HO1.out (fun k hk => Below.heap_setCell _ _ _ _ (by have := (HO1.out.lt k hk).1; show k ≠ w.heap.size + 1 + 1; omega))
  rw [← hV]
  refine (toByteS_any A2 n c2 y B V (H2.out.below hbV hB) (by omega) hy).mono ?_
  rintro e w5 ⟨g2, rfl, hg2, hO2, hb2⟩
  rw [← HN.out] at hO2 ⊢
  have j0 := box_below KV0 hb2
  have j1 := box_below KV1 hb2
  have j2 := box_below KV2 hb2
  have hs5 := hb2.size
  have HO1' := Lib.hid (HOV.below hb2)
  have HL1 : Hid (∀ k, (Value.slice (some ⟨g1, 0, none⟩) m m).ownBlock = some k → w.heap.size + 1 + 1 + 1 ≤ k ∧ k < V.heap.size) := fun k hk => HOV.lt k hk
  have HO2 := Lib.hid hO2
  have HBV := Lib.hid (bel_then hbV hb2 (by omega))
  have HSV := Lib.hid hsV
  clear hb2 hO2 hg2 hsV hbV KV0 KV1 KV2 HOV hV K0 K1 K2 p1 p2 p3 HO1 HB1
  have a2 := box_cell j0 2 _ rfl
  have b0 := box_cell j1 0 _ rfl
  have b1 := box_cell j1 1 _ rfl
  have b2 := box_cell j1 2 _ rfl
  have d0 := box_cell j2 0 _ rfl
  have d1 := box_cell j2 1 _ rfl
  have d2 := box_cell j2 2 _ rfl
  have e0 := box_frozen j1 0
  have e1 := box_frozen j1 1
  have e2 := box_frozen j1 2
  have g0 := box_frozen j2 1
  have g5 := box_frozen j2 2
  have hlt5 : w.heap.size + 1 + 1 < w5.heap.size := box_lt j2
  clear j0 j1 j2
  simp at a2 b0 b1 b2 d0 d1 d2
  go_wp2
  refine bodyPost_ret (v := .agg #[.slice (some ⟨g1, 0, none⟩) m m, .slice (some ⟨g2, 0, none⟩) n n, .int .i64 s]) (by simp [results, Tryz.results31, go_sem, b0, b1, b2]) rfl ?_
  refine made_of (w5 := w5) (w4 := V) HBV.out (own_base HO1'.out (fun k hk => by have := (HO1'.out.lt k hk).1; omega)) HO2.out (fun k hk => ?_) hs5 (by have := HSV.out; omega) HM.out HN.out (sets5 (S := fun k => k = w.heap.size + 1 ∨ k = w.heap.size + 1 + 1) (.inr rfl) (.inr rfl) (.inl rfl) (.inl rfl) (.inl rfl)) (fun k hk => ?_) (fun k hk => by omega)
  · have := HL1.out k hk
    omega
  · have h5 := HSV.out
    omega
set_option maxHeartbeats 800000 in
theorem eqJournal_any : EqC 32 jty := by
  rintro w B B' v v' ⟨x, y, s⟩ ⟨A1, c1, A2, c2, rfl, h1, h2⟩ ⟨C1, e1, C2, e2, rfl, g1, g2⟩ hB hB' hf
  have hf : x.length + y.length ≤ 1048576 := hf
  obtain ⟨m, hm⟩ : ∃ m, m = x.length := ⟨_, rfl⟩
  obtain ⟨n, hn⟩ : ∃ n, n = y.length := ⟨_, rfl⟩
  have hx : m ≤ 1048576 := by omega
  have hy : n ≤ 1048576 := by omega
  simp only [← hm, ← hn] at h1 h2 g1 g2 ⊢
  have H1 := Lib.hid (h1.below (bel2 w (.cells #[.slice A1 m c1, .slice A2 n c2, .int .i64 s] 32) (.cells #[.slice C1 m e1, .slice C2 n e2, .int .i64 s] 32)) hB)
  have H2 := Lib.hid (h2.below (bel2 w (.cells #[.slice A1 m c1, .slice A2 n c2, .int .i64 s] 32) (.cells #[.slice C1 m e1, .slice C2 n e2, .int .i64 s] 32)) hB)
  have G1 := Lib.hid (g1.below (bel2 w (.cells #[.slice A1 m c1, .slice A2 n c2, .int .i64 s] 32) (.cells #[.slice C1 m e1, .slice C2 n e2, .int .i64 s] 32)) hB')
  have G2 := Lib.hid (g2.below (bel2 w (.cells #[.slice A1 m c1, .slice A2 n c2, .int .i64 s] 32) (.cells #[.slice C1 m e1, .slice C2 n e2, .int .i64 s] 32)) hB')
  clear h1 h2 g1 g2 hm hn hf
  go_enter Tryz.func32, Tryz.ntmps32
  go_wp2_with fail
  refine (eqByteS_same A1 C1 m c1 e1 x B B' _ H1.out G1.out hx).mono ?_
  rintro e w2 ⟨rfl, m1, rfl⟩
  go_wp2_with fail
  refine (eqByteS_same A2 C2 n c2 e2 y B B' _ (by exact H2.out) (by exact G2.out) hy).mono ?_
  rintro e w2 ⟨rfl, m2, rfl⟩
  go_wp2
  go_ret
  exact ⟨rfl, below_drewN (bel2 _ _ _) _⟩
set_option maxHeartbeats 800000 in
theorem markJournal_any : MarkC 33 jty := by
  rintro w lo hi S v ⟨x, y, s⟩ k ⟨⟨A1, c1, A2, c2, rfl, h1, h2, s1, s2, s3⟩, hin, hhi⟩ hf hk0 hk1
  have hf : x.length + y.length ≤ 1048576 := hf
  obtain ⟨m, hm⟩ : ∃ m, m = x.length := ⟨_, rfl⟩
  obtain ⟨n, hn⟩ : ∃ n, n = y.length := ⟨_, rfl⟩
  have hx : m ≤ 1048576 := by omega
  have hy : n ≤ 1048576 := by omega
  simp only [← hm, ← hn] at h1 h2 s1 s2 s3 ⊢
  have HM := Lib.hid hm
  have HN := Lib.hid hn
  have H1 := Lib.hid (h1.alloc (.cells #[.slice A1 m c1, .slice A2 n c2, .int .i64 s] 32))
  have H2 := Lib.hid (h2.alloc (.cells #[.slice A1 m c1, .slice A2 n c2, .int .i64 s] 32))
  have S1 := Lib.hid s1
  have S2 := Lib.hid s2
  have S3 := Lib.hid s3
  have hl1 : ∀ k, (Value.slice A1 m c1).ownBlock = some k → k < w.heap.size := fun k hk => (h1.lt k hk).2
  have hl2 : ∀ k, (Value.slice A2 n c2).ownBlock = some k → k < w.heap.size := fun k hk => (h2.lt k hk).2
  have L1 := Lib.hid hl1
  have L2 := Lib.hid hl2
  have HI := Lib.hid hin
  have HHI := Lib.hid hhi
  clear h1 h2 hm hn hf s1 s2 s3 hl1 hl2 hin hhi
  go_enter Tryz.func33, Tryz.ntmps33
  go_wp2_with fail
  refine (markByteS_any A1 m c1 x k 0 _ H1.out hx hk0 (by omega)).mono ?_
  rintro e w2 ⟨rfl, hO2, hg2⟩
  have ht2 : Turned (fun q => (Value.slice A1 m c1).ownBlock = some q) (w.alloc (.cells #[.slice A1 m c1, .slice A2 n c2, .int .i64 s] 32)) w2 := Turned.of_grown hg2 (fun q hq => hq)
  have hbx := box_turned (box_new w (.cells #[.slice A1 m c1, .slice A2 n c2, .int .i64 s] 32)) ht2 (fun e => by have := L1.out _ e; omega)
  have k20 : w2.cell? ⟨w.heap.size, 1, none⟩ = some (.slice A2 n c2) := box_cell hbx 1 _ rfl
  have H22 : Hid (OwnB w2 0 A2 n c2 y) := own_same H2.out (fun q hq => ht2.block q (by have := L2.out q hq; simp; omega) (fun e => S3.out q e hq))
  have H12 := Lib.hid hO2
  have HT2 := Lib.hid ht2
  clear ht2 hbx hO2 hg2 H1 H2
  have hk2 : k + (m : Int) ≤ 300000000 := by omega
  have hk3 : 0 ≤ k + (m : Int) := by omega
  obtain ⟨q2, hq2⟩ : ∃ q2 : Int, q2 = k + m := ⟨_, rfl⟩
  rw [← hq2] at hk2 hk3 ⊢
  have HQ := Lib.hid hq2
  clear hq2
  go_wp2_with fail
  refine (markByteS_any A2 n c2 y q2 0 _ H22.out hy hk3 hk2).mono ?_
  rintro e w3 ⟨rfl, hO3, hg3⟩
  have HO3 := Lib.hid hO3
  have ht3 : Turned (fun q => (Value.slice A2 n c2).ownBlock = some q) w2 w3 := Turned.of_grown hg3 (fun q hq => hq)
  have HT3 := Lib.hid ht3
  clear hO3 hg3 ht3
  go_wp2
  go_ret
  have e1 := HM.out
  have e2 := HN.out
  have hT : Turned S w w3 := ((Turned.of_below (bel1 w _)).trans (HT2.out.wide S1.out)).trans (HT3.out.wide S2.out)
  refine ⟨?_, ⟨⟨A1, c1, A2, c2, ?_, ?_, ?_, ?_, ?_, ?_⟩, HI.out, Nat.le_trans HHI.out hT.size⟩, hT⟩
  · show Ending.returned (.int .i64 (q2 + n)) = Ending.returned (.int .i64 (k + ((x.length + y.length : Nat) : Int)))
    rw [HQ.out, e1, e2]; congr 2; omega
  · show _ = Value.agg #[.slice A1 (marksB k x.length).length c1, .slice A2 (marksB (k + x.length) y.length).length c2, .int .i64 s]
    rw [marksB_len, marksB_len, ← e1, ← e2]
  · show OwnB w3 0 A1 (marksB k x.length).length c1 (marksB k x.length)
    rw [marksB_len, ← e1]
    exact own_same H12.out (fun q hq => HT3.out.block q (H12.out.lt q hq).2 (fun e => S3.out q hq e))
  · show OwnB w3 0 A2 (marksB (k + x.length) y.length).length c2 (marksB (k + x.length) y.length)
    rw [marksB_len, ← e2, ← e1, ← HQ.out]
    exact HO3.out
  · show ∀ q, (Value.slice A1 (marksB k x.length).length c1).ownBlock = some q → S q
    rw [marksB_len, ← e1]; exact S1.out
  · show ∀ q, (Value.slice A2 (marksB (k + x.length) y.length).length c2).ownBlock = some q → S q
    rw [marksB_len, ← e2]; exact S2.out
  · show ∀ q, (Value.slice A1 (marksB k x.length).length c1).ownBlock = some q → (Value.slice A2 (marksB (k + x.length) y.length).length c2).ownBlock ≠ some q
    rw [marksB_len, marksB_len, ← e1, ← e2]; exact S3.out
set_option maxHeartbeats 800000 in
theorem heldJournal_any : HeldC 68 jty := by
  rintro w B v ⟨x, y, s⟩ k ⟨A1, c1, A2, c2, rfl, h1, h2⟩ hB hf hk0 hk1
  have hf : x.length + y.length ≤ 1048576 := hf
  have h1 : IsBytes w B A1 (marksB k x.length).length (marksB k x.length) := h1
  have h2 : IsBytes w B A2 (marksB (k + x.length) y.length).length (marksB (k + x.length) y.length) := h2
  show Calls Tryz.prog 68 #[.agg #[.slice A1 (marksB k x.length).length c1, .slice A2 (marksB (k + x.length) y.length).length c2, .int .i64 s], .int .i64 k] w (Says (.int .i64 (k + ((x.length + y.length : Nat) : Int))) w)
  rw [marksB_len] at h1 h2
  rw [marksB_len, marksB_len]
  obtain ⟨m, hm⟩ : ∃ m, m = x.length := ⟨_, rfl⟩
  obtain ⟨n, hn⟩ : ∃ n, n = y.length := ⟨_, rfl⟩
  have hx : m ≤ 1048576 := by omega
  have hy : n ≤ 1048576 := by omega
  simp only [← hm, ← hn] at h1 h2 ⊢
  have H1 := Lib.hid (h1.below (bel1 w (.cells #[.slice A1 m c1, .slice A2 n c2, .int .i64 s] 32)) hB)
  have H2 := Lib.hid (h2.below (bel1 w (.cells #[.slice A1 m c1, .slice A2 n c2, .int .i64 s] 32)) hB)
  obtain ⟨q2, hq2⟩ : ∃ q2 : Int, q2 = k + m := ⟨_, rfl⟩
  have hk2 : q2 ≤ 300000000 := by omega
  have hk3 : 0 ≤ q2 := by omega
  obtain ⟨q3, hq3⟩ : ∃ q3 : Int, q3 = q2 + n := ⟨_, rfl⟩
  have hk4 : 0 ≤ q3 := by omega
  have hq4 : k + ((m + n : Nat) : Int) = q3 := by omega
  rw [hq4]
  rw [← hq2] at H2
  have HQ := Lib.hid hq2
  have HQ3 := Lib.hid hq3
  have hd2 : decide (q2 < 0) = false := by simp; omega
  have hd3 : decide (q3 < 0) = false := by simp; omega
  clear h1 h2 hm hn hf hq2 hq3 hq4
  go_enter Tryz.func68, Tryz.ntmps68
  go_wp2_with fail
  refine (heldByteS_any A1 m c1 k B _ H1.out hx hk0 (by omega)).mono ?_
  rintro e w2 ⟨rfl, rfl⟩
  rw [← HQ.out]
  go_wp2_with fail
  refine (heldByteS_any A2 n c2 q2 B _ H2.out hy hk3 hk2).mono ?_
  rintro e w2 ⟨rfl, rfl⟩
  rw [← HQ3.out]
  go_wp2
  go_ret
  exact ⟨rfl, bel1 _ _⟩
section
variable {H : Type} {enc : TypeId × Value → H} {w : World} {base : Nat} {spare : Nat → Bool} {held : Bool}
theorem bytes_read {fuel : Nat} {v : Value} {x : DataW H × List MemPlace} (h : DataW.trod enc Tryz.prog w base spare held fuel 22 [v] = some x) :
    ∃ A n c zs, v = .slice A n c ∧ IsBytes w w.heap.size A n zs ∧ n ≤ maxLen := by
  rcases open_ints Tryz.underlying22 Tryz.underlying5 (by kernel_rfl) h with ⟨hcs, _⟩ | ⟨x, l, c, zs, hcs, _, hl, hm, hz, _, hcell, hwz⟩
  · injection hcs with hcs
    exact ⟨none, 0, 0, [], hcs, ⟨rfl, fun x h => by simp at h, fun h => absurd h (by omega)⟩, Nat.zero_le _⟩
  · injection hcs with hcs
    have hlz : l ≤ zs.length := by rw [hz]; split <;> omega
    refine ⟨_, _, _, zs.take l, hcs, ?_, by omega⟩
    refine ⟨by simp; omega, fun x hx => ?_, fun hp => ?_⟩
    · have h1 := hwz x (List.mem_of_mem_take hx)
      simp [Lit.wf, IntKind.min, IntKind.max, IntKind.signed, IntKind.bits] at h1
      omega
    have h0 := hcell 0 (by omega)
    obtain ⟨b, off, spot⟩ := x
    have hspot : spot = none := by simpa [Addr.add] using World.cell?_spot h0
    subst hspot
    have hb : b < w.heap.size := by simpa [Addr.add] using World.block_lt_of_cell? w _ h0
    refine ⟨b, off, rfl, hb, fun j hj => ?_⟩
    have hj' := hcell j (by omega)
    have he : (⟨b, off, none⟩ : Addr).add j = ⟨b, off + j, none⟩ := by
      unfold Addr.add
      split
      · subst_vars; rfl
      · rfl
    rw [he] at hj'
    rw [hj']
    simp [List.getD, hj]
end
end Go.Proofs.YtklgjjmcflgjeaaGreatDoor.Jour
namespace Go.Proofs.YtklgjjmcflgjeaaGreatDoor.Rd
open Go.ChangeShapes Go.WideShapes Go.ChangeAt Go.RowKit
open Ints (below_drewN)
open Bytes (IsBytes)
open Rec (grown_set below_a1)
theorem bytes_on {w w' : World} {R B : Nat} {A : Option Addr} {n : Nat} {bs : List Int} (h : IsBytes w B A n bs) (hg : w.grownBy w' (some R)) (hB : B ≤ R) (hR : R < w.heap.size) : IsBytes w' B A n bs :=
  h.below (below_of hg hB (by omega)) (Nat.le_refl _)
theorem errs_on {w w' : World} {R B : Nat} {aT aB aO : Addr} (h : Errs B w aT aB aO) (hg : w.grownBy w' (some R)) (hB : B ≤ R) (hR : R < w.heap.size) : Errs B w' aT aB aO :=
  h.below (below_of hg hB (by omega)) (Nat.le_refl _)
theorem grown_trans {a b c : World} {R : Nat} (h : a.grownBy b (some R)) (k : b.grownBy c (some R)) : a.grownBy c (some R) :=
  h.andThen k (fun j hj => .inr hj)
set_option maxHeartbeats 800000 in
theorem upTo_dead (w : World) (R : Nat) (A : Option Addr) (n c : Nat) (p : Int) (u : TypeId) (x : Value) (m : Int) (hm : 0 ≤ m) (h : Rd w R A n c p (.iface u x)) :
    Calls Tryz.prog 205 #[.pointer (some ⟨R, 0, none⟩), .int .i64 m] w (Left w R A n c (.int .i64 0) p (.iface u x)) := by
  have hd : decide (m < 0) = false := by simp; omega
  go_enter Tryz.func205, Tryz.ntmps205
  go_wp2_with fail
  refine (next_dead w R A n c p u x h).mono ?_
  rintro e w1 ⟨rfl, hR1, hg1⟩
  have H1 := Lib.hid hR1
  have G1 := Lib.hid hg1
  clear hR1 hg1
  go_wp2
  go_ret
  exact ⟨rfl, H1.out, G1.out⟩
set_option maxHeartbeats 800000 in
theorem upTo_end (w : World) (R : Nat) (A : Option Addr) (n c : Nat) (m : Int) (hm : 0 ≤ m) (B : Nat) (aT aB aO : Addr) (hE : Errs B w aT aB aO) (h : Rd w R A n c n .nilIface) :
    Calls Tryz.prog 205 #[.pointer (some ⟨R, 0, none⟩), .int .i64 m] w (Left w R A n c (.int .i64 0) n (.iface 408 (.pointer (some aT)))) := by
  have hd : decide (m < 0) = false := by simp; omega
  go_enter Tryz.func205, Tryz.ntmps205
  go_wp2_with fail
  refine (next_end w R A n c B aT aB aO hE h).mono ?_
  rintro e w1 ⟨rfl, hR1, hg1⟩
  have H1 := Lib.hid hR1
  have G1 := Lib.hid hg1
  clear hR1 hg1
  go_wp2
  go_ret
  exact ⟨rfl, H1.out, G1.out⟩
set_option maxHeartbeats 800000 in
theorem upTo_in (w : World) (R : Nat) (A : Option Addr) (n c : Nat) (p : Nat) (bs : List Int) (m : Int) (B : Nat) (hB : IsBytes w B A n bs) (hBR : B ≤ R) (hn : n ≤ 1048576) (h : Rd w R A n c p .nilIface) (hp : p < n) (hle : bs.getD p 0 ≤ m) :
    Calls Tryz.prog 205 #[.pointer (some ⟨R, 0, none⟩), .int .i64 m] w (Left w R A n c (.int .i64 (bs.getD p 0)) ((p + 1 : Nat) : Int) .nilIface) := by
  have HB := Lib.hid hB
  clear hB
  generalize hz : bs.getD p 0 = z at hle ⊢
  have HZ := Lib.hid hz
  clear hz
  have hd : decide (m < z) = false := by simp; omega
  go_enter Tryz.func205, Tryz.ntmps205
  go_wp2_with fail
  refine (next_live w R A n c p bs B HB.out hBR hn h hp).mono ?_
  rintro e w1 ⟨rfl, hR1, hg1⟩
  have H1 := Lib.hid hR1
  have G1 := Lib.hid hg1
  clear hR1 hg1
  rw [HZ.out]
  go_wp2
  go_ret
  exact ⟨rfl, H1.out, G1.out⟩
set_option maxHeartbeats 800000 in
theorem upTo_over (w : World) (R : Nat) (A : Option Addr) (n c : Nat) (p : Nat) (bs : List Int) (m : Int) (B : Nat) (aT aB aO : Addr) (hE : Errs B w aT aB aO) (hB : IsBytes w B A n bs) (hBR : B ≤ R) (hn : n ≤ 1048576) (h : Rd w R A n c p .nilIface) (hp : p < n) (hle : m < bs.getD p 0) :
    Calls Tryz.prog 205 #[.pointer (some ⟨R, 0, none⟩), .int .i64 m] w (Left w R A n c (.int .i64 0) ((p + 1 : Nat) : Int) (.iface 408 (.pointer (some aB)))) := by
  have HB := Lib.hid hB
  clear hB
  have hlt := h.lt
  generalize hz : bs.getD p 0 = z at hle
  have HZ := Lib.hid hz
  clear hz
  have hd : decide (m < z) = true := by simp; omega
  go_enter Tryz.func205, Tryz.ntmps205
  go_wp2_with fail
  refine (next_live w R A n c p bs B HB.out hBR hn h hp).mono ?_
  rintro e w1 ⟨rfl, hR1, hg1⟩
  have H1 := Lib.hid hR1
  have G1 := Lib.hid hg1
  obtain ⟨_, cT, cB, cO⟩ := errs_on hE hg1 hBR hlt
  clear hR1 hg1 hE
  rw [HZ.out]
  go_wp2_with (go_at_call 247; refine (fail_live _ R A n c _ aB H1.out).mono ?_; rintro e w' ⟨rfl, rfl⟩)
  go_ret
  exact ⟨rfl, H1.out.set2 _, grown_trans G1.out (grown_set _ _ _)⟩
set_option maxHeartbeats 800000 in
theorem exactly_dead (w : World) (R : Nat) (A : Option Addr) (n c : Nat) (p : Int) (u : TypeId) (x : Value) (m : Int) (B : Nat) (aT aB aO : Addr) (hE : Errs B w aT aB aO) (hBR : B ≤ R) (h : Rd w R A n c p (.iface u x)) :
    Calls Tryz.prog 207 #[.pointer (some ⟨R, 0, none⟩), .int .i64 m] w (Left w R A n c (.tuple #[]) p (.iface u x)) := by
  have hlt := h.lt
  by_cases hm : 0 = m
  · subst hm
    go_enter Tryz.func207, Tryz.ntmps207
    go_wp2_with fail
    refine (next_dead w R A n c p u x h).mono ?_
    rintro e w1 ⟨rfl, hR1, hg1⟩
    have H1 := Lib.hid hR1
    have G1 := Lib.hid hg1
    clear hR1 hg1
    go_wp2
    go_end0
    exact ⟨rfl, H1.out, G1.out⟩
  · have hne : ((0 : Int) != m) = true := by simp; omega
    go_enter Tryz.func207, Tryz.ntmps207
    go_wp2_with fail
    refine (next_dead w R A n c p u x h).mono ?_
    rintro e w1 ⟨rfl, hR1, hg1⟩
    have H1 := Lib.hid hR1
    have G1 := Lib.hid hg1
    obtain ⟨_, cT, cB, cO⟩ := errs_on hE hg1 hBR hlt
    clear hR1 hg1 hE
    go_wp2_with (go_at_call 247; refine (fail_dead _ R A n c _ _ u x H1.out).mono ?_; rintro e w' ⟨rfl, rfl⟩)
    go_end0
    exact ⟨rfl, H1.out, G1.out⟩
set_option maxHeartbeats 800000 in
theorem exactly_end (w : World) (R : Nat) (A : Option Addr) (n c : Nat) (m : Int) (B : Nat) (aT aB aO : Addr) (hE : Errs B w aT aB aO) (hBR : B ≤ R) (h : Rd w R A n c n .nilIface) :
    Calls Tryz.prog 207 #[.pointer (some ⟨R, 0, none⟩), .int .i64 m] w (Left w R A n c (.tuple #[]) n (.iface 408 (.pointer (some aT)))) := by
  have hlt := h.lt
  have HE := Lib.hid hE
  clear hE
  by_cases hm : 0 = m
  · subst hm
    go_enter Tryz.func207, Tryz.ntmps207
    go_wp2_with fail
    refine (next_end w R A n c B aT aB aO HE.out h).mono ?_
    rintro e w1 ⟨rfl, hR1, hg1⟩
    have H1 := Lib.hid hR1
    have G1 := Lib.hid hg1
    clear hR1 hg1
    go_wp2
    go_end0
    exact ⟨rfl, H1.out, G1.out⟩
  · have hne : ((0 : Int) != m) = true := by simp; omega
    go_enter Tryz.func207, Tryz.ntmps207
    go_wp2_with fail
    refine (next_end w R A n c B aT aB aO HE.out h).mono ?_
    rintro e w1 ⟨rfl, hR1, hg1⟩
    have H1 := Lib.hid hR1
    have G1 := Lib.hid hg1
    obtain ⟨_, cT, cB, cO⟩ := errs_on HE.out hg1 hBR hlt
    clear hR1 hg1
    go_wp2_with (go_at_call 247; refine (fail_dead _ R A n c _ _ _ _ H1.out).mono ?_; rintro e w' ⟨rfl, rfl⟩)
    go_end0
    exact ⟨rfl, H1.out, G1.out⟩
set_option maxHeartbeats 800000 in
theorem exactly_in (w : World) (R : Nat) (A : Option Addr) (n c : Nat) (p : Nat) (bs : List Int) (m : Int) (B : Nat) (hB : IsBytes w B A n bs) (hBR : B ≤ R) (hn : n ≤ 1048576) (h : Rd w R A n c p .nilIface) (hp : p < n) (hle : bs.getD p 0 = m) :
    Calls Tryz.prog 207 #[.pointer (some ⟨R, 0, none⟩), .int .i64 m] w (Left w R A n c (.tuple #[]) ((p + 1 : Nat) : Int) .nilIface) := by
  have HB := Lib.hid hB
  have HZ := Lib.hid hle
  clear hB hle
  have hne : (m != m) = false := by simp
  go_enter Tryz.func207, Tryz.ntmps207
  go_wp2_with fail
  refine (next_live w R A n c p bs B HB.out hBR hn h hp).mono ?_
  rintro e w1 ⟨rfl, hR1, hg1⟩
  have H1 := Lib.hid hR1
  have G1 := Lib.hid hg1
  clear hR1 hg1
  rw [HZ.out]
  go_wp2
  go_end0
  exact ⟨rfl, H1.out, G1.out⟩
set_option maxHeartbeats 800000 in
theorem exactly_not (w : World) (R : Nat) (A : Option Addr) (n c : Nat) (p : Nat) (bs : List Int) (m : Int) (B : Nat) (aT aB aO : Addr) (hE : Errs B w aT aB aO) (hB : IsBytes w B A n bs) (hBR : B ≤ R) (hn : n ≤ 1048576) (h : Rd w R A n c p .nilIface) (hp : p < n) (hle : bs.getD p 0 ≠ m) :
    Calls Tryz.prog 207 #[.pointer (some ⟨R, 0, none⟩), .int .i64 m] w (Left w R A n c (.tuple #[]) ((p + 1 : Nat) : Int) (.iface 408 (.pointer (some aB)))) := by
  have HB := Lib.hid hB
  clear hB
  have hlt := h.lt
  generalize hz : bs.getD p 0 = z at hle
  have HZ := Lib.hid hz
  clear hz
  have hne : (z != m) = true := by simp [hle]
  go_enter Tryz.func207, Tryz.ntmps207
  go_wp2_with fail
  refine (next_live w R A n c p bs B HB.out hBR hn h hp).mono ?_
  rintro e w1 ⟨rfl, hR1, hg1⟩
  have H1 := Lib.hid hR1
  have G1 := Lib.hid hg1
  obtain ⟨_, cT, cB, cO⟩ := errs_on hE hg1 hBR hlt
  clear hR1 hg1 hE
  rw [HZ.out]
  go_wp2_with (go_at_call 247; refine (fail_live _ R A n c _ aB H1.out).mono ?_; rintro e w' ⟨rfl, rfl⟩)
  go_end0
  exact ⟨rfl, H1.out.set2 _, grown_trans G1.out (grown_set _ _ _)⟩
inductive NumR where
  | ok (x : Int) (p : Nat)
  | torn
  | bent
def numG (bs : List Int) : Nat → Nat → Nat → Int → Int → NumR
  | 0, _, _, _, _ => .bent
  | k + 1, p, i, x, u =>
    if bs.length ≤ p then .torn
    else if 128 ≤ bs.getD p 0 then numG bs k (p + 1) (i + 1) (x + bs.getD p 0 % 128 * u) (u * 128)
    else if (bs.getD p 0 = 0 ∧ 0 < i) ∨ 1099511627775 < x + bs.getD p 0 % 128 * u then .bent
    else .ok (x + bs.getD p 0 % 128 * u) (p + 1)
def numR (bs : List Int) (p : Nat) : NumR := numG bs 6 p 0 0 1
theorem numG_torn {bs : List Int} {k p i : Nat} {x u : Int} (h : bs.length ≤ p) : numG bs (k + 1) p i x u = .torn := by rw [numG, if_pos h]
theorem numG_on {bs : List Int} {k p i : Nat} {x u : Int} (h : p < bs.length) (h1 : 128 ≤ bs.getD p 0) : numG bs (k + 1) p i x u = numG bs k (p + 1) (i + 1) (x + bs.getD p 0 % 128 * u) (u * 128) := by rw [numG, if_neg (by omega), if_pos h1]
theorem numG_bent {bs : List Int} {k p i : Nat} {x u : Int} (h : p < bs.length) (h1 : bs.getD p 0 < 128) (h2 : (bs.getD p 0 = 0 ∧ 0 < i) ∨ 1099511627775 < x + bs.getD p 0 % 128 * u) : numG bs (k + 1) p i x u = .bent := by rw [numG, if_neg (by omega), if_neg (by omega), if_pos h2]
theorem numG_ok {bs : List Int} {k p i : Nat} {x u : Int} (h : p < bs.length) (h1 : bs.getD p 0 < 128) (h2 : ¬ ((bs.getD p 0 = 0 ∧ 0 < i) ∨ 1099511627775 < x + bs.getD p 0 % 128 * u)) : numG bs (k + 1) p i x u = .ok (x + bs.getD p 0 % 128 * u) (p + 1) := by rw [numG, if_neg (by omega), if_neg (by omega), if_neg h2]
theorem pow5 (i : Nat) (h : i < 6) : 1 ≤ (128 : Int) ^ i ∧ (128 : Int) ^ i ≤ 34359738368 := by
  have h6 : i = 0 ∨ i = 1 ∨ i = 2 ∨ i = 3 ∨ i = 4 ∨ i = 5 := by omega
  rcases h6 with rfl | rfl | rfl | rfl | rfl | rfl <;> decide
theorem mul_bd (z u : Int) (hz : 0 ≤ z) (hu : 1 ≤ u) : 0 ≤ z % 128 * u ∧ z % 128 * u ≤ 127 * u := by
  have h0 : 0 ≤ z % 128 := by omega
  have h1 : z % 128 ≤ 127 := by omega
  exact ⟨Int.mul_nonneg h0 (by omega), Int.mul_le_mul_of_nonneg_right h1 (by omega)⟩
def NumAt (aT aB : Addr) (p n : Nat) : NumR → Int → Int → Value → Prop
  | .ok x q, r, p', f' => r = x ∧ p' = (q : Int) ∧ p ≤ q ∧ q ≤ n ∧ f' = .nilIface
  | .torn, r, p', f' => r = 0 ∧ (∃ q : Nat, p' = (q : Int) ∧ p ≤ q ∧ q ≤ n) ∧ f' = .iface 408 (.pointer (some aT))
  | .bent, r, p', f' => r = 0 ∧ (∃ q : Nat, p' = (q : Int) ∧ p ≤ q ∧ q ≤ n) ∧ f' = .iface 408 (.pointer (some aB))
set_option maxHeartbeats 800000 in
theorem number_dead (w : World) (R : Nat) (A : Option Addr) (n c : Nat) (p : Int) (u : TypeId) (x : Value) (h : Rd w R A n c p (.iface u x)) :
    Calls Tryz.prog 206 #[.pointer (some ⟨R, 0, none⟩)] w (Left w R A n c (.int .i64 0) p (.iface u x)) := by
  have H := Lib.hid h
  clear h
  go_enter Tryz.func206, Tryz.ntmps206
  go_wp2_with fail
  go_loopw [3, 4, 7] (fun a b i wr => a = .int .i64 (0 : Int) ∧ b = .int .i64 (1 : Int) ∧ i = .int .i64 (0 : Int) ∧ wr = w) (fun _ _ _ _ => 0)
  case atStart => exact ⟨rfl, rfl, rfl, rfl⟩
  case round =>
    obtain ⟨rfl, rfl, rfl, rfl⟩ := hrel
    go_wp2_with fail
    refine (next_dead wr R A n c p u x H.out).mono ?_
    rintro e w1 ⟨rfl, hR1, hg1⟩
    have H1 := Lib.hid hR1
    have G1 := Lib.hid hg1
    clear hR1 hg1
    go_wp2
    go_ret
    exact ⟨rfl, H1.out, G1.out⟩
set_option maxHeartbeats 3200000 in
theorem number_live (w : World) (R : Nat) (A : Option Addr) (n c : Nat) (p : Nat) (bs : List Int) (B : Nat) (aT aB aO : Addr) (hE : Errs B w aT aB aO) (hB : IsBytes w B A n bs) (hBR : B ≤ R) (hn : n ≤ 1048576) (h : Rd w R A n c p .nilIface) (hp : p ≤ n) :
    Calls Tryz.prog 206 #[.pointer (some ⟨R, 0, none⟩)] w fun e w' => ∃ (r p' : Int) (f' : Value), Left w R A n c (.int .i64 r) p' f' e w' ∧ NumAt aT aB p n (numR bs p) r p' f' := by
  have HL : Hid (bs.length = n) := hB.1
  have HB := Lib.hid hB
  have HE := Lib.hid hE
  have H := Lib.hid h
  have hlt := h.lt
  clear hB hE h
  go_enter Tryz.func206, Tryz.ntmps206
  go_wp2_with fail
  go_loopw [3, 4, 7] (fun a b i wr => ∃ (k q : Nat) (x u : Int), k ≤ 6 ∧ p ≤ q ∧ q ≤ n ∧ a = .int .i64 x ∧ b = .int .i64 u ∧ i = .int .i64 k ∧ 0 ≤ x ∧ x < u ∧ Hid (u = 128 ^ k) ∧ Hid (numR bs p = numG bs (6 - k) q k x u) ∧ Hid (Rd wr R A n c q .nilIface) ∧ Hid (w.grownBy wr (some R))) (fun _ _ i _ => 6 - (RowKit.intOf i).toNat)
  case atStart => exact ⟨0, p, 0, 1, by omega, Nat.le_refl _, hp, rfl, rfl, rfl, by omega, by omega, rfl, rfl, H, World.grownBy.refl _ _⟩
  case round =>
    obtain ⟨k, q, x, u, hk, hpq, hqn, rfl, rfl, rfl, hx0, hxu, HU, HV, HR, HG⟩ := hrel
    have HBr := Lib.hid (bytes_on HB.out HG.out hBR hlt)
    have HEr := Lib.hid (errs_on HE.out HG.out hBR hlt)
    have hltr : R < wr.heap.size := HR.out.lt
    by_cases hk6 : k < 6
    · have hd6 : decide ((k : Int) < 6) = true := by simp; omega
      obtain ⟨k', hk'⟩ : ∃ k', 6 - k = k' + 1 := ⟨5 - k, by omega⟩
      have HK := Lib.hid hk'
      clear hk'
      have hu1 : 1 ≤ u ∧ u ≤ 34359738368 := by rw [HU.out]; exact pow5 k hk6
      by_cases hq : q < n
      · have hql : q < bs.length := by rw [HL.out]; exact hq
        obtain ⟨z, hz⟩ : ∃ z, z = bs.getD q 0 := ⟨_, rfl⟩
        have hzb : 0 ≤ z ∧ z < 256 := by rw [hz]; exact HBr.out.2.1 _ (by simp [List.getD, hql])
        obtain ⟨d, hd⟩ : ∃ d, d = z % 128 * u := ⟨_, rfl⟩
        have hdb : 0 ≤ d ∧ d ≤ 127 * u := by rw [hd]; exact mul_bd z u hzb.1 hu1.1
        have hwd : IntKind.i64.wrap (z % 128 * u) = d := by rw [← hd, IntKind.wrap_i64]; omega
        have HZ := Lib.hid hz
        have HD := Lib.hid hd
        clear hz hd
        by_cases h128 : 128 ≤ z
        · have hdz : decide (128 ≤ z) = true := by simp [h128]
          have HV2 : Hid (numR bs p = numG bs (6 - (k + 1)) (q + 1) (k + 1) (x + d) (u * 128)) := by
            show _ = _
            rw [HV.out, HK.out, numG_on hql (by rw [← HZ.out]; exact h128), ← HZ.out, ← HD.out, show 6 - (k + 1) = k' by have := HK.out; omega]
          have HU2 : Hid (u * 128 = 128 ^ (k + 1)) := by show _ = _; rw [HU.out, Int.pow_succ]
          go_wp2_with fail
          refine (next_live wr R A n c q bs B HBr.out hBR hn HR.out hq).mono ?_
          rintro e w1 ⟨rfl, hR1, hg1⟩
          rw [← HZ.out]
          have H1 := Lib.hid hR1
          have G1 := Lib.hid (grown_trans HG.out hg1)
          clear hR1 hg1
          go_wp2
          go_roundw
          case rel => exact ⟨k + 1, q + 1, x + d, u * 128, by omega, by omega, by omega, by go_num, by go_num, by go_num, by omega, by omega, HU2, HV2, H1, G1⟩
          case measure => simp [RowKit.intOf]; omega
        · have hdz : decide (128 ≤ z) = false := by simp; omega
          by_cases hbad : (z = 0 ∧ 0 < k) ∨ 1099511627775 < x + d
          · have HV2 : Hid (numR bs p = .bent) := by
              show _ = _
              rw [HV.out, HK.out, numG_bent hql (by rw [← HZ.out]; omega) (by rw [← HZ.out, ← HD.out]; exact hbad)]
            go_wp2_with fail
            refine (next_live wr R A n c q bs B HBr.out hBR hn HR.out hq).mono ?_
            rintro e w1 ⟨rfl, hR1, hg1⟩
            rw [← HZ.out]
            have H1 := Lib.hid hR1
            have G1 := Lib.hid (grown_trans HG.out hg1)
            obtain ⟨_, cT, cB, cO⟩ := errs_on HEr.out hg1 hBR hltr
            clear hR1 hg1
            by_cases hz0 : z = 0 ∧ 0 < k
            · have hz1 : (z == 0) = true := by simp [hz0.1]
              have hz2 : decide ((0 : Int) < (k : Int)) = true := by simp; omega
              have hz4 : decide (0 < k) = true := by simp; omega
              clear hbad hz0
              go_wp2_with (go_at_call 247; refine (fail_live _ R A n c _ aB H1.out).mono ?_; rintro e w' ⟨rfl, rfl⟩)
              go_ret
              refine ⟨0, _, _, ⟨rfl, H1.out.set2 _, grown_trans G1.out (grown_set _ _ _)⟩, ?_⟩
              rw [HV2.out]
              exact ⟨rfl, ⟨q + 1, rfl, by omega, by omega⟩, rfl⟩
            · have hx1 : decide (1099511627775 < x + d) = true := by simp; omega
              by_cases hz3 : z = 0
              · have hz1 : (z == 0) = true := by simp [hz3]
                have hz2 : decide ((0 : Int) < (k : Int)) = false := by simp; omega
                have hz4 : decide (0 < k) = false := by simp; omega
                clear hbad hz0 hz3
                go_wp2_with (go_at_call 247; refine (fail_live _ R A n c _ aB H1.out).mono ?_; rintro e w' ⟨rfl, rfl⟩)
                go_ret
                refine ⟨0, _, _, ⟨rfl, H1.out.set2 _, grown_trans G1.out (grown_set _ _ _)⟩, ?_⟩
                rw [HV2.out]
                exact ⟨rfl, ⟨q + 1, rfl, by omega, by omega⟩, rfl⟩
              · have hz1 : (z == 0) = false := by simp [hz3]
                clear hbad hz0 hz3
                go_wp2_with (go_at_call 247; refine (fail_live _ R A n c _ aB H1.out).mono ?_; rintro e w' ⟨rfl, rfl⟩)
                go_ret
                refine ⟨0, _, _, ⟨rfl, H1.out.set2 _, grown_trans G1.out (grown_set _ _ _)⟩, ?_⟩
                rw [HV2.out]
                exact ⟨rfl, ⟨q + 1, rfl, by omega, by omega⟩, rfl⟩
          · have HV2 : Hid (numR bs p = .ok (x + d) (q + 1)) := by
              show _ = _
              rw [HV.out, HK.out, numG_ok hql (by rw [← HZ.out]; omega) (by rw [← HZ.out, ← HD.out]; exact hbad), ← HZ.out, ← HD.out]
            have hx1 : decide (1099511627775 < x + d) = false := by simp; omega
            go_wp2_with fail
            refine (next_live wr R A n c q bs B HBr.out hBR hn HR.out hq).mono ?_
            rintro e w1 ⟨rfl, hR1, hg1⟩
            rw [← HZ.out]
            have H1 := Lib.hid hR1
            have G1 := Lib.hid (grown_trans HG.out hg1)
            clear hR1 hg1
            by_cases hz3 : z = 0
            · have hz1 : (z == 0) = true := by simp [hz3]
              have hz2 : decide ((0 : Int) < (k : Int)) = false := by simp; omega
              have hz4 : decide (0 < k) = false := by simp; omega
              clear hbad hz3
              go_wp2
              go_ret
              refine ⟨x + d, _, _, ⟨rfl, H1.out, G1.out⟩, ?_⟩
              rw [HV2.out]
              exact ⟨rfl, rfl, by omega, by omega, rfl⟩
            · have hz1 : (z == 0) = false := by simp [hz3]
              clear hbad hz3
              go_wp2
              go_ret
              refine ⟨x + d, _, _, ⟨rfl, H1.out, G1.out⟩, ?_⟩
              rw [HV2.out]
              exact ⟨rfl, rfl, by omega, by omega, rfl⟩
      · have hqn' : q = n := by omega
        subst hqn'
        have HV2 : Hid (numR bs p = .torn) := by
          show _ = _
          rw [HV.out, HK.out, numG_torn (by rw [HL.out]; omega)]
        go_wp2_with fail
        refine (next_end wr R A q c B aT aB aO HEr.out HR.out).mono ?_
        rintro e w1 ⟨rfl, hR1, hg1⟩
        have H1 := Lib.hid hR1
        have G1 := Lib.hid (grown_trans HG.out hg1)
        obtain ⟨_, cT, cB, cO⟩ := errs_on HEr.out hg1 hBR hltr
        clear hR1 hg1
        by_cases hk0 : 0 < k
        · have hz2 : decide ((0 : Int) < (k : Int)) = true := by simp; omega
          have hz4 : decide (0 < k) = true := by simp; omega
          go_wp2_with (go_at_call 247; refine (fail_dead _ R A q c _ _ _ _ H1.out).mono ?_; rintro e w' ⟨rfl, rfl⟩)
          go_ret
          refine ⟨0, _, _, ⟨rfl, H1.out, G1.out⟩, ?_⟩
          rw [HV2.out]
          exact ⟨rfl, ⟨q, rfl, by omega, by omega⟩, rfl⟩
        · have hz2 : decide ((0 : Int) < (k : Int)) = false := by simp; omega
          have hz4 : decide (0 < k) = false := by simp; omega
          have hu : u = 1 := by rw [HU.out, show k = 0 by omega]; rfl
          have hx : x = 0 := by omega
          subst hx
          clear hu
          go_wp2
          go_ret
          refine ⟨0, _, _, ⟨rfl, H1.out, G1.out⟩, ?_⟩
          rw [HV2.out]
          exact ⟨rfl, ⟨q, rfl, by omega, by omega⟩, rfl⟩
    · have hd6 : decide ((k : Int) < 6) = false := by simp; omega
      have HV2 : Hid (numR bs p = .bent) := by
        show _ = _
        rw [HV.out, show 6 - k = 0 by omega]
        rfl
      obtain ⟨_, cT, cB, cO⟩ := HEr.out
      go_wp2_with (go_at_call 247; refine (fail_live _ R A n c _ aB HR.out).mono ?_; rintro e w' ⟨rfl, rfl⟩)
      go_ret
      refine ⟨0, _, _, ⟨rfl, HR.out.set2 _, grown_trans HG.out (grown_set _ _ _)⟩, ?_⟩
      rw [HV2.out]
      exact ⟨rfl, ⟨q, rfl, by omega, by omega⟩, rfl⟩
end Go.Proofs.YtklgjjmcflgjeaaGreatDoor.Rd
