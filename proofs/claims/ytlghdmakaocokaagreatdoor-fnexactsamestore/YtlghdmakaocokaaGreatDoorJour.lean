/-
  JOURNALS: two files of bytes and a number; the contracts of the laws' toJournal, szJournal, eqJournal, markJournal, heldJournal over this seat's translation; and how a journal comes in as an argument of a law.
-/
import Derived.Test.YtlghdmakaocokaaGreatDoorLawKit
import Derived.Test.YtlghdmakaocokaaGreatDoorBytes
import Derived.Test.YtlghdmakaocokaaGreatDoorRecBox
namespace Go.Proofs.YtlghdmakaocokaaGreatDoor.Jour
open Go.ChangeShapes Go.WideShapes Go.ChangeAt Go.RowKit Go.Joins Go.Deep
open Go.Proofs.YtlghdmakaocokaaGreatDoor.Bytes Go.Proofs.YtlghdmakaocokaaGreatDoor.LK
open Go.Proofs.YtlghdmakaocokaaGreatDoor.Ints (below_drewN)
set_option linter.unusedVariables false

/-- Snap, Tail, Safe. -/
abbrev JD := List Int × List Int × Int
def JRd (w : World) (B : Nat) (v : Value) (d : JD) : Prop := ∃ A1 c1 A2 c2, v = .agg #[.slice A1 d.1.length c1, .slice A2 d.2.1.length c2, .int .i64 d.2.2] ∧ IsBytes w B A1 d.1.length d.1 ∧ IsBytes w B A2 d.2.1.length d.2.1
def JOwn (w : World) (S : Nat → Prop) (v : Value) (d : JD) : Prop := ∃ A1 c1 A2 c2, v = .agg #[.slice A1 d.1.length c1, .slice A2 d.2.1.length c2, .int .i64 d.2.2] ∧ OwnB w 0 A1 d.1.length c1 d.1 ∧ OwnB w 0 A2 d.2.1.length c2 d.2.1 ∧
  (∀ k, (Value.slice A1 d.1.length c1).ownBlock = some k → S k) ∧ (∀ k, (Value.slice A2 d.2.1.length c2).ownBlock = some k → S k) ∧ (∀ k, (Value.slice A1 d.1.length c1).ownBlock = some k → (Value.slice A2 d.2.1.length c2).ownBlock ≠ some k)

theorem own_base {w : World} {b b' : Nat} {A : Option Addr} {n c : Nat} {zs : List Int} (h : OwnB w b A n c zs) (hb : ∀ k, (Value.slice A n c).ownBlock = some k → b' ≤ k) : OwnB w b' A n c zs := by
  refine ⟨h.1, h.2.1, h.2.2.1, ?_⟩
  rcases h.2.2.2 with h2 | ⟨g, cap, cur, h3, h4, h5⟩
  · exact .inl h2
  · refine .inr ⟨g, cap, cur, h3, hb g ?_, h5⟩
    rw [h3]; rfl
theorem own_zero {w : World} {b : Nat} {A : Option Addr} {n c : Nat} {zs : List Int} (h : OwnB w b A n c zs) : OwnB w 0 A n c zs := own_base h (fun _ _ => Nat.zero_le _)
theorem own_same {w w' : World} {b : Nat} {A : Option Addr} {n c : Nat} {zs : List Int} (h : OwnB w b A n c zs) (hs : ∀ k, (Value.slice A n c).ownBlock = some k → w'.heap[k]? = w.heap[k]?) : OwnB w' b A n c zs := by
  refine ⟨h.1, h.2.1, h.2.2.1, ?_⟩
  rcases h.2.2.2 with h2 | ⟨g, cap, cur, h3, h4, h5, h6⟩
  · exact .inl h2
  · refine .inr ⟨g, cap, cur, h3, h4, ?_, h6⟩
    rw [hs g (by rw [h3]; rfl)]; exact h5
theorem own_bytes {w : World} {b B : Nat} {A : Option Addr} {n c : Nat} {zs : List Int} (h : OwnB w b A n c zs) (hs : ∀ k, (Value.slice A n c).ownBlock = some k → k < B) : IsBytes w B A n zs := by
  obtain ⟨h1, h2, h3⟩ := h.bytes
  refine ⟨h1, h2, fun hn => ?_⟩
  obtain ⟨g, off, e, _, h4⟩ := h3 hn
  exact ⟨g, off, e, hs g (by rw [e]; rfl), h4⟩

def jty : Ty where
  D := JD
  Rd := JRd
  Own := JOwn
  Few := fun d => d.1.length + d.2.1.length ≤ 1048576
  cnt := fun d => d.1.length + d.2.1.length
  mark := fun k d => (marksB k d.1.length, marksB (k + d.1.length) d.2.1.length, d.2.2)
  rd_below := by
    rintro w w' B C v d ⟨A1, c1, A2, c2, rfl, h1, h2⟩ hb hC
    exact ⟨A1, c1, A2, c2, rfl, h1.below hb hC, h2.below hb hC⟩
  own_rd := by
    rintro w S v d B ⟨A1, c1, A2, c2, rfl, h1, h2, s1, s2, _⟩ hB
    exact ⟨A1, c1, A2, c2, rfl, own_bytes h1 (fun k hk => hB k (s1 k hk)), own_bytes h2 (fun k hk => hB k (s2 k hk))⟩
  own_same := by
    rintro w w' S v d ⟨A1, c1, A2, c2, rfl, h1, h2, s1, s2, s3⟩ hs
    exact ⟨A1, c1, A2, c2, rfl, own_same h1 (fun k hk => hs k (s1 k hk)), own_same h2 (fun k hk => hs k (s2 k hk)), s1, s2, s3⟩
  few_cnt := by intro d h; omega
theorem shape {w : World} {lo hi : Nat} {S : Nat → Prop} {v : Value} {d : JD} (h : Has jty w lo hi S v d) : ∃ A m c A' n c' s, v = .agg #[.slice A m c, .slice A' n c', .int .i64 s] := by
  obtain ⟨A1, c1, A2, c2, e, _⟩ := h.own
  exact ⟨_, _, _, _, _, _, _, e⟩
/-- Two rows, one made behind the other. -/
theorem has_of {w w' : World} {lo : Nat} {A1 A2 : Option Addr} {c1 c2 : Nat} {x y : List Int} {s : Int} (h1 : OwnB w lo A1 x.length c1 x) (hb : Below w.heap.size w w') (h2 : OwnB w' w.heap.size A2 y.length c2 y) (hlo : lo ≤ w.heap.size) :
    Has jty w' lo w'.heap.size (fun k => lo ≤ k ∧ k < w'.heap.size) (.agg #[.slice A1 x.length c1, .slice A2 y.length c2, .int .i64 s]) (x, y, s) := by
  have hz := hb.size
  refine ⟨⟨A1, c1, A2, c2, rfl, own_zero (h1.below hb), own_zero h2, fun k hk => ?_, fun k hk => ?_, fun k hk e => ?_⟩, fun k hk => hk, Nat.le_refl _⟩
  · have := h1.lt k hk; omega
  · have := h2.lt k hk; omega
  · have := h1.lt k hk; have := h2.lt k e; omega

theorem own_cut {w : World} {b : Nat} {A : Option Addr} {n c : Nat} {zs : List Int} (h : OwnB w b A n c zs) (k : Nat) (hk : k ≤ n) : OwnB w b A k c (zs.take k) := by
  obtain ⟨h1, h2, h3, h4⟩ := h
  refine ⟨by rw [List.length_take]; omega, fun x hx => h2 x (List.mem_of_mem_take hx), by simp; omega, ?_⟩
  rcases h4 with ⟨e, hn⟩ | ⟨g, cap, cur, e, h5, h6, h7, h8, h9, h10⟩
  · obtain rfl : k = 0 := by omega
    injection e with e1 e2 e3
    subst e1 e3
    exact .inl ⟨rfl, rfl⟩
  · injection e with e1 e2 e3
    subst e1 e3
    refine .inr ⟨g, c, cur, rfl, h5, h6, by omega, h8, h9, ?_⟩
    rw [List.map_take, ← h10, List.take_take]
    congr 1
    omega
theorem ob (A : Option Addr) (n c n' c' : Nat) : (Value.slice A n c).ownBlock = (Value.slice A n' c').ownBlock := by cases A <;> rfl
/-- A journal whose Tail is cut, with another Safe. -/
theorem has_cut {w : World} {lo hi : Nat} {S : Nat → Prop} {A1 A2 : Option Addr} {m n c1 c2 : Nat} {x y : List Int} {s : Int} (h : Has jty w lo hi S (.agg #[.slice A1 m c1, .slice A2 n c2, .int .i64 s]) (x, y, s)) (k : Nat) (hk : k ≤ n) (s' : Int) :
    Has jty w lo hi S (.agg #[.slice A1 m c1, .slice A2 k c2, .int .i64 s']) (x, y.take k, s') := by
  obtain ⟨⟨A1', c1', A2', c2', e, h1, h2, s1, s2, s3⟩, hi1, hi2⟩ := h
  simp only [Value.agg.injEq, Array.mk.injEq, List.cons.injEq, Value.slice.injEq] at e
  obtain ⟨⟨rfl, rfl, rfl⟩, ⟨rfl, rfl, rfl⟩, _⟩ := e
  have hl : (y.take k).length = k := by rw [List.length_take]; exact Nat.min_eq_left hk
  refine ⟨⟨A1, c1, A2, c2, by rw [hl], h1, by rw [hl]; exact own_cut h2 k hk, s1, ?_, ?_⟩, hi1, hi2⟩
  · intro q hq; exact s2 q ((ob A2 _ _ _ _).trans hq)
  · intro q hq e; exact s3 q hq ((ob A2 _ _ _ _).trans e)
theorem has_lens {w : World} {lo hi : Nat} {S : Nat → Prop} {A1 A2 : Option Addr} {m n c1 c2 : Nat} {x y : List Int} {s r : Int} (h : Has jty w lo hi S (.agg #[.slice A1 m c1, .slice A2 n c2, .int .i64 r]) (x, y, s)) : m = x.length ∧ n = y.length ∧ r = s := by
  obtain ⟨⟨A1', c1', A2', c2', e, _⟩, _⟩ := h
  simp only [Value.agg.injEq, Array.mk.injEq, List.cons.injEq, Value.slice.injEq, Value.int.injEq] at e
  exact ⟨e.1.2.1, e.2.1.2.1, e.2.2.1.2⟩
theorem rd_lens {w : World} {B : Nat} {A1 A2 : Option Addr} {m n c1 c2 : Nat} {x y : List Int} {s r : Int} (h : JRd w B (.agg #[.slice A1 m c1, .slice A2 n c2, .int .i64 r]) (x, y, s)) : m = x.length ∧ n = y.length ∧ r = s := by
  obtain ⟨A1', c1', A2', c2', e, _⟩ := h
  simp only [Value.agg.injEq, Array.mk.injEq, List.cons.injEq, Value.slice.injEq, Value.int.injEq] at e
  exact ⟨e.1.2.1, e.2.1.2.1, e.2.2.1.2⟩
theorem made1_of {w w5 w6 : World} {lo hi : Nat} {S0 S : Nat → Prop} {v x : Value} {d : JD} (hH : Has jty w5 lo hi S0 v d) (hb : Below w.heap.size w w5) (ht : Turned S w5 w6) (hlo : w.heap.size ≤ lo) (hS : ∀ k, S k → w.heap.size ≤ k) (hd : ∀ k, S0 k → ¬ S k) :
    Made1 jty d x w (.returned (.tuple #[v, x])) w6 := by
  have h := hH.turned ht hd
  exact ⟨v, S0, rfl, ⟨h.own, fun k hk => by have := h.inn k hk; have := h.hi; omega, Nat.le_refl _⟩, Turned.low hb ht hS hb.size⟩
theorem sets5 {S : Nat → Prop} {w : World} {p1 p2 p3 p4 p5 : Addr} {u1 u2 u3 u4 u5 : Value} (h1 : S p1.block) (h2 : S p2.block) (h3 : S p3.block) (h4 : S p4.block) (h5 : S p5.block) :
    Turned S w (((((w.setCell p1 u1).setCell p2 u2).setCell p3 u3).setCell p4 u4).setCell p5 u5) :=
  ((((Turned.set w p1 u1 h1).trans (Turned.set _ p2 u2 h2)).trans (Turned.set _ p3 u3 h3)).trans (Turned.set _ p4 u4 h4)).trans (Turned.set _ p5 u5 h5)
theorem sets3 {S : Nat → Prop} {w : World} {p1 p2 p3 : Addr} {u1 u2 u3 : Value} (h1 : S p1.block) (h2 : S p2.block) (h3 : S p3.block) :
    Turned S w (((w.setCell p1 u1).setCell p2 u2).setCell p3 u3) :=
  ((Turned.set w p1 u1 h1).trans (Turned.set _ p2 u2 h2)).trans (Turned.set _ p3 u3 h3)
theorem sets4 {S : Nat → Prop} {w : World} {p1 p2 p3 p4 : Addr} {u1 u2 u3 u4 : Value} (h1 : S p1.block) (h2 : S p2.block) (h3 : S p3.block) (h4 : S p4.block) :
    Turned S w ((((w.setCell p1 u1).setCell p2 u2).setCell p3 u3).setCell p4 u4) := (sets3 h1 h2 h3).trans (Turned.set _ p4 u4 h4)
/-- Two rows, one made behind the other; then cells of neither were written. -/
theorem made_of {w w4 w5 w6 : World} {S : Nat → Prop} {A1 A2 : Option Addr} {m n c1 c2 : Nat} {x y : List Int} {s : Int} (hb : Below w.heap.size w w5) (h1 : OwnB w5 w.heap.size A1 m c1 x) (h2 : OwnB w5 w4.heap.size A2 n c2 y)
    (hlt : ∀ k, (Value.slice A1 m c1).ownBlock = some k → k < w4.heap.size ∧ ¬ S k) (h45 : w4.heap.size ≤ w5.heap.size) (h04 : w.heap.size ≤ w4.heap.size) (hm : m = x.length) (hn : n = y.length) (ht : Turned S w5 w6) (hS : ∀ k, S k → k < w4.heap.size) (hS' : ∀ k, S k → w.heap.size ≤ k) :
    Made jty (x, y, s) w (.returned (.agg #[.slice A1 m c1, .slice A2 n c2, .int .i64 s])) w6 := by
  subst hm hn
  have hz := ht.size
  refine ⟨_, fun k => w.heap.size ≤ k ∧ k < w6.heap.size, rfl, ⟨⟨A1, c1, A2, c2, rfl, own_zero (own_same h1 fun k hk => ht.block k (h1.lt k hk).2 (hlt k hk).2), own_zero (own_same h2 fun k hk => ht.block k (h2.lt k hk).2 (fun e => ?_)), fun k hk => ?_, fun k hk => ?_, fun k hk e => ?_⟩, fun k hk => hk, Nat.le_refl _⟩, Turned.low hb ht hS' hb.size⟩
  · have := hS k e; have := h2.lt k hk; omega
  · have := h1.lt k hk; omega
  · have := h2.lt k hk; omega
  · have := hlt k hk; have := h2.lt k e; omega

theorem szByteS_any (A : Option Addr) (n c : Nat) (k : Int) (w : World) (hn : n ≤ maxLen) (hk0 : 0 ≤ k) (hk1 : k ≤ 1048576) :
    Calls Tryz.prog 20 #[.slice A n c, .int .i64 k] w fun e w' => ∃ r : Int, e = .returned (.int .i64 r) ∧ (r = -1 ∨ (r = k - n ∧ 0 ≤ r)) ∧ w' = w := by
  have hm : (n : Int) ≤ 9223372036854775807 := by unfold maxLen at hn; omega
  by_cases h : k < n
  · have hd : decide (k - (n : Int) < 0) = true := by simp; omega
    go_enter Tryz.func20, Tryz.ntmps20
    go_wp2
    go_ret
    exact ⟨-1, rfl, .inl rfl, rfl⟩
  · have hd : decide (k - (n : Int) < 0) = false := by simp; omega
    have HK : Hid (0 ≤ k - (n : Int)) := (by omega : 0 ≤ k - (n : Int))
    go_enter Tryz.func20, Tryz.ntmps20
    go_wp2
    go_ret
    exact ⟨k - n, rfl, .inr ⟨rfl, HK.out⟩, rfl⟩
set_option maxHeartbeats 800000 in
theorem szJournal_any (A1 A2 : Option Addr) (c1 c2 : Nat) (d : JD) (w : World) (h1 : d.1.length ≤ maxLen) (h2 : d.2.1.length ≤ maxLen) : SzC 9 jty (.agg #[.slice A1 d.1.length c1, .slice A2 d.2.1.length c2, .int .i64 d.2.2]) d w := by
  intro W k _ hk0 hk1
  obtain ⟨x, y, s⟩ := d
  obtain ⟨m, hm⟩ : ∃ m, m = x.length := ⟨_, rfl⟩
  obtain ⟨n, hn⟩ : ∃ n, n = y.length := ⟨_, rfl⟩
  simp only [← hm, ← hn] at h1 h2 ⊢
  have HM := Lib.hid hm
  have HN := Lib.hid hn
  clear hm hn
  go_enter Tryz.func9, Tryz.ntmps9
  go_wp2_with fail
  refine (szByteS_any A1 m c1 k _ h1 hk0 hk1).mono ?_
  rintro e w1 ⟨r, rfl, rfl | ⟨hr, h3⟩, rfl⟩
  · go_wp2
    go_ret
    exact ⟨-1, rfl, bel1 _ _, .inl rfl⟩
  · have hd : decide (r < 0) = false := by simp; omega
    have HRr := Lib.hid hr
    have hr1 : r ≤ 1048576 := by omega
    clear hr
    go_wp2_with fail
    refine (szByteS_any A2 n c2 r _ h2 h3 hr1).mono ?_
    rintro e w1 ⟨r2, rfl, rfl | ⟨hr2, h4⟩, rfl⟩
    · go_wp2
      go_ret
      exact ⟨-1, rfl, bel1 _ _, .inl rfl⟩
    · have hd2 : decide (r2 < 0) = false := by simp; omega
      have HR4 := Lib.hid h4
      have HR5 := Lib.hid hr2
      clear hr2 h4
      go_wp2
      go_ret
      refine ⟨r2, rfl, bel1 _ _, .inr ⟨HR4.out, by have := HR4.out; have := HR5.out; omega, ?_⟩⟩
      show x.length + y.length ≤ 1048576
      have := HM.out; have := HN.out; have := HRr.out; have := HR4.out; have := HR5.out; omega
set_option maxRecDepth 100000 in
set_option maxHeartbeats 1600000 in
theorem toJournal_any : ToC 13 jty := by
  rintro w B v ⟨x, y, s⟩ ⟨A1, c1, A2, c2, rfl, h1, h2⟩ hB hf
  have hf : x.length + y.length ≤ 1048576 := hf
  have H1 := Lib.hid h1
  have H2 := Lib.hid h2
  obtain ⟨m, hm⟩ : ∃ m, m = x.length := ⟨_, rfl⟩
  obtain ⟨n, hn⟩ : ∃ n, n = y.length := ⟨_, rfl⟩
  have hx : m ≤ 1048576 := by omega
  have hy : n ≤ 1048576 := by omega
  simp only [← hm, ← hn] at H1 H2 ⊢
  have HM := Lib.hid hm
  have HN := Lib.hid hn
  clear h1 h2 hf hm hn
  go_enter Tryz.func13, Tryz.ntmps13
  go_wp2_with fail
  refine (toByteS_any A1 m c1 x B _ (H1.out.below (bel3 _ _ _ _) hB) (by simp; omega) hx).mono ?_
  rintro e w4 ⟨g1, rfl, hg1, hO1, hb1⟩
  rw [← HM.out] at hO1 ⊢
  obtain ⟨k0, k1, k2⟩ := Rec.old3 hb1
  have hb01 : Below w.heap.size w w4 := Rec.below_alloc3 hb1
  have HO1 := Lib.hid (show OwnB w4 (w.heap.size + 1 + 1 + 1) _ _ _ _ by simpa using hO1)
  have hs4 : w.heap.size + 1 + 1 < w4.heap.size := box_lt k2
  have p1 : w4.cell? ⟨w.heap.size, 1, none⟩ = some (.slice A2 n c2) := box_cell k0 1 _ rfl
  have p2 : w4.cell? ⟨w.heap.size + 1 + 1, 0, none⟩ = some (.slice none 0 0) := box_cell k2 0 _ rfl
  have p3 := box_frozen k2 0
  have K0 := Lib.hid k0
  have K1 := Lib.hid k1
  have K2 := Lib.hid k2
  have HB1 := Lib.hid hb01
  clear hb1 hO1 hg1 k0 k1 k2 hb01
  go_wp2_with fail
  obtain ⟨V, hV⟩ : ∃ V, V = w4.setCell ⟨w.heap.size + 1 + 1, 0, none⟩ (.slice (some ⟨g1, 0, none⟩) m m) := ⟨_, rfl⟩
  have hsV : V.heap.size = w4.heap.size := by rw [hV]; simp [World.setCell]
  have hbV : Below w.heap.size w V := by rw [hV]; exact HB1.out.setCell (p := ⟨w.heap.size + 1 + 1, 0, none⟩) (by show w.heap.size ≤ w.heap.size + 1 + 1; omega) _
  have KV0 := box_other K0.out ⟨w.heap.size + 1 + 1, 0, none⟩ (.slice (some ⟨g1, 0, none⟩) m m) (by show w.heap.size ≠ w.heap.size + 1 + 1; omega)
  have KV1 := box_other K1.out ⟨w.heap.size + 1 + 1, 0, none⟩ (.slice (some ⟨g1, 0, none⟩) m m) (by show w.heap.size + 1 ≠ w.heap.size + 1 + 1; omega)
  have KV2 := box_set (i := 0) K2.out (.slice (some ⟨g1, 0, none⟩) m m)
  rw [← hV] at KV0 KV1 KV2
  have HOV : OwnB V (w.heap.size + 1 + 1 + 1) (some ⟨g1, 0, none⟩) m m x := by
    rw [hV]
    exact own_same HO1.out (fun k hk => Below.heap_setCell _ _ _ _ (by have := (HO1.out.lt k hk).1; show k ≠ w.heap.size + 1 + 1; omega))
  rw [← hV]
  refine (toByteS_any A2 n c2 y B V (H2.out.below hbV hB) (by omega) hy).mono ?_
  rintro e w5 ⟨g2, rfl, hg2, hO2, hb2⟩
  rw [← HN.out] at hO2 ⊢
  have j0 := box_below KV0 hb2
  have j1 := box_below KV1 hb2
  have j2 := box_below KV2 hb2
  have hs5 := hb2.size
  have HO1' := Lib.hid (HOV.below hb2)
  have HL1 : Hid (∀ k, (Value.slice (some ⟨g1, 0, none⟩) m m).ownBlock = some k → w.heap.size + 1 + 1 + 1 ≤ k ∧ k < V.heap.size) := fun k hk => HOV.lt k hk
  have HO2 := Lib.hid hO2
  have HBV := Lib.hid (bel_then hbV hb2 (by omega))
  have HSV := Lib.hid hsV
  clear hb2 hO2 hg2 hsV hbV KV0 KV1 KV2 HOV hV K0 K1 K2 p1 p2 p3 HO1 HB1
  have a2 := box_cell j0 2 _ rfl
  have b0 := box_cell j1 0 _ rfl
  have b1 := box_cell j1 1 _ rfl
  have b2 := box_cell j1 2 _ rfl
  have d0 := box_cell j2 0 _ rfl
  have d1 := box_cell j2 1 _ rfl
  have d2 := box_cell j2 2 _ rfl
  have e0 := box_frozen j1 0
  have e1 := box_frozen j1 1
  have e2 := box_frozen j1 2
  have g0 := box_frozen j2 1
  have g5 := box_frozen j2 2
  have hlt5 : w.heap.size + 1 + 1 < w5.heap.size := box_lt j2
  clear j0 j1 j2
  simp at a2 b0 b1 b2 d0 d1 d2
  go_wp2
  refine bodyPost_ret (v := .agg #[.slice (some ⟨g1, 0, none⟩) m m, .slice (some ⟨g2, 0, none⟩) n n, .int .i64 s]) (by simp [results, Tryz.results13, go_sem, b0, b1, b2]) rfl ?_
  refine made_of (w5 := w5) (w4 := V) HBV.out (own_base HO1'.out (fun k hk => by have := (HO1'.out.lt k hk).1; omega)) HO2.out (fun k hk => ?_) hs5 (by have := HSV.out; omega) HM.out HN.out (sets5 (S := fun k => k = w.heap.size + 1 ∨ k = w.heap.size + 1 + 1) (.inr rfl) (.inr rfl) (.inl rfl) (.inl rfl) (.inl rfl)) (fun k hk => ?_) (fun k hk => by omega)
  · have := HL1.out k hk
    omega
  · have h5 := HSV.out
    omega
set_option maxHeartbeats 800000 in
theorem eqJournal_any : EqC 18 jty := by
  rintro w B B' v v' ⟨x, y, s⟩ ⟨A1, c1, A2, c2, rfl, h1, h2⟩ ⟨C1, e1, C2, e2, rfl, g1, g2⟩ hB hB' hf
  have hf : x.length + y.length ≤ 1048576 := hf
  obtain ⟨m, hm⟩ : ∃ m, m = x.length := ⟨_, rfl⟩
  obtain ⟨n, hn⟩ : ∃ n, n = y.length := ⟨_, rfl⟩
  have hx : m ≤ 1048576 := by omega
  have hy : n ≤ 1048576 := by omega
  simp only [← hm, ← hn] at h1 h2 g1 g2 ⊢
  have H1 := Lib.hid (h1.below (bel2 w (.cells #[.slice A1 m c1, .slice A2 n c2, .int .i64 s] 37) (.cells #[.slice C1 m e1, .slice C2 n e2, .int .i64 s] 37)) hB)
  have H2 := Lib.hid (h2.below (bel2 w (.cells #[.slice A1 m c1, .slice A2 n c2, .int .i64 s] 37) (.cells #[.slice C1 m e1, .slice C2 n e2, .int .i64 s] 37)) hB)
  have G1 := Lib.hid (g1.below (bel2 w (.cells #[.slice A1 m c1, .slice A2 n c2, .int .i64 s] 37) (.cells #[.slice C1 m e1, .slice C2 n e2, .int .i64 s] 37)) hB')
  have G2 := Lib.hid (g2.below (bel2 w (.cells #[.slice A1 m c1, .slice A2 n c2, .int .i64 s] 37) (.cells #[.slice C1 m e1, .slice C2 n e2, .int .i64 s] 37)) hB')
  clear h1 h2 g1 g2 hm hn hf
  go_enter Tryz.func18, Tryz.ntmps18
  go_wp2_with fail
  refine (eqByteS_same A1 C1 m c1 e1 x B B' _ H1.out G1.out hx).mono ?_
  rintro e w2 ⟨rfl, m1, rfl⟩
  go_wp2_with fail
  refine (eqByteS_same A2 C2 n c2 e2 y B B' _ (by exact H2.out) (by exact G2.out) hy).mono ?_
  rintro e w2 ⟨rfl, m2, rfl⟩
  go_wp2
  go_ret
  exact ⟨rfl, below_drewN (bel2 _ _ _) _⟩
section
variable {H : Type} {enc : TypeId × Value → H} {w : World} {base : Nat} {spare : Nat → Bool} {held : Bool}
theorem bytes_read {fuel : Nat} {v : Value} {x : DataW H × List MemPlace} (h : DataW.trod enc Tryz.prog w base spare held fuel 24 [v] = some x) :
    ∃ A n c zs, v = .slice A n c ∧ IsBytes w w.heap.size A n zs ∧ n ≤ maxLen := by
  rcases open_ints Tryz.underlying24 Tryz.underlying5 (by kernel_rfl) h with ⟨hcs, _⟩ | ⟨x, l, c, zs, hcs, _, hl, hm, hz, _, hcell, hwz⟩
  · injection hcs with hcs
    exact ⟨none, 0, 0, [], hcs, ⟨rfl, fun x h => by simp at h, fun h => absurd h (by omega)⟩, Nat.zero_le _⟩
  · injection hcs with hcs
    have hlz : l ≤ zs.length := by rw [hz]; split <;> omega
    refine ⟨_, _, _, zs.take l, hcs, ?_, by omega⟩
    refine ⟨by simp; omega, fun x hx => ?_, fun hp => ?_⟩
    · have h1 := hwz x (List.mem_of_mem_take hx)
      simp [Lit.wf, IntKind.min, IntKind.max, IntKind.signed, IntKind.bits] at h1
      omega
    have h0 := hcell 0 (by omega)
    obtain ⟨b, off, spot⟩ := x
    have hspot : spot = none := by simpa [Addr.add] using World.cell?_spot h0
    subst hspot
    have hb : b < w.heap.size := by simpa [Addr.add] using World.block_lt_of_cell? w _ h0
    refine ⟨b, off, rfl, hb, fun j hj => ?_⟩
    have hj' := hcell j (by omega)
    have he : (⟨b, off, none⟩ : Addr).add j = ⟨b, off + j, none⟩ := by
      unfold Addr.add
      split
      · subst_vars; rfl
      · rfl
    rw [he] at hj'
    rw [hj']
    simp [List.getD, hj]
set_option maxRecDepth 100000 in
theorem open_journal {r : Reach} {b0 : Nat} {v : Value} {d : DataW H} {p : List MemPlace} (hv : Value.okWide Tryz.prog w r b0 26 v) (h : DataW.Trod enc Tryz.prog w base spare held 26 v d p) :
    ∃ A m c A' n c' s dd, v = .agg #[.slice A m c, .slice A' n c', .int .i64 s] ∧ jty.Rd w w.heap.size (.agg #[.slice A m c, .slice A' n c', .int .i64 s]) dd ∧ SzC 9 jty (.agg #[.slice A m c, .slice A' n c', .int .i64 s]) dd w ∧ (Lit.int .i64 dd.2.2).wf = true := by
  obtain ⟨v0, v1, v2, y0, y1, y2, n, rfl, _, _, h0, h1, h2⟩ := open_agg3 Tryz.underlying26 (by kernel_rfl) (by kernel_rfl) hv h
  obtain ⟨A1, n1, c1, x, rfl, r1, l1⟩ := bytes_read h0
  obtain ⟨A2, n2, c2, y, rfl, r2, l2⟩ := bytes_read h1
  obtain ⟨s, e0, hw0⟩ := DataW.trod_int Tryz.underlying3 h2
  injection e0 with e0
  subst e0
  obtain rfl : x.length = n1 := r1.1
  obtain rfl : y.length = n2 := r2.1
  exact ⟨_, _, _, _, _, _, _, (x, y, s), rfl, ⟨A1, c1, A2, c2, rfl, r1, r2⟩, szJournal_any A1 A2 c1 c2 (x, y, s) w l1 l2, hw0.2⟩
end
end Go.Proofs.YtlghdmakaocokaaGreatDoor.Jour
