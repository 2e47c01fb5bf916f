/-
  JOURNALS: two files of bytes and a number; the contracts of the laws' toJournal, szJournal, eqJournal, markJournal, heldJournal over this seat's translation; and how a journal comes in as an argument of a law.
-/
import Derived.Test.YtklgjjmcflgjeaaLawKit
import Derived.Test.YtklgjjmcflgjeaaBytes
import Derived.Test.YtklgjjmcflgjeaaRecBox
namespace Go.Proofs.Ytklgjjmcflgjeaa.Jour
open Go.ChangeShapes Go.WideShapes Go.ChangeAt Go.RowKit Go.Joins Go.Deep
open Go.Proofs.Ytklgjjmcflgjeaa.Bytes Go.Proofs.Ytklgjjmcflgjeaa.LK
open Go.Proofs.Ytklgjjmcflgjeaa.Ints (below_drewN)
set_option linter.unusedVariables false

/-- Snap, Tail, Safe. -/
abbrev JD := List Int × List Int × Int
def JRd (w : World) (B : Nat) (v : Value) (d : JD) : Prop := ∃ A1 c1 A2 c2, v = .agg #[.slice A1 d.1.length c1, .slice A2 d.2.1.length c2, .int .i64 d.2.2] ∧ IsBytes w B A1 d.1.length d.1 ∧ IsBytes w B A2 d.2.1.length d.2.1
def JOwn (w : World) (S : Nat → Prop) (v : Value) (d : JD) : Prop := ∃ A1 c1 A2 c2, v = .agg #[.slice A1 d.1.length c1, .slice A2 d.2.1.length c2, .int .i64 d.2.2] ∧ OwnB w 0 A1 d.1.length c1 d.1 ∧ OwnB w 0 A2 d.2.1.length c2 d.2.1 ∧
  (∀ k, (Value.slice A1 d.1.length c1).ownBlock = some k → S k) ∧ (∀ k, (Value.slice A2 d.2.1.length c2).ownBlock = some k → S k) ∧ (∀ k, (Value.slice A1 d.1.length c1).ownBlock = some k → (Value.slice A2 d.2.1.length c2).ownBlock ≠ some k)

theorem own_base {w : World} {b b' : Nat} {A : Option Addr} {n c : Nat} {zs : List Int} (h : OwnB w b A n c zs) (hb : ∀ k, (Value.slice A n c).ownBlock = some k → b' ≤ k) : OwnB w b' A n c zs := by
  refine ⟨h.1, h.2.1, h.2.2.1, ?_⟩
  rcases h.2.2.2 with h2 | ⟨g, cap, cur, h3, h4, h5⟩
  · exact .inl h2
  · refine .inr ⟨g, cap, cur, h3, hb g ?_, h5⟩
    rw [h3]; rfl
theorem own_zero {w : World} {b : Nat} {A : Option Addr} {n c : Nat} {zs : List Int} (h : OwnB w b A n c zs) : OwnB w 0 A n c zs := own_base h (fun _ _ => Nat.zero_le _)
theorem own_same {w w' : World} {b : Nat} {A : Option Addr} {n c : Nat} {zs : List Int} (h : OwnB w b A n c zs) (hs : ∀ k, (Value.slice A n c).ownBlock = some k → w'.heap[k]? = w.heap[k]?) : OwnB w' b A n c zs := by
  refine ⟨h.1, h.2.1, h.2.2.1, ?_⟩
  rcases h.2.2.2 with h2 | ⟨g, cap, cur, h3, h4, h5, h6⟩
  · exact .inl h2
  · refine .inr ⟨g, cap, cur, h3, h4, ?_, h6⟩
    rw [hs g (by rw [h3]; rfl)]; exact h5
theorem own_bytes {w : World} {b B : Nat} {A : Option Addr} {n c : Nat} {zs : List Int} (h : OwnB w b A n c zs) (hs : ∀ k, (Value.slice A n c).ownBlock = some k → k < B) : IsBytes w B A n zs := by
  obtain ⟨h1, h2, h3⟩ := h.bytes
  refine ⟨h1, h2, fun hn => ?_⟩
  obtain ⟨g, off, e, _, h4⟩ := h3 hn
  exact ⟨g, off, e, hs g (by rw [e]; rfl), h4⟩

def jty : Ty where
  D := JD
  Rd := JRd
  Own := JOwn
  Few := fun d => d.1.length + d.2.1.length ≤ 1048576
  cnt := fun d => d.1.length + d.2.1.length
  mark := fun k d => (marksB k d.1.length, marksB (k + d.1.length) d.2.1.length, d.2.2)
  rd_below := by
    rintro w w' B C v d ⟨A1, c1, A2, c2, rfl, h1, h2⟩ hb hC
    exact ⟨A1, c1, A2, c2, rfl, h1.below hb hC, h2.below hb hC⟩
  own_rd := by
    rintro w S v d B ⟨A1, c1, A2, c2, rfl, h1, h2, s1, s2, _⟩ hB
    exact ⟨A1, c1, A2, c2, rfl, own_bytes h1 (fun k hk => hB k (s1 k hk)), own_bytes h2 (fun k hk => hB k (s2 k hk))⟩
  own_same := by
    rintro w w' S v d ⟨A1, c1, A2, c2, rfl, h1, h2, s1, s2, s3⟩ hs
    exact ⟨A1, c1, A2, c2, rfl, own_same h1 (fun k hk => hs k (s1 k hk)), own_same h2 (fun k hk => hs k (s2 k hk)), s1, s2, s3⟩
  few_cnt := by intro d h; omega
theorem shape {w : World} {lo hi : Nat} {S : Nat → Prop} {v : Value} {d : JD} (h : Has jty w lo hi S v d) : ∃ A m c A' n c' s, v = .agg #[.slice A m c, .slice A' n c', .int .i64 s] := by
  obtain ⟨A1, c1, A2, c2, e, _⟩ := h.own
  exact ⟨_, _, _, _, _, _, _, e⟩
/-- Two rows, one made behind the other. -/
theorem has_of {w w' : World} {lo : Nat} {A1 A2 : Option Addr} {c1 c2 : Nat} {x y : List Int} {s : Int} (h1 : OwnB w lo A1 x.length c1 x) (hb : Below w.heap.size w w') (h2 : OwnB w' w.heap.size A2 y.length c2 y) (hlo : lo ≤ w.heap.size) :
    Has jty w' lo w'.heap.size (fun k => lo ≤ k ∧ k < w'.heap.size) (.agg #[.slice A1 x.length c1, .slice A2 y.length c2, .int .i64 s]) (x, y, s) := by
  have hz := hb.size
  refine ⟨⟨A1, c1, A2, c2, rfl, own_zero (h1.below hb), own_zero h2, fun k hk => ?_, fun k hk => ?_, fun k hk e => ?_⟩, fun k hk => hk, Nat.le_refl _⟩
  · have := h1.lt k hk; omega
  · have := h2.lt k hk; omega
  · have := h1.lt k hk; have := h2.lt k e; omega

theorem own_cut {w : World} {b : Nat} {A : Option Addr} {n c : Nat} {zs : List Int} (h : OwnB w b A n c zs) (k : Nat) (hk : k ≤ n) : OwnB w b A k c (zs.take k) := by
  obtain ⟨h1, h2, h3, h4⟩ := h
  refine ⟨by rw [List.length_take]; omega, fun x hx => h2 x (List.mem_of_mem_take hx), by simp; omega, ?_⟩
  rcases h4 with ⟨e, hn⟩ | ⟨g, cap, cur, e, h5, h6, h7, h8, h9, h10⟩
  · obtain rfl : k = 0 := by omega
    injection e with e1 e2 e3
    subst e1 e3
    exact .inl ⟨rfl, rfl⟩
  · injection e with e1 e2 e3
    subst e1 e3
    refine .inr ⟨g, c, cur, rfl, h5, h6, by omega, h8, h9, ?_⟩
    rw [List.map_take, ← h10, List.take_take]
    congr 1
    omega
theorem ob (A : Option Addr) (n c n' c' : Nat) : (Value.slice A n c).ownBlock = (Value.slice A n' c').ownBlock := by cases A <;> rfl
/-- A journal whose Tail is cut, with another Safe. -/
theorem has_cut {w : World} {lo hi : Nat} {S : Nat → Prop} {A1 A2 : Option Addr} {m n c1 c2 : Nat} {x y : List Int} {s : Int} (h : Has jty w lo hi S (.agg #[.slice A1 m c1, .slice A2 n c2, .int .i64 s]) (x, y, s)) (k : Nat) (hk : k ≤ n) (s' : Int) :
    Has jty w lo hi S (.agg #[.slice A1 m c1, .slice A2 k c2, .int .i64 s']) (x, y.take k, s') := by
  obtain ⟨⟨A1', c1', A2', c2', e, h1, h2, s1, s2, s3⟩, hi1, hi2⟩ := h
  simp only [Value.agg.injEq, Array.mk.injEq, List.cons.injEq, Value.slice.injEq] at e
  obtain ⟨⟨rfl, rfl, rfl⟩, ⟨rfl, rfl, rfl⟩, _⟩ := e
  have hl : (y.take k).length = k := by rw [List.length_take]; exact Nat.min_eq_left hk
  refine ⟨⟨A1, c1, A2, c2, by rw [hl], h1, by rw [hl]; exact own_cut h2 k hk, s1, ?_, ?_⟩, hi1, hi2⟩
  · intro q hq; exact s2 q ((ob A2 _ _ _ _).trans hq)
  · intro q hq e; exact s3 q hq ((ob A2 _ _ _ _).trans e)
theorem has_lens {w : World} {lo hi : Nat} {S : Nat → Prop} {A1 A2 : Option Addr} {m n c1 c2 : Nat} {x y : List Int} {s r : Int} (h : Has jty w lo hi S (.agg #[.slice A1 m c1, .slice A2 n c2, .int .i64 r]) (x, y, s)) : m = x.length ∧ n = y.length ∧ r = s := by
  obtain ⟨⟨A1', c1', A2', c2', e, _⟩, _⟩ := h
  simp only [Value.agg.injEq, Array.mk.injEq, List.cons.injEq, Value.slice.injEq, Value.int.injEq] at e
  exact ⟨e.1.2.1, e.2.1.2.1, e.2.2.1.2⟩
theorem rd_lens {w : World} {B : Nat} {A1 A2 : Option Addr} {m n c1 c2 : Nat} {x y : List Int} {s r : Int} (h : JRd w B (.agg #[.slice A1 m c1, .slice A2 n c2, .int .i64 r]) (x, y, s)) : m = x.length ∧ n = y.length ∧ r = s := by
  obtain ⟨A1', c1', A2', c2', e, _⟩ := h
  simp only [Value.agg.injEq, Array.mk.injEq, List.cons.injEq, Value.slice.injEq, Value.int.injEq] at e
  exact ⟨e.1.2.1, e.2.1.2.1, e.2.2.1.2⟩
theorem made1_of {w w5 w6 : World} {lo hi : Nat} {S0 S : Nat → Prop} {v x : Value} {d : JD} (hH : Has jty w5 lo hi S0 v d) (hb : Below w.heap.size w w5) (ht : Turned S w5 w6) (hlo : w.heap.size ≤ lo) (hS : ∀ k, S k → w.heap.size ≤ k) (hd : ∀ k, S0 k → ¬ S k) :
    Made1 jty d x w (.returned (.tuple #[v, x])) w6 := by
  have h := hH.turned ht hd
  exact ⟨v, S0, rfl, ⟨h.own, fun k hk => by have := h.inn k hk; have := h.hi; omega, Nat.le_refl _⟩, Turned.low hb ht hS hb.size⟩
theorem sets5 {S : Nat → Prop} {w : World} {p1 p2 p3 p4 p5 : Addr} {u1 u2 u3 u4 u5 : Value} (h1 : S p1.block) (h2 : S p2.block) (h3 : S p3.block) (h4 : S p4.block) (h5 : S p5.block) :
    Turned S w (((((w.setCell p1 u1).setCell p2 u2).setCell p3 u3).setCell p4 u4).setCell p5 u5) :=
  ((((Turned.set w p1 u1 h1).trans (Turned.set _ p2 u2 h2)).trans (Turned.set _ p3 u3 h3)).trans (Turned.set _ p4 u4 h4)).trans (Turned.set _ p5 u5 h5)
theorem sets3 {S : Nat → Prop} {w : World} {p1 p2 p3 : Addr} {u1 u2 u3 : Value} (h1 : S p1.block) (h2 : S p2.block) (h3 : S p3.block) :
    Turned S w (((w.setCell p1 u1).setCell p2 u2).setCell p3 u3) :=
  ((Turned.set w p1 u1 h1).trans (Turned.set _ p2 u2 h2)).trans (Turned.set _ p3 u3 h3)
theorem sets4 {S : Nat → Prop} {w : World} {p1 p2 p3 p4 : Addr} {u1 u2 u3 u4 : Value} (h1 : S p1.block) (h2 : S p2.block) (h3 : S p3.block) (h4 : S p4.block) :
    Turned S w ((((w.setCell p1 u1).setCell p2 u2).setCell p3 u3).setCell p4 u4) := (sets3 h1 h2 h3).trans (Turned.set _ p4 u4 h4)
/-- Two rows, one made behind the other; then cells of neither were written. -/
theorem made_of {w w4 w5 w6 : World} {S : Nat → Prop} {A1 A2 : Option Addr} {m n c1 c2 : Nat} {x y : List Int} {s : Int} (hb : Below w.heap.size w w5) (h1 : OwnB w5 w.heap.size A1 m c1 x) (h2 : OwnB w5 w4.heap.size A2 n c2 y)
    (hlt : ∀ k, (Value.slice A1 m c1).ownBlock = some k → k < w4.heap.size ∧ ¬ S k) (h45 : w4.heap.size ≤ w5.heap.size) (h04 : w.heap.size ≤ w4.heap.size) (hm : m = x.length) (hn : n = y.length) (ht : Turned S w5 w6) (hS : ∀ k, S k → k < w4.heap.size) (hS' : ∀ k, S k → w.heap.size ≤ k) :
    Made jty (x, y, s) w (.returned (.agg #[.slice A1 m c1, .slice A2 n c2, .int .i64 s])) w6 := by
  subst hm hn
  have hz := ht.size
  refine ⟨_, fun k => w.heap.size ≤ k ∧ k < w6.heap.size, rfl, ⟨⟨A1, c1, A2, c2, rfl, own_zero (own_same h1 fun k hk => ht.block k (h1.lt k hk).2 (hlt k hk).2), own_zero (own_same h2 fun k hk => ht.block k (h2.lt k hk).2 (fun e => ?_)), fun k hk => ?_, fun k hk => ?_, fun k hk e => ?_⟩, fun k hk => hk, Nat.le_refl _⟩, Turned.low hb ht hS' hb.size⟩
  · have := hS k e; have := h2.lt k hk; omega
  · have := h1.lt k hk; omega
  · have := h2.lt k hk; omega
  · have := hlt k hk; have := h2.lt k e; omega

set_option maxHeartbeats 800000 in
theorem eqJournal_any : EqC 26 jty := by
  rintro w B B' v v' ⟨x, y, s⟩ ⟨A1, c1, A2, c2, rfl, h1, h2⟩ ⟨C1, e1, C2, e2, rfl, g1, g2⟩ hB hB' hf
  have hf : x.length + y.length ≤ 1048576 := hf
  obtain ⟨m, hm⟩ : ∃ m, m = x.length := ⟨_, rfl⟩
  obtain ⟨n, hn⟩ : ∃ n, n = y.length := ⟨_, rfl⟩
  have hx : m ≤ 1048576 := by omega
  have hy : n ≤ 1048576 := by omega
  simp only [← hm, ← hn] at h1 h2 g1 g2 ⊢
  have H1 := Lib.hid (h1.below (bel2 w (.cells #[.slice A1 m c1, .slice A2 n c2, .int .i64 s] 27) (.cells #[.slice C1 m e1, .slice C2 n e2, .int .i64 s] 27)) hB)
  have H2 := Lib.hid (h2.below (bel2 w (.cells #[.slice A1 m c1, .slice A2 n c2, .int .i64 s] 27) (.cells #[.slice C1 m e1, .slice C2 n e2, .int .i64 s] 27)) hB)
  have G1 := Lib.hid (g1.below (bel2 w (.cells #[.slice A1 m c1, .slice A2 n c2, .int .i64 s] 27) (.cells #[.slice C1 m e1, .slice C2 n e2, .int .i64 s] 27)) hB')
  have G2 := Lib.hid (g2.below (bel2 w (.cells #[.slice A1 m c1, .slice A2 n c2, .int .i64 s] 27) (.cells #[.slice C1 m e1, .slice C2 n e2, .int .i64 s] 27)) hB')
  clear h1 h2 g1 g2 hm hn hf
  go_enter Try.func26, Try.ntmps26
  go_wp2_with fail
  refine (eqByteS_same A1 C1 m c1 e1 x B B' _ H1.out G1.out hx).mono ?_
  rintro e w2 ⟨rfl, m1, rfl⟩
  go_wp2_with fail
  refine (eqByteS_same A2 C2 n c2 e2 y B B' _ (by exact H2.out) (by exact G2.out) hy).mono ?_
  rintro e w2 ⟨rfl, m2, rfl⟩
  go_wp2
  go_ret
  exact ⟨rfl, below_drewN (bel2 _ _ _) _⟩
set_option maxHeartbeats 800000 in
theorem markJournal_any : MarkC 28 jty := by
  rintro w lo hi S v ⟨x, y, s⟩ k ⟨⟨A1, c1, A2, c2, rfl, h1, h2, s1, s2, s3⟩, hin, hhi⟩ hf hk0 hk1
  have hf : x.length + y.length ≤ 1048576 := hf
  obtain ⟨m, hm⟩ : ∃ m, m = x.length := ⟨_, rfl⟩
  obtain ⟨n, hn⟩ : ∃ n, n = y.length := ⟨_, rfl⟩
  have hx : m ≤ 1048576 := by omega
  have hy : n ≤ 1048576 := by omega
  simp only [← hm, ← hn] at h1 h2 s1 s2 s3 ⊢
  have HM := Lib.hid hm
  have HN := Lib.hid hn
  have H1 := Lib.hid (h1.alloc (.cells #[.slice A1 m c1, .slice A2 n c2, .int .i64 s] 27))
  have H2 := Lib.hid (h2.alloc (.cells #[.slice A1 m c1, .slice A2 n c2, .int .i64 s] 27))
  have S1 := Lib.hid s1
  have S2 := Lib.hid s2
  have S3 := Lib.hid s3
  have hl1 : ∀ k, (Value.slice A1 m c1).ownBlock = some k → k < w.heap.size := fun k hk => (h1.lt k hk).2
  have hl2 : ∀ k, (Value.slice A2 n c2).ownBlock = some k → k < w.heap.size := fun k hk => (h2.lt k hk).2
  have L1 := Lib.hid hl1
  have L2 := Lib.hid hl2
  have HI := Lib.hid hin
  have HHI := Lib.hid hhi
  clear h1 h2 hm hn hf s1 s2 s3 hl1 hl2 hin hhi
  go_enter Try.func28, Try.ntmps28
  go_wp2_with fail
  refine (markByteS_any A1 m c1 x k 0 _ H1.out hx hk0 (by omega)).mono ?_
  rintro e w2 ⟨rfl, hO2, hg2⟩
  have ht2 : Turned (fun q => (Value.slice A1 m c1).ownBlock = some q) (w.alloc (.cells #[.slice A1 m c1, .slice A2 n c2, .int .i64 s] 27)) w2 := Turned.of_grown hg2 (fun q hq => hq)
  have hbx := box_turned (box_new w (.cells #[.slice A1 m c1, .slice A2 n c2, .int .i64 s] 27)) ht2 (fun e => by have := L1.out _ e; omega)
  have k20 : w2.cell? ⟨w.heap.size, 1, none⟩ = some (.slice A2 n c2) := box_cell hbx 1 _ rfl
  have H22 : Hid (OwnB w2 0 A2 n c2 y) := own_same H2.out (fun q hq => ht2.block q (by have := L2.out q hq; simp; omega) (fun e => S3.out q e hq))
  have H12 := Lib.hid hO2
  have HT2 := Lib.hid ht2
  clear ht2 hbx hO2 hg2 H1 H2
  have hk2 : k + (m : Int) ≤ 300000000 := by omega
  have hk3 : 0 ≤ k + (m : Int) := by omega
  obtain ⟨q2, hq2⟩ : ∃ q2 : Int, q2 = k + m := ⟨_, rfl⟩
  rw [← hq2] at hk2 hk3 ⊢
  have HQ := Lib.hid hq2
  clear hq2
  go_wp2_with fail
  refine (markByteS_any A2 n c2 y q2 0 _ H22.out hy hk3 hk2).mono ?_
  rintro e w3 ⟨rfl, hO3, hg3⟩
  have HO3 := Lib.hid hO3
  have ht3 : Turned (fun q => (Value.slice A2 n c2).ownBlock = some q) w2 w3 := Turned.of_grown hg3 (fun q hq => hq)
  have HT3 := Lib.hid ht3
  clear hO3 hg3 ht3
  go_wp2
  go_ret
  have e1 := HM.out
  have e2 := HN.out
  have hT : Turned S w w3 := ((Turned.of_below (bel1 w _)).trans (HT2.out.wide S1.out)).trans (HT3.out.wide S2.out)
  refine ⟨?_, ⟨⟨A1, c1, A2, c2, ?_, ?_, ?_, ?_, ?_, ?_⟩, HI.out, Nat.le_trans HHI.out hT.size⟩, hT⟩
  · show Ending.returned (.int .i64 (q2 + n)) = Ending.returned (.int .i64 (k + ((x.length + y.length : Nat) : Int)))
    rw [HQ.out, e1, e2]; congr 2; omega
  · show _ = Value.agg #[.slice A1 (marksB k x.length).length c1, .slice A2 (marksB (k + x.length) y.length).length c2, .int .i64 s]
    rw [marksB_len, marksB_len, ← e1, ← e2]
  · show OwnB w3 0 A1 (marksB k x.length).length c1 (marksB k x.length)
    rw [marksB_len, ← e1]
    exact own_same H12.out (fun q hq => HT3.out.block q (H12.out.lt q hq).2 (fun e => S3.out q hq e))
  · show OwnB w3 0 A2 (marksB (k + x.length) y.length).length c2 (marksB (k + x.length) y.length)
    rw [marksB_len, ← e2, ← e1, ← HQ.out]
    exact HO3.out
  · show ∀ q, (Value.slice A1 (marksB k x.length).length c1).ownBlock = some q → S q
    rw [marksB_len, ← e1]; exact S1.out
  · show ∀ q, (Value.slice A2 (marksB (k + x.length) y.length).length c2).ownBlock = some q → S q
    rw [marksB_len, ← e2]; exact S2.out
  · show ∀ q, (Value.slice A1 (marksB k x.length).length c1).ownBlock = some q → (Value.slice A2 (marksB (k + x.length) y.length).length c2).ownBlock ≠ some q
    rw [marksB_len, marksB_len, ← e1, ← e2]; exact S3.out
set_option maxHeartbeats 800000 in
theorem heldJournal_any : HeldC 30 jty := by
  rintro w B v ⟨x, y, s⟩ k ⟨A1, c1, A2, c2, rfl, h1, h2⟩ hB hf hk0 hk1
  have hf : x.length + y.length ≤ 1048576 := hf
  have h1 : IsBytes w B A1 (marksB k x.length).length (marksB k x.length) := h1
  have h2 : IsBytes w B A2 (marksB (k + x.length) y.length).length (marksB (k + x.length) y.length) := h2
  show Calls Try.prog 30 #[.agg #[.slice A1 (marksB k x.length).length c1, .slice A2 (marksB (k + x.length) y.length).length c2, .int .i64 s], .int .i64 k] w (Says (.int .i64 (k + ((x.length + y.length : Nat) : Int))) w)
  rw [marksB_len] at h1 h2
  rw [marksB_len, marksB_len]
  obtain ⟨m, hm⟩ : ∃ m, m = x.length := ⟨_, rfl⟩
  obtain ⟨n, hn⟩ : ∃ n, n = y.length := ⟨_, rfl⟩
  have hx : m ≤ 1048576 := by omega
  have hy : n ≤ 1048576 := by omega
  simp only [← hm, ← hn] at h1 h2 ⊢
  have H1 := Lib.hid (h1.below (bel1 w (.cells #[.slice A1 m c1, .slice A2 n c2, .int .i64 s] 27)) hB)
  have H2 := Lib.hid (h2.below (bel1 w (.cells #[.slice A1 m c1, .slice A2 n c2, .int .i64 s] 27)) hB)
  obtain ⟨q2, hq2⟩ : ∃ q2 : Int, q2 = k + m := ⟨_, rfl⟩
  have hk2 : q2 ≤ 300000000 := by omega
  have hk3 : 0 ≤ q2 := by omega
  obtain ⟨q3, hq3⟩ : ∃ q3 : Int, q3 = q2 + n := ⟨_, rfl⟩
  have hk4 : 0 ≤ q3 := by omega
  have hq4 : k + ((m + n : Nat) : Int) = q3 := by omega
  rw [hq4]
  rw [← hq2] at H2
  have HQ := Lib.hid hq2
  have HQ3 := Lib.hid hq3
  have hd2 : decide (q2 < 0) = false := by simp; omega
  have hd3 : decide (q3 < 0) = false := by simp; omega
  clear h1 h2 hm hn hf hq2 hq3 hq4
  go_enter Try.func30, Try.ntmps30
  go_wp2_with fail
  refine (heldByteS_any A1 m c1 k B _ H1.out hx hk0 (by omega)).mono ?_
  rintro e w2 ⟨rfl, rfl⟩
  rw [← HQ.out]
  go_wp2_with fail
  refine (heldByteS_any A2 n c2 q2 B _ H2.out hy hk3 hk2).mono ?_
  rintro e w2 ⟨rfl, rfl⟩
  rw [← HQ3.out]
  go_wp2
  go_ret
  exact ⟨rfl, bel1 _ _⟩
end Go.Proofs.Ytklgjjmcflgjeaa.Jour
