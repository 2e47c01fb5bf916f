import Derived.Test.YtklgjjmcflgjeaaGreatQ
import Derived.Test.YtklgjjmcflgjeaaGreatR10
import Derived.Test.YtklgjjmcflgjeaaGreatR28
import Derived.Test.YtklgjjmcflgjeaaGreatR38
set_option linter.unusedVariables false
set_option linter.unusedSimpArgs false
namespace Go.Proofs.YtklgjjmcflgjeaaGreat.ModV
open Tick (inB in_t tokB tok_t sinceV)
open Pods
open FleetV hiding goodB
open EngV Eng EngInv
open Crew (goD goP addD takeD takeV findP)
def mdel (r : Run) (id : Int) : Run := (r.setFl (goD r.fl id r.e.now)).tell 1 id (findP r.fl id).2.1
theorem find_of {ps : PList} {nx : Int} {p : Pd} (h : FGood ps nx) (hp : p ∈ ps) : findP (ps, nx) p.1 = p := by
  have h1 := fnd_of h.2.2.2 hp
  unfold findP Crew.findO
  simp [h, h1]
theorem mdel_eq {r : Run} {p : Pd} (h : FGood r.e.ps r.e.nx) (hp : p ∈ r.e.ps) : mdel r p.1 = r.drop p := by
  unfold mdel Run.drop
  rw [show findP r.fl p.1 = p from find_of h hp]
theorem goP_id {d : PList × Int} {id now : Int} {p : Pd} (he : goP d id now = some p) : p.1 = id ∧ p.2.2.1 = 4 := by
  unfold goP at he
  split at he
  · cases hf : fndP d.1 id with
    | none => simp only [hf] at he; cases he
    | some q =>
      simp only [hf] at he
      split at he
      · cases he
      · injection he with he
        subst he
        exact ⟨(fnd_mem hf).2, rfl⟩
  · cases he
theorem drop_ps (r : Run) (p : Pd) : (r.drop p).e.ps = r.e.ps ∨ ∃ p', p'.1 = p.1 ∧ p'.2.2.1 = 4 ∧ (r.drop p).e.ps = setP p' r.e.ps := by
  show (goD r.fl p.1 r.e.now).1 = r.e.ps ∨ _
  cases e : goP r.fl p.1 r.e.now with
  | none => left; rw [(Crew.go_no e).1]; rfl
  | some q => right; obtain ⟨h1, h2⟩ := goP_id e; exact ⟨q, h1, h2, by show (goD r.fl p.1 r.e.now).1 = _; rw [(Crew.go_yes e).1]; rfl⟩
theorem drop_yes {r : Run} {p : Pd} (h : FGood r.e.ps r.e.nx) (hn : tokB r.e.now = true) (hp : p ∈ r.e.ps) (h4 : p.2.2.1 ≠ 4) : ∃ p', p'.1 = p.1 ∧ p'.2.2.1 = 4 ∧ (r.drop p).e.ps = setP p' r.e.ps := by
  have e : goP r.fl p.1 r.e.now = some (p.1, p.2.1, 4, p.2.2.2.1, r.e.now) := by
    unfold goP
    rw [if_pos ⟨h, hn⟩]
    have hf : fndP r.fl.1 p.1 = some p := fnd_of h.2.2.2 hp
    simp only [hf, if_neg h4]
  exact ⟨(p.1, p.2.1, 4, p.2.2.2.1, r.e.now), rfl, rfl, by show (goD r.fl p.1 r.e.now).1 = _; rw [(Crew.go_yes e).1]; rfl⟩
theorem mem_drop {r : Run} {p q : Pd} (hq : q ∈ r.e.ps) (hne : q.1 ≠ p.1) : q ∈ (r.drop p).e.ps := by
  rcases drop_ps r p with e | ⟨p', h1, _, e⟩
  · rw [e]; exact hq
  · rw [e]
    exact List.mem_map.2 ⟨q, hq, by rw [if_neg (by rw [h1]; exact hne)]⟩
theorem lose_ps (r : Run) (p : Pd) : (r.lose p).e.ps = (r.drop p).e.ps ∧ (r.lose p).e.nx = (r.drop p).e.nx := by
  unfold Run.lose
  split <;> exact ⟨rfl, rfl⟩
theorem lose_kp (r : Run) (p : Pd) : Kp r (r.lose p) 1 := (lose_all r p).1
def mlose (r : Run) (id : Int) : Run := if decide ((findP r.fl id).2.1 = r.e.tg) && mvB r.e.ph then (mdel r id).tryOn else mdel r id
theorem mlose_eq {r : Run} {p : Pd} (h : FGood r.e.ps r.e.nx) (hp : p ∈ r.e.ps) : mlose r p.1 = r.lose p := by
  unfold mlose Run.lose
  rw [mdel_eq h hp, show findP r.fl p.1 = p from find_of h hp, Bool.and_comm]
def lostP (r : Run) : PList := r.e.ps.filter (loP r.e.sp r.e.now)
def loseN (r : Run) (l : PList) : Run := l.foldl Run.lose r
theorem loseN_kp (l : PList) : ∀ r : Run, Kp r (loseN r l) l.length := by
  induction l with
  | nil => intro r; exact Kp.refl r
  | cons p l ih => intro r; exact ((lose_kp r p).trans (ih (r.lose p))).more (by simp; omega)
theorem loseAll_eq : ∀ (ps : PList) (r : Run), r.loseAll ps = loseN r (ps.filter (loP r.e.sp r.e.now))
  | [], r => rfl
  | p :: ps, r => by
    unfold Run.loseAll
    rw [List.filter_cons]
    cases hm : loP r.e.sp r.e.now p
    · simp only [Bool.false_eq_true, if_false]
      exact loseAll_eq ps r
    · simp only [if_true]
      rw [loseAll_eq ps (r.lose p)]
      have k := lose_kp r p
      rw [k.sp, k.now]
      rfl
theorem giveUp_eq (r : Run) : r.giveUp = loseN r (lostP r) := loseAll_eq r.e.ps r
theorem loseN_good (l : PList) : ∀ r : Run, FGood r.e.ps r.e.nx → tokB r.e.now = true → FGood (loseN r l).e.ps (loseN r l).e.nx := by
  induction l with
  | nil => intro r h _; exact h
  | cons p l ih =>
    intro r h hn
    have k := lose_kp r p
    refine ih (r.lose p) ?_ (by rw [k.now]; exact hn)
    rw [(lose_ps r p).1, (lose_ps r p).2]
    exact drop_good r p h hn
theorem loseN_mem (l : PList) : ∀ (r : Run) (q : Pd), q ∈ r.e.ps → (∀ p ∈ l, q.1 ≠ p.1) → q ∈ (loseN r l).e.ps := by
  induction l with
  | nil => intro r q h _; exact h
  | cons p l ih =>
    intro r q h hn
    refine ih (r.lose p) q ?_ (fun x hx => hn x (by simp [hx]))
    rw [(lose_ps r p).1]
    exact mem_drop h (hn p (by simp))
theorem loseN_take (r : Run) (l : PList) (k : Nat) (h : k < l.length) : loseN r (l.take (k + 1)) = (loseN r (l.take k)).lose l[k] := by
  unfold loseN
  rw [List.take_succ_eq_append_getElem h, List.foldl_append]
  rfl
theorem asc_filter {ps : PList} (f : Pd → Bool) (h : Asc ps) : Asc (ps.filter f) := List.Pairwise.filter _ h
theorem lost_step {r : Run} {k : Nat} (h : FGood r.e.ps r.e.nx) (hn : tokB r.e.now = true) (hk : k < (lostP r).length) :
    FGood (loseN r ((lostP r).take k)).e.ps (loseN r ((lostP r).take k)).e.nx ∧ (lostP r)[k] ∈ (loseN r ((lostP r).take k)).e.ps ∧ mlose (loseN r ((lostP r).take k)) ((lostP r)[k]).1 = loseN r ((lostP r).take (k + 1)) := by
  have hm : (lostP r)[k] ∈ r.e.ps := (List.mem_filter.1 (List.getElem_mem hk)).1
  have ha : Asc (lostP r) := asc_filter _ h.2.2.2
  have hg := loseN_good ((lostP r).take k) r h hn
  have h2 : (lostP r)[k] ∈ (loseN r ((lostP r).take k)).e.ps := by
    refine loseN_mem _ r _ hm (fun p hp => ?_)
    obtain ⟨i, hi, rfl⟩ := List.mem_iff_getElem.1 hp
    have hi2 : i < k := by have := hi; simp at this; omega
    rw [List.getElem_take]
    have := List.pairwise_iff_getElem.1 ha i k (by omega) hk hi2
    omega
  exact ⟨hg, h2, by rw [mlose_eq hg h2, loseN_take r _ k hk]⟩
inductive Fa (R : Pd → Pd → Prop) : PList → PList → Prop
  | nil : Fa R [] []
  | cons {a b : Pd} {l m : PList} : R a b → Fa R l m → Fa R (a :: l) (b :: m)
def Rl (c : Pd → Bool) (p0 p1 : Pd) : Prop := p1 = p0 ∨ (p1.2.2.1 = 4 ∧ p1.1 = p0.1 ∧ c p0 = true)
theorem Rl.more {c c' : Pd → Bool} (hc : ∀ p, c p = true → c' p = true) {p0 p1 : Pd} (h : Rl c p0 p1) : Rl c' p0 p1 := by
  rcases h with h | ⟨a, b, d⟩
  · exact .inl h
  · exact .inr ⟨a, b, hc _ d⟩
theorem rl_refl (c : Pd → Bool) (ps : PList) : Fa (Rl c) ps ps := by
  induction ps with
  | nil => exact .nil
  | cons p l ih => exact .cons (.inl rfl) ih
def mdropN (r : Run) (f : Pd → Bool) (n : Int) : PList → Run × Int
  | [] => (r, n)
  | p :: ps => if decide (0 < n) && (!decide (p.2.2.1 = 4) && f p) then mdropN (mdel r p.1) f (n - 1) ps else mdropN r f n ps
theorem forall2_imp {R R' : Pd → Pd → Prop} (h : ∀ a b, R a b → R' a b) {l m : PList} (k : Fa R l m) : Fa R' l m := by
  induction k with
  | nil => exact .nil
  | cons a _ ih => exact .cons (h _ _ a) ih
theorem mdropN_eq (f g c : Pd → Bool) (hfg : ∀ p, p.2.2.1 ≠ 4 → f p = g p) (hc : ∀ p, c p = true → f p = false) : ∀ (l0 l1 : PList) (r : Run) (n : Int), Fa (Rl c) l0 l1 → FGood r.e.ps r.e.nx → tokB r.e.now = true → Asc l1 → (∀ p ∈ l1, p ∈ r.e.ps) → mdropN r f n l0 = r.dropN g n l1
  | [], _, r, n, h, _, _, _, _ => by cases h; rfl
  | p0 :: l0, _, r, n, h, hg, hn, ha, hm => by
    cases h with
    | cons hr ht =>
      rename_i p1 l1
      obtain ⟨ha1, ha2⟩ := asc_cons.1 ha
      unfold mdropN Run.dropN
      rcases hr with rfl | ⟨h4, hid, hcp⟩
      · by_cases h4 : p1.2.2.1 = 4
        · simp only [h4, decide_true, Bool.not_true, Bool.false_and, Bool.and_false, Bool.false_eq_true, if_false]
          exact mdropN_eq f g c hfg hc l0 l1 r n ht hg hn ha2 (fun p hp => hm p (by simp [hp]))
        · rw [hfg p1 h4]
          split
          · rw [mdel_eq hg (hm p1 (by simp))]
            exact mdropN_eq f g c hfg hc l0 l1 (r.drop p1) (n - 1) ht (drop_good r p1 hg hn) hn ha2 (fun p hp => mem_drop (hm p (by simp [hp])) (by have := ha1 p hp; omega))
          · exact mdropN_eq f g c hfg hc l0 l1 r n ht hg hn ha2 (fun p hp => hm p (by simp [hp]))
      · rw [hc p0 hcp]
        simp only [h4, decide_true, Bool.not_true, Bool.false_and, Bool.and_false, Bool.false_eq_true, if_false]
        exact mdropN_eq f g c hfg hc l0 l1 r n ht hg hn ha2 (fun p hp => hm p (by simp [hp]))
theorem rl_setP {c : Pd → Bool} {p' : Pd} (h4 : p'.2.2.1 = 4) : ∀ {l0 l1 : PList}, Fa (Rl c) l0 l1 → (∀ p0 ∈ l0, p0.1 = p'.1 → c p0 = true) → Fa (Rl c) l0 (setP p' l1) := by
  intro l0 l1 h
  induction h with
  | nil => intro _; exact .nil
  | cons a _ ih =>
    rename_i p0 p1 _ _ _
    intro hc
    refine .cons ?_ (ih (fun p hp => hc p (by simp [hp])))
    have hid : p1.1 = p0.1 := by rcases a with rfl | ⟨_, h, _⟩; rfl; exact h
    show Rl c p0 (if p1.1 = p'.1 then p' else p1)
    split
    · rename_i e
      exact .inr ⟨h4, by rw [← e, hid], hc p0 (by simp) (by rw [← hid, e])⟩
    · exact a
theorem rl_ids {c : Pd → Bool} : ∀ {l0 l1 : PList}, Fa (Rl c) l0 l1 → ∀ p1 ∈ l1, p1.2.2.1 ≠ 4 → p1 ∈ l0 := by
  intro l0 l1 h
  induction h with
  | nil => intro p hp; simp at hp
  | cons a _ ih =>
    rename_i p0 p1 _ _ _
    intro p hp h4
    rcases List.mem_cons.1 hp with rfl | hp
    · rcases a with e | ⟨e, _⟩
      · rw [e]; simp
      · exact absurd e h4
    · exact List.mem_cons_of_mem _ (ih p hp h4)
theorem dropN_le (g : Pd → Bool) : ∀ (l : PList) (r : Run) (n : Int), (r.dropN g n l).2 ≤ n
  | [], r, n => Int.le_refl _
  | p :: l, r, n => by
    unfold Run.dropN
    split
    · have := dropN_le g l (r.drop p) (n - 1); omega
    · exact dropN_le g l r n
theorem rl_trans {a b d : PList} (h : Fa (Rl (fun _ => true)) a b) (k : Fa (Rl (fun _ => true)) b d) : Fa (Rl (fun _ => true)) a d := by
  induction h generalizing d with
  | nil => cases k; exact .nil
  | cons x _ ih =>
    cases k with
    | cons y ys =>
      refine .cons ?_ (ih ys)
      rcases x with rfl | ⟨x1, x2, _⟩ <;> rcases y with rfl | ⟨y1, y2, _⟩
      · exact .inl rfl
      · exact .inr ⟨y1, y2, rfl⟩
      · exact .inr ⟨x1, x2, rfl⟩
      · exact .inr ⟨y1, y2.trans x2, rfl⟩
theorem dropN_self (g : Pd → Bool) : ∀ (l : PList) (r : Run) (n : Int), Asc l → (∀ x ∈ l, x ∈ r.e.ps) → FGood r.e.ps r.e.nx → tokB r.e.now = true → Fa (Rl (fun _ => true)) r.e.ps (r.dropN g n l).1.e.ps
  | [], r, n, _, _, _, _ => rl_refl _ _
  | p :: l, r, n, ha, hm, hg, hn => by
    obtain ⟨ha1, ha2⟩ := asc_cons.1 ha
    unfold Run.dropN
    split
    · rename_i hc
      have h2 := dropN_self g l (r.drop p) (n - 1) ha2 (fun q hq => mem_drop (hm q (by simp [hq])) (by have := ha1 q hq; omega)) (drop_good r p hg hn) hn
      rcases drop_ps r p with e | ⟨p', h1, h4, e⟩
      · rw [e] at h2; exact h2
      · rw [e] at h2
        have h3 := rl_setP (c := fun _ => true) h4 (rl_refl (fun _ => true) r.e.ps) (fun _ _ _ => rfl)
        exact rl_trans h3 h2
    · exact dropN_self g l r n ha2 (fun q hq => hm q (by simp [hq])) hg hn
theorem dropN_rl (g c : Pd → Bool) (l0 : PList) (ha0 : Asc l0) : ∀ (l : PList) (r : Run) (n : Int), Fa (Rl c) l0 r.e.ps → FGood r.e.ps r.e.nx → tokB r.e.now = true → Asc l → (∀ p ∈ l, p ∈ r.e.ps) → (∀ p, g p = true → c p = true) →
    Fa (Rl c) l0 (r.dropN g n l).1.e.ps ∧ FGood (r.dropN g n l).1.e.ps (r.dropN g n l).1.e.nx ∧ (0 < (r.dropN g n l).2 → ∀ q ∈ (r.dropN g n l).1.e.ps, q ∈ l → q.2.2.1 ≠ 4 → g q = false)
  | [], r, n, h, hg, _, _, _, _ => ⟨h, hg, fun _ q _ hq => by simp at hq⟩
  | p :: l, r, n, h, hg, hn, ha, hm, hgc => by
    obtain ⟨ha1, ha2⟩ := asc_cons.1 ha
    have hpm : p ∈ r.e.ps := hm p (by simp)
    unfold Run.dropN
    split
    · rename_i hc
      simp only [Bool.and_eq_true, Bool.not_eq_true', decide_eq_true_eq, decide_eq_false_iff_not] at hc
      obtain ⟨p', h1, h2, e⟩ := drop_yes hg hn hpm hc.2.1
      have hp0 : p ∈ l0 := rl_ids h p hpm hc.2.1
      have h' : Fa (Rl c) l0 (r.drop p).e.ps := by
        rw [e]
        exact rl_setP h2 h (fun p0 hp0' hid => by rw [asc_inj ha0 hp0' hp0 (hid.trans h1)]; exact hgc p hc.2.2)
      obtain ⟨a, b, d⟩ := dropN_rl g c l0 ha0 l (r.drop p) (n - 1) h' (drop_good r p hg hn) hn ha2 (fun q hq => mem_drop (hm q (by simp [hq])) (by have := ha1 q hq; omega)) hgc
      refine ⟨a, b, fun hpos q hq hql h4 => ?_⟩
      rcases List.mem_cons.1 hql with rfl | hql
      · exfalso
        have hq2 := rl_ids (dropN_self g l (r.drop q) (n - 1) ha2 (fun x hx => mem_drop (hm x (by simp [hx])) (by have := ha1 x hx; omega)) (drop_good r q hg hn) hn) q hq h4
        rw [e] at hq2
        obtain ⟨y, hy, hye⟩ := List.mem_map.1 hq2
        split at hye
        · rw [hye] at h2; exact h4 h2
        · rename_i hne
          rw [hye] at hne
          exact hne h1.symm
      · exact d hpos q hq hql h4
    · rename_i hc
      obtain ⟨a, b, d⟩ := dropN_rl g c l0 ha0 l r n h hg hn ha2 (fun q hq => hm q (by simp [hq])) hgc
      refine ⟨a, b, fun hpos q hq hql h4 => ?_⟩
      rcases List.mem_cons.1 hql with rfl | hql
      · have hle := dropN_le g l r n
        have hn0 : 0 < n := by omega
        simpa [hn0, h4] using hc
      · exact d hpos q hq hql h4
end Go.Proofs.YtklgjjmcflgjeaaGreat.ModV
namespace Go.Proofs.YtklgjjmcflgjeaaGreat.Crew
open Go.ChangeShapes Go.WideShapes Go.ChangeAt Go.RowKit Go.Maps Go.Sort Go.Shelf
open LK Pods FleetV Has Ints
open Tick (inB in_t in_f tokB tok_t tickOk_any specTickOk_any)
open FleetSpec (atP at_cases at_any copy_any specFleetOk_any)
set_option maxRecDepth 100000 in
set_option maxHeartbeats 6400000 in
theorem specMarkGoing_any (A : Option Addr) (n c : Nat) (nx id now : Int) (ps : PList) (B : Nat) (w : World) (hr : IsPods w B A n ps) (hB : B ≤ w.heap.size) (hn : n ≤ 1048576) :
    Calls Tryz.prog 218 #[.agg #[.slice A n c, .int .i64 nx], .int .i64 id, .int .i64 now] w (Made1 FleetTy.fty (goD (ps, nx) id now) (.bool (goB (ps, nx) id now)) w) := by
  have HL : Hid (ps.length = n) := hr.1
  have HR := Lib.hid hr
  clear hr
  have k0 : ((w.alloc (.cells #[.slice A n c, .int .i64 nx] 34)).alloc (.cells #[.slice none 0 0, .int .i64 0] 34)).heap[w.heap.size]? = some (.cells #[.slice A n c, .int .i64 nx] 34) := box_alloc (box_new _ _) _
  have k1 : ((w.alloc (.cells #[.slice A n c, .int .i64 nx] 34)).alloc (.cells #[.slice none 0 0, .int .i64 0] 34)).heap[w.heap.size + 1]? = some (.cells #[.slice none 0 0, .int .i64 0] 34) := by
    have h := box_new (w.alloc (.cells #[.slice A n c, .int .i64 nx] 34)) (.cells #[.slice none 0 0, .int .i64 0] 34)
    simp only [World.size_alloc] at h
    exact h
  have K0 := Lib.hid k0
  have K1 := Lib.hid k1
  clear k0 k1
  go_enter Tryz.func218, Tryz.ntmps218
  go_wp2_with fail
  refine (copy_any A n c nx ps B _ (HR.out.below (bel2 _ _ _) hB) (by simp; omega) hn).mono ?_
  intro e w2 hM
  obtain ⟨A2, c2, rfl, hO, hb⟩ := made_own hM
  simp only [World.size_alloc] at hO
  rw [HL.out] at hO ⊢
  have hbw : Below w.heap.size w w2 := bel_then (bel2 w _ _) hb (by simp; omega)
  have hs2 : w.heap.size + 1 + 1 ≤ w2.heap.size := by have := hb.size; simp at this; omega
  have E0 : Hid ((w2.alloc (.cells #[.slice A2 n c2, .int .i64 nx] 34)).heap[w.heap.size]? = some (.cells #[.slice A n c, .int .i64 nx] 34)) := box_alloc (box_below K0.out hb) _
  have E1 : Hid ((w2.alloc (.cells #[.slice A2 n c2, .int .i64 nx] 34)).heap[w.heap.size + 1]? = some (.cells #[.slice none 0 0, .int .i64 0] 34)) := box_alloc (box_below K1.out hb) _
  have E2 : Hid ((w2.alloc (.cells #[.slice A2 n c2, .int .i64 nx] 34)).heap[w2.heap.size]? = some (.cells #[.slice A2 n c2, .int .i64 nx] 34)) := box_new _ _
  have HO := Lib.hid (hO.below (bel1 w2 (.cells #[.slice A2 n c2, .int .i64 nx] 34)))
  have HB := Lib.hid (hbw.alloc hbw.size (.cells #[.slice A2 n c2, .int .i64 nx] 34))
  have a0 : w2.cell? ⟨w.heap.size, 0, none⟩ = some (.slice A n c) := box_cell (box_below K0.out hb) 0 _ rfl
  have a1 : w2.cell? ⟨w.heap.size, 1, none⟩ = some (.int .i64 nx) := box_cell (box_below K0.out hb) 1 _ rfl
  have hl0 : w.heap.size < w2.heap.size := by omega
  have hl1 : w.heap.size + 1 < w2.heap.size := by omega
  clear hM hO hb hbw K0 K1
  go_wp2_with fail
  refine (at_any A n c nx id ps B _ (HR.out.below HB.out hB) (by have := HB.out.size; simp at this ⊢; omega) hn).mono ?_
  rintro e w3 ⟨rfl, hb3⟩
  have E03 := Lib.hid (box_below E0.out hb3)
  have E13 := Lib.hid (box_below E1.out hb3)
  have E23 := Lib.hid (box_below E2.out hb3)
  have HO3 := Lib.hid (HO.out.below hb3)
  have HB3 := Lib.hid (bel_then HB.out hb3 HB.out.size)
  have e00 := box_cell E03.out 0 _ rfl
  have e01 := box_cell E03.out 1 _ rfl
  clear hb3 E0 E1 E2 HO HB a0 a1
  obtain ⟨at0, hat⟩ : ∃ at0, at0 = atP ps id := ⟨_, rfl⟩
  rw [← hat]
  have HAT := Lib.hid hat
  clear hat
  go_wp2_with fail
  refine (specFleetOk_any A n c nx ps B _ (HR.out.below HB3.out hB) (by have := HB3.out.size; omega) hn).mono ?_
  rintro e w4 ⟨rfl, hb4⟩
  have F0 := box_below E03.out hb4
  have F1 := box_below E13.out hb4
  have F2 := box_below E23.out hb4
  have HO4 := Lib.hid (HO3.out.below hb4)
  have HB4 := Lib.hid (bel_then HB3.out hb4 HB3.out.size)
  clear hb4 E03 E13 E23 HO3 HB3 e00 e01
  have f00 := box_cell F0 0 _ rfl
  have f01 := box_cell F0 1 _ rfl
  have f10 := box_cell F1 0 _ rfl
  have f11 := box_cell F1 1 _ rfl
  have f20 := box_cell F2 0 _ rfl
  have f21 := box_cell F2 1 _ rfl
  have g10 := box_frozen F1 0
  have g11 := box_frozen F1 1
  have hw12 : w.heap.size + 1 ≠ w2.heap.size := by omega
  by_cases hg : FGood ps nx
  · rw [decide_eq_true hg]
    rcases at_cases ps id with ⟨hat, hfn⟩ | ⟨j, hj, hat, hfn, hjid⟩
    · have HNO := Lib.hid (go_no (d := (ps, nx)) (id := id) (now := now) (by simp [goP, hfn]))
      have ha : at0 = -1 := HAT.out.trans hat
      subst ha
      clear F0 F1 F2 hg hat hfn
      go_wp2
      refine bodyPost_ret (v := .tuple #[.agg #[.slice A2 n c2, .int .i64 nx], .bool false]) (by simp [results, Tryz.results218, go_sem, f10, f11]) rfl ?_
      rw [HNO.out.1, HNO.out.2]
      exact made1_of HB4.out HO4.out (by omega) (S := fun k => k = w.heap.size + 1) (fun k hk => by omega) ((Turned.set (S := fun k => k = w.heap.size + 1) _ ⟨w.heap.size + 1, 0, none⟩ _ rfl).trans (Turned.set (S := fun k => k = w.heap.size + 1) _ ⟨w.heap.size + 1, 1, none⟩ _ rfl))
    · have ha : at0 = (j : Int) := HAT.out.trans hat
      subst ha
      have hjn : j < n := by rw [← HL.out]; exact hj
      obtain ⟨b, off, x0, x1, x2, x3, x4, rfl, hbB, hz, hc0, hc1, hc2, hc3, hc4⟩ := (HR.out.below HB4.out hB).at_ hjn
      rw [hz] at hfn hjid
      have hjid : x0 = id := hjid
      by_cases h4 : x2 = 4
      · have HNO := Lib.hid (go_no (d := (ps, nx)) (id := id) (now := now) (by simp [goP, hfn, h4]))
        have hd : (x2 == 4) = true := by simp [h4]
        clear F0 F1 F2 hg hat hfn h4 hz hjid HAT
        go_wp2
        refine bodyPost_ret (v := .tuple #[.agg #[.slice A2 n c2, .int .i64 nx], .bool false]) (by simp [results, Tryz.results218, go_sem, f10, f11]) rfl ?_
        rw [HNO.out.1, HNO.out.2]
        exact made1_of HB4.out HO4.out (by omega) (S := fun k => k = w.heap.size + 1) (fun k hk => by omega) ((Turned.set (S := fun k => k = w.heap.size + 1) _ ⟨w.heap.size + 1, 0, none⟩ _ rfl).trans (Turned.set (S := fun k => k = w.heap.size + 1) _ ⟨w.heap.size + 1, 1, none⟩ _ rfl))
      · have hd : (x2 == 4) = false := by simp [h4]
        cases hnw : tokB now
        · have HNO := Lib.hid (go_no (d := (ps, nx)) (id := id) (now := now) (by simp [goP, hnw]))
          clear F0 F1 F2 hg hat hfn h4 hz hjid HAT
          go_wp2_with (go_at_call 52; refine (specTickOk_any _ _).mono ?_; rintro e w' ⟨rfl, rfl⟩; rw [hnw])
          refine bodyPost_ret (v := .tuple #[.agg #[.slice A2 n c2, .int .i64 nx], .bool false]) (by simp [results, Tryz.results218, go_sem, f10, f11]) rfl ?_
          rw [HNO.out.1, HNO.out.2]
          exact made1_of HB4.out HO4.out (by omega) (S := fun k => k = w.heap.size + 1) (fun k hk => by omega) ((Turned.set (S := fun k => k = w.heap.size + 1) _ ⟨w.heap.size + 1, 0, none⟩ _ rfl).trans (Turned.set (S := fun k => k = w.heap.size + 1) _ ⟨w.heap.size + 1, 1, none⟩ _ rfl))
        · have HY := Lib.hid (go_yes (d := (ps, nx)) (id := id) (now := now) (p := (x0, x1, 4, x3, now)) (by simp [goP, hfn, h4, hg, hnw]))
          obtain ⟨g, hA2, hg0, hg1⟩ := HO4.out.at0 (by omega)
          subst hA2
          obtain ⟨⟨u0, hu0⟩, ⟨u1, hu1⟩, ⟨u2, hu2⟩, ⟨u3, hu3⟩, ⟨u4, hu4⟩, hfr, _⟩ := own_cells5 HO4.out hjn
          have hf2 := hfr (j * 5 + 2)
          have hf4 := hfr (j * 5 + 4)
          have hgne1 : g ≠ w2.heap.size := own_ne HO4.out F2 (by decide) g rfl
          have hgne0 : g ≠ w.heap.size + 1 := by omega
          have hO5 := own_set2 HO4.out hjn 4 now
          rw [hz, set_setP hg.2.2.2 hj (by rw [hz])] at hO5
          obtain ⟨W5, hW5⟩ : ∃ W5, W5 = (w4.setCell ⟨g, j * 5 + 2, none⟩ (.int .i64 4)).setCell ⟨g, j * 5 + 4, none⟩ (.int .i64 now) := ⟨_, rfl⟩
          rw [← hW5] at hO5
          have hb5 : Below w.heap.size w W5 := by rw [hW5]; exact (HB4.out.setCell (p := ⟨g, j * 5 + 2, none⟩) (by show w.heap.size ≤ g; omega) _).setCell (p := ⟨g, j * 5 + 4, none⟩) (by show w.heap.size ≤ g; omega) _
          have G1 : W5.heap[w.heap.size + 1]? = some (.cells #[.slice none 0 0, .int .i64 0] 34) := by rw [hW5]; exact box_other (box_other F1 _ _ (Ne.symm hgne0)) _ _ (Ne.symm hgne0)
          have G2 : W5.heap[w2.heap.size]? = some (.cells #[.slice (some ⟨g, 0, none⟩) n c2, .int .i64 nx] 34) := by rw [hW5]; exact box_other (box_other F2 _ _ (Ne.symm hgne1)) _ _ (Ne.symm hgne1)
          have HO5 := Lib.hid hO5
          have HB5 := Lib.hid hb5
          have X1 := Lib.hid G1
          have X2 := Lib.hid G2
          clear F0 F1 F2 hg hat hfn h4 hz hjid HAT hfr hO5 hb5 G1 G2 f10 f11 g10 g11
          go_upto_region 7 with (go_at_call 52; refine (specTickOk_any _ _).mono ?_; rintro e w' ⟨rfl, rfl⟩; rw [hnw])
          rw [← hW5]
          have m10 := box_cell X1.out 0 _ rfl
          have m11 := box_cell X1.out 1 _ rfl
          have m20 := box_cell X2.out 0 _ rfl
          have m21 := box_cell X2.out 1 _ rfl
          have n10 := box_frozen X1.out 0
          have n11 := box_frozen X1.out 1
          clear hW5 hu0 hu1 hu2 hu3 hu4 hf2 hf4 f00 f01 f20 f21
          go_wp2
          refine bodyPost_ret (v := .tuple #[.agg #[.slice (some ⟨g, 0, none⟩) n c2, .int .i64 nx], .bool true]) (by simp [results, Tryz.results218, go_sem, m10, m11]) rfl ?_
          rw [HY.out.1, HY.out.2]
          exact made1_of HB5.out HO5.out (by omega) (S := fun k => k = w.heap.size + 1) (fun k hk => by omega) ((Turned.set (S := fun k => k = w.heap.size + 1) _ ⟨w.heap.size + 1, 0, none⟩ _ rfl).trans (Turned.set (S := fun k => k = w.heap.size + 1) _ ⟨w.heap.size + 1, 1, none⟩ _ rfl))
  · rw [decide_eq_false hg]
    have HNO := Lib.hid (go_no (d := (ps, nx)) (id := id) (now := now) (by simp [goP, hg]))
    clear hg F0 F1 F2
    go_wp2
    refine bodyPost_ret (v := .tuple #[.agg #[.slice A2 n c2, .int .i64 nx], .bool false]) (by simp [results, Tryz.results218, go_sem, f10, f11]) rfl ?_
    rw [HNO.out.1, HNO.out.2]
    exact made1_of HB4.out HO4.out (by omega) (S := fun k => k = w.heap.size + 1) (fun k hk => by omega) ((Turned.set (S := fun k => k = w.heap.size + 1) _ ⟨w.heap.size + 1, 0, none⟩ _ rfl).trans (Turned.set (S := fun k => k = w.heap.size + 1) _ ⟨w.heap.size + 1, 1, none⟩ _ rfl))
end Go.Proofs.YtklgjjmcflgjeaaGreat.Crew
namespace Go.Proofs.YtklgjjmcflgjeaaGreat.Mod
open Go.ChangeShapes Go.WideShapes Go.ChangeAt Go.RowKit
open LK Pods EngV Eng Seg
open Mach (OwnE own_ne rows_ne)
set_option maxRecDepth 100000 in
set_option maxHeartbeats 12800000 in
theorem delete_any (w : World) (S : Nat → Prop) (b : Nat) (r : Run) (id : Int) (h : Mod w S b r) (hl : r.ev.length ≤ 1000000) (hn : r.e.ps.length ≤ 1048576) :
    Calls Tryz.prog 183 #[.pointer (some ⟨b, 0, none⟩), .int .i64 id] w (Moved b (ModV.mdel r id) (.tuple #[]) S w) := by
  obtain ⟨A1, n1, c1, E1, m1, k1, h⟩ := h
  have hn2 : n1 ≤ 1048576 := by rw [← h.ps.1]; exact hn
  have H := Lib.hid h
  have hbw : b < w.heap.size := h.lt
  clear h hn
  obtain ⟨D, hD⟩ : ∃ D, D = Crew.goD r.fl id r.e.now := ⟨_, rfl⟩
  obtain ⟨p0, p1, p2, p3, p4, hp⟩ : ∃ p0 p1 p2 p3 p4, Crew.findP (r.e.ps, r.e.nx) id = (p0, p1, p2, p3, p4) := ⟨_, _, _, _, _, rfl⟩
  obtain ⟨q0, hq0⟩ : ∃ q0, Crew.findB (r.e.ps, r.e.nx) id = q0 := ⟨_, rfl⟩
  have HM : Hid (ModV.mdel r id = (r.setFl D).tell 1 id p1) := by show _ = _; rw [ModV.mdel, ← hD, show Crew.findP r.fl id = _ from hp]
  have HFP : Hid (Crew.podT (Crew.findP (r.e.ps, r.e.nx) id) (Crew.findB (r.e.ps, r.e.nx) id) = .tuple #[.agg #[.int .i64 p0, .int .i64 p1, .int .i64 p2, .int .i64 p3, .int .i64 p4], .bool q0]) := by show _ = _; rw [hp, hq0]; rfl
  obtain ⟨gb, hgb⟩ : ∃ gb, gb = Crew.goB (r.e.ps, r.e.nx) id r.e.now := ⟨_, rfl⟩
  have CG : Hid (∀ (A : Option Addr) (n c : Nat) (W : World), IsPods W W.heap.size A n r.e.ps → n ≤ 1048576 → Calls Tryz.prog 218 #[.agg (flL A n c r.e.nx).toArray, .int .i64 id, .int .i64 r.e.now] W (Made1 FleetTy.fty D (.bool gb) W)) := fun A n c W h1 h2 => by
    rw [hD, hgb]; exact Crew.specMarkGoing_any A n c r.e.nx id r.e.now r.e.ps W.heap.size W h1 (Nat.le_refl _) h2
  clear hp hq0 hgb
  have HD := Lib.hid hD
  clear hD
  have c15 : w.cell? ⟨b, 15, none⟩ = some (.slice A1 n1 c1) := box_cell H.out.box 15 _ rfl
  have c16 : w.cell? ⟨b, 16, none⟩ = some (.int .i64 r.e.nx) := box_cell H.out.box 16 _ rfl
  go_enter Tryz.func183, Tryz.ntmps183
  go_wp2_with fail
  refine (Crew.specFindPod_any A1 n1 c1 r.e.nx id r.e.ps w.heap.size w H.out.ps.podsAll (Nat.le_refl _) hn2).mono ?_
  rintro e w1 ⟨rfl, hb⟩
  rw [HFP.out]
  have KP : Hid ((w1.alloc (.cells #[.int .i64 p0, .int .i64 p1, .int .i64 p2, .int .i64 p3, .int .i64 p4] 85)).heap[w1.heap.size]? = some (.cells [.int .i64 p0, .int .i64 p1, .int .i64 p2, .int .i64 p3, .int .i64 p4].toArray 85 (0, 0))) := box_new w1 _
  have hb1 := bel_then hb (bel1 w1 (.cells #[.int .i64 p0, .int .i64 p1, .int .i64 p2, .int .i64 p3, .int .i64 p4] 85)) hb.size
  have HB1 := Lib.hid hb1
  have hws : w.heap.size ≤ w1.heap.size := hb.size
  clear hb hb1 c15 c16 HFP
  go_upto_region 1 with fail
  obtain ⟨V, hV⟩ : ∃ V, V = w1.alloc (.cells #[.int .i64 p0, .int .i64 p1, .int .i64 p2, .int .i64 p3, .int .i64 p4] 85) := ⟨_, rfl⟩
  rw [← hV] at KP HB1 ⊢
  clear hV
  obtain ⟨P1, hP1⟩ : ∃ P1, P1 = w1.heap.size := ⟨_, rfl⟩
  rw [← hP1] at KP hws ⊢
  clear hP1
  have HM1 := Lib.hid (H.out.below HB1.out)
  have HT1 : Hid (Turned S w V) := Turned.of_below HB1.out
  have HK1 : Hid (Kept w V) := Kept.below HB1.out
  have hpv : P1 < V.heap.size := box_lt KP.out
  clear H
  go_cut [6] (fun s6 wx => ∃ (P : Nat) (A2 : Option Addr) (c2 : Nat), s6 = .pointer (some ⟨P, 0, none⟩) ∧ Hid (wx.heap[P]? = some (.cells (flL A2 D.1.length c2 D.2).toArray 34 (0, 0))) ∧ Hid (OwnP wx 0 A2 D.1.length c2 D.1) ∧ Hid (∀ x, (Value.slice A2 D.1.length c2).ownBlock = some x → V.heap.size ≤ x) ∧ Hid (Below V.heap.size V wx) ∧ V.heap.size ≤ P)
  case first =>
    refine wp_region_held_drew (S := fun w' => w'.rangeAt b 15 (flL A1 n1 c1 r.e.nx) ∧ w'.cell? ⟨b, 11, none⟩ = some (.int .i64 r.e.now)) (by kernel_rfl) ⟨range_of HM1.out.box (moL_fl r A1 n1 c1 E1 m1 k1), box_cell HM1.out.box 11 _ rfl⟩ (fun hHeld => ?_)
    refine tkk (i := 0) rfl ?_
    try simp only [Act.put, pj]
    refine tkk (i := 1) rfl ?_
    try simp only [Act.put, pj]
    refine tkk (i := 2) rfl ?_
    try simp only [Act.put, pj]
    refine tkk (i := 3) rfl ?_
    try simp only [Act.put, pj]
    refine tkj (i := 4) (v := .agg (flL A1 n1 c1 r.e.nx).toArray) rfl (yieldsIf_load_mid (by rfl) 34 _ rfl b 15 rfl (flL A1 n1 c1 r.e.nx) _ (fun w' h => h.1) Tryz.underlying34 rfl (by kernel_rfl)) ?_
    try simp only [Act.put, pj]
    refine tkk (i := 5) rfl ?_
    try simp only [Act.put, pj]
    refine tkk (i := 6) rfl ?_
    try simp only [Act.put, pj]
    refine tkk (i := 7) rfl ?_
    try simp only [Act.put, pj]
    refine tkk (i := 8) rfl ?_
    try simp only [Act.put, pj]
    refine tkk (i := 9) rfl ?_
    try simp only [Act.put, pj]
    refine tkk (i := 10) rfl ?_
    try simp only [Act.put, pj]
    have hbd : Below V.heap.size V V.drew := undrew (Below.refl _ _)
    refine wpAnyH_ready (rs := [11, 15]) (by kernel_rfl) (by simp) (AllReadyH.cons rfl (fun K hK => ?_) (AllReadyH.cons rfl (fun K hK => ?_) AllReadyH.nil))
    · go_simp
      have HMd := Lib.hid (HM1.out.below hbd)
      refine (CG.out A1 n1 c1 _ (by exact HMd.out.ps.podsAll) hn2).mono ?_
      rintro e w2 ⟨vv, S2, rfl, hO, hb⟩
      have hb' : Below V.heap.size V w2 := undrew hb
      obtain ⟨A2, c2, rfl, ho, hs⟩ := hO.own
      have hin := hO.inn
      have HFR : Hid (∀ x, (Value.slice A2 D.1.length c2).ownBlock = some x → V.heap.size ≤ x) := fun x h => (hin x (hs x h)).1
      have hlt2 : ∀ x, (Value.slice A2 D.1.length c2).ownBlock = some x → x < w2.heap.size := fun x h => (ho.lt x h).2
      have HM2 := Lib.hid (HM1.out.below hb')
      have HB2 := Lib.hid hb'
      have HO2 := Lib.hid ho
      have HL2 := Lib.hid hlt2
      clear hb hb' hO ho hs hin hlt2 hHeld HMd hbd
      refine hK _ _ (by exact ⟨range_of HM2.out.box (moL_fl r A1 n1 c1 E1 m1 k1), box_cell HM2.out.box 11 _ rfl⟩) (fun hHeld => ?_)
      clear hK K
      try simp only [Act.put, pj]
      refine tkk (i := 12) rfl ?_
      try simp only [Act.put, pj]
      refine tkk (i := 13) rfl ?_
      try simp only [Act.put, pj]
      refine tkk (i := 14) rfl ?_
      try simp only [Act.put, pj]
      refine wpAnyH_ready (rs := [15]) (by kernel_rfl) (by simp) (AllReadyH.cons rfl (fun K hK => ?_) AllReadyH.nil)
      go_simp
      have hbp := bel1 w2 (.cells #[.slice none 0 0, .int .i64 0] 34)
      have HM3 := Lib.hid (HM2.out.below hbp)
      have HB3 := Lib.hid (bel_then HB2.out hbp HB2.out.size)
      have KP := Lib.hid (box_new w2 (.cells #[.slice none 0 0, .int .i64 0] 34))
      have HO : Hid (OwnP (w2.alloc (.cells #[.slice none 0 0, .int .i64 0] 34)) 0 A2 D.1.length c2 D.1) := HO2.out.below hbp
      have HNE : Hid (∀ x, (Value.slice A2 D.1.length c2).ownBlock = some x → x ≠ w2.heap.size) := fun x h => by have := HL2.out x h; omega
      have hP : V.heap.size ≤ w2.heap.size := HB2.out.size
      clear hbp HM2 HB2 HO2 HL2 hHeld
      refine hK _ _ (by exact ⟨range_of HM3.out.box (moL_fl r A1 n1 c1 E1 m1 k1), box_cell HM3.out.box 11 _ rfl⟩) (fun hHeld => ?_)
      clear hK K
      try simp only [Act.put, pj]
      clear HM3
      refine wpAnyH_ready (rs := [16]) (by kernel_rfl) (by simp) (AllReadyH.cons rfl (fun K hK => ?_) AllReadyH.nil)
      refine wp_put rfl 34 _ _ rfl (w2.heap.size) 0 (flL A2 D.1.length c2 D.2) rfl rfl KP.out (by kernel_rfl) (flL A2 D.1.length c2 D.2) rfl (Nat.le_of_ble_eq_true rfl) (flL_one _ _ _ _) ?_
      obtain ⟨X, hX⟩ : ∃ X, X = (w2.alloc (.cells #[.slice none 0 0, .int .i64 0] 34)).setRow (w2.heap.size) (flL A2 D.1.length c2 D.2).toArray := ⟨_, rfl⟩
      have KPX : Hid (X.heap[w2.heap.size]? = some (.cells (flL A2 D.1.length c2 D.2).toArray 34 (0, 0))) := by rw [hX]; exact row_box KP.out
      have HBX : Hid (Below V.heap.size V X) := by rw [hX]; exact row_below HB3.out _ _ hP HB3.out.size
      have HMX := Lib.hid (HM1.out.below HBX.out)
      have HOX : Hid (OwnP X 0 A2 D.1.length c2 D.1) := HO.out.same fun qq hq => by rw [hX]; exact setRow_other _ _ _ _ (HNE.out qq hq)
      rw [← hX]
      clear hX KP HO HNE hHeld
      refine hK _ _ (by exact ⟨range_of HMX.out.box (moL_fl r A1 n1 c1 E1 m1 k1), box_cell HMX.out.box 11 _ rfl⟩) (fun hHeld => ?_)
      clear hK K
      try simp only [Act.put, pj]
      refine tkk (i := 17) rfl ?_
      try simp only [Act.put, pj]
      refine wpAnyH_done (by kernel_rfl) ?_ _
      clear hHeld
      go_wp2_with fail
      go_meet
      case rel => exact ⟨_, A2, c2, rfl, KPX, HOX, HFR, HBX, hP⟩
    · go_simp
      have hbp := bel1 V.drew (.cells #[.slice none 0 0, .int .i64 0] 34)
      have hbp' : Below V.heap.size V (V.drew.alloc (.cells #[.slice none 0 0, .int .i64 0] 34)) := undrew hbp
      have HMp := Lib.hid (HM1.out.below hbp')
      have HBp := Lib.hid hbp'
      have KPp := Lib.hid (box_new V.drew (.cells #[.slice none 0 0, .int .i64 0] 34))
      have hsz : V.heap.size < (V.drew.alloc (.cells #[.slice none 0 0, .int .i64 0] 34)).heap.size := by simp
      clear hbp hbp' hHeld hbd
      refine hK _ _ (by exact ⟨range_of HMp.out.box (moL_fl r A1 n1 c1 E1 m1 k1), box_cell HMp.out.box 11 _ rfl⟩) (fun hHeld => ?_)
      clear hK K
      try simp only [Act.put, pj]
      refine wpAnyH_ready (rs := [11]) (by kernel_rfl) (by simp) (AllReadyH.cons rfl (fun K hK => ?_) AllReadyH.nil)
      go_simp
      refine (CG.out A1 n1 c1 _ (by exact HMp.out.ps.podsAll) hn2).mono ?_
      rintro e w2 ⟨vv, S2, rfl, hO, hb⟩
      obtain ⟨A2, c2, rfl, ho, hs⟩ := hO.own
      have hin := hO.inn
      have HFR : Hid (∀ x, (Value.slice A2 D.1.length c2).ownBlock = some x → V.heap.size ≤ x) := fun x h => Nat.le_trans (Nat.le_of_lt hsz) (hin x (hs x h)).1
      have HNE : Hid (∀ x, (Value.slice A2 D.1.length c2).ownBlock = some x → x ≠ V.drew.heap.size) := fun x h e => absurd (Nat.lt_of_lt_of_le hsz (hin x (hs x h)).1) (by rw [show x = V.heap.size from e]; exact Nat.lt_irrefl _)
      have HM3 := Lib.hid (HMp.out.below hb)
      have HB3 := Lib.hid (bel_then HBp.out hb HBp.out.size)
      have HO := Lib.hid ho
      have KP := Lib.hid (box_below KPp.out hb)
      have hP : V.heap.size ≤ V.drew.heap.size := Nat.le_refl _
      clear hb hO ho hs hin hHeld HMp HBp KPp hsz
      refine hK _ _ (by exact ⟨range_of HM3.out.box (moL_fl r A1 n1 c1 E1 m1 k1), box_cell HM3.out.box 11 _ rfl⟩) (fun hHeld => ?_)
      clear hK K
      try simp only [Act.put, pj]
      clear HM3
      refine tkk (i := 12) rfl ?_
      try simp only [Act.put, pj]
      refine tkk (i := 13) rfl ?_
      try simp only [Act.put, pj]
      refine tkk (i := 14) rfl ?_
      try simp only [Act.put, pj]
      refine wpAnyH_ready (rs := [16]) (by kernel_rfl) (by simp) (AllReadyH.cons rfl (fun K hK => ?_) AllReadyH.nil)
      refine wp_put rfl 34 _ _ rfl (V.drew.heap.size) 0 (flL A2 D.1.length c2 D.2) rfl rfl KP.out (by kernel_rfl) (flL A2 D.1.length c2 D.2) rfl (Nat.le_of_ble_eq_true rfl) (flL_one _ _ _ _) ?_
      obtain ⟨X, hX⟩ : ∃ X, X = (w2).setRow (V.drew.heap.size) (flL A2 D.1.length c2 D.2).toArray := ⟨_, rfl⟩
      have KPX : Hid (X.heap[V.drew.heap.size]? = some (.cells (flL A2 D.1.length c2 D.2).toArray 34 (0, 0))) := by rw [hX]; exact row_box KP.out
      have HBX : Hid (Below V.heap.size V X) := by rw [hX]; exact row_below HB3.out _ _ hP HB3.out.size
      have HMX := Lib.hid (HM1.out.below HBX.out)
      have HOX : Hid (OwnP X 0 A2 D.1.length c2 D.1) := HO.out.same fun qq hq => by rw [hX]; exact setRow_other _ _ _ _ (HNE.out qq hq)
      rw [← hX]
      clear hX KP HO HNE hHeld
      refine hK _ _ (by exact ⟨range_of HMX.out.box (moL_fl r A1 n1 c1 E1 m1 k1), box_cell HMX.out.box 11 _ rfl⟩) (fun hHeld => ?_)
      clear hK K
      try simp only [Act.put, pj]
      refine tkk (i := 17) rfl ?_
      try simp only [Act.put, pj]
      refine wpAnyH_done (by kernel_rfl) ?_ _
      clear hHeld
      go_wp2_with fail
      go_meet
      case rel => exact ⟨_, A2, c2, rfl, KPX, HOX, HFR, HBX, hP⟩
  obtain ⟨P, A2, c2, rfl, KF, HO, HFR, HBX, hP⟩ := hcut
  obtain ⟨X, hX⟩ : ∃ X, X = wc := ⟨_, rfl⟩
  rw [← hX] at KF HO HBX ⊢
  clear hX
  have HM2 := Lib.hid (HM1.out.below HBX.out)
  have KP2 := Lib.hid (box_below KP.out HBX.out)
  have HT2 : Hid (Turned S w X) := HT1.out.trans (Turned.of_below HBX.out)
  have HK2 : Hid (Kept w X) := HK1.out.trans (Kept.below HBX.out)
  have hbp : P1 ≠ b := by omega
  clear HM1 HT1 HK1 KP HBX
  go_upto_region 3 with (first | (refine wpList_get rfl 34 _ rfl P 0 rfl KF.out (flL A2 D.1.length c2 D.2) rfl Tryz.underlying34 rfl (by kernel_rfl) ?_) | (refine wpList_put rfl rfl 34 _ _ rfl b 15 (flL A2 D.1.length c2 D.2) rfl rfl HM2.out.box (by kernel_rfl) (moL (r.setFl D) A2 D.1.length c2 E1 m1 k1) rfl (Nat.le_of_ble_eq_true rfl) (flL_one _ _ _ _) ?_))
  obtain ⟨W2, hW2⟩ : ∃ Y, Y = X.setRow b (moL (r.setFl D) A2 D.1.length c2 E1 m1 k1).toArray := ⟨_, rfl⟩
  have HM3 : Hid (ModAt W2 (fun x => S x ∨ w.heap.size ≤ x) b (r.setFl D) A2 D.1.length c2 E1 m1 k1) := by
    rw [hW2]
    exact HM2.out.pods HO.out (fun _ h => .inl h) (fun x h => .inr (by have := HFR.out x h; have := HB1.out.size; omega))
  have HT3 : Hid (Turned S w W2) := by rw [hW2]; exact HT2.out.trans (turned_row HM2.out _)
  have HK3 : Hid (Kept w W2) := by rw [hW2]; exact HK2.out.trans (Kept.row HM2.out.box (.inl rfl) _)
  have KP3 : Hid (W2.heap[P1]? = some (.cells [.int .i64 p0, .int .i64 p1, .int .i64 p2, .int .i64 p3, .int .i64 p4].toArray 85 (0, 0))) := by rw [hW2]; exact row_far KP2.out hbp
  rw [← hW2]
  clear hW2 HM2 HT2 HK2 KP2 KF HO HFR HB1
  have e1 : W2.cell? ⟨P1, 1, none⟩ = some (.int .i64 p1) := box_cell KP3.out 1 _ rfl
  clear KP3
  go_wp2_with fail
  refine (tell_any W2 _ b (r.setFl D) 1 id p1 ⟨_, _, _, _, _, _, HM3.out⟩ hl).mono ?_
  intro e w5 hmv
  have HMV := Lib.hid (Moved.step (fun q hq => hq) HT3.out HK3.out hmv)
  obtain ⟨rfl, _⟩ := hmv
  clear e1
  go_wp2
  go_end0
  rw [HM.out]
  exact HMV.out
end Go.Proofs.YtklgjjmcflgjeaaGreat.Mod
