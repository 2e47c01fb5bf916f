/-
  THE MODEL's WAYS AS VALUES: what it deletes by number is what the machine deletes; lists as they stood and as they stand.
-/
import Derived.Test.YtdefckbgcggnoaaGreatEngKeep
import Derived.Test.YtdefckbgcggnoaaGreatFleetFind
import Derived.Test.YtdefckbgcggnoaaGreatLo
namespace Go.Proofs.YtdefckbgcggnoaaGreat.ModV
open Go.Proofs.YtdefckbgcggnoaaGreat.Tick (inB in_t tokB tok_t sinceV)
open Go.Proofs.YtdefckbgcggnoaaGreat.Pods
open Go.Proofs.YtdefckbgcggnoaaGreat.FleetV hiding goodB
open Go.Proofs.YtdefckbgcggnoaaGreat.EngV Go.Proofs.YtdefckbgcggnoaaGreat.Eng Go.Proofs.YtdefckbgcggnoaaGreat.EngInv
open Go.Proofs.YtdefckbgcggnoaaGreat.Crew (goD goP addD takeD takeV findP)
set_option linter.unusedVariables false

/-- The model deletes by number. -/
def mdel (r : Run) (id : Int) : Run := (r.setFl (goD r.fl id r.e.now)).tell 1 id (findP r.fl id).2.1
theorem find_of {ps : PList} {nx : Int} {p : Pd} (h : FGood ps nx) (hp : p ∈ ps) : findP (ps, nx) p.1 = p := by
  have h1 := fnd_of h.2.2.2 hp
  unfold findP Crew.findO
  simp [h, h1]
theorem mdel_eq {r : Run} {p : Pd} (h : FGood r.e.ps r.e.nx) (hp : p ∈ r.e.ps) : mdel r p.1 = r.drop p := by
  unfold mdel Run.drop
  rw [show findP r.fl p.1 = p from find_of h hp]
theorem goP_id {d : PList × Int} {id now : Int} {p : Pd} (he : goP d id now = some p) : p.1 = id ∧ p.2.2.1 = 4 := by
  unfold goP at he
  split at he
  · cases hf : fndP d.1 id with
    | none => simp only [hf] at he; cases he
    | some q =>
      simp only [hf] at he
      split at he
      · cases he
      · injection he with he
        subst he
        exact ⟨(fnd_mem hf).2, rfl⟩
  · cases he
/-- How the fleet turns. -/
theorem drop_ps (r : Run) (p : Pd) : (r.drop p).e.ps = r.e.ps ∨ ∃ p', p'.1 = p.1 ∧ p'.2.2.1 = 4 ∧ (r.drop p).e.ps = setP p' r.e.ps := by
  show (goD r.fl p.1 r.e.now).1 = r.e.ps ∨ _
  cases e : goP r.fl p.1 r.e.now with
  | none => left; rw [(Crew.go_no e).1]; rfl
  | some q => right; obtain ⟨h1, h2⟩ := goP_id e; exact ⟨q, h1, h2, by show (goD r.fl p.1 r.e.now).1 = _; rw [(Crew.go_yes e).1]; rfl⟩
theorem drop_yes {r : Run} {p : Pd} (h : FGood r.e.ps r.e.nx) (hn : tokB r.e.now = true) (hp : p ∈ r.e.ps) (h4 : p.2.2.1 ≠ 4) : ∃ p', p'.1 = p.1 ∧ p'.2.2.1 = 4 ∧ (r.drop p).e.ps = setP p' r.e.ps := by
  have e : goP r.fl p.1 r.e.now = some (p.1, p.2.1, 4, p.2.2.2.1, r.e.now) := by
    unfold goP
    rw [if_pos ⟨h, hn⟩]
    have hf : fndP r.fl.1 p.1 = some p := fnd_of h.2.2.2 hp
    simp only [hf, if_neg h4]
  exact ⟨(p.1, p.2.1, 4, p.2.2.2.1, r.e.now), rfl, rfl, by show (goD r.fl p.1 r.e.now).1 = _; rw [(Crew.go_yes e).1]; rfl⟩
theorem mem_drop {r : Run} {p q : Pd} (hq : q ∈ r.e.ps) (hne : q.1 ≠ p.1) : q ∈ (r.drop p).e.ps := by
  rcases drop_ps r p with e | ⟨p', h1, _, e⟩
  · rw [e]; exact hq
  · rw [e]
    exact List.mem_map.2 ⟨q, hq, by rw [if_neg (by rw [h1]; exact hne)]⟩
theorem lose_ps (r : Run) (p : Pd) : (r.lose p).e.ps = (r.drop p).e.ps ∧ (r.lose p).e.nx = (r.drop p).e.nx := by
  unfold Run.lose
  split <;> exact ⟨rfl, rfl⟩
theorem lose_kp (r : Run) (p : Pd) : Kp r (r.lose p) 1 := (lose_all r p).1

/-! the lost -/
def mlose (r : Run) (id : Int) : Run := if decide ((findP r.fl id).2.1 = r.e.tg) && mvB r.e.ph then (mdel r id).tryOn else mdel r id
theorem mlose_eq {r : Run} {p : Pd} (h : FGood r.e.ps r.e.nx) (hp : p ∈ r.e.ps) : mlose r p.1 = r.lose p := by
  unfold mlose Run.lose
  rw [mdel_eq h hp, show findP r.fl p.1 = p from find_of h hp, Bool.and_comm]
/-- The lost pods. -/
def lostP (r : Run) : PList := r.e.ps.filter (loP r.e.sp r.e.now)
def loseN (r : Run) (l : PList) : Run := l.foldl Run.lose r
theorem loseN_kp (l : PList) : ∀ r : Run, Kp r (loseN r l) l.length := by
  induction l with
  | nil => intro r; exact Kp.refl r
  | cons p l ih => intro r; exact ((lose_kp r p).trans (ih (r.lose p))).more (by simp; omega)
theorem loseAll_eq : ∀ (ps : PList) (r : Run), r.loseAll ps = loseN r (ps.filter (loP r.e.sp r.e.now))
  | [], r => rfl
  | p :: ps, r => by
    unfold Run.loseAll
    rw [List.filter_cons]
    cases hm : loP r.e.sp r.e.now p
    · simp only [Bool.false_eq_true, if_false]
      exact loseAll_eq ps r
    · simp only [if_true]
      rw [loseAll_eq ps (r.lose p)]
      have k := lose_kp r p
      rw [k.sp, k.now]
      rfl
theorem giveUp_eq (r : Run) : r.giveUp = loseN r (lostP r) := loseAll_eq r.e.ps r
theorem loseN_good (l : PList) : ∀ r : Run, FGood r.e.ps r.e.nx → tokB r.e.now = true → FGood (loseN r l).e.ps (loseN r l).e.nx := by
  induction l with
  | nil => intro r h _; exact h
  | cons p l ih =>
    intro r h hn
    have k := lose_kp r p
    refine ih (r.lose p) ?_ (by rw [k.now]; exact hn)
    rw [(lose_ps r p).1, (lose_ps r p).2]
    exact drop_good r p h hn
theorem loseN_mem (l : PList) : ∀ (r : Run) (q : Pd), q ∈ r.e.ps → (∀ p ∈ l, q.1 ≠ p.1) → q ∈ (loseN r l).e.ps := by
  induction l with
  | nil => intro r q h _; exact h
  | cons p l ih =>
    intro r q h hn
    refine ih (r.lose p) q ?_ (fun x hx => hn x (by simp [hx]))
    rw [(lose_ps r p).1]
    exact mem_drop h (hn p (by simp))
theorem loseN_take (r : Run) (l : PList) (k : Nat) (h : k < l.length) : loseN r (l.take (k + 1)) = (loseN r (l.take k)).lose l[k] := by
  unfold loseN
  rw [List.take_succ_eq_append_getElem h, List.foldl_append]
  rfl
theorem asc_filter {ps : PList} (f : Pd → Bool) (h : Asc ps) : Asc (ps.filter f) := List.Pairwise.filter _ h
/-- The k-th of the lost still stands as it stood when those ahead of it are deleted. -/
theorem lost_step {r : Run} {k : Nat} (h : FGood r.e.ps r.e.nx) (hn : tokB r.e.now = true) (hk : k < (lostP r).length) :
    FGood (loseN r ((lostP r).take k)).e.ps (loseN r ((lostP r).take k)).e.nx ∧ (lostP r)[k] ∈ (loseN r ((lostP r).take k)).e.ps ∧ mlose (loseN r ((lostP r).take k)) ((lostP r)[k]).1 = loseN r ((lostP r).take (k + 1)) := by
  have hm : (lostP r)[k] ∈ r.e.ps := (List.mem_filter.1 (List.getElem_mem hk)).1
  have ha : Asc (lostP r) := asc_filter _ h.2.2.2
  have hg := loseN_good ((lostP r).take k) r h hn
  have h2 : (lostP r)[k] ∈ (loseN r ((lostP r).take k)).e.ps := by
    refine loseN_mem _ r _ hm (fun p hp => ?_)
    obtain ⟨i, hi, rfl⟩ := List.mem_iff_getElem.1 hp
    have hi2 : i < k := by have := hi; simp at this; omega
    rw [List.getElem_take]
    have := List.pairwise_iff_getElem.1 ha i k (by omega) hk hi2
    omega
  exact ⟨hg, h2, by rw [mlose_eq hg h2, loseN_take r _ k hk]⟩

/-! what stood and what stands -/
inductive Fa (R : Pd → Pd → Prop) : PList → PList → Prop
  | nil : Fa R [] []
  | cons {a b : Pd} {l m : PList} : R a b → Fa R l m → Fa R (a :: l) (b :: m)
def Rl (c : Pd → Bool) (p0 p1 : Pd) : Prop := p1 = p0 ∨ (p1.2.2.1 = 4 ∧ p1.1 = p0.1 ∧ c p0 = true)
theorem Rl.more {c c' : Pd → Bool} (hc : ∀ p, c p = true → c' p = true) {p0 p1 : Pd} (h : Rl c p0 p1) : Rl c' p0 p1 := by
  rcases h with h | ⟨a, b, d⟩
  · exact .inl h
  · exact .inr ⟨a, b, hc _ d⟩
theorem rl_refl (c : Pd → Bool) (ps : PList) : Fa (Rl c) ps ps := by
  induction ps with
  | nil => exact .nil
  | cons p l ih => exact .cons (.inl rfl) ih
/-- The model's deleting: by the list as it stood. -/
def mdropN (r : Run) (f : Pd → Bool) (n : Int) : PList → Run × Int
  | [] => (r, n)
  | p :: ps => if decide (0 < n) && (!decide (p.2.2.1 = 4) && f p) then mdropN (mdel r p.1) f (n - 1) ps else mdropN r f n ps
theorem forall2_imp {R R' : Pd → Pd → Prop} (h : ∀ a b, R a b → R' a b) {l m : PList} (k : Fa R l m) : Fa R' l m := by
  induction k with
  | nil => exact .nil
  | cons a _ ih => exact .cons (h _ _ a) ih
theorem mdropN_eq (f g c : Pd → Bool) (hfg : ∀ p, p.2.2.1 ≠ 4 → f p = g p) (hc : ∀ p, c p = true → f p = false) : ∀ (l0 l1 : PList) (r : Run) (n : Int), Fa (Rl c) l0 l1 → FGood r.e.ps r.e.nx → tokB r.e.now = true → Asc l1 → (∀ p ∈ l1, p ∈ r.e.ps) → mdropN r f n l0 = r.dropN g n l1
  | [], _, r, n, h, _, _, _, _ => by cases h; rfl
  | p0 :: l0, _, r, n, h, hg, hn, ha, hm => by
    cases h with
    | cons hr ht =>
      rename_i p1 l1
      obtain ⟨ha1, ha2⟩ := asc_cons.1 ha
      unfold mdropN Run.dropN
      rcases hr with rfl | ⟨h4, hid, hcp⟩
      · by_cases h4 : p1.2.2.1 = 4
        · simp only [h4, decide_true, Bool.not_true, Bool.false_and, Bool.and_false, Bool.false_eq_true, if_false]
          exact mdropN_eq f g c hfg hc l0 l1 r n ht hg hn ha2 (fun p hp => hm p (by simp [hp]))
        · rw [hfg p1 h4]
          split
          · rw [mdel_eq hg (hm p1 (by simp))]
            exact mdropN_eq f g c hfg hc l0 l1 (r.drop p1) (n - 1) ht (drop_good r p1 hg hn) hn ha2 (fun p hp => mem_drop (hm p (by simp [hp])) (by have := ha1 p hp; omega))
          · exact mdropN_eq f g c hfg hc l0 l1 r n ht hg hn ha2 (fun p hp => hm p (by simp [hp]))
      · rw [hc p0 hcp]
        simp only [h4, decide_true, Bool.not_true, Bool.false_and, Bool.and_false, Bool.false_eq_true, if_false]
        exact mdropN_eq f g c hfg hc l0 l1 r n ht hg hn ha2 (fun p hp => hm p (by simp [hp]))
theorem rl_setP {c : Pd → Bool} {p' : Pd} (h4 : p'.2.2.1 = 4) : ∀ {l0 l1 : PList}, Fa (Rl c) l0 l1 → (∀ p0 ∈ l0, p0.1 = p'.1 → c p0 = true) → Fa (Rl c) l0 (setP p' l1) := by
  intro l0 l1 h
  induction h with
  | nil => intro _; exact .nil
  | cons a _ ih =>
    rename_i p0 p1 _ _ _
    intro hc
    refine .cons ?_ (ih (fun p hp => hc p (by simp [hp])))
    have hid : p1.1 = p0.1 := by rcases a with rfl | ⟨_, h, _⟩; rfl; exact h
    show Rl c p0 (if p1.1 = p'.1 then p' else p1)
    split
    · rename_i e
      exact .inr ⟨h4, by rw [← e, hid], hc p0 (by simp) (by rw [← hid, e])⟩
    · exact a
theorem rl_ids {c : Pd → Bool} : ∀ {l0 l1 : PList}, Fa (Rl c) l0 l1 → ∀ p1 ∈ l1, p1.2.2.1 ≠ 4 → p1 ∈ l0 := by
  intro l0 l1 h
  induction h with
  | nil => intro p hp; simp at hp
  | cons a _ ih =>
    rename_i p0 p1 _ _ _
    intro p hp h4
    rcases List.mem_cons.1 hp with rfl | hp
    · rcases a with e | ⟨e, _⟩
      · rw [e]; simp
      · exact absurd e h4
    · exact List.mem_cons_of_mem _ (ih p hp h4)
theorem dropN_le (g : Pd → Bool) : ∀ (l : PList) (r : Run) (n : Int), (r.dropN g n l).2 ≤ n
  | [], r, n => Int.le_refl _
  | p :: l, r, n => by
    unfold Run.dropN
    split
    · have := dropN_le g l (r.drop p) (n - 1); omega
    · exact dropN_le g l r n
theorem rl_trans {a b d : PList} (h : Fa (Rl (fun _ => true)) a b) (k : Fa (Rl (fun _ => true)) b d) : Fa (Rl (fun _ => true)) a d := by
  induction h generalizing d with
  | nil => cases k; exact .nil
  | cons x _ ih =>
    cases k with
    | cons y ys =>
      refine .cons ?_ (ih ys)
      rcases x with rfl | ⟨x1, x2, _⟩ <;> rcases y with rfl | ⟨y1, y2, _⟩
      · exact .inl rfl
      · exact .inr ⟨y1, y2, rfl⟩
      · exact .inr ⟨x1, x2, rfl⟩
      · exact .inr ⟨y1, y2.trans x2, rfl⟩
theorem dropN_self (g : Pd → Bool) : ∀ (l : PList) (r : Run) (n : Int), Asc l → (∀ x ∈ l, x ∈ r.e.ps) → FGood r.e.ps r.e.nx → tokB r.e.now = true → Fa (Rl (fun _ => true)) r.e.ps (r.dropN g n l).1.e.ps
  | [], r, n, _, _, _, _ => rl_refl _ _
  | p :: l, r, n, ha, hm, hg, hn => by
    obtain ⟨ha1, ha2⟩ := asc_cons.1 ha
    unfold Run.dropN
    split
    · rename_i hc
      have h2 := dropN_self g l (r.drop p) (n - 1) ha2 (fun q hq => mem_drop (hm q (by simp [hq])) (by have := ha1 q hq; omega)) (drop_good r p hg hn) hn
      rcases drop_ps r p with e | ⟨p', h1, h4, e⟩
      · rw [e] at h2; exact h2
      · rw [e] at h2
        have h3 := rl_setP (c := fun _ => true) h4 (rl_refl (fun _ => true) r.e.ps) (fun _ _ _ => rfl)
        exact rl_trans h3 h2
    · exact dropN_self g l r n ha2 (fun q hq => hm q (by simp [hq])) hg hn
/-- A pass of the machine's: what stood and what stands behind it. -/
theorem dropN_rl (g c : Pd → Bool) (l0 : PList) (ha0 : Asc l0) : ∀ (l : PList) (r : Run) (n : Int), Fa (Rl c) l0 r.e.ps → FGood r.e.ps r.e.nx → tokB r.e.now = true → Asc l → (∀ p ∈ l, p ∈ r.e.ps) → (∀ p, g p = true → c p = true) →
    Fa (Rl c) l0 (r.dropN g n l).1.e.ps ∧ FGood (r.dropN g n l).1.e.ps (r.dropN g n l).1.e.nx ∧ (0 < (r.dropN g n l).2 → ∀ q ∈ (r.dropN g n l).1.e.ps, q ∈ l → q.2.2.1 ≠ 4 → g q = false)
  | [], r, n, h, hg, _, _, _, _ => ⟨h, hg, fun _ q _ hq => by simp at hq⟩
  | p :: l, r, n, h, hg, hn, ha, hm, hgc => by
    obtain ⟨ha1, ha2⟩ := asc_cons.1 ha
    have hpm : p ∈ r.e.ps := hm p (by simp)
    unfold Run.dropN
    split
    · rename_i hc
      simp only [Bool.and_eq_true, Bool.not_eq_true', decide_eq_true_eq, decide_eq_false_iff_not] at hc
      obtain ⟨p', h1, h2, e⟩ := drop_yes hg hn hpm hc.2.1
      have hp0 : p ∈ l0 := rl_ids h p hpm hc.2.1
      have h' : Fa (Rl c) l0 (r.drop p).e.ps := by
        rw [e]
        exact rl_setP h2 h (fun p0 hp0' hid => by rw [asc_inj ha0 hp0' hp0 (hid.trans h1)]; exact hgc p hc.2.2)
      obtain ⟨a, b, d⟩ := dropN_rl g c l0 ha0 l (r.drop p) (n - 1) h' (drop_good r p hg hn) hn ha2 (fun q hq => mem_drop (hm q (by simp [hq])) (by have := ha1 q hq; omega)) hgc
      refine ⟨a, b, fun hpos q hq hql h4 => ?_⟩
      rcases List.mem_cons.1 hql with rfl | hql
      · exfalso
        have hq2 := rl_ids (dropN_self g l (r.drop q) (n - 1) ha2 (fun x hx => mem_drop (hm x (by simp [hx])) (by have := ha1 x hx; omega)) (drop_good r q hg hn) hn) q hq h4
        rw [e] at hq2
        obtain ⟨y, hy, hye⟩ := List.mem_map.1 hq2
        split at hye
        · rw [hye] at h2; exact h4 h2
        · rename_i hne
          rw [hye] at hne
          exact hne h1.symm
      · exact d hpos q hq hql h4
    · rename_i hc
      obtain ⟨a, b, d⟩ := dropN_rl g c l0 ha0 l r n h hg hn ha2 (fun q hq => hm q (by simp [hq])) hgc
      refine ⟨a, b, fun hpos q hq hql h4 => ?_⟩
      rcases List.mem_cons.1 hql with rfl | hql
      · have hle := dropN_le g l r n
        have hn0 : 0 < n := by omega
        simpa [hn0, h4] using hc
      · exact d hpos q hq hql h4
end Go.Proofs.YtdefckbgcggnoaaGreat.ModV
