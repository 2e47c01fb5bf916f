/-
  WHAT TurnWheel ANSWERS, on lists; and an append of nothing, for the walk.
-/
import Derived.Test.YtpghccbknlokcaaStep
import Derived.Test.YtpghccbknlokcaaImplStop
namespace Go.Proofs.Ytpghccbknlokcaa.WheelOk
open Go.ChangeShapes Go.WideShapes Go.ChangeAt Go.RowKit Go.Shelf
open Go.Proofs.Ytpghccbknlokcaa.Timers Go.Proofs.Ytpghccbknlokcaa.Ring Go.Proofs.Ytpghccbknlokcaa.Has
open Go.Proofs.Ytpghccbknlokcaa.Tick (tokB tok_t inB)
open Go.Proofs.Ytpghccbknlokcaa.Spoke (spokeV spoke_t)
set_option linter.unusedVariables false

/-- The list that is due at t. -/
def spk (t : Int) : Nat := (t % 8).toNat
/-- The lists behind i ticks, and what has been told. -/
def turnR (now : Int) (ss : List TList) : Nat → List TList
  | 0 => ss
  | i + 1 => (turnR now ss i).set (spk (now + i + 1)) (stayL (now + i + 1) ((turnR now ss i).getD (spk (now + i + 1)) []))
def turnZ (now : Int) (ss : List TList) : Nat → List Int
  | 0 => []
  | i + 1 => turnZ now ss i ++ toldL (now + i + 1) ((turnR now ss i).getD (spk (now + i + 1)) [])
theorem turnR_len (now : Int) (ss : List TList) (i : Nat) : (turnR now ss i).length = ss.length := by
  induction i with
  | zero => rfl
  | succ i ih => rw [turnR, List.length_set, ih]
theorem tot_set_le (l : List TList) (ts : TList) : ∀ k, ts.length ≤ (l.getD k []).length → tot (l.set k ts) ≤ tot l := by
  induction l with
  | nil => intro k h; exact Nat.le_refl _
  | cons a l ih =>
    intro k h
    cases k with
    | zero => rw [List.set_cons_zero, tot_cons, tot_cons]; simp at h; omega
    | succ k =>
      have := ih k (by simpa using h)
      rw [List.set_cons_succ, tot_cons, tot_cons]
      omega
theorem turnR_tot (now : Int) (ss : List TList) (i : Nat) : tot (turnR now ss i) ≤ tot ss := by
  induction i with
  | zero => exact Nat.le_refl _
  | succ i ih =>
    rw [turnR]
    exact Nat.le_trans (tot_set_le _ _ _ (List.length_filter_le _ _)) ih
theorem turnZ_len (now : Int) (ss : List TList) (i : Nat) (h : tot ss ≤ 100) : (turnZ now ss i).length ≤ 100 * i := by
  induction i with
  | zero => exact Nat.zero_le _
  | succ i ih =>
    rw [turnZ, List.length_append]
    have h1 : (toldL (now + i + 1) ((turnR now ss i).getD (spk (now + i + 1)) [])).length ≤ ((turnR now ss i).getD (spk (now + i + 1)) []).length := by
      unfold toldL
      rw [List.length_map]
      exact List.length_filter_le _ _
    have h2 := tot_get (turnR now ss i) (spk (now + i + 1))
    have h3 := turnR_tot now ss i
    omega
theorem turnR_spots {now : Int} {ss : List TList} (h : ∀ j t, t ∈ ss.getD j [] → tokB t.2 = true ∧ spokeV t.2 = (j : Int)) (i : Nat) : ∀ j t, t ∈ (turnR now ss i).getD j [] → tokB t.2 = true ∧ spokeV t.2 = (j : Int) := by
  induction i with
  | zero => exact h
  | succ i ih =>
    intro j t ht
    rw [turnR] at ht
    by_cases e : j = spk (now + i + 1)
    · by_cases hl : j < (turnR now ss i).length
      · rw [← e, Timers.getD_set_eq _ _ _ hl] at ht
        exact ih j t (List.mem_filter.1 ht).1
      · simp only [List.getD] at ht
        rw [List.getElem?_eq_none (by rw [List.length_set]; omega)] at ht
        simp at ht
    · rw [Timers.getD_set_ne _ _ _ _ e] at ht
      exact ih j t ht

/-- How many ticks are turned, and whether any may be. -/
def turnN (now b : Int) : Nat := (min b (1000000000 - now)).toNat
def turnB (now : Int) (ss : List TList) (b : Int) : Bool := wheelB now ss && inB b 0 2000

/-- What a function that answers a wheel and a list of ints leaves; where P is asked, the ints lie ahead of the wheel's lists. -/
def AnsT (P : Prop) (w : World) (now : Int) (ss : List TList) (zs : List Int) (e : Ending) (w' : World) : Prop :=
  ∃ A c A1 c1 mid, e = .returned (.tuple #[.agg #[.int .i64 now, .slice A ss.length c], .slice A1 zs.length c1]) ∧ w.heap.size ≤ mid ∧ OwnS w' mid w'.heap.size A ss.length c ss ∧ OwnI w' w.heap.size A1 zs.length c1 zs ∧
    (P → ∀ q, (Value.slice A1 zs.length c1).ownBlock = some q → q < mid) ∧ Below w.heap.size w w'
/-- What TurnWheel leaves. -/
def turnNow (now : Int) (ss : List TList) (b : Int) : Int := if turnB now ss b then now + turnN now b else now
def turnSS (now : Int) (ss : List TList) (b : Int) : List TList := if turnB now ss b then turnR now ss (turnN now b) else ss
def turnZS (now : Int) (ss : List TList) (b : Int) : List Int := if turnB now ss b then turnZ now ss (turnN now b) else []
def Turn (P : Prop) (w : World) (now : Int) (ss : List TList) (b : Int) (e : Ending) (w' : World) : Prop := AnsT P w (turnNow now ss b) (turnSS now ss b) (turnZS now ss b) e w'
theorem Turn.no {P : Prop} {w : World} {now : Int} {ss : List TList} {b : Int} {e : Ending} {w' : World} (h : turnB now ss b = false) (hA : AnsT P w now ss [] e w') : Turn P w now ss b e w' := by
  unfold Turn turnNow turnSS turnZS
  rw [h]
  exact hA
theorem Turn.yes {P : Prop} {w : World} {now : Int} {ss : List TList} {b : Int} {e : Ending} {w' : World} (h : turnB now ss b = true) (hA : AnsT P w (now + turnN now b) (turnR now ss (turnN now b)) (turnZ now ss (turnN now b)) e w') : Turn P w now ss b e w' := by
  unfold Turn turnNow turnSS turnZS
  rw [h]
  exact hA
theorem turnSS_len (now : Int) (ss : List TList) (b : Int) : (turnSS now ss b).length = ss.length := by
  unfold turnSS
  split
  · exact turnR_len _ _ _
  · rfl
theorem turnSS_tot (now : Int) (ss : List TList) (b : Int) : tot (turnSS now ss b) ≤ tot ss := by
  unfold turnSS
  split
  · exact turnR_tot _ _ _
  · exact Nat.le_refl _
theorem turnZS_len (now : Int) (ss : List TList) (b : Int) : (turnZS now ss b).length ≤ 200000 := by
  unfold turnZS
  split
  · rename_i h
    unfold turnB at h
    simp only [Bool.and_eq_true] at h
    have h1 := turnZ_len now ss (turnN now b) (wheelB_good h.1).hundred
    have h2 : b ≤ 2000 := by have := h.2; simp [inB] at this; omega
    have h3 : turnN now b ≤ 2000 := by unfold turnN; omega
    omega
  · exact Nat.zero_le _

/-- The ring, where a row of ints has grown. -/
theorem OwnR.ints {w w' : World} {lo g base n : Nat} {now : Int} {rs : List TList} {v : Value} {xs : List Value} (h : OwnR w lo g now rs) (hI : w.ownsRow base 3 1 v n xs) (hg : w.grownBy w' v.ownBlock) : OwnR w' lo g now rs := by
  have hlt := h.lt
  obtain ⟨vs, h1, h2, h3, hgb, hr, hd⟩ := h
  refine ⟨vs, h1, h2, h3, ?_, fun j u hu => (hr j u hu).kept hg ?_, hd⟩
  · exact (hg.block g hlt (fun e => row_ne_blk hI hgb (by decide) e.symm)).trans hgb
  · cases hb : u.ownBlock with
    | none => exact .inl rfl
    | some q => exact .inr fun e => row_ne hI (hr j u hu) (by decide) e.symm hb
theorem wpList_append_nil {P : Program} (w : World) {ops : Array Oper} {rest : List Oper} {o : Oper} {a : Act} {Q : Exit → Act → World → Prop}
    (hg : o.guard = none) (s x : Operand) (t : TypeId) (hop : o.op = Op.call { callee := Callee.builtin Builtin.append, args := #[s, x], argTypes := #[t, t] })
    (e : TypeId) (i : TypeInfo) (h1 : P.underlying t = some (.slice e)) (h2 : P.info? e = some i) (b : Option Addr) (n c : Nat) (hs : a.eval s = .slice b n c) (hle : n ≤ c) (hx : a.eval x = .slice none 0 0)
    (h : wpList P ops Q rest (a.put o.dst (.slice b n c)) w) : wpList P ops Q (o :: rest) a w := by
  refine wpList_plain hg fun K hK' => ?_
  have hrun : (Builtin.append_ #[t, t] o.type #[.slice b n c, .slice none 0 0]).run P w = .ok (.slice b n c) w := by
    cases b <;> simp [Builtin.append_, run_underlying h1, sizeOf, typeInfo, h2, Builtin.lenOf, hle, Builtin.firstCells, storeCells]
  unfold Oper.wp
  simp [execOp, hop, resolve, invoke, builtin, hs, hx, hrun, Result.andThen]
  exact hK' _ _ h
theorem cap_of {w : World} {base : Nat} {A : Option Addr} {n c : Nat} {zs : List Int} (h : OwnI w base A n c zs) : n ≤ c := by
  rcases h.2.2 with ⟨h1, h2⟩ | ⟨g, cap, cur, h1, _, _, h2, _⟩
  · omega
  · injection h1 with _ _ h1
    omega
theorem none_of {w : World} {base : Nat} {n c : Nat} {zs : List Int} (h : OwnI w base none n c zs) : n = 0 ∧ c = 0 := by
  rcases h.2.2 with ⟨h1, h2⟩ | ⟨g, cap, cur, h1, _⟩
  · injection h1 with _ _ h1
    exact ⟨h2, h1⟩
  · cases h1
end Go.Proofs.Ytpghccbknlokcaa.WheelOk
