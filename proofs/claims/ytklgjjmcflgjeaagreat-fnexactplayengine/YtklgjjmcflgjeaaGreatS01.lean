import Derived.Below
import Derived.Deep.Slices
import Derived.Lib.SmallJoins
import Derived.OpenShut
import Derived.ProofKit
import Derived.Test.YtklgjjmcflgjeaaGreatRows
import Derived.WalkKit
import Derived.Test.YtklgjjmcflgjeaaGreatS00
set_option linter.unusedVariables false
set_option linter.unusedSimpArgs false
namespace Go.Proofs.YtklgjjmcflgjeaaGreat.Tick
open Go.ChangeShapes Go.WideShapes Go.ChangeAt Go.RowKit
def inB (x lo hi : Int) : Bool := decide (lo ≤ x) && decide (x ≤ hi)
def tokB (t : Int) : Bool := decide (0 ≤ t) && decide (t ≤ 1000000000)
def addV (t d : Int) : Int := if tokB t && inB d (-1000000000) 1000000000 then max 0 (min 1000000000 (t + d)) else -1
def sinceV (a b : Int) : Int := if tokB a && tokB b then max 0 (b - a) else -1
theorem tok_t {t : Int} (h : tokB t = true) : 0 ≤ t ∧ t ≤ 1000000000 := by simpa [tokB] using h
theorem in_t {x lo hi : Int} (h : inB x lo hi = true) : lo ≤ x ∧ x ≤ hi := by simpa [inB] using h
theorem in_f {x lo hi : Int} (h : inB x lo hi = false) : x < lo ∨ hi < x := by
  have h' : ¬ (lo ≤ x ∧ x ≤ hi) := by intro c; simp [inB, c] at h
  omega
theorem addV_ok {t d : Int} (h : tokB t = true) (h2 : inB d (-1000000000) 1000000000 = true) : addV t d = max 0 (min 1000000000 (t + d)) := by simp [addV, h, h2]
set_option maxHeartbeats 400000 in
theorem l01In_any (x lo hi : Int) (w : World) :
    Calls Tryz.prog 39 #[.int .i64 x, .int .i64 lo, .int .i64 hi] w fun e w' => e = .returned (.bool (inB x lo hi)) ∧ w = w' := by
  by_cases h0 : lo ≤ x <;> by_cases h1 : x ≤ hi
  all_goals
    go_enter Tryz.func39, Tryz.ntmps39
    go_wp2
    go_ret
    exact ⟨by simp [inB, h0, h1], rfl⟩
theorem specTickOk_any (t : Int) (w : World) :
    Calls Tryz.prog 52 #[.int .i64 t] w fun e w' => e = .returned (.bool (tokB t)) ∧ w = w' := by
  go_enter Tryz.func52, Tryz.ntmps52
  go_wp2_with (go_at_call 39; refine (l01In_any _ _ _ _).mono ?_; rintro e w' ⟨rfl, rfl⟩)
  go_ret
  exact ⟨rfl, rfl⟩
theorem ok_any (t : Int) (w : World) :
    Calls Tryz.prog 137 #[.int .i64 t] w fun e w' => e = .returned (.bool (tokB t)) ∧ w = w' := by
  by_cases h0 : 0 ≤ t <;> by_cases h1 : t ≤ 1000000000
  all_goals
    go_enter Tryz.func137, Tryz.ntmps137
    go_wp2
    go_ret
    exact ⟨by simp [tokB, h0, h1], rfl⟩
theorem tickOk_any (t : Int) (w : World) :
    Calls Tryz.prog 91 #[.int .i64 t] w fun e w' => e = .returned (.bool (tokB t)) ∧ w = w' := by
  go_enter Tryz.func91, Tryz.ntmps91
  go_wp2_with (go_at_call 137; refine (ok_any _ _).mono ?_; rintro e w' ⟨rfl, rfl⟩)
  go_ret
  exact ⟨rfl, rfl⟩
theorem ret_int {k : IntKind} {a b : Int} (h : a = b) : Ending.returned (.int k a) = .returned (.int k b) := by rw [h]
set_option maxHeartbeats 800000 in
theorem plus_any (t d : Int) (w : World) :
    Calls Tryz.prog 226 #[.int .i64 t, .int .i64 d] w fun e w' => e = .returned (.int .i64 (addV t d)) ∧ w = w' := by
  cases h0 : tokB t
  · go_enter Tryz.func226, Tryz.ntmps226
    go_wp2_with (go_at_call 137; refine (ok_any _ _).mono ?_; rintro e w' ⟨rfl, rfl⟩)
    go_ret
    exact ⟨ret_int (by simp [addV, h0]), rfl⟩
  · have b0 := tok_t h0
    by_cases h1 : d < -1000000000
    · have hv : addV t d = -1 := by simp [addV, h0, inB]; omega
      have HV : Hid (addV t d = -1) := hv; clear hv
      go_enter Tryz.func226, Tryz.ntmps226
      go_wp2_with (go_at_call 137; refine (ok_any _ _).mono ?_; rintro e w' ⟨rfl, rfl⟩)
      go_ret
      exact ⟨ret_int HV.out.symm, rfl⟩
    · by_cases h2 : 1000000000 < d
      · have hv : addV t d = -1 := by simp [addV, h0, inB]; omega
        have HV : Hid (addV t d = -1) := hv; clear hv
        go_enter Tryz.func226, Tryz.ntmps226
        go_wp2_with (go_at_call 137; refine (ok_any _ _).mono ?_; rintro e w' ⟨rfl, rfl⟩)
        go_ret
        exact ⟨ret_int HV.out.symm, rfl⟩
      · have hi : inB d (-1000000000) 1000000000 = true := by simp [inB]; omega
        have HV : Hid (addV t d = max 0 (min 1000000000 (t + d))) := addV_ok h0 hi
        clear hi
        go_enter Tryz.func226, Tryz.ntmps226
        go_wp2_with (go_at_call 137; refine (ok_any _ _).mono ?_; rintro e w' ⟨rfl, rfl⟩)
        all_goals
          go_ret
          exact ⟨ret_int (by rw [HV.out]; omega), rfl⟩
theorem addTick_any (t d : Int) (w : World) :
    Calls Tryz.prog 204 #[.int .i64 t, .int .i64 d] w fun e w' => e = .returned (.int .i64 (addV t d)) ∧ w = w' := by
  go_enter Tryz.func204, Tryz.ntmps204
  go_wp2_with (go_at_call 226; refine (plus_any _ _ _).mono ?_; rintro e w' ⟨rfl, rfl⟩)
  go_ret
  exact ⟨rfl, rfl⟩
set_option maxHeartbeats 800000 in
theorem specAddTick_any (t d : Int) (w : World) :
    Calls Tryz.prog 101 #[.int .i64 t, .int .i64 d] w fun e w' => e = .returned (.int .i64 (addV t d)) ∧ w = w' := by
  cases h0 : tokB t
  · go_enter Tryz.func101, Tryz.ntmps101
    go_wp2_with (first | (go_at_call 52; refine (specTickOk_any _ _).mono ?_; rintro e w' ⟨rfl, rfl⟩) | (go_at_call 39; refine (l01In_any _ _ _ _).mono ?_; rintro e w' ⟨rfl, rfl⟩))
    go_ret
    exact ⟨ret_int (by simp [addV, h0]), rfl⟩
  · have b0 := tok_t h0
    cases h1 : inB d (-1000000000) 1000000000
    · have HV : Hid (addV t d = -1) := (by simp [addV, h1] : addV t d = -1)
      go_enter Tryz.func101, Tryz.ntmps101
      go_wp2_with (first | (go_at_call 52; refine (specTickOk_any _ _).mono ?_; rintro e w' ⟨rfl, rfl⟩) | (go_at_call 39; refine (l01In_any _ _ _ _).mono ?_; rintro e w' ⟨rfl, rfl⟩))
      go_ret
      exact ⟨ret_int HV.out.symm, rfl⟩
    · have b1 := in_t h1
      have HV : Hid (addV t d = max 0 (min 1000000000 (t + d))) := addV_ok h0 h1
      by_cases c1 : 1000000000 < t + d <;> by_cases c2 : t + d < 0
      all_goals try omega
      all_goals
        go_enter Tryz.func101, Tryz.ntmps101
        go_wp2_with (first | (go_at_call 52; refine (specTickOk_any _ _).mono ?_; rintro e w' ⟨rfl, rfl⟩) | (go_at_call 39; refine (l01In_any _ _ _ _).mono ?_; rintro e w' ⟨rfl, rfl⟩))
        go_ret
        exact ⟨ret_int (by rw [HV.out]; omega), rfl⟩
set_option maxHeartbeats 800000 in
theorem since_any (t from0 : Int) (w : World) :
    Calls Tryz.prog 240 #[.int .i64 t, .int .i64 from0] w fun e w' => e = .returned (.int .i64 (sinceV from0 t)) ∧ w = w' := by
  cases h0 : tokB t <;> cases h1 : tokB from0
  · have HV : Hid (sinceV from0 t = -1) := (by simp [sinceV, h1] : sinceV from0 t = -1)
    go_enter Tryz.func240, Tryz.ntmps240
    go_wp2_with (go_at_call 137; refine (ok_any _ _).mono ?_; rintro e w' ⟨rfl, rfl⟩)
    go_ret
    exact ⟨ret_int HV.out.symm, rfl⟩
  · have HV : Hid (sinceV from0 t = -1) := (by simp [sinceV, h0] : sinceV from0 t = -1)
    go_enter Tryz.func240, Tryz.ntmps240
    go_wp2_with (go_at_call 137; refine (ok_any _ _).mono ?_; rintro e w' ⟨rfl, rfl⟩)
    go_ret
    exact ⟨ret_int HV.out.symm, rfl⟩
  · have HV : Hid (sinceV from0 t = -1) := (by simp [sinceV, h1] : sinceV from0 t = -1)
    go_enter Tryz.func240, Tryz.ntmps240
    go_wp2_with (go_at_call 137; refine (ok_any _ _).mono ?_; rintro e w' ⟨rfl, rfl⟩)
    go_ret
    exact ⟨ret_int HV.out.symm, rfl⟩
  · have HV : Hid (sinceV from0 t = max 0 (t - from0)) := (by simp [sinceV, h0, h1] : sinceV from0 t = max 0 (t - from0))
    have b0 := tok_t h0
    have b1 := tok_t h1
    go_enter Tryz.func240, Tryz.ntmps240
    go_wp2_with (go_at_call 137; refine (ok_any _ _).mono ?_; rintro e w' ⟨rfl, rfl⟩)
    all_goals
      go_ret
      exact ⟨ret_int (by rw [HV.out]; omega), rfl⟩
theorem sinceI_any (a b : Int) (w : World) :
    Calls Tryz.prog 223 #[.int .i64 a, .int .i64 b] w fun e w' => e = .returned (.int .i64 (sinceV a b)) ∧ w = w' := by
  go_enter Tryz.func223, Tryz.ntmps223
  go_wp2_with (go_at_call 240; refine (since_any _ _ _).mono ?_; rintro e w' ⟨rfl, rfl⟩)
  go_ret
  exact ⟨rfl, rfl⟩
end Go.Proofs.YtklgjjmcflgjeaaGreat.Tick
namespace Go.Proofs.YtklgjjmcflgjeaaGreat.FlatOpen
open Go.ChangeShapes Go.WideShapes Go.ChangeAt Go.RowKit Go.Joins Go.Deep
section
variable {H : Type} {enc : TypeId × Value → H} {w : World} {base : Nat} {spare : Nat → Bool} {held : Bool}
theorem trod_flat {t : TypeId} {fs : Array Field} {fuel : Nat} {cs : List Value} {x : DataW H × List MemPlace} (ht : Tryz.prog.underlying t = some (.struct fs)) (hC : Tryz.prog.cellsOf t = fs.size)
    (hall : ∀ (i : Nat) (f : Field), fs[i]? = some f → f.offset = i ∧ f.type = 3) (h : DataW.trod enc Tryz.prog w base spare held fuel t cs = some x) :
    ∃ l : List Int, l.length = fs.size ∧ cs = l.map (Value.int .i64) ∧ ∀ y ∈ l, (Lit.int .i64 y).wf = true := by
  obtain ⟨xs, n, _, _, hl, hlen, hf⟩ := DataW.trod_struct ht h
  rw [hC] at hl
  have hone : ∀ i, i < fs.size → ∃ y : Int, cs[i]? = some (.int .i64 y) ∧ (Lit.int .i64 y).wf = true := by
    intro i hi
    have hg : fs[i]? = some fs[i] := Array.getElem?_eq_getElem hi
    obtain ⟨ho, hty⟩ := hall i _ hg
    have hk := hf i _ hg
    have hc : Tryz.prog.cellsOf 3 = 1 := by kernel_rfl
    have hx : xs[i]? = some xs[i] := List.getElem?_eq_getElem (by omega)
    have hcs : cs[i]? = some cs[i] := List.getElem?_eq_getElem (by omega)
    rw [ho, hty, hc, hx] at hk
    have e1 : (cs.drop i).take 1 = [cs[i]] := by
      rw [List.drop_eq_getElem_cons (by omega)]
      rfl
    rw [e1] at hk
    obtain ⟨y, e, hw⟩ := DataW.trod_int Tryz.underlying3 hk
    injection e with e
    exact ⟨y, by rw [hcs, e], hw.2⟩
  obtain ⟨f, hf2⟩ := choose_lt hone
  refine ⟨(List.range fs.size).map f, by simp, ?_, ?_⟩
  · apply List.ext_getElem?
    intro i
    by_cases hi : i < fs.size
    · rw [(hf2 i hi).1]; simp [hi]
    · rw [List.getElem?_eq_none (by omega), List.getElem?_eq_none (by simp; omega)]
  · intro y hy
    obtain ⟨i, hi, rfl⟩ := List.mem_map.1 hy
    exact (hf2 i (by simpa using hi)).2
theorem add_off (b off i : Nat) : (⟨b, off, none⟩ : Addr).add i = ⟨b, off + i, none⟩ := by
  unfold Addr.add
  split
  · subst_vars; rfl
  · rfl
set_option maxRecDepth 100000 in
theorem open_flat {r : Reach} {b0 : Nat} {t : TypeId} {fs : Array Field} {v : Value} {d : DataW H} {p : List MemPlace} (ht : Tryz.prog.underlying t = some (.struct fs)) (hC : Tryz.prog.cellsOf t = fs.size)
    (hall : ∀ (i : Nat) (f : Field), fs[i]? = some f → f.offset = i ∧ f.type = 3) (hv : Value.okWide Tryz.prog w r b0 t v) (h : DataW.Trod enc Tryz.prog w base spare held t v d p) :
    ∃ l : List Int, l.length = fs.size ∧ v = .agg (l.map (Value.int .i64)).toArray ∧ ∀ y ∈ l, (Lit.int .i64 y).wf = true := by
  obtain ⟨cs, rfl, hsz⟩ := okWide_struct ht hv
  obtain ⟨fuel, hf⟩ := h
  obtain ⟨l, h1, h2, h3⟩ := trod_flat ht hC hall hf
  refine ⟨l, h1, ?_, h3⟩
  have e : (Value.agg cs).cells.toList = cs.toList := by simp [Value.cells]
  rw [← h2, e]
theorem open_flats {s t : TypeId} {fs : Array Field} {k fuel : Nat} {v : Value} {x : DataW H × List MemPlace} (hs : Tryz.prog.underlying s = some (.slice t)) (ht : Tryz.prog.underlying t = some (.struct fs)) (hC : Tryz.prog.cellsOf t = fs.size) (hk : fs.size = k) (hk0 : 0 < k)
    (hall : ∀ (i : Nat) (f : Field), fs[i]? = some f → f.offset = i ∧ f.type = 3) (h : DataW.trod enc Tryz.prog w base spare held fuel s [v] = some x) :
    ∃ A n c, ∃ f : Nat → List Int, v = .slice A n c ∧ n ≤ maxLen ∧ (0 < n → ∃ b off, A = some ⟨b, off, none⟩ ∧ b < w.heap.size ∧ ∀ j, j < n → (f j).length = k ∧ (∀ y ∈ f j, (Lit.int .i64 y).wf = true) ∧ ∀ i, i < k → w.cell? ⟨b, off + (j * k + i), none⟩ = ((f j)[i]?).map (Value.int .i64)) := by
  rcases open_slice hs h with ⟨hcs, _⟩ | ⟨a, len, cap, m, n, D, Pl, hcs, hb, hl, hm, hmm, hx, hi⟩
  · injection hcs with hcs
    exact ⟨none, 0, 0, fun _ => [], hcs, Nat.zero_le _, fun h => absurd h (by omega)⟩
  · injection hcs with hcs
    have hlm : len ≤ m := by rw [hmm]; split <;> omega
    have hcell : ∀ i, i < len → ∃ l : List Int, l.length = k ∧ (∀ y ∈ l, (Lit.int .i64 y).wf = true) ∧ ∀ q, q < k → w.cell? (a.add (i * k + q)) = (l[q]?).map (Value.int .i64) := by
      intro i hi'
      obtain ⟨cs', hc, ht'⟩ := hi i (by omega)
      rw [hC, hk] at hc
      obtain ⟨_, hcl2, hat⟩ := World.cells?_some hc
      obtain ⟨l, h1, h2, h3⟩ := trod_flat ht hC hall ht'
      refine ⟨l, h1.trans hk, h3, fun q hq => ?_⟩
      have h4 := hat q (by omega)
      rw [add_add] at h4
      rw [h4, h2, List.getElem?_map]
    obtain ⟨f, hf⟩ := choose_lt hcell
    refine ⟨some a, len, cap, f, hcs, by omega, fun hp => ?_⟩
    obtain ⟨b, off, spot⟩ := a
    obtain ⟨h01, _, h02⟩ := hf 0 hp
    have h00 := h02 0 hk0
    rw [List.getElem?_eq_getElem (by omega)] at h00
    have hspot : spot = none := by simpa [Addr.add] using World.cell?_spot h00
    subst hspot
    have hb' : b < w.heap.size := by simpa [Addr.add] using World.block_lt_of_cell? w _ h00
    refine ⟨b, off, rfl, hb', fun j hj => ?_⟩
    obtain ⟨h1, h3, h2⟩ := hf j hj
    refine ⟨h1, h3, fun i hi2 => ?_⟩
    rw [← add_off]
    exact h2 i hi2
end
end Go.Proofs.YtklgjjmcflgjeaaGreat.FlatOpen
namespace Go.Proofs.YtklgjjmcflgjeaaGreat.Fast
open Go.ChangeShapes Go.WideShapes Go.ChangeAt Go.RowKit
def fast (P : Program) (ops : Array Oper) : List Oper → Act → World → Option (Act × World)
  | [], a, w => some (a, w)
  | o :: rest, a, w =>
    if Region.wanted o (yielded ops a.tmps) then
      match (execOp a.eval o).run P w with
      | .ok (.value v) w' => fast P ops rest (a.put o.dst v) w'
      | _ => none
    else fast P ops rest (a.put o.dst undef) w
theorem wpList_of_fast {P : Program} {ops : Array Oper} {Q : Exit → Act → World → Prop} : ∀ (rest : List Oper) (a : Act) (w : World) (r : Act × World), fast P ops rest a w = some r → Q .normal r.1 r.2 → wpList P ops Q rest a w := by
  intro rest
  induction rest with
  | nil => intro a w r h hQ; simp only [fast, Option.some.injEq] at h; subst h; exact hQ
  | cons o rest ih =>
    intro a w r h hQ
    unfold fast at h
    unfold wpList
    by_cases hw : Region.wanted o (yielded ops a.tmps) = true
    · rw [if_pos hw] at h ⊢
      refine .inl ?_
      unfold Oper.wp
      revert h
      cases hr : (execOp a.eval o).run P w with
      | ok x w' =>
        cases x with
        | value v => intro h; rw [Oper.upon_value]; exact ih _ _ _ h hQ
        | _ => intro h; exact absurd h (by simp)
      | _ => intro h; exact absurd h (by simp)
    · rw [if_neg hw] at h ⊢
      exact ih _ _ _ h hQ
theorem wpList_fast {P : Program} {ops : Array Oper} {Q : Exit → Act → World → Prop} {rest : List Oper} {a : Act} {w : World} (k : Nat) (v : Value)
    (h : (fast P ops rest a w).map (fun r => (r.1.tmps[k]?, r.1.defers, r.2)) = some (some v, [], w)) (hQ : ∀ a' : Act, a'.tmps[k]? = some v → a'.defers = [] → Q .normal a' w) : wpList P ops Q rest a w := by
  cases hf : fast P ops rest a w with
  | none => rw [hf] at h; cases h
  | some r =>
    rw [hf] at h
    simp only [Option.map_some, Option.some.injEq, Prod.mk.injEq] at h
    obtain ⟨h1, h2, h3⟩ := h
    refine wpList_of_fast rest a w r hf ?_
    rw [h3]
    exact hQ r.1 h1 h2
end Go.Proofs.YtklgjjmcflgjeaaGreat.Fast
namespace Go.Proofs.YtklgjjmcflgjeaaGreat.Sp
open Go.ChangeShapes Go.WideShapes Go.ChangeAt Go.RowKit Go.Joins Go.Deep
open LK
open Tick (inB in_t in_f l01In_any)
def specB (x0 x1 x2 x3 x4 x5 x6 x7 x8 x9 x10 : Int) : Bool := inB x0 1 12 && inB x1 0 x0 && inB x2 0 x0 && decide (0 < x1 + x2) && inB x3 0 1000 && inB x4 0 20 && inB x5 1 x6 && decide (x6 ≤ 10000) && inB x7 1 100000 && inB x8 1 100000 && inB x9 0 x0 && inB x10 0 1000
theorem specB_t {x0 x1 x2 x3 x4 x5 x6 x7 x8 x9 x10 : Int} (h : specB x0 x1 x2 x3 x4 x5 x6 x7 x8 x9 x10 = true) : (1 ≤ x0 ∧ x0 ≤ 12) ∧ (0 ≤ x1 ∧ x1 ≤ x0) ∧ (0 ≤ x2 ∧ x2 ≤ x0) ∧ 0 < x1 + x2 ∧ (0 ≤ x3 ∧ x3 ≤ 1000) ∧ (0 ≤ x4 ∧ x4 ≤ 20) ∧ (1 ≤ x5 ∧ x5 ≤ x6) ∧ x6 ≤ 10000 ∧ (1 ≤ x7 ∧ x7 ≤ 100000) ∧ (1 ≤ x8 ∧ x8 ≤ 100000) ∧ (0 ≤ x9 ∧ x9 ≤ x0) ∧ (0 ≤ x10 ∧ x10 ≤ 1000) := by
  simp only [specB, inB, Bool.and_eq_true, decide_eq_true_eq] at h
  omega
theorem flat_fields {i : Nat} {f : Field} {fs : Array Field} (h : fs.toList.zipIdx.all (fun q => q.1.offset == q.2 && q.1.type == 3) = true) (hf : fs[i]? = some f) : f.offset = i ∧ f.type = 3 := by
  have h1 : (f, i) ∈ fs.toList.zipIdx := List.mem_zipIdx_iff_getElem?.2 (by simpa using hf)
  have h2 := List.all_eq_true.1 h _ h1
  simpa using h2
section
variable {H : Type} {enc : TypeId × Value → H} {w : World} {base : Nat} {spare : Nat → Bool} {held : Bool}
set_option maxRecDepth 100000 in
theorem open_spec {r : Reach} {b0 : Nat} {v : Value} {d : DataW H} {p : List MemPlace} (hv : Value.okWide Tryz.prog w r b0 42 v) (h : DataW.Trod enc Tryz.prog w base spare held 42 v d p) :
    ∃ x0 x1 x2 x3 x4 x5 x6 x7 x8 x9 x10 : Int, v = .agg #[.int .i64 x0, .int .i64 x1, .int .i64 x2, .int .i64 x3, .int .i64 x4, .int .i64 x5, .int .i64 x6, .int .i64 x7, .int .i64 x8, .int .i64 x9, .int .i64 x10] ∧ (Lit.int .i64 x0).wf = true ∧ (Lit.int .i64 x1).wf = true ∧ (Lit.int .i64 x2).wf = true ∧ (Lit.int .i64 x3).wf = true ∧ (Lit.int .i64 x4).wf = true ∧ (Lit.int .i64 x5).wf = true ∧ (Lit.int .i64 x6).wf = true ∧ (Lit.int .i64 x7).wf = true ∧ (Lit.int .i64 x8).wf = true ∧ (Lit.int .i64 x9).wf = true ∧ (Lit.int .i64 x10).wf = true := by
  obtain ⟨l, hl, rfl, hw⟩ := FlatOpen.open_flat Tryz.underlying42 (by kernel_rfl) (fun i f hf => flat_fields (by kernel_rfl) hf) hv h
  match l, hl with
  | [x0, x1, x2, x3, x4, x5, x6, x7, x8, x9, x10], _ => exact ⟨x0, x1, x2, x3, x4, x5, x6, x7, x8, x9, x10, rfl, hw x0 (by simp), hw x1 (by simp), hw x2 (by simp), hw x3 (by simp), hw x4 (by simp), hw x5 (by simp), hw x6 (by simp), hw x7 (by simp), hw x8 (by simp), hw x9 (by simp), hw x10 (by simp)⟩
end
set_option maxHeartbeats 1600000 in
theorem toSpec_any (x0 x1 x2 x3 x4 x5 x6 x7 x8 x9 x10 : Int) (w : World) :
    Calls Tryz.prog 15 #[.agg #[.int .i64 x0, .int .i64 x1, .int .i64 x2, .int .i64 x3, .int .i64 x4, .int .i64 x5, .int .i64 x6, .int .i64 x7, .int .i64 x8, .int .i64 x9, .int .i64 x10]] w (Says (.agg #[.int .i64 x0, .int .i64 x1, .int .i64 x2, .int .i64 x3, .int .i64 x4, .int .i64 x5, .int .i64 x6, .int .i64 x7, .int .i64 x8, .int .i64 x9, .int .i64 x10]) w) := by
  go_enter Tryz.func15, Tryz.ntmps15
  go_wp2
  exact bodyPost_ret (v := .agg #[.int .i64 x0, .int .i64 x1, .int .i64 x2, .int .i64 x3, .int .i64 x4, .int .i64 x5, .int .i64 x6, .int .i64 x7, .int .i64 x8, .int .i64 x9, .int .i64 x10]) (by simp [results, Tryz.results15, go_sem]) rfl ⟨rfl, bel3 _ _ _ _⟩
set_option maxHeartbeats 1600000 in
theorem eqSpec_same (x0 x1 x2 x3 x4 x5 x6 x7 x8 x9 x10 : Int) (w : World) :
    Calls Tryz.prog 63 #[.agg #[.int .i64 x0, .int .i64 x1, .int .i64 x2, .int .i64 x3, .int .i64 x4, .int .i64 x5, .int .i64 x6, .int .i64 x7, .int .i64 x8, .int .i64 x9, .int .i64 x10], .agg #[.int .i64 x0, .int .i64 x1, .int .i64 x2, .int .i64 x3, .int .i64 x4, .int .i64 x5, .int .i64 x6, .int .i64 x7, .int .i64 x8, .int .i64 x9, .int .i64 x10]] w (Says (.bool true) w) := by
  go_enter Tryz.func63, Tryz.ntmps63
  go_wp2
  go_ret
  exact ⟨rfl, bel2 _ _ _⟩
theorem within_any (x lo hi : Int) (w : World) :
    Calls Tryz.prog 94 #[.int .i64 x, .int .i64 lo, .int .i64 hi] w fun e w' => e = .returned (.bool (inB x lo hi)) ∧ w = w' := by
  by_cases h0 : lo ≤ x <;> by_cases h1 : x ≤ hi
  all_goals
    go_enter Tryz.func94, Tryz.ntmps94
    go_wp2
    go_ret
    simp [inB, h0, h1]
set_option maxRecDepth 100000 in
set_option maxHeartbeats 6400000 in
theorem specOk_any (x0 x1 x2 x3 x4 x5 x6 x7 x8 x9 x10 : Int) (w : World) :
    Calls Tryz.prog 89 #[.agg #[.int .i64 x0, .int .i64 x1, .int .i64 x2, .int .i64 x3, .int .i64 x4, .int .i64 x5, .int .i64 x6, .int .i64 x7, .int .i64 x8, .int .i64 x9, .int .i64 x10]] w (Says (.bool (specB x0 x1 x2 x3 x4 x5 x6 x7 x8 x9 x10)) w) := by
  obtain ⟨R, hR⟩ : ∃ R, R = specB x0 x1 x2 x3 x4 x5 x6 x7 x8 x9 x10 := ⟨_, rfl⟩
  rw [← hR]
  have HR := Lib.hid hR
  clear hR
  obtain ⟨V, hV⟩ : ∃ V, V = w.alloc (.cells #[.int .i64 x0, .int .i64 x1, .int .i64 x2, .int .i64 x3, .int .i64 x4, .int .i64 x5, .int .i64 x6, .int .i64 x7, .int .i64 x8, .int .i64 x9, .int .i64 x10] 25) := ⟨_, rfl⟩
  have hB : Hid (Below w.heap.size w V) := by rw [hV]; exact bel1 _ _
  have B : Hid (V.heap[w.heap.size]? = some (.cells #[.int .i64 x0, .int .i64 x1, .int .i64 x2, .int .i64 x3, .int .i64 x4, .int .i64 x5, .int .i64 x6, .int .i64 x7, .int .i64 x8, .int .i64 x9, .int .i64 x10] 25)) := by rw [hV]; exact box_new w _
  go_enter Tryz.func89, Tryz.ntmps89
  go_wp2_with fail
  rw [← hV]
  clear hV
  have c0 : V.cell? ⟨w.heap.size, 0, none⟩ = some (.int .i64 x0) := box_cell B.out 0 _ rfl
  have c1 : V.cell? ⟨w.heap.size, 1, none⟩ = some (.int .i64 x1) := box_cell B.out 1 _ rfl
  have c2 : V.cell? ⟨w.heap.size, 2, none⟩ = some (.int .i64 x2) := box_cell B.out 2 _ rfl
  have c3 : V.cell? ⟨w.heap.size, 3, none⟩ = some (.int .i64 x3) := box_cell B.out 3 _ rfl
  have c4 : V.cell? ⟨w.heap.size, 4, none⟩ = some (.int .i64 x4) := box_cell B.out 4 _ rfl
  have c5 : V.cell? ⟨w.heap.size, 5, none⟩ = some (.int .i64 x5) := box_cell B.out 5 _ rfl
  have c6 : V.cell? ⟨w.heap.size, 6, none⟩ = some (.int .i64 x6) := box_cell B.out 6 _ rfl
  have c7 : V.cell? ⟨w.heap.size, 7, none⟩ = some (.int .i64 x7) := box_cell B.out 7 _ rfl
  have c8 : V.cell? ⟨w.heap.size, 8, none⟩ = some (.int .i64 x8) := box_cell B.out 8 _ rfl
  have c9 : V.cell? ⟨w.heap.size, 9, none⟩ = some (.int .i64 x9) := box_cell B.out 9 _ rfl
  have c10 : V.cell? ⟨w.heap.size, 10, none⟩ = some (.int .i64 x10) := box_cell B.out 10 _ rfl
  refine (within_any _ _ _ _).mono ?_
  rintro e w' ⟨rfl, rfl⟩
  cases h0 : inB x0 1 12
  · have HF : Hid (R = false) := by rw [HR.out]; cases hq : specB x0 x1 x2 x3 x4 x5 x6 x7 x8 x9 x10 with | false => exact rfl | true => exact absurd (specB_t hq) (by have hz := in_f h0; omega)
    clear c0 c1 c2 c3 c4 c5 c6 c7 c8 c9 c10 h0 HR
    dsimp only
    go_step
    refine Fast.wpList_fast 2 (.bool false) (by kernel_rfl) ?_
    intro a1 h1 h2
    go_wp2
    exact bodyPost_ret (v := .bool false) (by simp [results, Tryz.results89, go_sem, h1]) h2 ⟨by rw [HF.out], hB.out⟩
  have K0 := Lib.hid (in_t h0)
  clear h0
  go_wp2_with fail
  refine (within_any _ _ _ _).mono ?_
  rintro e w' ⟨rfl, rfl⟩
  cases h1 : inB x1 0 x0
  · have HF : Hid (R = false) := by rw [HR.out]; cases hq : specB x0 x1 x2 x3 x4 x5 x6 x7 x8 x9 x10 with | false => exact rfl | true => exact absurd (specB_t hq) (by have hz := in_f h1; omega)
    clear c0 c1 c2 c3 c4 c5 c6 c7 c8 c9 c10 h1 HR K0
    dsimp only
    go_step
    refine Fast.wpList_fast 2 (.bool false) (by kernel_rfl) ?_
    intro a1 h1 h2
    go_wp2
    exact bodyPost_ret (v := .bool false) (by simp [results, Tryz.results89, go_sem, h1]) h2 ⟨by rw [HF.out], hB.out⟩
  have K1 := Lib.hid (in_t h1)
  clear h1
  go_wp2_with fail
  refine (within_any _ _ _ _).mono ?_
  rintro e w' ⟨rfl, rfl⟩
  cases h2 : inB x2 0 x0
  · have HF : Hid (R = false) := by rw [HR.out]; cases hq : specB x0 x1 x2 x3 x4 x5 x6 x7 x8 x9 x10 with | false => exact rfl | true => exact absurd (specB_t hq) (by have hz := in_f h2; omega)
    clear c0 c1 c2 c3 c4 c5 c6 c7 c8 c9 c10 h2 HR K0 K1
    dsimp only
    go_step
    refine Fast.wpList_fast 2 (.bool false) (by kernel_rfl) ?_
    intro a1 h1 h2
    go_wp2
    exact bodyPost_ret (v := .bool false) (by simp [results, Tryz.results89, go_sem, h1]) h2 ⟨by rw [HF.out], hB.out⟩
  have K2 := Lib.hid (in_t h2)
  clear h2
  have b1 := K1.out
  have b2 := K2.out
  have b0 := K0.out
  by_cases h3 : 0 < x1 + x2
  case neg =>
    have HF : Hid (R = false) := by rw [HR.out]; cases hq : specB x0 x1 x2 x3 x4 x5 x6 x7 x8 x9 x10 with | false => exact rfl | true => exact absurd (specB_t hq) (by omega)
    clear HR K0 K1 K2
    go_wp2
    go_ret
    exact ⟨by rw [HF.out]; rfl, hB.out⟩
  have K3 := Lib.hid h3
  go_wp2_with fail
  refine (within_any _ _ _ _).mono ?_
  rintro e w' ⟨rfl, rfl⟩
  cases h4 : inB x3 0 1000
  · have HF : Hid (R = false) := by rw [HR.out]; cases hq : specB x0 x1 x2 x3 x4 x5 x6 x7 x8 x9 x10 with | false => exact rfl | true => exact absurd (specB_t hq) (by have hz := in_f h4; omega)
    clear c0 c1 c2 c3 c4 c5 c6 c7 c8 c9 c10 h4 HR K0 K1 K2 K3
    dsimp only
    go_step
    refine Fast.wpList_fast 2 (.bool false) (by kernel_rfl) ?_
    intro a1 h1 h2
    go_wp2
    exact bodyPost_ret (v := .bool false) (by simp [results, Tryz.results89, go_sem, h1]) h2 ⟨by rw [HF.out], hB.out⟩
  have K4 := Lib.hid (in_t h4)
  clear h4
  go_wp2_with fail
  refine (within_any _ _ _ _).mono ?_
  rintro e w' ⟨rfl, rfl⟩
  cases h5 : inB x4 0 20
  · have HF : Hid (R = false) := by rw [HR.out]; cases hq : specB x0 x1 x2 x3 x4 x5 x6 x7 x8 x9 x10 with | false => exact rfl | true => exact absurd (specB_t hq) (by have hz := in_f h5; omega)
    clear c0 c1 c2 c3 c4 c5 c6 c7 c8 c9 c10 h5 HR K0 K1 K2 K3 K4
    dsimp only
    go_step
    refine Fast.wpList_fast 2 (.bool false) (by kernel_rfl) ?_
    intro a1 h1 h2
    go_wp2
    exact bodyPost_ret (v := .bool false) (by simp [results, Tryz.results89, go_sem, h1]) h2 ⟨by rw [HF.out], hB.out⟩
  have K5 := Lib.hid (in_t h5)
  clear h5
  go_wp2_with fail
  refine (within_any _ _ _ _).mono ?_
  rintro e w' ⟨rfl, rfl⟩
  cases h6 : inB x5 1 x6
  · have HF : Hid (R = false) := by rw [HR.out]; cases hq : specB x0 x1 x2 x3 x4 x5 x6 x7 x8 x9 x10 with | false => exact rfl | true => exact absurd (specB_t hq) (by have hz := in_f h6; omega)
    clear c0 c1 c2 c3 c4 c5 c6 c7 c8 c9 c10 h6 HR K0 K1 K2 K3 K4 K5
    dsimp only
    go_step
    refine Fast.wpList_fast 2 (.bool false) (by kernel_rfl) ?_
    intro a1 h1 h2
    go_wp2
    exact bodyPost_ret (v := .bool false) (by simp [results, Tryz.results89, go_sem, h1]) h2 ⟨by rw [HF.out], hB.out⟩
  have K6 := Lib.hid (in_t h6)
  clear h6
  by_cases h7 : x6 ≤ 10000
  case neg =>
    have HF : Hid (R = false) := by rw [HR.out]; cases hq : specB x0 x1 x2 x3 x4 x5 x6 x7 x8 x9 x10 with | false => exact rfl | true => exact absurd (specB_t hq) (by omega)
    clear HR K0 K1 K2 K3 K4 K5 K6
    go_wp2
    go_ret
    exact ⟨by rw [HF.out]; rfl, hB.out⟩
  have K7 := Lib.hid h7
  go_wp2_with fail
  refine (within_any _ _ _ _).mono ?_
  rintro e w' ⟨rfl, rfl⟩
  cases h8 : inB x7 1 100000
  · have HF : Hid (R = false) := by rw [HR.out]; cases hq : specB x0 x1 x2 x3 x4 x5 x6 x7 x8 x9 x10 with | false => exact rfl | true => exact absurd (specB_t hq) (by have hz := in_f h8; omega)
    clear c0 c1 c2 c3 c4 c5 c6 c7 c8 c9 c10 h8 HR K0 K1 K2 K3 K4 K5 K6 K7
    dsimp only
    go_step
    refine Fast.wpList_fast 2 (.bool false) (by kernel_rfl) ?_
    intro a1 h1 h2
    go_wp2
    exact bodyPost_ret (v := .bool false) (by simp [results, Tryz.results89, go_sem, h1]) h2 ⟨by rw [HF.out], hB.out⟩
  have K8 := Lib.hid (in_t h8)
  clear h8
  go_wp2_with fail
  refine (within_any _ _ _ _).mono ?_
  rintro e w' ⟨rfl, rfl⟩
  cases h9 : inB x8 1 100000
  · have HF : Hid (R = false) := by rw [HR.out]; cases hq : specB x0 x1 x2 x3 x4 x5 x6 x7 x8 x9 x10 with | false => exact rfl | true => exact absurd (specB_t hq) (by have hz := in_f h9; omega)
    clear c0 c1 c2 c3 c4 c5 c6 c7 c8 c9 c10 h9 HR K0 K1 K2 K3 K4 K5 K6 K7 K8
    dsimp only
    go_step
    refine Fast.wpList_fast 2 (.bool false) (by kernel_rfl) ?_
    intro a1 h1 h2
    go_wp2
    exact bodyPost_ret (v := .bool false) (by simp [results, Tryz.results89, go_sem, h1]) h2 ⟨by rw [HF.out], hB.out⟩
  have K9 := Lib.hid (in_t h9)
  clear h9
  go_wp2_with fail
  refine (within_any _ _ _ _).mono ?_
  rintro e w' ⟨rfl, rfl⟩
  cases h10 : inB x9 0 x0
  · have HF : Hid (R = false) := by rw [HR.out]; cases hq : specB x0 x1 x2 x3 x4 x5 x6 x7 x8 x9 x10 with | false => exact rfl | true => exact absurd (specB_t hq) (by have hz := in_f h10; omega)
    clear c0 c1 c2 c3 c4 c5 c6 c7 c8 c9 c10 h10 HR K0 K1 K2 K3 K4 K5 K6 K7 K8 K9
    dsimp only
    go_step
    refine Fast.wpList_fast 2 (.bool false) (by kernel_rfl) ?_
    intro a1 h1 h2
    go_wp2
    exact bodyPost_ret (v := .bool false) (by simp [results, Tryz.results89, go_sem, h1]) h2 ⟨by rw [HF.out], hB.out⟩
  have K10 := Lib.hid (in_t h10)
  clear h10
  go_wp2_with fail
  refine (within_any _ _ _ _).mono ?_
  rintro e w' ⟨rfl, rfl⟩
  cases h11 : inB x10 0 1000
  · have HF : Hid (R = false) := by rw [HR.out]; cases hq : specB x0 x1 x2 x3 x4 x5 x6 x7 x8 x9 x10 with | false => exact rfl | true => exact absurd (specB_t hq) (by have hz := in_f h11; omega)
    clear c0 c1 c2 c3 c4 c5 c6 c7 c8 c9 c10 h11 HR K0 K1 K2 K3 K4 K5 K6 K7 K8 K9 K10
    dsimp only
    go_step
    refine Fast.wpList_fast 2 (.bool false) (by kernel_rfl) ?_
    intro a1 h1 h2
    go_wp2
    exact bodyPost_ret (v := .bool false) (by simp [results, Tryz.results89, go_sem, h1]) h2 ⟨by rw [HF.out], hB.out⟩
  have K11 := Lib.hid (in_t h11)
  clear h11
  have HT : Hid (R = true) := by
    show R = true
    rw [HR.out]
    simp only [specB, inB, Bool.and_eq_true, decide_eq_true_eq]
    have hK0 := K0.out
    have hK1 := K1.out
    have hK2 := K2.out
    have hK3 := K3.out
    have hK4 := K4.out
    have hK5 := K5.out
    have hK6 := K6.out
    have hK7 := K7.out
    have hK8 := K8.out
    have hK9 := K9.out
    have hK10 := K10.out
    have hK11 := K11.out
    omega
  go_wp2
  go_ret
  exact ⟨by rw [HT.out]; rfl, hB.out⟩
set_option maxRecDepth 100000 in
set_option maxHeartbeats 6400000 in
theorem specSpecOk_any (x0 x1 x2 x3 x4 x5 x6 x7 x8 x9 x10 : Int) (w : World) :
    Calls Tryz.prog 9 #[.agg #[.int .i64 x0, .int .i64 x1, .int .i64 x2, .int .i64 x3, .int .i64 x4, .int .i64 x5, .int .i64 x6, .int .i64 x7, .int .i64 x8, .int .i64 x9, .int .i64 x10]] w (Says (.bool (specB x0 x1 x2 x3 x4 x5 x6 x7 x8 x9 x10)) w) := by
  obtain ⟨R, hR⟩ : ∃ R, R = specB x0 x1 x2 x3 x4 x5 x6 x7 x8 x9 x10 := ⟨_, rfl⟩
  rw [← hR]
  have HR := Lib.hid hR
  clear hR
  obtain ⟨V, hV⟩ : ∃ V, V = w.alloc (.cells #[.int .i64 x0, .int .i64 x1, .int .i64 x2, .int .i64 x3, .int .i64 x4, .int .i64 x5, .int .i64 x6, .int .i64 x7, .int .i64 x8, .int .i64 x9, .int .i64 x10] 25) := ⟨_, rfl⟩
  have hB : Hid (Below w.heap.size w V) := by rw [hV]; exact bel1 _ _
  have B : Hid (V.heap[w.heap.size]? = some (.cells #[.int .i64 x0, .int .i64 x1, .int .i64 x2, .int .i64 x3, .int .i64 x4, .int .i64 x5, .int .i64 x6, .int .i64 x7, .int .i64 x8, .int .i64 x9, .int .i64 x10] 25)) := by rw [hV]; exact box_new w _
  go_enter Tryz.func9, Tryz.ntmps9
  go_wp2_with fail
  rw [← hV]
  clear hV
  have c0 : V.cell? ⟨w.heap.size, 0, none⟩ = some (.int .i64 x0) := box_cell B.out 0 _ rfl
  have c1 : V.cell? ⟨w.heap.size, 1, none⟩ = some (.int .i64 x1) := box_cell B.out 1 _ rfl
  have c2 : V.cell? ⟨w.heap.size, 2, none⟩ = some (.int .i64 x2) := box_cell B.out 2 _ rfl
  have c3 : V.cell? ⟨w.heap.size, 3, none⟩ = some (.int .i64 x3) := box_cell B.out 3 _ rfl
  have c4 : V.cell? ⟨w.heap.size, 4, none⟩ = some (.int .i64 x4) := box_cell B.out 4 _ rfl
  have c5 : V.cell? ⟨w.heap.size, 5, none⟩ = some (.int .i64 x5) := box_cell B.out 5 _ rfl
  have c6 : V.cell? ⟨w.heap.size, 6, none⟩ = some (.int .i64 x6) := box_cell B.out 6 _ rfl
  have c7 : V.cell? ⟨w.heap.size, 7, none⟩ = some (.int .i64 x7) := box_cell B.out 7 _ rfl
  have c8 : V.cell? ⟨w.heap.size, 8, none⟩ = some (.int .i64 x8) := box_cell B.out 8 _ rfl
  have c9 : V.cell? ⟨w.heap.size, 9, none⟩ = some (.int .i64 x9) := box_cell B.out 9 _ rfl
  have c10 : V.cell? ⟨w.heap.size, 10, none⟩ = some (.int .i64 x10) := box_cell B.out 10 _ rfl
  refine (l01In_any _ _ _ _).mono ?_
  rintro e w' ⟨rfl, rfl⟩
  cases h0 : inB x0 1 12
  · have HF : Hid (R = false) := by rw [HR.out]; cases hq : specB x0 x1 x2 x3 x4 x5 x6 x7 x8 x9 x10 with | false => exact rfl | true => exact absurd (specB_t hq) (by have hz := in_f h0; omega)
    clear c0 c1 c2 c3 c4 c5 c6 c7 c8 c9 c10 h0 HR
    go_wp2
    go_ret
    exact ⟨by rw [HF.out]; rfl, hB.out⟩
  have K0 := Lib.hid (in_t h0)
  clear h0
  go_wp2_with fail
  refine (l01In_any _ _ _ _).mono ?_
  rintro e w' ⟨rfl, rfl⟩
  cases h1 : inB x1 0 x0
  · have HF : Hid (R = false) := by rw [HR.out]; cases hq : specB x0 x1 x2 x3 x4 x5 x6 x7 x8 x9 x10 with | false => exact rfl | true => exact absurd (specB_t hq) (by have hz := in_f h1; omega)
    clear c0 c1 c2 c3 c4 c5 c6 c7 c8 c9 c10 h1 HR K0
    go_wp2
    go_ret
    exact ⟨by rw [HF.out]; rfl, hB.out⟩
  have K1 := Lib.hid (in_t h1)
  clear h1
  go_wp2_with fail
  refine (l01In_any _ _ _ _).mono ?_
  rintro e w' ⟨rfl, rfl⟩
  cases h2 : inB x2 0 x0
  · have HF : Hid (R = false) := by rw [HR.out]; cases hq : specB x0 x1 x2 x3 x4 x5 x6 x7 x8 x9 x10 with | false => exact rfl | true => exact absurd (specB_t hq) (by have hz := in_f h2; omega)
    clear c0 c1 c2 c3 c4 c5 c6 c7 c8 c9 c10 h2 HR K0 K1
    go_wp2
    go_ret
    exact ⟨by rw [HF.out]; rfl, hB.out⟩
  have K2 := Lib.hid (in_t h2)
  clear h2
  have b1 := K1.out
  have b2 := K2.out
  have b0 := K0.out
  by_cases h3 : 0 < x1 + x2
  case neg =>
    have HF : Hid (R = false) := by rw [HR.out]; cases hq : specB x0 x1 x2 x3 x4 x5 x6 x7 x8 x9 x10 with | false => exact rfl | true => exact absurd (specB_t hq) (by omega)
    clear HR K0 K1 K2
    go_wp2
    go_ret
    exact ⟨by rw [HF.out]; rfl, hB.out⟩
  have K3 := Lib.hid h3
  go_wp2_with fail
  refine (l01In_any _ _ _ _).mono ?_
  rintro e w' ⟨rfl, rfl⟩
  cases h4 : inB x3 0 1000
  · have HF : Hid (R = false) := by rw [HR.out]; cases hq : specB x0 x1 x2 x3 x4 x5 x6 x7 x8 x9 x10 with | false => exact rfl | true => exact absurd (specB_t hq) (by have hz := in_f h4; omega)
    clear c0 c1 c2 c3 c4 c5 c6 c7 c8 c9 c10 h4 HR K0 K1 K2 K3
    dsimp only
    go_step
    refine Fast.wpList_fast 2 (.bool false) (by kernel_rfl) ?_
    intro a1 h1 h2
    go_wp2
    exact bodyPost_ret (v := .bool false) (by simp [results, Tryz.results9, go_sem, h1]) h2 ⟨by rw [HF.out], hB.out⟩
  have K4 := Lib.hid (in_t h4)
  clear h4
  go_wp2_with fail
  refine (l01In_any _ _ _ _).mono ?_
  rintro e w' ⟨rfl, rfl⟩
  cases h5 : inB x4 0 20
  · have HF : Hid (R = false) := by rw [HR.out]; cases hq : specB x0 x1 x2 x3 x4 x5 x6 x7 x8 x9 x10 with | false => exact rfl | true => exact absurd (specB_t hq) (by have hz := in_f h5; omega)
    clear c0 c1 c2 c3 c4 c5 c6 c7 c8 c9 c10 h5 HR K0 K1 K2 K3 K4
    dsimp only
    go_step
    refine Fast.wpList_fast 2 (.bool false) (by kernel_rfl) ?_
    intro a1 h1 h2
    go_wp2
    exact bodyPost_ret (v := .bool false) (by simp [results, Tryz.results9, go_sem, h1]) h2 ⟨by rw [HF.out], hB.out⟩
  have K5 := Lib.hid (in_t h5)
  clear h5
  go_wp2_with fail
  refine (l01In_any _ _ _ _).mono ?_
  rintro e w' ⟨rfl, rfl⟩
  cases h7 : inB x6 1 10000
  · have HF : Hid (R = false) := by rw [HR.out]; cases hq : specB x0 x1 x2 x3 x4 x5 x6 x7 x8 x9 x10 with | false => exact rfl | true => exact absurd (specB_t hq) (by have hz := in_f h7; omega)
    clear c0 c1 c2 c3 c4 c5 c6 c7 c8 c9 c10 h7 HR K0 K1 K2 K3 K4 K5
    dsimp only
    go_step
    refine Fast.wpList_fast 2 (.bool false) (by kernel_rfl) ?_
    intro a1 h1 h2
    go_wp2
    exact bodyPost_ret (v := .bool false) (by simp [results, Tryz.results9, go_sem, h1]) h2 ⟨by rw [HF.out], hB.out⟩
  have K7 := Lib.hid (in_t h7)
  clear h7
  go_wp2_with fail
  refine (l01In_any _ _ _ _).mono ?_
  rintro e w' ⟨rfl, rfl⟩
  cases h6 : inB x5 1 x6
  · have HF : Hid (R = false) := by rw [HR.out]; cases hq : specB x0 x1 x2 x3 x4 x5 x6 x7 x8 x9 x10 with | false => exact rfl | true => exact absurd (specB_t hq) (by have hz := in_f h6; omega)
    clear c0 c1 c2 c3 c4 c5 c6 c7 c8 c9 c10 h6 HR K0 K1 K2 K3 K4 K5 K7
    dsimp only
    go_step
    refine Fast.wpList_fast 2 (.bool false) (by kernel_rfl) ?_
    intro a1 h1 h2
    go_wp2
    exact bodyPost_ret (v := .bool false) (by simp [results, Tryz.results9, go_sem, h1]) h2 ⟨by rw [HF.out], hB.out⟩
  have K6 := Lib.hid (in_t h6)
  clear h6
  go_wp2_with fail
  refine (l01In_any _ _ _ _).mono ?_
  rintro e w' ⟨rfl, rfl⟩
  cases h8 : inB x7 1 100000
  · have HF : Hid (R = false) := by rw [HR.out]; cases hq : specB x0 x1 x2 x3 x4 x5 x6 x7 x8 x9 x10 with | false => exact rfl | true => exact absurd (specB_t hq) (by have hz := in_f h8; omega)
    clear c0 c1 c2 c3 c4 c5 c6 c7 c8 c9 c10 h8 HR K0 K1 K2 K3 K4 K5 K7 K6
    dsimp only
    go_step
    refine Fast.wpList_fast 2 (.bool false) (by kernel_rfl) ?_
    intro a1 h1 h2
    go_wp2
    exact bodyPost_ret (v := .bool false) (by simp [results, Tryz.results9, go_sem, h1]) h2 ⟨by rw [HF.out], hB.out⟩
  have K8 := Lib.hid (in_t h8)
  clear h8
  go_wp2_with fail
  refine (l01In_any _ _ _ _).mono ?_
  rintro e w' ⟨rfl, rfl⟩
  cases h9 : inB x8 1 100000
  · have HF : Hid (R = false) := by rw [HR.out]; cases hq : specB x0 x1 x2 x3 x4 x5 x6 x7 x8 x9 x10 with | false => exact rfl | true => exact absurd (specB_t hq) (by have hz := in_f h9; omega)
    clear c0 c1 c2 c3 c4 c5 c6 c7 c8 c9 c10 h9 HR K0 K1 K2 K3 K4 K5 K7 K6 K8
    dsimp only
    go_step
    refine Fast.wpList_fast 2 (.bool false) (by kernel_rfl) ?_
    intro a1 h1 h2
    go_wp2
    exact bodyPost_ret (v := .bool false) (by simp [results, Tryz.results9, go_sem, h1]) h2 ⟨by rw [HF.out], hB.out⟩
  have K9 := Lib.hid (in_t h9)
  clear h9
  go_wp2_with fail
  refine (l01In_any _ _ _ _).mono ?_
  rintro e w' ⟨rfl, rfl⟩
  cases h10 : inB x9 0 x0
  · have HF : Hid (R = false) := by rw [HR.out]; cases hq : specB x0 x1 x2 x3 x4 x5 x6 x7 x8 x9 x10 with | false => exact rfl | true => exact absurd (specB_t hq) (by have hz := in_f h10; omega)
    clear c0 c1 c2 c3 c4 c5 c6 c7 c8 c9 c10 h10 HR K0 K1 K2 K3 K4 K5 K7 K6 K8 K9
    dsimp only
    go_step
    refine Fast.wpList_fast 2 (.bool false) (by kernel_rfl) ?_
    intro a1 h1 h2
    go_wp2
    exact bodyPost_ret (v := .bool false) (by simp [results, Tryz.results9, go_sem, h1]) h2 ⟨by rw [HF.out], hB.out⟩
  have K10 := Lib.hid (in_t h10)
  clear h10
  go_wp2_with fail
  refine (l01In_any _ _ _ _).mono ?_
  rintro e w' ⟨rfl, rfl⟩
  cases h11 : inB x10 0 1000
  · have HF : Hid (R = false) := by rw [HR.out]; cases hq : specB x0 x1 x2 x3 x4 x5 x6 x7 x8 x9 x10 with | false => exact rfl | true => exact absurd (specB_t hq) (by have hz := in_f h11; omega)
    clear c0 c1 c2 c3 c4 c5 c6 c7 c8 c9 c10 h11 HR K0 K1 K2 K3 K4 K5 K7 K6 K8 K9 K10
    dsimp only
    go_step
    refine Fast.wpList_fast 2 (.bool false) (by kernel_rfl) ?_
    intro a1 h1 h2
    go_wp2
    exact bodyPost_ret (v := .bool false) (by simp [results, Tryz.results9, go_sem, h1]) h2 ⟨by rw [HF.out], hB.out⟩
  have K11 := Lib.hid (in_t h11)
  clear h11
  have HT : Hid (R = true) := by
    show R = true
    rw [HR.out]
    simp only [specB, inB, Bool.and_eq_true, decide_eq_true_eq]
    have hK0 := K0.out
    have hK1 := K1.out
    have hK2 := K2.out
    have hK3 := K3.out
    have hK4 := K4.out
    have hK5 := K5.out
    have hK7 := K7.out
    have hK6 := K6.out
    have hK8 := K8.out
    have hK9 := K9.out
    have hK10 := K10.out
    have hK11 := K11.out
    omega
  go_wp2
  go_ret
  exact ⟨by rw [HT.out]; rfl, hB.out⟩
end Go.Proofs.YtklgjjmcflgjeaaGreat.Sp
namespace Go.Proofs.YtklgjjmcflgjeaaGreat.Tick
open Go.ChangeShapes Go.WideShapes Go.ChangeAt Go.RowKit
set_option maxHeartbeats 800000 in
theorem specSince_any (a b : Int) (w : World) :
    Calls Tryz.prog 185 #[.int .i64 a, .int .i64 b] w fun e w' => e = .returned (.int .i64 (sinceV a b)) ∧ w = w' := by
  cases h0 : tokB a <;> cases h1 : tokB b
  · have HV : Hid (sinceV a b = -1) := (by simp [sinceV, h0] : sinceV a b = -1)
    go_enter Tryz.func185, Tryz.ntmps185
    go_wp2_with (go_at_call 52; refine (specTickOk_any _ _).mono ?_; rintro e w' ⟨rfl, rfl⟩)
    go_ret
    exact ⟨ret_int HV.out.symm, rfl⟩
  · have HV : Hid (sinceV a b = -1) := (by simp [sinceV, h0] : sinceV a b = -1)
    go_enter Tryz.func185, Tryz.ntmps185
    go_wp2_with (go_at_call 52; refine (specTickOk_any _ _).mono ?_; rintro e w' ⟨rfl, rfl⟩)
    go_ret
    exact ⟨ret_int HV.out.symm, rfl⟩
  · have HV : Hid (sinceV a b = -1) := (by simp [sinceV, h1] : sinceV a b = -1)
    go_enter Tryz.func185, Tryz.ntmps185
    go_wp2_with (go_at_call 52; refine (specTickOk_any _ _).mono ?_; rintro e w' ⟨rfl, rfl⟩)
    go_ret
    exact ⟨ret_int HV.out.symm, rfl⟩
  · have HV : Hid (sinceV a b = max 0 (b - a)) := (by simp [sinceV, h0, h1] : sinceV a b = max 0 (b - a))
    have b0 := tok_t h0
    have b1 := tok_t h1
    by_cases c : b < a
    all_goals
      go_enter Tryz.func185, Tryz.ntmps185
      go_wp2_with (go_at_call 52; refine (specTickOk_any _ _).mono ?_; rintro e w' ⟨rfl, rfl⟩)
      go_ret
      exact ⟨ret_int (by rw [HV.out]; omega), rfl⟩
end Go.Proofs.YtklgjjmcflgjeaaGreat.Tick
