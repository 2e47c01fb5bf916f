/-
  APPENDING A RECORD: the contract of the model's AppendRecord over this seat's translation.
-/
import Derived.Test.YtpghccbknlokcaaDoorJourTop
import Derived.Test.YtpghccbknlokcaaDoorRecTy
import Derived.Deep.RegionLaw
import Derived.Deep.RegionWith
namespace Go.Proofs.YtpghccbknlokcaaDoor.Jour
open Go.ChangeShapes Go.WideShapes Go.ChangeAt Go.RowKit
open Go.Proofs.YtpghccbknlokcaaDoor.Bytes Go.Proofs.YtpghccbknlokcaaDoor.LK
open Go.Proofs.YtpghccbknlokcaaDoor.RecTy (RD RRd rty)
open Go.Proofs.YtpghccbknlokcaaDoor.Rec (recB frameV frameT frame_t frame_f frame_len frame_in recordOk_any frameRecord_any)
open Go.Proofs.YtpghccbknlokcaaDoor.Rec (specRecordOk_any)
set_option linter.unusedVariables false
set_option linter.unusedSimpArgs false

def appB (d : JD) (r : RD) : Bool := jok d && recB r.1 r.2 && decide (d.2.1.length + (frameV r.1 r.2).length ≤ 3000)
def appD (d : JD) (r : RD) : JD := if appB d r then (d.1, d.2.1 ++ frameV r.1 r.2, d.2.2) else d
theorem appD_f {d : JD} {r : RD} (h : appB d r = false) : appD d r = d := by simp [appD, h]
theorem appD_t {d : JD} {r : RD} (h : appB d r = true) : appD d r = (d.1, d.2.1 ++ frameV r.1 r.2, d.2.2) := by simp [appD, h]
theorem app_1 {d : JD} {r : RD} (h : jok d = false) : appB d r = false := by simp [appB, h]
theorem app_2 {d : JD} {r : RD} (h : recB r.1 r.2 = false) : appB d r = false := by simp [appB, h]
theorem app_3 {d : JD} {r : RD} (h1 : jok d = true) (h2 : recB r.1 r.2 = true) : appB d r = jok (d.1, d.2.1 ++ frameV r.1 r.2, d.2.2) := by
  have h3 := jok_t h1
  simp only [appB, h1, h2, Bool.true_and]
  have e : jok (d.1, d.2.1 ++ frameV r.1 r.2, d.2.2) = decide (d.2.1.length + (frameV r.1 r.2).length ≤ 3000) := by
    simp only [jok, Tick.inB, List.length_append]
    rw [Bool.eq_iff_iff]
    simp
    omega
  rw [e]
theorem few_app {d : JD} {r : RD} (h : jty.Few d) : jty.Few (appD d r) := by
  unfold appD
  split
  · rename_i hb
    simp only [appB, Bool.and_eq_true, decide_eq_true_eq] at hb
    have h3 := jok_t hb.1.1
    show d.1.length + (d.2.1 ++ frameV r.1 r.2).length ≤ 1048576
    rw [List.length_append]; omega
  · exact h

theorem has_tail {w : World} {lo hi : Nat} {S : Nat → Prop} {A1 A2 : Option Addr} {m n c1 c2 : Nat} {x y : List Int} {s r : Int} (h : Has jty w lo hi S (.agg #[.slice A1 m c1, .slice A2 n c2, .int .i64 r]) (x, y, s)) : IsBytes w w.heap.size A2 n y := by
  obtain ⟨⟨A1', c1', A2', c2', e, h1, h2, _⟩, _⟩ := h
  simp only [Value.agg.injEq, Array.mk.injEq, List.cons.injEq, Value.slice.injEq] at e
  obtain ⟨_, ⟨rfl, rfl, rfl⟩, _⟩ := e
  exact h2.bytes
/-- A journal with another Tail, which was made since. -/
theorem has_newtail {w : World} {lo hi h' : Nat} {S : Nat → Prop} {A1 A2 A' : Option Addr} {m n c1 c2 n' c' : Nat} {x y y' : List Int} {s r : Int} (h : Has jty w lo hi S (.agg #[.slice A1 m c1, .slice A2 n c2, .int .i64 r]) (x, y, s)) (ho : OwnB w h' A' n' c' y') (hh : hi ≤ h') (hll : lo ≤ h') :
    Has jty w lo w.heap.size (fun k => lo ≤ k ∧ k < w.heap.size) (.agg #[.slice A1 m c1, .slice A' n' c', .int .i64 r]) (x, y', s) := by
  have hL := h.hi
  have hlo := h.inn
  obtain ⟨⟨B1, d1, B2, d2, e, h1, h2, s1, s2, _⟩, _⟩ := h
  simp only [Value.agg.injEq, Array.mk.injEq, List.cons.injEq, Value.slice.injEq, Value.int.injEq] at e
  obtain ⟨⟨rfl, rfl, rfl⟩, _, ⟨_, rfl⟩, _⟩ := e
  obtain rfl : y'.length = n' := ho.1
  refine ⟨⟨A1, c1, A', c', rfl, h1, own_zero ho, fun k hk => ?_, fun k hk => ?_, fun k hk e => ?_⟩, fun k hk => hk, Nat.le_refl _⟩
  · have := hlo k (s1 k hk); omega
  · have := ho.lt k hk; omega
  · have := hlo k (s1 k hk); have := ho.lt k e; omega
end Go.Proofs.YtpghccbknlokcaaDoor.Jour
