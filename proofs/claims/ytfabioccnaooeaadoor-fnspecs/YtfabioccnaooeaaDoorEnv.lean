/-
  THE LIBRARY's VARIABLES that this seat's laws read, kept from world to world, and the contracts of strings.Cut, strconv.Itoa and strconv.Atoi in the words that the walks use.
-/
import Derived.Test.YtfabioccnaooeaaDoorStr
import Derived.Test.YtfabioccnaooeaaDoorShelf
import Derived.Lib.AppendIntMem
import Derived.Lib.AtoiAllCases
import Derived.Lib.AtoiErrMem
import Derived.Shelf.Strconv.ErrVarAll
namespace Go.Proofs.YtfabioccnaooeaaDoor.Env
open Go.ChangeShapes Go.WideShapes Go.ChangeAt Go.RowKit
open Go.Proofs.YtfabioccnaooeaaDoor.Str
set_option linter.unusedVariables false

/-- The library's variables hold what the walks want, and lie below block B. -/
structure Lib3 (B : Nat) (w : World) : Prop where
  size : B ≤ w.heap.size
  tab : Lib.TabBelow Tryd.prog B w "internal/strconv.uint64pow10" .u64 Lib.pow10Tab
  max : ∀ w', Below B w w' → ∃ m, w'.cell? ⟨3, 0, none⟩ = some (.int .i64 m)
  errS : ∀ w', Below B w w' → ∃ tp p, w'.var? Tryd.prog "strconv.ErrSyntax" = some #[.iface tp p]
  errR : ∀ w', Below B w w' → ∃ tp p, w'.var? Tryd.prog "strconv.ErrRange" = some #[.iface tp p]

theorem Lib3.on {B : Nat} {w w1 : World} (h : Lib3 B w) (hb : Below B w w1) : Lib3 B w1 :=
  ⟨Nat.le_trans h.size hb.size, h.tab.on hb, fun w' h' => h.max w' (hb.trans h'), fun w' h' => h.errS w' (hb.trans h'), fun w' h' => h.errR w' (hb.trans h')⟩

theorem var_on {P : Program} {w w' : World} {n : String} {cs : Array Value} (h : w.var? P n = some cs) (hb : Below w.heap.size w w') : w'.var? P n = some cs := by
  unfold World.var? at *
  cases hg : P.globalNamed n with
  | none => simp [hg] at h
  | some g =>
    simp only [hg, Option.bind_some] at h ⊢
    have hlt : g < w.heap.size := by
      rcases Nat.lt_or_ge g w.heap.size with h' | h'
      · exact h'
      · rw [Array.getElem?_eq_none h'] at h; simp at h
    rw [hb.block g hlt]
    exact h

def atoiV (l : List UInt8) : Option Int := match Lib.atoiAll l with | .ok v => some v | _ => none
def AtoiOk (v : Int) (w : World) (e : Ending) (w' : World) : Prop := e = .returned (.tuple #[.int .i64 v, .nilIface]) ∧ Below w.heap.size w w'
def AtoiErr (w : World) (e : Ending) (w' : World) : Prop := ∃ x T N, e = .returned (.tuple #[.int .i64 x, .iface T (.pointer (some ⟨N, 0, none⟩))]) ∧ Below w.heap.size w w'

theorem atoi_some (l : List UInt8) (v : Int) (h : atoiV l = some v) (w : World) (hl : l.length ≤ 4000000) : Calls Tryd.prog 26 #[.string (bstr l)] w (AtoiOk v w) := by
  have h' : Lib.atoiAll (bstr l).data.toList = .ok v := by
    show Lib.atoiAll l = .ok v
    unfold atoiV at h
    rcases hh : Lib.atoiAll l with x | _ | _ <;> rw [hh] at h <;> simp at h
    rw [h]
  refine (Tryd.strconv_Atoi_ok (bstr l) (by rw [bstr_size]; omega) v h' w).mono ?_
  rintro e w' ⟨rfl, hw⟩
  refine ⟨rfl, ?_⟩
  rcases hw with rfl | ⟨t, rfl⟩
  · exact Below.refl _ _
  · exact Lib.bytesWorld_below w _ t
theorem atoi_none (l : List UInt8) (h : atoiV l = none) (B : Nat) (w : World) (hE : Lib3 B w) (hl : l.length ≤ 4000000) : Calls Tryd.prog 26 #[.string (bstr l)] w (AtoiErr w) := by
  unfold atoiV at h
  rcases hh : Lib.atoiAll l with x | _ | _
  · rw [hh] at h; simp at h
  · obtain ⟨tp, p, hv⟩ := hE.errS w (Below.refl _ _)
    refine (Any.strconv_Atoi_syntax_var Tryd.laysC172 (bstr l) (by rw [bstr_size]; omega) hh tp p w hv).mono ?_
    rintro e w' ⟨N, rfl, _, _, hb⟩
    exact ⟨_, _, N, rfl, hb⟩
  · obtain ⟨tp, p, hv⟩ := hE.errR w (Below.refl _ _)
    refine (Any.strconv_Atoi_range_var Tryd.laysC172 (bstr l) (by rw [bstr_size]; omega) hh tp p w hv).mono ?_
    rintro e w' ⟨N, rfl, _, _, hb⟩
    exact ⟨_, _, N, rfl, hb⟩

end Go.Proofs.YtfabioccnaooeaaDoor.Env
