import Derived.Test.YtdefckbgcggnoaaGreatS00
import Derived.Test.YtdefckbgcggnoaaGreatS01
import Derived.Test.YtdefckbgcggnoaaGreatS07
import Derived.Test.YtdefckbgcggnoaaGreatS08
import Derived.Test.YtdefckbgcggnoaaGreatS13
import Derived.Test.YtdefckbgcggnoaaGreatS15
set_option linter.unusedVariables false
set_option linter.unusedSimpArgs false
namespace Go.Proofs.YtdefckbgcggnoaaGreat.EngNext
open Tick (inB tokB sinceV in_t tok_t)
open Pods EngV EngCnt
open FleetV hiding goodB
open Hl (cutV nextV)
def podT (e : Eng) (p : Pd) : Int := if p.2.2.1 = 4 then cutV (p.2.2.2.2 + e.sp.x7) else nxP e.sp p
end Go.Proofs.YtdefckbgcggnoaaGreat.EngNext
namespace Go.Proofs.YtdefckbgcggnoaaGreat.EngTurn
open Go.ChangeShapes Go.WideShapes Go.ChangeAt Go.RowKit
open LK Pods EngV EngCnt EngNext Seg Has Ints
open FleetV hiding goodB
open Tick (tok_t)
open Hl (cutV)
theorem own_new (W : World) (lo : Nat) (h : lo ≤ W.heap.size) : OwnI (W.alloc (.cells #[] 3)) lo (some ⟨W.heap.size, 0, none⟩) 0 0 [] :=
  ⟨rfl, by simp, .inr ⟨W.heap.size, 0, #[], rfl, h, box_new W _, Nat.le_refl _, Nat.zero_le _, rfl, by simp⟩⟩
theorem of_app {w' : World} {base n : Nat} {v' : Value} {zs ys : List Int} (hl : zs.length = n) (hp : 0 < n + ys.length) (h : w'.ownsRow base 3 1 v' (n + ys.length) (zs.map (Value.int .i64) ++ ys.map (Value.int .i64))) : ∃ g c, v' = .slice (some ⟨g, 0, none⟩) (n + ys.length) c ∧ OwnI w' base (some ⟨g, 0, none⟩) (n + ys.length) c (zs ++ ys) := by
  obtain ⟨g, cap, rfl, _⟩ := h.form hp
  exact ⟨_, _, rfl, by simp [hl], by simpa using h⟩
end Go.Proofs.YtdefckbgcggnoaaGreat.EngTurn
