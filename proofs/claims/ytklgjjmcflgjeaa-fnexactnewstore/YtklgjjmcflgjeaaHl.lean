/-
  HEALTH over this seat's translation: what l06Long, IsAvailable, IsLost and NextHealth of the model answer.
-/
import Derived.Test.YtklgjjmcflgjeaaSp
import Derived.Test.YtklgjjmcflgjeaaTick2
namespace Go.Proofs.Ytklgjjmcflgjeaa.Hl
open Go.ChangeShapes Go.WideShapes Go.ChangeAt Go.RowKit
open Go.Proofs.Ytklgjjmcflgjeaa.LK Go.Proofs.Ytklgjjmcflgjeaa.Sp
open Go.Proofs.Ytklgjjmcflgjeaa.Tick (inB in_t in_f tokB tok_t tok_f sinceV)
set_option linter.unusedVariables false
set_option linter.unusedSimpArgs false

def availB (x0 x1 x2 x3 x4 x5 x6 x7 x8 x9 x10 p2 p4 now : Int) : Bool := specB x0 x1 x2 x3 x4 x5 x6 x7 x8 x9 x10 && tokB now && decide (p2 = 2) && decide (x3 ≤ sinceV p4 now)
def lostB (x0 x1 x2 x3 x4 x5 x6 x7 x8 x9 x10 p2 p4 now : Int) : Bool := specB x0 x1 x2 x3 x4 x5 x6 x7 x8 x9 x10 && tokB now && (decide (p2 = 3) || ((decide (p2 = 0) || decide (p2 = 1)) && decide (x7 ≤ sinceV p4 now)))
def cutV (a : Int) : Int := if 1000000000 < a then -1 else a
def nextV (x0 x1 x2 x3 x4 x5 x6 x7 x8 x9 x10 p2 p4 : Int) : Int := if specB x0 x1 x2 x3 x4 x5 x6 x7 x8 x9 x10 && tokB p4 then (if p2 = 3 then p4 else if p2 = 2 then cutV (p4 + x3) else if p2 = 0 ∨ p2 = 1 then cutV (p4 + x7) else -1) else -1
theorem since_bd (a b : Int) : -1 ≤ sinceV a b ∧ sinceV a b ≤ 1000000000 := by
  unfold sinceV tokB
  split
  · rename_i h
    simp at h
    omega
  · omega
end Go.Proofs.Ytklgjjmcflgjeaa.Hl
