/-
  CONTRACTS of the laws' eqTimer, eqTimerS, eqTimerSS, eqWheel over this seat's translation: at two values that read alike each answers true; nothing that was there has turned.
-/
import Derived.Test.YtpghccbknlokcaaTimers
import Derived.Deep.RegionHeld3
namespace Go.Proofs.Ytpghccbknlokcaa.Timers
open Go.ChangeShapes Go.WideShapes Go.ChangeAt Go.RowKit
set_option linter.unusedVariables false

/-- It answers true and turns nothing that was there. -/
def SaysTrue (w : World) (e : Ending) (w' : World) : Prop := e = .returned (.bool true) ∧ Below w.heap.size w w'




end Go.Proofs.Ytpghccbknlokcaa.Timers
