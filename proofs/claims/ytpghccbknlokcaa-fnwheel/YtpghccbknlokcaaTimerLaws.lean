/-
  CONTRACTS of the laws' helpers on timers and lists of timers over this seat's translation: toTimer, toTimerS.
-/
import Derived.Test.YtpghccbknlokcaaTimers
namespace Go.Proofs.Ytpghccbknlokcaa.Timers
open Go.ChangeShapes Go.WideShapes Go.ChangeAt Go.RowKit
set_option linter.unusedVariables false


/-- What a copy of a list of timers leaves: a row of its own in new memory; nothing older has turned. -/
def CopiedT (w : World) (ts : TList) (e : Ending) (w' : World) : Prop :=
  ∃ g, e = .returned (.slice (some ⟨g, 0, none⟩) ts.length ts.length) ∧ w'.ownsRow w.heap.size 98 2 (.slice (some ⟨g, 0, none⟩) ts.length ts.length) ts.length (flat ts) ∧ Below w.heap.size w w'

end Go.Proofs.Ytpghccbknlokcaa.Timers
