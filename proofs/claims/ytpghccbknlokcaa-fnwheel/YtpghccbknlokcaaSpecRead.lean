/-
  THE CONTRACTS of the model's CountTimers, TimerOf and SoonestTimer over this seat's translation; nothing that was there has turned.
-/
import Derived.Test.YtpghccbknlokcaaSpecOk
import Derived.Test.YtpghccbknlokcaaRingCount
import Derived.Test.YtpghccbknlokcaaTickList
namespace Go.Proofs.Ytpghccbknlokcaa.WheelOk
open Go.ChangeShapes Go.WideShapes Go.ChangeAt Go.RowKit
open Go.Proofs.Ytpghccbknlokcaa.Timers Go.Proofs.Ytpghccbknlokcaa.Ring
open Go.Proofs.Ytpghccbknlokcaa.Tick (tokB tok_t)
open Go.Proofs.Ytpghccbknlokcaa.TickList (soonF stepV)
set_option linter.unusedVariables false

def countV (now : Int) (ss : List TList) : Int := if wheelB now ss then (tot ss : Int) else -1
def timerV (now : Int) (ss : List TList) (x : Int) : Int := if wheelB now ss then atV ss.flatten x else -1
def soonW (now : Int) (ss : List TList) : Int := if wheelB now ss then soonF (ss.flatten.map Prod.snd) else -1

/-- It answers the int v and turns nothing that was there. -/
def SaysI (v : Int) (w : World) (e : Ending) (w' : World) : Prop := e = .returned (.int .i64 v) ∧ Below w.heap.size w w'

theorem soonF_snoc (zs : List Int) (t : Int) : soonF (zs ++ [t]) = stepV (soonF zs) t := by simp [soonF]

end Go.Proofs.Ytpghccbknlokcaa.WheelOk
