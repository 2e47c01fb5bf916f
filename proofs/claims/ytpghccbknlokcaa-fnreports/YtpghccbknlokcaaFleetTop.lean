/-
  THE PROGRAM'S FleetOk and CountPods .. over this seat's translation, by the list of a fleet's pods.
-/
import Derived.Test.YtpghccbknlokcaaCrewOk
namespace Go.Proofs.Ytpghccbknlokcaa.Crew
open Go.ChangeShapes Go.WideShapes Go.ChangeAt Go.RowKit Go.Maps Go.Sort Go.Shelf
open Go.Proofs.Ytpghccbknlokcaa.LK Go.Proofs.Ytpghccbknlokcaa.Pods Go.Proofs.Ytpghccbknlokcaa.FleetV Go.Proofs.Ytpghccbknlokcaa.Has Go.Proofs.Ytpghccbknlokcaa.Ints
open Go.Proofs.Ytpghccbknlokcaa.Tick (inB in_t in_f tokB tok_t tok_f tickOk_any)
set_option linter.unusedVariables false

end Go.Proofs.Ytpghccbknlokcaa.Crew
