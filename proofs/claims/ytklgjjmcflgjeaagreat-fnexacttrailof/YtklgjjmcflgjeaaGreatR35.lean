import Derived.Test.YtklgjjmcflgjeaaGreatR00
import Derived.Test.YtklgjjmcflgjeaaGreatR01
import Derived.Test.YtklgjjmcflgjeaaGreatR09
set_option linter.unusedVariables false
set_option linter.unusedSimpArgs false
namespace Go.Proofs.YtklgjjmcflgjeaaGreat.EngNext
open Tick (inB tokB sinceV in_t tok_t)
open Pods EngV EngCnt
open FleetV hiding goodB
open Hl (cutV nextV)
def podT (e : Eng) (p : Pd) : Int := if p.2.2.1 = 4 then cutV (p.2.2.2.2 + e.sp.x7) else nxP e.sp p
end Go.Proofs.YtklgjjmcflgjeaaGreat.EngNext
