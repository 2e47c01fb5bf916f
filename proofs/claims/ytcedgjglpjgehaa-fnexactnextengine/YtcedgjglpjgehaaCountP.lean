/-
  THE PROGRAM'S CountOf AND RestOf over this seat's translation.
-/
import Derived.Test.YtcedgjglpjgehaaCountI
import Derived.Test.YtcedgjglpjgehaaCountR
import Derived.Test.YtcedgjglpjgehaaFleetTop
import Derived.Test.YtcedgjglpjgehaaCrewOk
namespace Go.Proofs.Ytcedgjglpjgehaa.CountP
open Go.ChangeShapes Go.WideShapes Go.ChangeAt Go.RowKit
open Go.Proofs.Ytcedgjglpjgehaa.LK Go.Proofs.Ytcedgjglpjgehaa.Pods Go.Proofs.Ytcedgjglpjgehaa.FleetV Go.Proofs.Ytcedgjglpjgehaa.Sp Go.Proofs.Ytcedgjglpjgehaa.Hl Go.Proofs.Ytcedgjglpjgehaa.CountI
open Go.Proofs.Ytcedgjglpjgehaa.Tick (inB tokB l01In_any tickOk_any specTickOk_any)
set_option linter.unusedVariables false
set_option linter.unusedSimpArgs false
def cabB (x0 x1 x2 x3 x4 x5 x6 x7 x8 x9 x10 rev now : Int) (ps : PList) (nx : Int) : Bool := specB x0 x1 x2 x3 x4 x5 x6 x7 x8 x9 x10 && decide (FGood ps nx) && inB rev 1 1000 && tokB now
def countT (x0 x1 x2 x3 x4 x5 x6 x7 x8 x9 x10 : Int) (oth : Bool) (rev now : Int) (d : PList × Int) : Value := if cabB x0 x1 x2 x3 x4 x5 x6 x7 x8 x9 x10 rev now d.1 d.2 then .tuple #[.agg #[.int .i64 (cntF (liveB oth rev) d.1), .int .i64 (cntF (goodB x0 x1 x2 x3 x4 x5 x6 x7 x8 x9 x10 oth rev now) d.1)], .bool true] else .tuple #[.agg #[.int .i64 0, .int .i64 0], .bool false]
end Go.Proofs.Ytcedgjglpjgehaa.CountP
