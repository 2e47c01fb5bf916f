/-
  THE ITERATOR OVER A LIST OF INTS, and the least and the greatest of ints, over this seat's translation: each hands back a function value; ranged over, it yields each number in its order; leastOf and greatestOf fold; above is what is above a line.
-/
import Derived.Test.YtcedgjglpjgehaaInts
import Derived.Test.YtcedgjglpjgehaaLawKit
import Derived.Lib.Hide
import Derived.RangeFuncNested
import Derived.RangeFuncBound
import Derived.RangeFuncCalls
import Derived.RangeFuncLeaves
import Derived.Shelf.Abstract
import Derived.Shelf.RegionOpen
import Derived.WalkKit
import Derived.OwnWalkIn
import Derived.TacticsInMore
import Derived.LoopNIn
import Derived.LoopIn
import Derived.IntWalk
namespace Go.Proofs.Ytcedgjglpjgehaa.Each
open Go.ChangeShapes Go.WideShapes Go.ChangeAt Go.RowKit Go.Shelf
open Go.Proofs.Ytcedgjglpjgehaa.LK Go.Proofs.Ytcedgjglpjgehaa.Ints
set_option linter.unusedVariables false
attribute [local go_sem] Oper.semAt_some

end Go.Proofs.Ytcedgjglpjgehaa.Each
