/-
  THE ITERATOR OVER A LIST OF PODS over this seat's translation: ranged over, it yields each pod in its order.
-/
import Derived.Test.YtcedgjglpjgehaaEachI
import Derived.Test.YtcedgjglpjgehaaPods
namespace Go.Proofs.Ytcedgjglpjgehaa.EachP
open Go.ChangeShapes Go.WideShapes Go.ChangeAt Go.RowKit Go.Shelf
open Go.Proofs.Ytcedgjglpjgehaa.LK Go.Proofs.Ytcedgjglpjgehaa.Pods
set_option linter.unusedVariables false
attribute [local go_sem] Oper.semAt_some
/-- A pod as it is handed to a round. -/
abbrev podA (p : Pd) : Value := .agg #[.int .i64 p.1, .int .i64 p.2.1, .int .i64 p.2.2.1, .int .i64 p.2.2.2.1, .int .i64 p.2.2.2.2]

end Go.Proofs.Ytcedgjglpjgehaa.EachP
