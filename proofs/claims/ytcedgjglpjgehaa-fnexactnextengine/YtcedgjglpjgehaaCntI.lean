/-
  WHAT THE PROGRAM'S CountOk, Ceiling, Floor, LimitOf AND allUp ANSWER over this seat's translation.
-/
import Derived.Test.YtcedgjglpjgehaaCnt
namespace Go.Proofs.Ytcedgjglpjgehaa.Cnt
open Go.ChangeShapes Go.WideShapes Go.ChangeAt Go.RowKit
open Go.Proofs.Ytcedgjglpjgehaa.LK Go.Proofs.Ytcedgjglpjgehaa.Sp Go.Proofs.Ytcedgjglpjgehaa.Put
open Go.Proofs.Ytcedgjglpjgehaa.Tick (inB in_t in_f)
set_option linter.unusedVariables false
set_option linter.unusedSimpArgs false
end Go.Proofs.Ytcedgjglpjgehaa.Cnt
