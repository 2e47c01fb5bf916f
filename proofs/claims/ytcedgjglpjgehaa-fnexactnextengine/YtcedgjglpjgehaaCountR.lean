/-
  WHAT THE PROGRAM COUNTS over this seat's translation: the pods that live of a revision, or of the others, and those of them that are available.
-/
import Derived.Test.YtcedgjglpjgehaaCountI
import Derived.Test.YtcedgjglpjgehaaCntI
import Derived.Test.YtcedgjglpjgehaaHi
import Derived.Laws.Rows
namespace Go.Proofs.Ytcedgjglpjgehaa.CountI
open Go.ChangeShapes Go.WideShapes Go.ChangeAt Go.RowKit Go.Shelf
open Go.Proofs.Ytcedgjglpjgehaa.LK Go.Proofs.Ytcedgjglpjgehaa.Pods Go.Proofs.Ytcedgjglpjgehaa.Sp Go.Proofs.Ytcedgjglpjgehaa.Hl Go.Proofs.Ytcedgjglpjgehaa.EachP
set_option linter.unusedVariables false
set_option linter.unusedSimpArgs false
attribute [local go_sem] Oper.semAt_some
end Go.Proofs.Ytcedgjglpjgehaa.CountI
