/-
  CONTRACTS of the model's Since and DueAt over this seat's translation: what each answers, at every argument; the world is left as it was.
-/
import Derived.Test.YtlghdmakaocokaaTick
namespace Go.Proofs.Ytlghdmakaocokaa.Tick
open Go.ChangeShapes Go.WideShapes Go.ChangeAt Go.RowKit
set_option linter.unusedVariables false



end Go.Proofs.Ytlghdmakaocokaa.Tick
