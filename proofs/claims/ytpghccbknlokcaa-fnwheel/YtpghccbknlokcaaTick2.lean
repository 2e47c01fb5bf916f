/-
  CONTRACTS of the model's Since and DueAt over this seat's translation: what each answers, at every argument; the world is left as it was.
-/
import Derived.Test.YtpghccbknlokcaaTick
namespace Go.Proofs.Ytpghccbknlokcaa.Tick
open Go.ChangeShapes Go.WideShapes Go.ChangeAt Go.RowKit
set_option linter.unusedVariables false



end Go.Proofs.Ytpghccbknlokcaa.Tick
