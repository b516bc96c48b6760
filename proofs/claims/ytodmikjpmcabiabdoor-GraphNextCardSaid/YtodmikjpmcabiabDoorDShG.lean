/-
  What follows for an image that is right, plainly.
-/
import Derived.Test.YtodmikjpmcabiabDoorDShL
namespace Go.Proofs.YtodmikjpmcabiabDoor
set_option linter.unusedSimpArgs false
set_option linter.unusedVariables false
set_option maxRecDepth 100000
open Go.ChangeShapes Go.WideShapes Go.ChangeAt Go.RowKit

end Go.Proofs.YtodmikjpmcabiabDoor
