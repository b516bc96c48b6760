/-
  A right image with one more instruction, or one more map, plainly.
-/
import Derived.Test.YtodmikjpmcabiabDoorDShG
import Derived.Test.YtodmikjpmcabiabDoorDShW
namespace Go.Proofs.YtodmikjpmcabiabDoor
set_option linter.unusedSimpArgs false
set_option linter.unusedVariables false
set_option maxRecDepth 100000
open Go.ChangeShapes Go.WideShapes Go.ChangeAt Go.RowKit

end Go.Proofs.YtodmikjpmcabiabDoor
