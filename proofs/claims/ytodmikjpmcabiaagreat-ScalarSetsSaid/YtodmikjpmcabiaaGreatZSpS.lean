/-
  The walks of the document's One.
-/
import Derived.Test.YtodmikjpmcabiaaGreatZSpTp
namespace Go.Proofs.YtodmikjpmcabiaaGreat
set_option linter.unusedSimpArgs false
set_option linter.unusedVariables false
set_option maxRecDepth 100000
open Go.ChangeShapes Go.WideShapes Go.ChangeAt Go.RowKit

end Go.Proofs.YtodmikjpmcabiaaGreat
