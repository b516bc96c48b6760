/-
  Contracts of the document's Meet, Join, Cut.
-/
import Derived.Test.YtjcnpjidkimldaaASpR
namespace Go.Proofs.Ytjcnpjidkimldaa
set_option linter.unusedSimpArgs false
set_option linter.unusedVariables false
set_option maxRecDepth 100000
open Go.ChangeShapes Go.WideShapes Go.ChangeAt Go.RowKit

end Go.Proofs.Ytjcnpjidkimldaa
