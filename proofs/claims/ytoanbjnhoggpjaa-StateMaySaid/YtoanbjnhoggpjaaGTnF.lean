/-
  Contracts of package tnum's Cut and Arsh, as the landed code has them.
-/
import Derived.Test.YtoanbjnhoggpjaaGTnE
namespace Go.Proofs.Ytoanbjnhoggpjaa
set_option linter.unusedSimpArgs false
set_option linter.unusedVariables false
set_option maxRecDepth 100000
open Go.ChangeShapes Go.WideShapes Go.ChangeAt Go.RowKit

end Go.Proofs.Ytoanbjnhoggpjaa
