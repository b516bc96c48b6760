/-
  Contract of the document's In (layer 12).
-/
import Derived.Test.YtoanbjnhoggpjaaJSiC
import Derived.Test.YtoanbjnhoggpjaaJRdB
import Derived.Test.YtoanbjnhoggpjaaJStY
import Derived.Deep.MidRow
import Derived.Deep.RegionHeld3
namespace Go.Proofs.Ytoanbjnhoggpjaa
set_option linter.unusedSimpArgs false
set_option linter.unusedVariables false
set_option maxRecDepth 100000
open Go.ChangeShapes Go.WideShapes Go.ChangeAt Go.RowKit Me

end Go.Proofs.Ytoanbjnhoggpjaa
