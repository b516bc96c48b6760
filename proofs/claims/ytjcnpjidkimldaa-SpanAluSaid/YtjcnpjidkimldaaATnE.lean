/-
  Contracts of package tnum's shifts and cuts, as the landed code has them.
-/
import Derived.Test.YtjcnpjidkimldaaATnD
import Derived.Deep.RegionHeld3
import Derived.BigRegion
import Derived.Deep.RegionWith
namespace Go.Proofs.Ytjcnpjidkimldaa
set_option linter.unusedSimpArgs false
set_option linter.unusedVariables false
set_option maxRecDepth 100000
open Go.ChangeShapes Go.WideShapes Go.ChangeAt Go.RowKit

end Go.Proofs.Ytjcnpjidkimldaa
