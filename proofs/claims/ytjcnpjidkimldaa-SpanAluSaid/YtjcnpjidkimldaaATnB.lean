/-
  Contracts of package tnum's calls on two tnums, as the landed code has them.
-/
import Derived.Test.YtjcnpjidkimldaaATnA
namespace Go.Proofs.Ytjcnpjidkimldaa
set_option linter.unusedSimpArgs false
set_option linter.unusedVariables false
set_option maxRecDepth 100000
open Go.ChangeShapes Go.WideShapes Go.ChangeAt Go.RowKit

end Go.Proofs.Ytjcnpjidkimldaa
