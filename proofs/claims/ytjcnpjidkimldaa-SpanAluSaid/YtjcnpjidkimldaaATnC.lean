/-
  Contracts of package tnum's questions, of Range, and of what is shifted and cut, as the landed code has them.
-/
import Derived.Test.YtjcnpjidkimldaaATnC0
namespace Go.Proofs.Ytjcnpjidkimldaa
set_option linter.unusedSimpArgs false
set_option linter.unusedVariables false
set_option maxRecDepth 100000
open Go.ChangeShapes Go.WideShapes Go.ChangeAt Go.RowKit

end Go.Proofs.Ytjcnpjidkimldaa
