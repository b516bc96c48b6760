/-
  Contracts of the library's OnesCount64 and Len64 and of package tnum's low.
-/
import Derived.Test.YtjcnpjidkimldaaATnB
import Derived.Test.YtjcnpjidkimldaaATnU
import Derived.Lib.BitFns
namespace Go.Proofs.Ytjcnpjidkimldaa
set_option linter.unusedSimpArgs false
set_option linter.unusedVariables false
set_option maxRecDepth 100000
open Go.ChangeShapes Go.WideShapes Go.ChangeAt Go.RowKit
end Go.Proofs.Ytjcnpjidkimldaa
