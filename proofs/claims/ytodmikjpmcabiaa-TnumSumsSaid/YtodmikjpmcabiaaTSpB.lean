/-
  Contracts of Meet, Join, In, Cut, All, as the landed code has them.
-/
import Derived.Test.YtodmikjpmcabiaaTSpA
namespace Go.Proofs.Ytodmikjpmcabiaa
set_option linter.unusedSimpArgs false
set_option linter.unusedVariables false
set_option maxRecDepth 100000
open Go.ChangeShapes Go.WideShapes Go.ChangeAt Go.RowKit

end Go.Proofs.Ytodmikjpmcabiaa
