import Derived.Test.YtodmikjpmcabiaaGreatZScO
namespace Go.Proofs.YtodmikjpmcabiaaGreat
set_option linter.unusedSimpArgs false
set_option linter.unusedVariables false
set_option maxRecDepth 100000
open Go.RowKit

end Go.Proofs.YtodmikjpmcabiaaGreat
