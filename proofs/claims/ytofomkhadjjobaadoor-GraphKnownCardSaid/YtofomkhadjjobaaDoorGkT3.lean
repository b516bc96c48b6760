/-
  Steps of a closed law, each checked by itself.
-/
import Derived.Test.YtofomkhadjjobaaDoorGkS0
namespace Go.Proofs.YtofomkhadjjobaaDoor.GrK
set_option linter.unusedVariables false
set_option linter.unusedSimpArgs false
open Go Go.RowKit Go.Proofs.YtofomkhadjjobaaDoor.Ev
set_option maxRecDepth 100000 in
theorem e10 : evCode Tryd.prog 0 cl F c10 s10 = some outs := by kernel_rfl

end Go.Proofs.YtofomkhadjjobaaDoor.GrK
