/-
  Steps of a closed law, each checked by itself.
-/
import Derived.Test.YtofomkhadjjobaaDoorGkS0
namespace Go.Proofs.YtofomkhadjjobaaDoor.GrK
set_option linter.unusedVariables false
set_option linter.unusedSimpArgs false
open Go Go.RowKit Go.Proofs.YtofomkhadjjobaaDoor.Ev
set_option maxRecDepth 100000 in
theorem e7 : evCode Tryd.prog 0 cl F (hd c7) s7 = some [(.normal, s8)] := by kernel_rfl
set_option maxRecDepth 100000 in
theorem e8 : evCode Tryd.prog 0 cl F (hd c8) s8 = some [(.normal, s9)] := by kernel_rfl
set_option maxRecDepth 100000 in
theorem e9 : evCode Tryd.prog 0 cl F (hd c9) s9 = some [(.normal, s10)] := by kernel_rfl

end Go.Proofs.YtofomkhadjjobaaDoor.GrK
