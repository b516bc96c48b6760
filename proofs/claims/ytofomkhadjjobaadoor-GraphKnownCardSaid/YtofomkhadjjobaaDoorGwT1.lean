/-
  Steps of a closed law, each checked by itself.
-/
import Derived.Test.YtofomkhadjjobaaDoorGwS0
namespace Go.Proofs.YtofomkhadjjobaaDoor.GrW
set_option linter.unusedVariables false
set_option linter.unusedSimpArgs false
open Go Go.RowKit Go.Proofs.YtofomkhadjjobaaDoor.Ev
set_option maxRecDepth 100000 in
theorem e3 : evCode Tryd.prog 0 cl F (hd c3) s3 = some [(.normal, s4)] := by kernel_rfl
set_option maxRecDepth 100000 in
theorem e4 : evCode Tryd.prog 0 cl F (hd c4) s4 = some [(.normal, s5)] := by kernel_rfl
set_option maxRecDepth 100000 in
theorem e5 : evCode Tryd.prog 0 cl F (hd c5) s5 = some [(.normal, s6)] := by kernel_rfl
set_option maxRecDepth 100000 in
theorem e6 : evCode Tryd.prog 0 cl F c6 s6 = some outs := by kernel_rfl

end Go.Proofs.YtofomkhadjjobaaDoor.GrW
