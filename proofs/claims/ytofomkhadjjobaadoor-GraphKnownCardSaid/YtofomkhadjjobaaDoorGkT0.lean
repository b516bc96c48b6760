/-
  Steps of a closed law, each checked by itself.
-/
import Derived.Test.YtofomkhadjjobaaDoorGkS0
namespace Go.Proofs.YtofomkhadjjobaaDoor.GrK
set_option linter.unusedVariables false
set_option linter.unusedSimpArgs false
open Go Go.RowKit Go.Proofs.YtofomkhadjjobaaDoor.Ev
set_option maxRecDepth 100000 in
theorem e0 : evCode Tryd.prog 0 cl F (hd c0) s0 = some [(.normal, s1)] := by kernel_rfl
set_option maxRecDepth 100000 in
theorem e1 : evCode Tryd.prog 0 cl F (hd c1) s1 = some [(.normal, s2)] := by kernel_rfl
set_option maxRecDepth 100000 in
theorem e2 : evCode Tryd.prog 0 cl F (hd c2) s2 = some [(.normal, s3)] := by kernel_rfl

end Go.Proofs.YtofomkhadjjobaaDoor.GrK
