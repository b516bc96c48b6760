/-
  The steps of a closed law, put together.
-/
import Derived.Test.YtofomkhadjjobaaDoorGkT0
import Derived.Test.YtofomkhadjjobaaDoorGkT1
import Derived.Test.YtofomkhadjjobaaDoorGkT2
import Derived.Test.YtofomkhadjjobaaDoorGkT3
namespace Go.Proofs.YtofomkhadjjobaaDoor.GrK
set_option linter.unusedVariables false
set_option linter.unusedSimpArgs false
open Go Go.RowKit Go.Proofs.YtofomkhadjjobaaDoor.Ev
theorem whole : evCode Tryd.prog 0 cl F c0 s0 = some outs := Ev.step (by kernel_rfl) e0 (Ev.step (by kernel_rfl) e1 (Ev.step (by kernel_rfl) e2 (Ev.step (by kernel_rfl) e3 (Ev.step (by kernel_rfl) e4 (Ev.step (by kernel_rfl) e5 (Ev.step (by kernel_rfl) e6 (Ev.step (by kernel_rfl) e7 (Ev.step (by kernel_rfl) e8 (Ev.step (by kernel_rfl) e9 (e10))))))))))
end Go.Proofs.YtofomkhadjjobaaDoor.GrK
