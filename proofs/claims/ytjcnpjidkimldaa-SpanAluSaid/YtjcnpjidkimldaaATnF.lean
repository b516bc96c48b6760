/-
  Contracts of package tnum's Cut and Arsh, as the landed code has them.
-/
import Derived.Test.YtjcnpjidkimldaaATnE
namespace Go.Proofs.Ytjcnpjidkimldaa
set_option linter.unusedSimpArgs false
set_option linter.unusedVariables false
set_option maxRecDepth 100000
open Go.ChangeShapes Go.WideShapes Go.ChangeAt Go.RowKit

theorem ib_of2 (x : B64) : IntKind.i64.wrap (ub x) = ib x := by rw [← ib_of]; first | rfl | (unfold wrap64; exact IntKind.wrap_i64 _)
end Go.Proofs.Ytjcnpjidkimldaa
