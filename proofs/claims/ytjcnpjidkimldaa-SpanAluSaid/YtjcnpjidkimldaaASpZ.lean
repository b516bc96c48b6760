/-
  SpanSets and SpanCuts: what one of two holds, what both hold, what is cut.
-/
import Derived.Test.YtjcnpjidkimldaaASpV
import Derived.Test.YtjcnpjidkimldaaASpX
namespace Go.Proofs.Ytjcnpjidkimldaa
set_option linter.unusedSimpArgs false
set_option linter.unusedVariables false
set_option maxRecDepth 100000
open Go.ChangeShapes Go.WideShapes Go.ChangeAt Go.RowKit

theorem eq_span (x y : B64) (W : World) : (binOp .eql 24 (.agg #[.int .u64 (ub x), .int .u64 (ub y)]) (.agg #[.int .u64 (ub x), .int .u64 (ub y)])).run Try.prog W = .ok (.bool true) W := by
  go_simp
end Go.Proofs.Ytjcnpjidkimldaa
