/-
  Plain scalars: settling, what they hold, being in as an order; no program.
-/
import Derived.Test.YtodmikjpmcabiaaTTnHp
import Derived.Test.YtodmikjpmcabiaaTSpQ
namespace Go.Proofs.Ytodmikjpmcabiaa
set_option linter.unusedSimpArgs false
set_option linter.unusedVariables false
set_option maxRecDepth 100000
open Go.RowKit

/-- A scalar: a tnum and a span. -/
abbrev Sc := Tn × Tn
end Go.Proofs.Ytodmikjpmcabiaa
