/-
  ScalarOrder: all ways.
-/
import Derived.Test.YtoanbjnhoggpjaaHSo0
import Derived.Test.YtoanbjnhoggpjaaHSo1
import Derived.Test.YtoanbjnhoggpjaaHSo2
namespace Go.Proofs.Ytoanbjnhoggpjaa
set_option linter.unusedSimpArgs false
set_option linter.unusedVariables false
open Go.ChangeShapes Go.WideShapes Go.ChangeAt Go.RowKit

theorem ordx_walk (op : Int) (d : Bool) (a b c : Sc) (x : B64) (w : World) : Calls Try.prog 8 #[sumV op d a b, sv c, .int .u64 (ub x)] w fun e w' => e = .returned (.bool true) ∧ Below w.heap.size w w' := by
  cases ha : mayX a
  · exact order_a op d a b c x ha w
  cases hb : mayX b
  · exact order_b op d a b c x ha hb w
  cases hc : mayX c
  · exact order_c op d a b c x ha hb hc w
  cases hac : inX a c
  · exact ordx0 op d a b c x ha hb hc hac w
  cases hbc : inX b c
  · exact ordx1 op d a b c x ha hb hc hac hbc w
  · exact ordx2 op d a b c x ha hb hc hac hbc w
end Go.Proofs.Ytoanbjnhoggpjaa
