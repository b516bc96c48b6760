/-
  TnumOrder: all ways.
-/
import Derived.Test.YtoanbjnhoggpjaaTnO0
import Derived.Test.YtoanbjnhoggpjaaTnO1
import Derived.Test.YtoanbjnhoggpjaaTnO2
import Derived.Test.YtoanbjnhoggpjaaTnO3
import Derived.Test.YtoanbjnhoggpjaaTnO4
namespace Go.Proofs.Ytoanbjnhoggpjaa
set_option linter.unusedSimpArgs false
set_option linter.unusedVariables false
open Go.ChangeShapes Go.WideShapes Go.ChangeAt Go.RowKit

theorem ord_walk (a b c : Tn) (w : World) : Calls Try.prog 11 #[tv a, tv b, tv c] w fun e w' => e = .returned (.bool true) ∧ Below w.heap.size w w' := by
  cases ha : tmay a
  · exact ord_na a b c ha w
  cases hb : tmay b
  · exact ord_nb a b c ha hb w
  cases hc : tmay c
  · exact ord_nc a b c ha hb hc w
  cases hab : tin a b
  · exact ord_p0 a b c ha hb hc hab w
  cases hba : tin b a <;> cases hbc : tin b c
  · exact ord_p10 a b c ha hb hc hab hba hbc w
  · exact ord_p11 a b c ha hb hc hab hba hbc w
  · exact ord_p20 a b c ha hb hc hab hba hbc w
  · exact ord_p21 a b c ha hb hc hab hba hbc w
end Go.Proofs.Ytoanbjnhoggpjaa
