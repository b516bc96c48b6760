/-
  Steps of a closed law, each checked by itself.
-/
import Derived.Test.YtbinbjfpjielkaaTnKnS0
namespace Go.Proofs.Ytbinbjfpjielkaa.TnKn
set_option linter.unusedVariables false
set_option linter.unusedSimpArgs false
open Go Go.RowKit Go.Proofs.Ytbinbjfpjielkaa.Ev
set_option maxRecDepth 100000 in
theorem e0 : (evCode Try.prog 0 cl F c1 s0).map (forgets N) = some [(.normal, s1)] := by kernel_rfl
set_option maxRecDepth 100000 in
theorem e1 : (evCode Try.prog 0 cl F c2 s1).map (forgets (D (D (D N (D (D (D (K N N) N) (D (K N N) N)) N)) (D (D (D (D N (K N N)) N) N) (D (D N (K N N)) N))) (D (D (D N (D N (K N N))) (D N (D (D (K N N) N) (D (K N N) N)))) (D (D (D (K (K N N) N) (K N N)) (D N (K N N))) (K N N))))) = some [(.ret, s2)] := by kernel_rfl

end Go.Proofs.Ytbinbjfpjielkaa.TnKn
