/-
  Steps of a closed law, each checked by itself.
-/
import Derived.Test.YtjcnpjidkimldaaGreatDoorAFlKnS0
namespace Go.Proofs.YtjcnpjidkimldaaGreatDoor.FlKn
set_option linter.unusedVariables false
set_option maxRecDepth 100000
set_option linter.unusedSimpArgs false
open Go Go.RowKit Go.Proofs.YtjcnpjidkimldaaGreatDoor.Ev
set_option maxRecDepth 100000 in
theorem e10 : (evCode Tryz.prog 1 cl F c20 s10).map (forgets (K (K (D (D N (D N (D N (D (D (K N N) N) N)))) (D (D N (D N (D N (K N N)))) N)) (D N (D (D N (D N (D N (K N N)))) N))) (D (D N (D (D N (D N (D N (K N N)))) N)) (D (D (D N (D N (D (D (K N N) N) (K N N)))) N) (D (D (K N N) (D N (D (D (K N N) N) N))) N))))) = some [(.ret, s11)] := by kernel_rfl

end Go.Proofs.YtjcnpjidkimldaaGreatDoor.FlKn
