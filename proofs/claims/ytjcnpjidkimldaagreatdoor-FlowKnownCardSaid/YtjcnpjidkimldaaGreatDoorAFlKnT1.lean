/-
  Steps of a closed law, each checked by itself.
-/
import Derived.Test.YtjcnpjidkimldaaGreatDoorAFlKnS0
namespace Go.Proofs.YtjcnpjidkimldaaGreatDoor.FlKn
set_option linter.unusedVariables false
set_option maxRecDepth 100000
set_option linter.unusedSimpArgs false
open Go Go.RowKit Go.Proofs.YtjcnpjidkimldaaGreatDoor.Ev
set_option maxRecDepth 100000 in
theorem e3 : (evCode Tryz.prog 1 cl F c7 s3).map (forgets (K (K N N) (D N (D N (D (D (K N N) N) N))))) = some [(.normal, s4)] := by kernel_rfl

end Go.Proofs.YtjcnpjidkimldaaGreatDoor.FlKn
