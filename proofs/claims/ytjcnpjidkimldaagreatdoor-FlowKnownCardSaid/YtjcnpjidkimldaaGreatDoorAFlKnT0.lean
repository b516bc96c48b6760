/-
  Steps of a closed law, each checked by itself.
-/
import Derived.Test.YtjcnpjidkimldaaGreatDoorAFlKnS0
namespace Go.Proofs.YtjcnpjidkimldaaGreatDoor.FlKn
set_option linter.unusedVariables false
set_option maxRecDepth 100000
set_option linter.unusedSimpArgs false
open Go Go.RowKit Go.Proofs.YtjcnpjidkimldaaGreatDoor.Ev
set_option maxRecDepth 100000 in
theorem e0 : (evCode Tryz.prog 1 cl F c1 s0).map (forgets (K N N)) = some [(.normal, s1)] := by kernel_rfl
set_option maxRecDepth 100000 in
theorem e1 : (evCode Tryz.prog 1 cl F c3 s1).map (forgets (K (K N N) N)) = some [(.normal, s2)] := by kernel_rfl
set_option maxRecDepth 100000 in
theorem e2 : (evCode Tryz.prog 1 cl F c5 s2).map (forgets (K (K N N) (D N (D N (D (D (K N N) N) N))))) = some [(.normal, s3)] := by kernel_rfl

end Go.Proofs.YtjcnpjidkimldaaGreatDoor.FlKn
