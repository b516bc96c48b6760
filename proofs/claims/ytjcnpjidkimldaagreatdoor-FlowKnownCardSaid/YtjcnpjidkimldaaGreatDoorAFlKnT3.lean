/-
  Steps of a closed law, each checked by itself.
-/
import Derived.Test.YtjcnpjidkimldaaGreatDoorAFlKnS0
namespace Go.Proofs.YtjcnpjidkimldaaGreatDoor.FlKn
set_option linter.unusedVariables false
set_option maxRecDepth 100000
set_option linter.unusedSimpArgs false
open Go Go.RowKit Go.Proofs.YtjcnpjidkimldaaGreatDoor.Ev
set_option maxRecDepth 100000 in
theorem e5 : (evCode Tryz.prog 1 cl F c11 s5).map (forgets (K (K N N) (D N (D (D (D N (D N (D N (K N N)))) N) (D (D (K N N) N) N))))) = some [(.normal, s6)] := by kernel_rfl
set_option maxRecDepth 100000 in
theorem e6 : (evCode Tryz.prog 1 cl F c13 s6).map (forgets (K (K (D N (D (D N (D N (D N (K N N)))) N)) N) (D N (D (D (D N (D N (D N (K N N)))) N) (D (D (K N N) N) N))))) = some [(.normal, s7)] := by kernel_rfl
set_option maxRecDepth 100000 in
theorem e7 : (evCode Tryz.prog 1 cl F c15 s7).map (forgets (K (K (D N (D (D N (D N (D N (K N N)))) N)) N) (D (D N (D (D N (D N (D N (K N N)))) N)) (D (D (D N (D N (D N (K N N)))) N) (D (D (K N N) N) N))))) = some [(.normal, s8)] := by kernel_rfl
set_option maxRecDepth 100000 in
theorem e8 : (evCode Tryz.prog 1 cl F c17 s8).map (forgets (K (K (D N (D (D N (D N (D N (K N N)))) N)) N) (D (D N (D (D N (D N (D N (K N N)))) N)) (D (D (D N (D N (D N (K N N)))) N) (D (D (K N N) N) N))))) = some [(.normal, s9)] := by kernel_rfl

end Go.Proofs.YtjcnpjidkimldaaGreatDoor.FlKn
