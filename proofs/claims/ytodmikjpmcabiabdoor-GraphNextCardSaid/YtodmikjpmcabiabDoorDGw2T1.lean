/-
  Steps of a closed law, each checked by itself.
-/
import Derived.Test.YtodmikjpmcabiabDoorDGw2S0
namespace Go.Proofs.YtodmikjpmcabiabDoor.GrW2
set_option linter.unusedVariables false
set_option maxRecDepth 100000
set_option linter.unusedSimpArgs false
open Go Go.RowKit Go.Proofs.YtodmikjpmcabiabDoor.Ev
set_option maxRecDepth 100000 in
theorem e5 : (evCode Tryd.prog 0 cl F c11 s5).map (forgets (D (K (D (D (D N (D N (D (D (D (K N N) N) N) N))) N) N) (D (D (D N (D N (D N (D (K N N) N)))) (D N (D N (D N (K N N))))) N)) (D (D (D (D N (D N (D (D (D (K N N) N) N) N))) N) (D (D N (D N (K N N))) N)) N))) = some [(.normal, s6)] := by kernel_rfl
set_option maxRecDepth 100000 in
theorem e6 : (evCode Tryd.prog 0 cl F c12 s6).map (forgets (D (K (D (D (D N (D N (D (D (D (K N N) N) N) N))) N) N) (D (D (D N (D N (D N (D (K N N) N)))) (D N (D N (D N (K N N))))) N)) (D (D (D (D N (D N (D (D (D (K N N) N) N) N))) N) (D (D N (D N (K N N))) N)) N))) = some [(.ret, s7)] := by kernel_rfl

end Go.Proofs.YtodmikjpmcabiabDoor.GrW2
