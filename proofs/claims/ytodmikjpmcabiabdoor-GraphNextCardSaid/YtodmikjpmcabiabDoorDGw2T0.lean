/-
  Steps of a closed law, each checked by itself.
-/
import Derived.Test.YtodmikjpmcabiabDoorDGw2S0
namespace Go.Proofs.YtodmikjpmcabiabDoor.GrW2
set_option linter.unusedVariables false
set_option maxRecDepth 100000
set_option linter.unusedSimpArgs false
open Go Go.RowKit Go.Proofs.YtodmikjpmcabiabDoor.Ev
set_option maxRecDepth 100000 in
theorem e0 : (evCode Tryd.prog 0 cl F c1 s0).map (forgets N) = some [(.normal, s1)] := by kernel_rfl
set_option maxRecDepth 100000 in
theorem e1 : (evCode Tryd.prog 0 cl F c3 s1).map (forgets (D (K N N) N)) = some [(.normal, s2)] := by kernel_rfl
set_option maxRecDepth 100000 in
theorem e2 : (evCode Tryd.prog 0 cl F c5 s2).map (forgets (D (K N N) (D (D N (D (D N (D N (K N N))) N)) N))) = some [(.normal, s3)] := by kernel_rfl
set_option maxRecDepth 100000 in
theorem e3 : (evCode Tryd.prog 0 cl F c7 s3).map (forgets (D (K N N) (D (D N (D (D N (D N (K N N))) N)) N))) = some [(.normal, s4)] := by kernel_rfl
set_option maxRecDepth 100000 in
theorem e4 : (evCode Tryd.prog 0 cl F c9 s4).map (forgets (D (K N (D (D N (D N (D N (D N (K N N))))) N)) (D (D N (D (D N (D N (K N N))) N)) N))) = some [(.normal, s5)] := by kernel_rfl

end Go.Proofs.YtodmikjpmcabiabDoor.GrW2
