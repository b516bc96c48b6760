/-
  Steps of a closed law, each checked by itself.
-/
import Derived.Test.YtoanbjnhoggpjaaTnAwS0
namespace Go.Proofs.Ytoanbjnhoggpjaa.TnAw
set_option linter.unusedVariables false
set_option linter.unusedSimpArgs false
open Go Go.RowKit Go.Proofs.Ytoanbjnhoggpjaa.Ev
set_option maxRecDepth 100000 in
theorem e0 : (evCode Try.prog 0 cl F c1 s0).map (forgets N) = some [(.normal, s1)] := by kernel_rfl
set_option maxRecDepth 100000 in
theorem e1 : (evCode Try.prog 0 cl F c3 s1).map (forgets (D N (D N (D N (K N N))))) = some [(.normal, s2)] := by kernel_rfl
set_option maxRecDepth 100000 in
theorem e2 : (evCode Try.prog 0 cl F c5 s2).map (forgets (D (D (D N (D N (K N N))) N) (D N (D N (K N N))))) = some [(.normal, s3)] := by kernel_rfl
set_option maxRecDepth 100000 in
theorem e3 : (evCode Try.prog 0 cl F c7 s3).map (forgets (D (D (D N (D N (K N N))) N) (D (D (D (D N (D N (K N N))) N) N) (D N (K N N))))) = some [(.normal, s4)] := by kernel_rfl
set_option maxRecDepth 100000 in
theorem e4 : (evCode Try.prog 0 cl F c8 s4).map (forgets (D (D (D N (D N (K N (D N (K N N))))) N) (D (D (D (D N (D N (K N N))) N) N) (D N (K N N))))) = some [(.ret, s5)] := by kernel_rfl

end Go.Proofs.Ytoanbjnhoggpjaa.TnAw
