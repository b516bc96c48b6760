/-
  Steps of a closed law, each checked by itself.
-/
import Derived.Test.YtpeieokmafpaiabSpKnS0
namespace Go.Proofs.Ytpeieokmafpaiab.SpKn
set_option linter.unusedVariables false
set_option linter.unusedSimpArgs false
open Go Go.RowKit Go.Proofs.Ytpeieokmafpaiab.Ev
set_option maxRecDepth 100000 in
theorem e0 : (evCode Try.prog 0 cl F c1 s0).map (forgets N) = some [(.normal, s1)] := by kernel_rfl
set_option maxRecDepth 100000 in
theorem e1 : (evCode Try.prog 0 cl F c4 s1).map (forgets (K N N)) = some [(.normal, s2)] := by kernel_rfl
set_option maxRecDepth 100000 in
theorem e2 : (evCode Try.prog 0 cl F c7 s2).map (forgets (K (K N N) (K N N))) = some [(.normal, s3)] := by kernel_rfl
set_option maxRecDepth 100000 in
theorem e3 : (evCode Try.prog 0 cl F c7 s3).map (forgets (K (D (K N N) N) (D (K N N) N))) = some [(.normal, s4)] := by kernel_rfl
set_option maxRecDepth 100000 in
theorem e4 : (evCode Try.prog 0 cl F c7 s4).map (forgets (K (D N (K N N)) (D N (K N N)))) = some [(.normal, s5)] := by kernel_rfl
set_option maxRecDepth 100000 in
theorem e5 : (evCode Try.prog 0 cl F c7 s5).map (forgets (K (D (D (K N N) N) N) (D (D (K N N) N) N))) = some [(.normal, s6)] := by kernel_rfl
set_option maxRecDepth 100000 in
theorem e6 : (evCode Try.prog 0 cl F c7 s6).map (forgets (K (D N (D (K N N) N)) (D N (D (K N N) N)))) = some [(.normal, s7)] := by kernel_rfl
set_option maxRecDepth 100000 in
theorem e7 : (evCode Try.prog 0 cl F c7 s7).map (forgets (K (D (D N (K N N)) N) (D (D N (K N N)) N))) = some [(.normal, s8)] := by kernel_rfl
set_option maxRecDepth 100000 in
theorem e8 : (evCode Try.prog 0 cl F c7 s8).map (forgets (K (D N (D N (K N N))) (D N (D N (K N N))))) = some [(.normal, s9)] := by kernel_rfl
set_option maxRecDepth 100000 in
theorem e9 : (evCode Try.prog 0 cl F c7 s9).map (forgets (K (D (D (D (K N N) N) N) N) (D (D (D (K N N) N) N) N))) = some [(.normal, s10)] := by kernel_rfl
set_option maxRecDepth 100000 in
theorem e10 : (evCode Try.prog 0 cl F c7 s10).map (forgets (K (D N (D (D (K N N) N) N)) (D N (D (D (K N N) N) N)))) = some [(.normal, s11)] := by kernel_rfl
set_option maxRecDepth 100000 in
theorem e11 : (evCode Try.prog 0 cl F c7 s11).map (forgets (K (D (D N (D (K N N) N)) N) (D (D N (D (K N N) N)) N))) = some [(.normal, s12)] := by kernel_rfl
set_option maxRecDepth 100000 in
theorem e12 : (evCode Try.prog 0 cl F c7 s12).map (forgets (K (D N (D N (D (K N N) N))) (D N (D N (D (K N N) N))))) = some [(.normal, s13)] := by kernel_rfl
set_option maxRecDepth 100000 in
theorem e13 : (evCode Try.prog 0 cl F c7 s13).map (forgets (K (D (D (D N (K N N)) N) N) (D (D (D N (K N N)) N) N))) = some [(.normal, s14)] := by kernel_rfl
set_option maxRecDepth 100000 in
theorem e14 : (evCode Try.prog 0 cl F c7 s14).map (forgets (K (D N (D (D N (K N N)) N)) (D N (D (D N (K N N)) N)))) = some [(.normal, s15)] := by kernel_rfl
set_option maxRecDepth 100000 in
theorem e15 : (evCode Try.prog 0 cl F c7 s15).map (forgets (K (D (D N (D N (K N N))) N) (D (D N (D N (K N N))) N))) = some [(.normal, s16)] := by kernel_rfl
set_option maxRecDepth 100000 in
theorem e16 : (evCode Try.prog 0 cl F c7 s16).map (forgets (K (D N (D N (D N (K N N)))) (D N (D N (D N (K N N)))))) = some [(.normal, s17)] := by kernel_rfl
set_option maxRecDepth 100000 in
theorem e17 : (evCode Try.prog 0 cl F c7 s17).map (forgets (K (D N (D N (D N (K N N)))) (D N (D N (D N (K N N)))))) = some [((.exit 0), s18)] := by kernel_rfl
set_option maxRecDepth 100000 in
theorem e18 : (evCode Try.prog 0 cl F c8 s18).map (forgets (K (D N (D N (D (D (K N N) N) (K N N)))) (D (D N (D (D (K N N) N) N)) (D N (D N (K N N)))))) = some [(.ret, s19)] := by kernel_rfl

end Go.Proofs.Ytpeieokmafpaiab.SpKn
