/-
  Contracts of the library's OnesCount64 and Len64 and of package tnum's low.
-/
import Derived.Test.YtodmikjpmcabiaaTTnB
import Derived.Test.YtodmikjpmcabiaaTTnU
import Derived.Lib.BitFns
namespace Go.Proofs.Ytodmikjpmcabiaa
set_option linter.unusedSimpArgs false
set_option linter.unusedVariables false
set_option maxRecDepth 100000
open Go.ChangeShapes Go.WideShapes Go.ChangeAt Go.RowKit
theorem low_any (n : Nat) (w : World) (hn : n ≤ 64) : Calls Try.prog 109 #[.int .i64 (n : Int)] w fun e w' => e = .returned (.int .u64 (ub (1#64 <<< n - 1#64))) ∧ w = w' := by
  go_enter Try.func109, Try.ntmps109
  go_wp2
  go_ret
  exact ⟨rfl, rfl⟩
end Go.Proofs.Ytodmikjpmcabiaa
