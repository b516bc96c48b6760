/-
  TnumHolds: all ways.
-/
import Derived.Test.YtoanbjnhoggpjaaTnHb
import Derived.Test.YtoanbjnhoggpjaaTnHc
namespace Go.Proofs.Ytoanbjnhoggpjaa
set_option linter.unusedSimpArgs false
set_option linter.unusedVariables false
open Go.ChangeShapes Go.WideShapes Go.ChangeAt Go.RowKit

theorem min_max (x y : B64) : ∃ lo hi : B64, min (ub x) (ub y) = ub lo ∧ max (ub x) (ub y) = ub hi ∧ ub lo ≤ ub hi := by
  by_cases h : ub x ≤ ub y
  · exact ⟨x, y, by omega, by omega, h⟩
  · exact ⟨y, x, by omega, by omega, by omega⟩
theorem holds_walk (a b : Tn) (n0 n1 n2 : B64) (w : World) : Calls Try.prog 10 #[tv a, tv b, .agg #[.int .u64 (ub n0), .int .u64 (ub n1), .int .u64 (ub n2)]] w fun e w' => e = .returned (.bool true) ∧ Below w.heap.size w w' := by
  cases ha : tmay a
  · exact holds_a a b n0 n1 n2 w ha
  cases hb : tmay b
  · exact holds_b a b n0 n1 n2 w ha hb
  obtain ⟨lo, hi, h5, h6, h7⟩ := min_max n1 n2
  cases h3 : meetB a b <;> cases h1 : thas a n0 <;> cases h2 : thas b n0
  · exact holds_000 a b n0 n1 n2 w ha hb h1 h2 h3 lo hi h5 h6 h7
  · exact holds_001 a b n0 n1 n2 w ha hb h1 h2 h3 lo hi h5 h6 h7
  · exact holds_010 a b n0 n1 n2 w ha hb h1 h2 h3 lo hi h5 h6 h7
  · have := meet_has ha hb n0
    rw [h3, h1, h2] at this
    cases this
  · exact holds_100 a b n0 n1 n2 w ha hb h1 h2 h3 lo hi h5 h6 h7
  · exact holds_101 a b n0 n1 n2 w ha hb h1 h2 h3 lo hi h5 h6 h7
  · exact holds_110 a b n0 n1 n2 w ha hb h1 h2 h3 lo hi h5 h6 h7
  · exact holds_111 a b n0 n1 n2 w ha hb h1 h2 h3 lo hi h5 h6 h7
end Go.Proofs.Ytoanbjnhoggpjaa
