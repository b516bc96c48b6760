/-
  What one condition tells keeps two numbers (the laws' keeps).
-/
import Derived.Test.YtodmikjpmcabiaaGreatZScU
import Derived.Test.YtodmikjpmcabiaaGreatZScX
namespace Go.Proofs.YtodmikjpmcabiaaGreat
set_option linter.unusedSimpArgs false
set_option linter.unusedVariables false
set_option maxRecDepth 100000
open Go.ChangeShapes Go.WideShapes Go.ChangeAt Go.RowKit

theorem neq_sc (x y : Sc) (W : World) : (binOp .neq 28 (sv x) (sv y)).run Tryz.prog W = .ok (.bool (!(x == y))) W := by
  obtain ⟨⟨a, b⟩, c, d⟩ := x
  obtain ⟨⟨a', b'⟩, c', d'⟩ := y
  unfold sv
  have e : (((a, b), c, d) == ((a', b'), c', d') : Bool) = (((a == a') && (b == b')) && ((c == c') && (d == d'))) := rfl
  rw [e]
  go_simp
  by_cases h1 : a = a' <;> by_cases h2 : b = b' <;> by_cases h3 : c = c' <;> by_cases h4 : d = d' <;> simp [h1, h2, h3, h4]
end Go.Proofs.YtodmikjpmcabiaaGreat
