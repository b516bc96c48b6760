/-
  Contract of the document's InReg (layer 12).
-/
import Derived.Test.YtodmikjpmcabiaaJSiA
namespace Go.Proofs.Ytodmikjpmcabiaa
set_option linter.unusedSimpArgs false
set_option linter.unusedVariables false
set_option maxRecDepth 100000
set_option maxRecDepth 100000
open Go.ChangeShapes Go.WideShapes Go.ChangeAt Go.RowKit Me

theorem isM_not {a : Rg} (h1 : a.k ≠ 1) (h6 : a.k ≠ 6) (h7 : a.k ≠ 7) (m : Int) : isM a m = false := by
  unfold isM
  rw [if_neg h1, if_neg (by omega)]
end Go.Proofs.Ytodmikjpmcabiaa
