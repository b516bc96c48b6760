/-
  Plain scalars: halves, operations, what they hold.
-/
import Derived.Test.YtodmikjpmcabiaaJScP
import Derived.Test.YtodmikjpmcabiaaJSpTp
import Derived.Test.YtodmikjpmcabiaaJTnMr
namespace Go.Proofs.Ytodmikjpmcabiaa
set_option linter.unusedSimpArgs false
set_option linter.unusedVariables false
set_option maxRecDepth 100000
open Go.RowKit

def allT : Tn := (0#64, 18446744073709551615#64)
def allX : Sc := (allT, allT)
def ofX (n : B64) : Sc := ((n, 0#64), (n, n))
def opIs (op : Int) : Prop := 0 ≤ op ∧ op ≤ 12
instance (op : Int) : Decidable (opIs op) := by unfold opIs; infer_instance
theorem mayX_parts {x : Sc} (h : mayX x = true) : tmay x.1 = true ∧ x.2.1.toNat ≤ x.2.2.toNat ∧ mayS x.2 = true := by
  obtain ⟨o, s⟩ := (mayX_iff x).1 h
  obtain ⟨m1, m2, m3⟩ := scOk_may o
  rw [show endsP x = x.2 from congrArg Prod.snd s] at m3
  exact ⟨m1, m3, decide_eq_true m3⟩
end Go.Proofs.Ytodmikjpmcabiaa
