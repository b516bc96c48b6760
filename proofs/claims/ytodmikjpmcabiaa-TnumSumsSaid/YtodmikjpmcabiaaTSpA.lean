/-
  Contracts of package span's small functions, as the landed code has them.
-/
import Derived.Test.YtodmikjpmcabiaaChecked
import Derived.Test.YtodmikjpmcabiaaTSpQ
import Derived.Test.YtodmikjpmcabiaaTTnF
import Derived.ProofKit
import Derived.Below
import Derived.Outline
import Derived.OneCell
import Derived.Deep.QuietTactic
import Derived.BigQuiet
import Derived.BigRegion
import Derived.Lib.MinMax
namespace Go.Proofs.Ytodmikjpmcabiaa
set_option linter.unusedSimpArgs false
set_option linter.unusedVariables false
set_option maxRecDepth 100000
open Go.ChangeShapes Go.WideShapes Go.ChangeAt Go.RowKit

@[go_sem] theorem ub_max (x y : B64) : max (ub x) (ub y) = ub (bmax x y) := by unfold ub; rw [bmax_toNat]; omega
theorem max_is : IntKind.u64.max = ub 18446744073709551615#64 := by kernel_rfl
@[go_sem] theorem ub_not (x : B64) : bits .xor .u64 IntKind.u64.max (ub x) = ub (~~~x) := by rw [max_is, ub_xor, show (18446744073709551615#64 : B64) = BitVec.allOnes 64 from rfl, BitVec.allOnes_xor]
@[go_sem] theorem ub_nei (x y : B64) : (ub x != ub y) = !(x == y) := by rw [bne, ub_eqi]
@[go_sem] theorem ub_nez (x : B64) : (ub x != 0) = !(x == 0#64) := by rw [bne, ub_eqz]
attribute [go_sem] ub_nat
@[go_sem] theorem ub_tdiv (x y : B64) : IntKind.u64.wrap ((ub x).tdiv (ub y)) = ub (x / y) := by
  have h : (ub x).tdiv (ub y) = ub (x / y) := by
    rw [Int.tdiv_eq_ediv_of_nonneg (ub_ge x)]; unfold ub; rw [BitVec.toNat_udiv]; exact (Int.natCast_ediv _ _).symm
  rw [h, ub_wrap]
@[go_sem] theorem ub_tmod (x y : B64) : IntKind.u64.wrap ((ub x).tmod (ub y)) = ub (x % y) := by
  have h : (ub x).tmod (ub y) = ub (x % y) := by
    rw [Int.tmod_eq_emod_of_nonneg (ub_ge x)]; unfold ub; rw [BitVec.toNat_umod]; exact (Int.natCast_emod _ _).symm
  rw [h, ub_wrap]
@[go_sem] theorem ub_min (x y : B64) : min (ub x) (ub y) = ub (bmin x y) := by unfold ub; rw [bmin_toNat]; omega

end Go.Proofs.Ytodmikjpmcabiaa
