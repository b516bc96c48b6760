/-
  TnumRanges: the tnum of a stretch of numbers is the document's.
-/
import Derived.Test.YtbinbjfpjielkaaTnRa
import Derived.Test.YtbinbjfpjielkaaTnH
import Derived.Test.YtbinbjfpjielkaaTnW
namespace Go.Proofs.Ytbinbjfpjielkaa
set_option linter.unusedSimpArgs false
set_option linter.unusedVariables false
open Go.ChangeShapes Go.WideShapes Go.ChangeAt Go.RowKit

set_option maxHeartbeats 4000000 in
theorem ranges_walk (lo hi : B64) (w : World) : Calls Try.prog 4 #[.int .u64 (ub lo), .int .u64 (ub hi)] w fun e w' => e = .returned (.bool true) ∧ Below w.heap.size w w' := by
  have X1 := fun W => tRange_any lo hi W
  have Y1 := fun W => rRange_any lo hi W
  generalize rangeT lo hi = R1 at X1 Y1
  generalize rangeE lo hi = E1 at X1 Y1
  unfold tv at X1 Y1
  have HX1 := hid X1
  have HY1 := hid Y1
  clear X1 Y1
  have HAW := hid awake_true
  go_enter Try.func4, Try.ntmps4
  go_wp2_with fail
  refine (HX1.out _).mono ?_
  rintro e w1 ⟨rfl, z1⟩
  have B : Below w.heap.size w w1 := z1
  clear z1
  go_wp2_with fail
  refine (HY1.out _).mono ?_
  rintro e w2 ⟨rfl, z2⟩
  have G1 : TB w2 w1.heap.size R1 := (TB.new rfl).below z2
  have K1 := B.size
  replace B : Below w.heap.size w w2 := (B.alloc B.size (.cells #[.int .u64 (ub R1.1), .int .u64 (ub R1.2)] 24)).trans (z2.mono (by simp; exact Nat.le_succ_of_le B.size))
  clear z2
  have a1 := G1.1.1
  have b1 := G1.1.2.1
  have c1 := G1.1.2.2
  have d1 := G1.2.1
  have e1 := G1.2.2
  go_wp2_with fail
  refine (HAW.out _).mono ?_
  rintro e w3 ⟨rfl, z3⟩
  clear a1 b1 c1 d1 e1
  replace G1 := (G1.below ((Below.refl _ _).alloc (Nat.le_refl _) (.cells #[.int .u64 (ub R1.1), .int .u64 (ub R1.2)] 24))).below z3
  have G2 : TB w3 w2.heap.size R1 := (TB.new rfl).below z3
  replace B : Below w.heap.size w w3 := (B.alloc B.size (.cells #[.int .u64 (ub R1.1), .int .u64 (ub R1.2)] 24)).trans (z3.mono (by simp; exact Nat.le_succ_of_le B.size))
  have b1 := G1.1.2.1
  have c1 := G1.1.2.2
  have b2 := G2.1.2.1
  have c2 := G2.1.2.2
  have HB := hid B
  clear z3 B G1 G2
  go_wp2
  go_ret
  exact ⟨rfl, HB.out⟩
end Go.Proofs.Ytbinbjfpjielkaa
