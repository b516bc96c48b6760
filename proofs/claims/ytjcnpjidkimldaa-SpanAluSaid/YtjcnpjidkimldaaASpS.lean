/-
  The walks of the document's One.
-/
import Derived.Test.YtjcnpjidkimldaaASpR
namespace Go.Proofs.Ytjcnpjidkimldaa
set_option linter.unusedSimpArgs false
set_option linter.unusedVariables false
set_option maxRecDepth 100000
open Go.ChangeShapes Go.WideShapes Go.ChangeAt Go.RowKit

theorem qOne_4_true (X Y : B64) (w : World) : Calls Try.prog 79 #[.int .i64 4, .bool true, .int .u64 (ub X), .int .u64 (ub Y)] w fun e w' => e = .returned (.int .u64 (ub (oneB 4 true X Y))) ∧ w' = w := by
  have HT := fun W => qTop_any 64 W (by decide)
  rw [show (1#64 <<< 64 - 1#64 : B64) = topW true by decide] at HT
  have hk := shB_lt true (Y &&& topW true)
  show Calls Try.prog 79 #[.int .i64 4, .bool true, .int .u64 (ub X), .int .u64 (ub Y)] w fun e w' => e = .returned (.int .u64 (ub (oneC 4 true (X &&& topW true) (Y &&& topW true)))) ∧ w' = w
  rw [show oneC 4 true (X &&& topW true) (Y &&& topW true) = (X &&& topW true) ||| (Y &&& topW true) from rfl]
  generalize topW true = T at *
  clear hk
  replace HT := hid HT
  go_enter Try.func79, Try.ntmps79
  go_wp2_with fail
  refine (HT.out _).mono ?_
  rintro e w1 ⟨rfl, rfl⟩
  go_wp2
  go_ret
  exact ⟨rfl, rfl⟩
theorem qOne_5_true (X Y : B64) (w : World) : Calls Try.prog 79 #[.int .i64 5, .bool true, .int .u64 (ub X), .int .u64 (ub Y)] w fun e w' => e = .returned (.int .u64 (ub (oneB 5 true X Y))) ∧ w' = w := by
  have HT := fun W => qTop_any 64 W (by decide)
  rw [show (1#64 <<< 64 - 1#64 : B64) = topW true by decide] at HT
  have hk := shB_lt true (Y &&& topW true)
  show Calls Try.prog 79 #[.int .i64 5, .bool true, .int .u64 (ub X), .int .u64 (ub Y)] w fun e w' => e = .returned (.int .u64 (ub (oneC 5 true (X &&& topW true) (Y &&& topW true)))) ∧ w' = w
  rw [show oneC 5 true (X &&& topW true) (Y &&& topW true) = (X &&& topW true) &&& (Y &&& topW true) from rfl]
  generalize topW true = T at *
  clear hk
  replace HT := hid HT
  go_enter Try.func79, Try.ntmps79
  go_wp2_with fail
  refine (HT.out _).mono ?_
  rintro e w1 ⟨rfl, rfl⟩
  go_wp2
  go_ret
  exact ⟨rfl, rfl⟩
theorem qOne_10_true (X Y : B64) (w : World) : Calls Try.prog 79 #[.int .i64 10, .bool true, .int .u64 (ub X), .int .u64 (ub Y)] w fun e w' => e = .returned (.int .u64 (ub (oneB 10 true X Y))) ∧ w' = w := by
  have HT := fun W => qTop_any 64 W (by decide)
  rw [show (1#64 <<< 64 - 1#64 : B64) = topW true by decide] at HT
  have hk := shB_lt true (Y &&& topW true)
  show Calls Try.prog 79 #[.int .i64 10, .bool true, .int .u64 (ub X), .int .u64 (ub Y)] w fun e w' => e = .returned (.int .u64 (ub (oneC 10 true (X &&& topW true) (Y &&& topW true)))) ∧ w' = w
  rw [show oneC 10 true (X &&& topW true) (Y &&& topW true) = (X &&& topW true) ^^^ (Y &&& topW true) from rfl]
  generalize topW true = T at *
  clear hk
  replace HT := hid HT
  go_enter Try.func79, Try.ntmps79
  go_wp2_with fail
  refine (HT.out _).mono ?_
  rintro e w1 ⟨rfl, rfl⟩
  go_wp2
  go_ret
  exact ⟨rfl, rfl⟩
end Go.Proofs.Ytjcnpjidkimldaa
