/-
  Contracts of the document's Top, Power, Drawn, One, and of the laws' pick. Contract of the document's One: an operation of two numbers. Contracts of the shifts with the sign, as the landed code has them. Contract of signed, as the landed code has it. Contracts of the operations of spans, as the landed code has them. Contracts of Alu, as the landed code has it. Contract of Alu, as the landed code has it. Plain: what an operation of spans holds; one number each.
-/
import Derived.Test.YtjcnpjidkimldaaGreatDoorASpI
import Derived.Test.YtjcnpjidkimldaaGreatDoorASpMo
namespace Go.Proofs.YtjcnpjidkimldaaGreatDoor
set_option linter.unusedSimpArgs false
set_option linter.unusedVariables false
set_option maxRecDepth 100000
open Go.ChangeShapes Go.WideShapes Go.ChangeAt Go.RowKit

@[go_sem] theorem ub_2mul (x : B64) : IntKind.u64.wrap (2 * ub x) = ub (2#64 * x) := ub_wmul 2#64 x
@[go_sem] theorem ub_succ (x : B64) : IntKind.u64.wrap (ub x + 1) = ub (x + 1#64) := ub_wadd x 1#64
@[go_sem] theorem ub_tdiv2 (x : B64) : IntKind.u64.wrap ((ub x).tdiv 2) = ub (x / 2#64) := ub_tdiv x 2#64
@[go_sem] theorem ub_tmod64 (x : B64) : IntKind.u64.wrap ((ub x).tmod 64) = ub (x % 64#64) := ub_tmod x 64#64
@[go_sem] theorem ub_tmod32 (x : B64) : IntKind.u64.wrap ((ub x).tmod 32) = ub (x % 32#64) := ub_tmod x 32#64
@[go_sem] theorem ub_negO (x : B64) : IntKind.u64.wrap (-(ub x)) = ub (0#64 - x) := by
  have h := ub_wsub 0#64 x
  rw [show ub 0#64 = 0 from rfl, Int.zero_sub] at h
  exact h
@[go_sem] theorem ub_sub0 (x : B64) : IntKind.u64.wrap (0 - ub x) = ub (0#64 - x) := ub_wsub 0#64 x
theorem max64 : (18446744073709551615 : Int) = ub 18446744073709551615#64 := by kernel_rfl
@[go_sem] theorem ub_eqmax (x : B64) : (ub x == 18446744073709551615) = (x == 18446744073709551615#64) := by rw [max64, ub_eqi]
end Go.Proofs.YtjcnpjidkimldaaGreatDoor

namespace Go.Proofs.YtjcnpjidkimldaaGreatDoor
set_option linter.unusedSimpArgs false
set_option linter.unusedVariables false
set_option maxRecDepth 100000
open Go.ChangeShapes Go.WideShapes Go.ChangeAt Go.RowKit

end Go.Proofs.YtjcnpjidkimldaaGreatDoor

namespace Go.Proofs.YtjcnpjidkimldaaGreatDoor
set_option linter.unusedSimpArgs false
set_option linter.unusedVariables false
set_option maxRecDepth 100000
open Go.ChangeShapes Go.WideShapes Go.ChangeAt Go.RowKit

attribute [go_sem] ib_of2
end Go.Proofs.YtjcnpjidkimldaaGreatDoor

namespace Go.Proofs.YtjcnpjidkimldaaGreatDoor
set_option linter.unusedSimpArgs false
set_option linter.unusedVariables false
set_option maxRecDepth 100000
open Go.ChangeShapes Go.WideShapes Go.ChangeAt Go.RowKit

end Go.Proofs.YtjcnpjidkimldaaGreatDoor

namespace Go.Proofs.YtjcnpjidkimldaaGreatDoor
set_option linter.unusedSimpArgs false
set_option linter.unusedVariables false
set_option maxRecDepth 100000
open Go.ChangeShapes Go.WideShapes Go.ChangeAt Go.RowKit

@[go_sem] theorem ub_neg (x : B64) : IntKind.u64.wrap (-(ub x)) = ub (0#64 - x) := by
  have h := ub_wsub 0#64 x
  rw [show ub 0#64 = 0 from rfl, Int.zero_sub] at h
  exact h
@[go_sem] theorem ub_neg1 (x : B64) : IntKind.u64.wrap (-1 * ub x) = ub (0#64 - x) := by rw [← ub_neg, Int.neg_one_mul]
end Go.Proofs.YtjcnpjidkimldaaGreatDoor

namespace Go.Proofs.YtjcnpjidkimldaaGreatDoor
set_option linter.unusedSimpArgs false
set_option linter.unusedVariables false
set_option maxRecDepth 100000
open Go.ChangeShapes Go.WideShapes Go.ChangeAt Go.RowKit

end Go.Proofs.YtjcnpjidkimldaaGreatDoor

namespace Go.Proofs.YtjcnpjidkimldaaGreatDoor
set_option linter.unusedSimpArgs false
set_option linter.unusedVariables false
set_option maxRecDepth 100000
open Go.ChangeShapes Go.WideShapes Go.ChangeAt Go.RowKit

def aluOk (op : Int) (a b : Tn) : Prop := 0 ≤ op ∧ op ≤ 12 ∧ mayS a = true ∧ mayS b = true
instance (op : Int) (a b : Tn) : Decidable (aluOk op a b) := by unfold aluOk; infer_instance
end Go.Proofs.YtjcnpjidkimldaaGreatDoor

namespace Go.Proofs.YtjcnpjidkimldaaGreatDoor
set_option linter.unusedSimpArgs false
set_option linter.unusedVariables false
set_option maxRecDepth 100000
open Go.ChangeShapes Go.WideShapes Go.ChangeAt Go.RowKit

end Go.Proofs.YtjcnpjidkimldaaGreatDoor
