/-
  Small functions of package shape and of the document's own answer: maps, helpers, targets.
-/
import Derived.Test.YtodmikjpmcabiabDoorDInsnB
namespace Go.Proofs.YtodmikjpmcabiabDoor
set_option linter.unusedSimpArgs false
set_option linter.unusedVariables false
set_option maxRecDepth 100000
open Go.ChangeShapes Go.WideShapes Go.ChangeAt Go.RowKit

structure M4 where
  kind : Int
  key : Int
  value : Int
  cap : Int
deriving DecidableEq
def M4.V (m : M4) : Value := .agg #[.int .i64 m.kind, .int .i64 m.key, .int .i64 m.value, .int .i64 m.cap]
end Go.Proofs.YtodmikjpmcabiabDoor
