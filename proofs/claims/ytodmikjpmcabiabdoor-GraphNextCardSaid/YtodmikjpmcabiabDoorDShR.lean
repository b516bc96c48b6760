/-
  Contract of the document's own Starts.
-/
import Derived.Test.YtodmikjpmcabiabDoorDShC
import Derived.Test.YtodmikjpmcabiabDoorDShB
import Derived.Test.YtodmikjpmcabiabDoorDPlcR
import Derived.Laws.AppendOwn
import Derived.OwnWalk
namespace Go.Proofs.YtodmikjpmcabiabDoor
set_option linter.unusedSimpArgs false
set_option linter.unusedVariables false
set_option maxRecDepth 100000
open Go.ChangeShapes Go.WideShapes Go.ChangeAt Go.RowKit

theorem rplaces_I (x : I5) (hx : x.ok) (w : World) : Calls Tryd.prog 44 #[x.V] w fun e w' => e = .returned (.int .i64 x.p) ∧ Below w.heap.size w w' := by
  obtain ⟨a, b, c, d, e, f, g, h, i, j⟩ := hx
  exact urplaces x.op x.dst x.src x.off x.imm w a b c d e f g h i j
theorem rof_I (x : I5) (hx : x.ok) (w : World) : Calls Tryd.prog 41 #[x.V] w fun e w' => e = .returned (.tuple #[whV x.t, .int .i64 x.e]) ∧ Below w.heap.size w w' := by
  obtain ⟨a, b, c, d, e, f, g, h, i, j⟩ := hx
  exact rof_any x.op x.dst x.src x.off x.imm w a b c d e f g h i j

/-- A list of bools of the call's own. -/
def OwnB (w0 w : World) (v : Value) (L : List Bool) : Prop := w.ownsRow w0.heap.size 4 1 v L.length (L.map Value.bool) ∧ Below w0.heap.size w0 w
theorem OwnB.nil (w0 : World) : OwnB w0 w0 (.slice none 0 0) [] := ⟨World.ownsRow_nil _ _ _ _, Below.refl _ _⟩
end Go.Proofs.YtodmikjpmcabiabDoor
