/-
  Contract of Starts, as the landed code has it: a new list that says of each place whether an instruction begins there.
-/
import Derived.Test.YtodmikjpmcabiabDoorDShB
namespace Go.Proofs.YtodmikjpmcabiabDoor
set_option linter.unusedSimpArgs false
set_option linter.unusedVariables false
set_option maxRecDepth 100000
open Go.ChangeShapes Go.WideShapes Go.ChangeAt Go.RowKit Go.Shelf
attribute [local go_sem] Oper.semAt_some

theorem _root_.Go.RowKit.Below.frz {B : Nat} {a b : World} (h : Below B a b) {p : Addr} (hp : p.block < B) : b.frozen? p = a.frozen? p := World.frozen?_of_block (h.block _ hp)
theorem set_oth {W : World} {p q : Addr} {v : Value} (h : p ≠ q) : (W.setCell p v).cell? q = W.cell? q := by
  first | exact World.cell?_setCell_other h | exact World.cell?_setCell_other _ h | exact World.cell?_setCell_other _ _ h | exact World.cell?_setCell_other _ _ _ h | exact World.cell?_setCell_other _ _ _ _ h
end Go.Proofs.YtodmikjpmcabiabDoor
