/-
  The laws' own small functions of layer 4: exit, right, awake; code that the call itself lays.
-/
import Derived.Test.YtodmikjpmcabiabDoorDShK
namespace Go.Proofs.YtodmikjpmcabiabDoor
set_option linter.unusedSimpArgs false
set_option linter.unusedVariables false
set_option maxRecDepth 100000
open Go.ChangeShapes Go.WideShapes Go.ChangeAt Go.RowKit

def cellsI (x : I5) : List Value := [.int .u8 x.op, .int .u8 x.dst, .int .u8 x.src, .int .i16 x.off, .int .i32 x.imm]
theorem flat5_get (c : List I5) (j : Nat) (hj : j < c.length) (i : Nat) (hi : i < 5) : (c.flatMap cellsI)[j * 5 + i]? = (cellsI (at5 c j))[i]? := by
  induction c generalizing j with
  | nil => exact absurd hj (by simp)
  | cons x c ih =>
    rw [List.flatMap_cons]
    cases j with
    | zero =>
      rw [List.getElem?_append_left (by simp [cellsI]; omega)]
      simp [at5]
    | succ j =>
      rw [List.getElem?_append_right (by simp [cellsI]; omega)]
      rw [show (j + 1) * 5 + i - (cellsI x).length = j * 5 + i by simp [cellsI]; omega, ih j (by simpa using hj)]
      simp [at5]
def xI : I5 := ⟨149, 0, 0, 0, 0⟩
def c1 : List I5 := [⟨24, 0, 0, 0, 0⟩, zI, xI]
def c2 : List I5 := [⟨7, 0, 0, 0, 0⟩, ⟨7, 0, 0, 0, 0⟩]
end Go.Proofs.YtodmikjpmcabiabDoor
