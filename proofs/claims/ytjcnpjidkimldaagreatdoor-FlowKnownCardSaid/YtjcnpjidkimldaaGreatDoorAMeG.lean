/-
  Plain: values, slots and frames of the stack; what mem's calls answer of them. Contracts of package mem's small functions, as the landed code has them. Contracts of May, onStack, bitsOf, as the landed code has them; the comparison of two values. Contracts of onStack, bitsOf, holdsAddress, as the landed code has them. Contracts of number, lay, part, as the landed code has them.
-/
import Derived.Test.YtjcnpjidkimldaaGreatDoorChecked
import Derived.ProofKit
import Derived.WalkKit
import Derived.Below
import Derived.Outline
import Derived.OneCell
import Derived.Deep.QuietTactic
import Derived.Deep.MidRow
import Derived.Deep.WholeRow
import Derived.BigQuiet
namespace Go.Proofs.YtjcnpjidkimldaaGreatDoor.Me
set_option linter.unusedSimpArgs false
set_option linter.unusedVariables false
set_option maxRecDepth 100000

/-- A value: kind, map, number, offset. -/
structure Vl where
  k : Int
  m : Int
  n : Int
  o : Int
deriving DecidableEq
def v0 : Vl := ⟨0, 0, 0, 0⟩
def mayB (v : Vl) : Bool :=
  if v.k = 0 then v.m == 0 && (v.n == 0 && v.o == 0)
  else if v.k = 1 then v.m == 0 && v.o == 0
  else if v.k = 2 ∨ v.k = 3 ∨ v.k = 4 then v.m == 0 && v.n == 0
  else if v.k = 5 then decide (0 ≤ v.m) && (v.n == 0 && v.o == 0)
  else if v.k = 6 then decide (0 ≤ v.m) && decide (1 ≤ v.n)
  else false
/-- A slot: which bytes hold something, the bytes, the address. -/
structure Sl where
  h : Int
  b : List Int
  v : Vl
deriving DecidableEq
def z8 : List Int := [0, 0, 0, 0, 0, 0, 0, 0]
def s0 : Sl := ⟨0, z8, v0⟩
def hasB (h : Int) (j : Nat) : Bool := h / 2 ^ j % 2 == 1
def byteB (s : Sl) (j : Nat) : Bool := s.b.getD j 0 == 0 || hasB s.h j
def sizeB (n : Int) : Bool := n == 1 || (n == 2 || (n == 4 || n == 8))
/-- Frames. -/
def f0 : Nat → Sl := fun _ => s0
end Go.Proofs.YtjcnpjidkimldaaGreatDoor.Me

namespace Go.Proofs.YtjcnpjidkimldaaGreatDoor.Me
set_option linter.unusedSimpArgs false
set_option linter.unusedVariables false
set_option maxRecDepth 100000
open Go.ChangeShapes Go.WideShapes Go.ChangeAt Go.RowKit

theorem hid {p : Prop} (h : p) : Hid p := h
theorem below_next {a b c : World} (h : Below a.heap.size a b) (k : Below b.heap.size b c) : Below a.heap.size a c := h.trans (k.mono h.size)
theorem ret_val {a b : Value} (h : a = b) : Ending.returned a = .returned b := by rw [h]

def vC (v : Vl) : List Value := [.int .u8 v.k, .int .i64 v.m, .int .u64 v.n, .int .i64 v.o]
end Go.Proofs.YtjcnpjidkimldaaGreatDoor.Me

namespace Go.Proofs.YtjcnpjidkimldaaGreatDoor.Me
set_option linter.unusedSimpArgs false
set_option linter.unusedVariables false
set_option maxRecDepth 100000
open Go.ChangeShapes Go.WideShapes Go.ChangeAt Go.RowKit

end Go.Proofs.YtjcnpjidkimldaaGreatDoor.Me

namespace Go.Proofs.YtjcnpjidkimldaaGreatDoor.Me
set_option linter.unusedSimpArgs false
set_option linter.unusedVariables false
set_option maxRecDepth 100000
open Go.ChangeShapes Go.WideShapes Go.ChangeAt Go.RowKit

/-- A slot's cells. -/
def bC (l : List Int) : List Value := l.map (Value.int .u8)
def sC (s : Sl) : List Value := Value.int .u8 s.h :: (bC s.b ++ vC s.v)
end Go.Proofs.YtjcnpjidkimldaaGreatDoor.Me

namespace Go.Proofs.YtjcnpjidkimldaaGreatDoor.Me
set_option linter.unusedSimpArgs false
set_option linter.unusedVariables false
set_option maxRecDepth 100000
open Go.ChangeShapes Go.WideShapes Go.ChangeAt Go.RowKit

end Go.Proofs.YtjcnpjidkimldaaGreatDoor.Me
