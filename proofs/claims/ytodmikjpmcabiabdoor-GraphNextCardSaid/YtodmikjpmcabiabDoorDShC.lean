/-
  Contracts of package shape's class, whole and standing.
-/
import Derived.Test.YtodmikjpmcabiabDoorDShM
import Derived.Test.YtodmikjpmcabiabDoorDShS
import Derived.BigRegion
import Derived.Deep.RegionHeld3
namespace Go.Proofs.YtodmikjpmcabiabDoor
set_option linter.unusedSimpArgs false
set_option linter.unusedVariables false
set_option maxRecDepth 100000
open Go.ChangeShapes Go.WideShapes Go.ChangeAt Go.RowKit

theorem cn {w w' : World} (hb : Below w.heap.size w w') {p : Addr} {c : Value} (h : w.cell? p = some c) : w'.cell? p = some c :=
  (hb.cell (World.block_lt_of_cell? w _ h)).trans h
theorem cna {w : World} (o : Obj) {p : Addr} {c : Value} (h : w.cell? p = some c) : (w.alloc o).cell? p = some c := cn ((Below.refl w.heap.size w).alloc (Nat.le_refl _) o) h
def Bx (w0 w : World) : Prop := SzOk w0 ∧ Below w0.heap.size w0 w
theorem Bx.next {w0 w w' : World} (hb : Below w.heap.size w w') (h : Bx w0 w) : Bx w0 w' := ⟨h.1, below_next h.2 hb⟩
theorem Bx.sz {w0 w : World} (h : Bx w0 w) : SzOk w := h.1.below h.2
/-- What stands behind the first instruction of a slice. -/
def NextAt (w : World) (b off n : Nat) (r : Option I5) : Prop := (r = none ∧ n = 1) ∨ ∃ y, r = some y ∧ 1 < n ∧ InsAt w b (off + 5) y
theorem NextAt.below {w w' : World} {b off n : Nat} {r : Option I5} (h : NextAt w b off n r) (hb : Below w.heap.size w w') (hl : b < w.heap.size) : NextAt w' b off n r := by
  rcases h with ⟨rfl, rfl⟩ | ⟨y, rfl, h1, hi⟩
  · exact .inl ⟨rfl, rfl⟩
  · exact .inr ⟨y, rfl, h1, hi.kept hb hl⟩

end Go.Proofs.YtodmikjpmcabiabDoor
