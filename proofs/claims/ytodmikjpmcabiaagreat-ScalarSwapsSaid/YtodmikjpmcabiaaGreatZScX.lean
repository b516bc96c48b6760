/-
  Contract of the laws' Each: a list of the call's own.
-/
import Derived.Test.YtodmikjpmcabiaaGreatZScO
import Derived.Test.YtodmikjpmcabiaaGreatZScZ
import Derived.Laws.AppendOwn
import Derived.Laws.OwnMore
import Derived.OwnWalk
namespace Go.Proofs.YtodmikjpmcabiaaGreat
set_option linter.unusedSimpArgs false
set_option linter.unusedVariables false
set_option maxRecDepth 100000
open Go.ChangeShapes Go.WideShapes Go.ChangeAt Go.RowKit

abbrev Sm := Int × Bool × Sc × Sc
def smCells (r : Sm) : List Value := [.int .i64 r.1, .bool r.2.1, .int .u64 (ub r.2.2.1.1.1), .int .u64 (ub r.2.2.1.1.2), .int .u64 (ub r.2.2.1.2.1), .int .u64 (ub r.2.2.1.2.2), .int .u64 (ub r.2.2.2.1.1), .int .u64 (ub r.2.2.2.1.2), .int .u64 (ub r.2.2.2.2.1), .int .u64 (ub r.2.2.2.2.2)]
/-- The box of a sum. -/
structure SmC (w : World) (b : Nat) (op : Int) (c : Bool) (x y : Sc) : Prop where
  lt : b < w.heap.size
  c0 : w.cell? ⟨b, 0, none⟩ = some (.int .i64 op)
  c1 : w.cell? ⟨b, 1, none⟩ = some (.bool c)
  c2 : w.cell? ⟨b, 2, none⟩ = some (.int .u64 (ub x.1.1))
  c3 : w.cell? ⟨b, 3, none⟩ = some (.int .u64 (ub x.1.2))
  c4 : w.cell? ⟨b, 4, none⟩ = some (.int .u64 (ub x.2.1))
  c5 : w.cell? ⟨b, 5, none⟩ = some (.int .u64 (ub x.2.2))
  c6 : w.cell? ⟨b, 6, none⟩ = some (.int .u64 (ub y.1.1))
  c7 : w.cell? ⟨b, 7, none⟩ = some (.int .u64 (ub y.1.2))
  c8 : w.cell? ⟨b, 8, none⟩ = some (.int .u64 (ub y.2.1))
  c9 : w.cell? ⟨b, 9, none⟩ = some (.int .u64 (ub y.2.2))
theorem SmC.below {w w' : World} {b : Nat} {op : Int} {c : Bool} {x y : Sc} (h : SmC w b op c x y) (hb : Below w.heap.size w w') : SmC w' b op c x y :=
  ⟨Nat.lt_of_lt_of_le h.lt hb.size, (hb.cell h.lt).trans h.c0, (hb.cell h.lt).trans h.c1, (hb.cell h.lt).trans h.c2, (hb.cell h.lt).trans h.c3, (hb.cell h.lt).trans h.c4, (hb.cell h.lt).trans h.c5, (hb.cell h.lt).trans h.c6, (hb.cell h.lt).trans h.c7, (hb.cell h.lt).trans h.c8, (hb.cell h.lt).trans h.c9⟩
theorem SmC.alloc {w : World} {b : Nat} {op : Int} {c : Bool} {x y : Sc} (h : SmC w b op c x y) (o : Obj) : SmC (w.alloc o) b op c x y := h.below ((Below.refl _ _).alloc (Nat.le_refl _) o)
theorem SmC.new {w : World} {op : Int} {c : Bool} {x y : Sc} {t : TypeId} {b : Nat} (hb : b = w.heap.size) : SmC (w.alloc (.cells (smCells (op, c, x, y)).toArray t)) b op c x y := by
  subst hb
  unfold smCells
  exact ⟨by simp, by simp, by simp, by simp, by simp, by simp, by simp, by simp, by simp, by simp, by simp⟩
end Go.Proofs.YtodmikjpmcabiaaGreat
