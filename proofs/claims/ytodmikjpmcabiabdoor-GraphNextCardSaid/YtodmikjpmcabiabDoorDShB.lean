/-
  The iterator over a program's instructions: what it hands to its caller's round, whatever that round does to memory of its own.
-/
import Derived.Test.YtodmikjpmcabiabDoorDShM
import Derived.RangeFuncNested
import Derived.RangeFuncBound
import Derived.RangeFuncCalls
import Derived.RangeFuncLeaves
import Derived.Shelf.Abstract
import Derived.Shelf.RegionOpen
import Derived.OwnWalkIn
import Derived.TacticsInMore
import Derived.LoopNIn
import Derived.LoopIn
namespace Go.Proofs.YtodmikjpmcabiabDoor
set_option linter.unusedSimpArgs false
set_option linter.unusedVariables false
set_option maxRecDepth 100000
open Go.ChangeShapes Go.WideShapes Go.ChangeAt Go.RowKit Go.Shelf
attribute [local go_sem] Oper.semAt_some

/-- What a round keeps for the iterator: all that lay below n₀, and the box Bs. -/
def KpS (n₀ Bs : Nat) (A B : World) : Prop := A.heap.size ≤ B.heap.size ∧ ∀ k, (k < n₀ ∨ k = Bs) → k < A.heap.size → B.heap[k]? = A.heap[k]?
theorem KpS.refl {n₀ Bs : Nat} (A : World) : KpS n₀ Bs A A := ⟨Nat.le_refl _, fun _ _ _ => rfl⟩
theorem KpS.trans {n₀ Bs : Nat} {A B C : World} (h : KpS n₀ Bs A B) (k : KpS n₀ Bs B C) : KpS n₀ Bs A C :=
  ⟨Nat.le_trans h.1 k.1, fun i hi hl => (k.2 i hi (Nat.lt_of_lt_of_le hl h.1)).trans (h.2 i hi hl)⟩
theorem KpS.put {n₀ Bs : Nat} {w : World} (hn : n₀ ≤ w.heap.size) (hB : Bs < w.heap.size) (W : World) (l : Nat) (o o' : Obj) (hl : w.heap.size ≤ l) (_ : W.heap[l]? = some o) (_ : o.isCells = false) (_ : o.isWalk = false) : KpS n₀ Bs W (W.putObj l o') := by
  refine ⟨(grownBy_putObj' W l o').size, fun k hk hlt => (grownBy_putObj' W l o').block k hlt ?_⟩
  intro e
  cases e
  omega
theorem KpS.new {n₀ Bs : Nat} {A B : World} (h : Below A.heap.size A B) : KpS n₀ Bs A B := ⟨h.size, fun k hk hl => h.block k hl⟩
theorem KpS.setCell {n₀ Bs : Nat} {A B : World} (h : KpS n₀ Bs A B) {p : Addr} (hp : n₀ ≤ p.block) (hB : p.block ≠ Bs) (u : Value) : KpS n₀ Bs A (B.setCell p u) :=
  h.trans ⟨by simp [World.setCell], fun k hk _ => Below.heap_setCell _ _ _ _ (by omega)⟩
theorem KpS.cell {n₀ Bs : Nat} {A B : World} (h : KpS n₀ Bs A B) {p : Addr} (hp : p.block < n₀ ∨ p.block = Bs) (hl : p.block < A.heap.size) : B.cell? p = A.cell? p := by
  unfold World.cell?
  rw [h.2 _ hp hl]
theorem grown_of_below {A B : World} (h : Below A.heap.size A B) : A.grownBy B none :=
  ⟨h.os, h.tape, h.output, h.size, fun k hk _ => h.block k hk⟩
theorem KpS.sz {n₀ Bs : Nat} {A B : World} (h : KpS n₀ Bs A B) (hz : SzOk A) (hn : 0 < n₀) : SzOk B :=
  ⟨Nat.lt_of_lt_of_le hz.1 h.1, (h.cell (p := ⟨0, 0, none⟩) (.inl hn) hz.1).trans hz.2.1, (h.cell (p := ⟨0, 1, none⟩) (.inl hn) hz.1).trans hz.2.2.1, (h.cell (p := ⟨0, 2, none⟩) (.inl hn) hz.1).trans hz.2.2.2.1, (h.cell (p := ⟨0, 3, none⟩) (.inl hn) hz.1).trans hz.2.2.2.2⟩
end Go.Proofs.YtodmikjpmcabiabDoor
