/-
  Contracts of package tnum's Meet and of what is shifted and cut, as the landed code has them.
-/
import Derived.Test.YtcgokiahlldaoaaFTnC
import Derived.Deep.RegionHeld3
import Derived.BigRegion
import Derived.Deep.RegionWith
namespace Go.Proofs.Ytcgokiahlldaoaa
set_option linter.unusedSimpArgs false
set_option linter.unusedVariables false
set_option maxRecDepth 100000
open Go.ChangeShapes Go.WideShapes Go.ChangeAt Go.RowKit

theorem cn {w w' : World} (hb : Below w.heap.size w w') {p : Addr} {c : Value} (h : w.cell? p = some c) : w'.cell? p = some c :=
  (hb.cell (World.block_lt_of_cell? w _ h)).trans h
theorem below_dr (w : World) : Below w.heap.size w w.drew := (Below.refl _ _).drew
theorem cs2 {w : World} {p : Addr} {q : Nat} {u u' c : Value} (h : w.cell? p = some c) (hq : p.block ≠ q) : ((w.setCell ⟨q, 0, none⟩ u).setCell ⟨q, 1, none⟩ u').drew.cell? p = some c := by
  rw [← h]
  exact World.cell?_of_block (w := w) ((Below.heap_setCell _ _ _ _ hq).trans (Below.heap_setCell _ _ _ _ hq))
def eachT (a : Tn) (f : B64 → B64) : Tn := if tmay a then (f a.1, f a.2) else t0
def eachE (a : Tn) : Int := if tmay a then 0 else 1
end Go.Proofs.Ytcgokiahlldaoaa
