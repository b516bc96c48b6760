/-
  Contracts of package tnum's shifts and cuts, as the landed code has them.
-/
import Derived.Test.YtcgokiahlldaoaaFTnD
import Derived.Deep.RegionHeld3
import Derived.BigRegion
import Derived.Deep.RegionWith
namespace Go.Proofs.Ytcgokiahlldaoaa
set_option linter.unusedSimpArgs false
set_option linter.unusedVariables false
set_option maxRecDepth 100000
open Go.ChangeShapes Go.WideShapes Go.ChangeAt Go.RowKit

def shT (a : Tn) (mv : B64 → B64) (n size : Int) : Tn := if n < 0 ∨ size ≤ n then t0 else eachT a mv
def shE (a : Tn) (n size : Int) : Int := if n < 0 ∨ size ≤ n then 1 else eachE a
theorem nc {w : World} {u : Value} {t : TypeId} {o : Obj} {b : Nat} (hb : b = w.heap.size) : ((w.alloc (.cells #[u] t)).alloc o).cell? ⟨b, 0, none⟩ = some u := by
  subst hb
  exact cn ((Below.refl _ _).alloc (Nat.le_refl _) o) (by simp)
def lowB (k : Nat) : B64 := 1#64 <<< k - 1#64
end Go.Proofs.Ytcgokiahlldaoaa
