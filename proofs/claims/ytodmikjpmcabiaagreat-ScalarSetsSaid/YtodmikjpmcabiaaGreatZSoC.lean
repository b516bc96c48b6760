/-
  Plain: what settles, single numbers; cuts behind a region.
-/
import Derived.Test.YtodmikjpmcabiaaGreatZScM
import Derived.Deep.RegionLaw
import Derived.Deep.RegionHeld3
namespace Go.Proofs.YtodmikjpmcabiaaGreat
set_option linter.unusedSimpArgs false
set_option linter.unusedVariables false
set_option maxRecDepth 100000
open Go.ChangeShapes Go.WideShapes Go.ChangeAt Go.RowKit

theorem cutG {P : Program} {c : Code} {Q : Exit → Act → World → Prop} {a : Act} {w : World} {A : Nat → Act} {F : Nat → World → Prop} (h1 : Code.wp P c (CutX fun a' W' => ∃ g : Nat, F g W' ∧ a' = A g) a w) (h2 : ∀ g W, F g W → Q .normal (A g) W) : Code.wp P c Q a w :=
  Code.wp_mono (CutX.imp fun a' W' ⟨g, hF, e⟩ => e ▸ h2 g W' hF) h1
structure NS (n : Nat) (w : World) (b : Nat) (x : Sc) : Prop where
  le : n ≤ b
  sc : SC w b x
theorem eqS {w : World} {b : Nat} {x : Sc} (h : SC w b x) : ∃ g, b = g := ⟨b, rfl⟩
end Go.Proofs.YtodmikjpmcabiaaGreat
