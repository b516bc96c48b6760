import Derived.Test.YtodmikjpmcabiaaGreatZScM
import Derived.Deep.RegionLaw
import Derived.Deep.RegionHeld3
namespace Go.Proofs.YtodmikjpmcabiaaGreat
set_option linter.unusedSimpArgs false
set_option linter.unusedVariables false
set_option maxRecDepth 100000
open Go.ChangeShapes Go.WideShapes Go.ChangeAt Go.RowKit

theorem cutGG {P : Program} {c : Code} {Q : Exit → Act → World → Prop} {a : Act} {w : World} {A : Nat → Nat → Act} {F : Nat → Nat → World → Prop} (h1 : Code.wp P c (CutX fun a' W' => ∃ g h : Nat, F g h W' ∧ a' = A g h) a w) (h2 : ∀ g h W, F g h W → Q .normal (A g h) W) : Code.wp P c Q a w :=
  Code.wp_mono (CutX.imp fun a' W' ⟨g, h, hF, e⟩ => e ▸ h2 g h W' hF) h1
end Go.Proofs.YtodmikjpmcabiaaGreat
