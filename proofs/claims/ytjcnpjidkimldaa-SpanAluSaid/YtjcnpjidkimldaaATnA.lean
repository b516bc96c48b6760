/-
  Contracts of package tnum's small functions, as the landed code has them.
-/
import Derived.Test.YtjcnpjidkimldaaChecked
import Derived.Test.YtjcnpjidkimldaaATnU
import Derived.ProofKit
import Derived.Below
import Derived.Outline
import Derived.OneCell
import Derived.Deep.QuietTactic
import Derived.BigQuiet
import Derived.BigRegion
namespace Go.Proofs.Ytjcnpjidkimldaa
set_option linter.unusedSimpArgs false
set_option linter.unusedVariables false
set_option maxRecDepth 100000
open Go.ChangeShapes Go.WideShapes Go.ChangeAt Go.RowKit

theorem below_next {a b c : World} (h : Below a.heap.size a b) (k : Below b.heap.size b c) : Below a.heap.size a c := h.trans (k.mono h.size)
theorem below_drewN (B : Nat) (w : World) (n : Nat) : Below B w (w.drewN n) := ⟨rfl, rfl, rfl, Nat.le_refl _, fun _ _ => rfl⟩
theorem bcell {W w1 : World} (hb : Below W.heap.size W w1) : (∀ b o, b < W.heap.size → w1.cell? ⟨b, o, none⟩ = W.cell? ⟨b, o, none⟩) ∧ (∀ b o, b < W.heap.size → w1.frozen? ⟨b, o, none⟩ = W.frozen? ⟨b, o, none⟩) :=
  ⟨fun _ _ h => hb.cell h, fun _ _ h => hb.frozen h⟩
/-- A tnum's cells. -/
def TC (w : World) (p : Nat) (a : Tn) : Prop := p < w.heap.size ∧ w.cell? ⟨p, 0, none⟩ = some (.int .u64 (ub a.1)) ∧ w.cell? ⟨p, 1, none⟩ = some (.int .u64 (ub a.2))
theorem TC.below {w w' : World} {p : Nat} {a : Tn} (h : TC w p a) (hb : Below w.heap.size w w') : TC w' p a :=
  ⟨Nat.lt_of_lt_of_le h.1 hb.size, (hb.cell h.1).trans h.2.1, (hb.cell h.1).trans h.2.2⟩
theorem TC.new {w : World} {a : Tn} {t : TypeId} {b : Nat} (hb : b = w.heap.size) : TC (w.alloc (.cells #[.int .u64 (ub a.1), .int .u64 (ub a.2)] t)) b a := by
  subst hb
  refine ⟨by simp, ?_, ?_⟩ <;> simp
theorem TC.alloc {w : World} {p : Nat} {a : Tn} (h : TC w p a) (o : Obj) : TC (w.alloc o) p a := h.below ((Below.refl _ _).alloc (Nat.le_refl _) o)

end Go.Proofs.Ytjcnpjidkimldaa
