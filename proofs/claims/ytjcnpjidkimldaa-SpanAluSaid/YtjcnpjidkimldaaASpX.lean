/-
  SpanHas: whether spans may be, what they hold, whether one holds another one.
-/
import Derived.Test.YtjcnpjidkimldaaASpW
namespace Go.Proofs.Ytjcnpjidkimldaa
set_option linter.unusedSimpArgs false
set_option linter.unusedVariables false
set_option maxRecDepth 100000
open Go.ChangeShapes Go.WideShapes Go.ChangeAt Go.RowKit

/-- The boxes of two spans. -/
structure AB (w : World) (a b : Tn) (w' : World) : Prop where
  ca : BC w' w.heap.size a
  cb : BC w' (w.heap.size + 1) b
  bel : Below w.heap.size w w'
theorem AB.next {w : World} {a b : Tn} {w' w2 : World} (h : AB w a b w') (hb : Below w'.heap.size w' w2) : AB w a b w2 :=
  ⟨h.ca.below hb, h.cb.below hb, h.bel.trans (hb.mono h.bel.size)⟩
theorem AB.start (w : World) (a b : Tn) (t t' : TypeId) : AB w a b ((w.alloc (.cells #[.int .u64 (ub a.1), .int .u64 (ub a.2)] t)).alloc (.cells #[.int .u64 (ub b.1), .int .u64 (ub b.2)] t')) := by
  have e1 := BC.new (w := w) (a := a) (t := t) rfl
  have s1 : (w.alloc (.cells #[.int .u64 (ub a.1), .int .u64 (ub a.2)] t)).heap.size = w.heap.size + 1 := by simp
  have b1 : Below w.heap.size w (w.alloc (.cells #[.int .u64 (ub a.1), .int .u64 (ub a.2)] t)) := (Below.refl _ _).alloc (Nat.le_refl _) _
  generalize w.alloc (.cells #[.int .u64 (ub a.1), .int .u64 (ub a.2)] t) = u1 at *
  have e2 := BC.new (w := u1) (a := b) (t := t') s1.symm
  have b2 : Below u1.heap.size u1 (u1.alloc (.cells #[.int .u64 (ub b.1), .int .u64 (ub b.2)] t')) := (Below.refl _ _).alloc (Nat.le_refl _) _
  exact ⟨e1.below b2, e2, b1.trans (b2.mono b1.size)⟩
end Go.Proofs.Ytjcnpjidkimldaa
