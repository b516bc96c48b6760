/-
  Scalars' cells; contracts of one turn of settling and of Settle, as the landed code has them.
-/
import Derived.Test.YtodmikjpmcabiaaTScP
import Derived.Test.YtodmikjpmcabiaaTSpI
import Derived.Test.YtodmikjpmcabiaaTTnH
namespace Go.Proofs.Ytodmikjpmcabiaa
set_option linter.unusedSimpArgs false
set_option linter.unusedVariables false
set_option maxRecDepth 100000
open Go.ChangeShapes Go.WideShapes Go.ChangeAt Go.RowKit

/-- A scalar's cells in a block of the call's own. -/
structure SC (w : World) (b : Nat) (x : Sc) : Prop where
  lt : b < w.heap.size
  c0 : w.cell? ⟨b, 0, none⟩ = some (.int .u64 (ub x.1.1))
  c1 : w.cell? ⟨b, 1, none⟩ = some (.int .u64 (ub x.1.2))
  c2 : w.cell? ⟨b, 2, none⟩ = some (.int .u64 (ub x.2.1))
  c3 : w.cell? ⟨b, 3, none⟩ = some (.int .u64 (ub x.2.2))
  f0 : w.frozen? ⟨b, 0, none⟩ = false
  f1 : w.frozen? ⟨b, 1, none⟩ = false
  f2 : w.frozen? ⟨b, 2, none⟩ = false
  f3 : w.frozen? ⟨b, 3, none⟩ = false
theorem SC.below {w w' : World} {b : Nat} {x : Sc} (h : SC w b x) (hb : Below w.heap.size w w') : SC w' b x :=
  ⟨Nat.lt_of_lt_of_le h.lt hb.size, (hb.cell h.lt).trans h.c0, (hb.cell h.lt).trans h.c1, (hb.cell h.lt).trans h.c2, (hb.cell h.lt).trans h.c3, (hb.frozen (p := ⟨b, 0, none⟩) h.lt).trans h.f0, (hb.frozen (p := ⟨b, 1, none⟩) h.lt).trans h.f1, (hb.frozen (p := ⟨b, 2, none⟩) h.lt).trans h.f2, (hb.frozen (p := ⟨b, 3, none⟩) h.lt).trans h.f3⟩
theorem SC.alloc {w : World} {b : Nat} {x : Sc} (h : SC w b x) (o : Obj) : SC (w.alloc o) b x := h.below ((Below.refl _ _).alloc (Nat.le_refl _) o)
theorem BC.alloc {w : World} {b : Nat} {x : Tn} (h : BC w b x) (o : Obj) : BC (w.alloc o) b x := h.below ((Below.refl _ _).alloc (Nat.le_refl _) o)
theorem SC.new {w : World} {x : Sc} {t : TypeId} {b : Nat} (hb : b = w.heap.size) : SC (w.alloc (.cells #[.int .u64 (ub x.1.1), .int .u64 (ub x.1.2), .int .u64 (ub x.2.1), .int .u64 (ub x.2.2)] t)) b x := by
  subst hb
  exact ⟨by simp, by simp, by simp, by simp, by simp, by simp, by simp, by simp, by simp⟩
def putS (w : World) (b : Nat) (u : Sc) : World := (((w.setCell ⟨b, 0, none⟩ (.int .u64 (ub u.1.1))).setCell ⟨b, 1, none⟩ (.int .u64 (ub u.1.2))).setCell ⟨b, 2, none⟩ (.int .u64 (ub u.2.1))).setCell ⟨b, 3, none⟩ (.int .u64 (ub u.2.2))
theorem putS_heap (w : World) (b : Nat) (u : Sc) {b' : Nat} (h : b' ≠ b) : (putS w b u).heap[b']? = w.heap[b']? := (((Below.heap_setCell _ _ _ _ h).trans (Below.heap_setCell _ _ _ _ h)).trans (Below.heap_setCell _ _ _ _ h)).trans (Below.heap_setCell _ _ _ _ h)
theorem putS_size (w : World) (b : Nat) (u : Sc) : (putS w b u).heap.size = w.heap.size := by unfold putS; simp
theorem SC.put {w : World} {b : Nat} {x : Sc} (h : SC w b x) (u : Sc) : SC (putS w b u) b u := by
  unfold putS
  refine ⟨by simp; exact h.lt, ?_, ?_, ?_, ?_, by simp; exact h.f0, by simp; exact h.f1, by simp; exact h.f2, by simp; exact h.f3⟩
  · exact (World.cell?_setCell_other _ _ _ _ (by simp)).trans ((World.cell?_setCell_other _ _ _ _ (by simp)).trans ((World.cell?_setCell_other _ _ _ _ (by simp)).trans (World.cell?_setCell_same _ _ _ h.c0)))
  · exact (World.cell?_setCell_other _ _ _ _ (by simp)).trans ((World.cell?_setCell_other _ _ _ _ (by simp)).trans (World.cell?_setCell_same _ _ _ ((World.cell?_setCell_other _ _ _ _ (by simp)).trans h.c1)))
  · exact (World.cell?_setCell_other _ _ _ _ (by simp)).trans (World.cell?_setCell_same _ _ _ ((World.cell?_setCell_other _ _ _ _ (by simp)).trans ((World.cell?_setCell_other _ _ _ _ (by simp)).trans h.c2)))
  · exact World.cell?_setCell_same _ _ _ ((World.cell?_setCell_other _ _ _ _ (by simp)).trans ((World.cell?_setCell_other _ _ _ _ (by simp)).trans ((World.cell?_setCell_other _ _ _ _ (by simp)).trans h.c3)))
theorem SC.other {w : World} {b c : Nat} {x : Sc} (h : SC w b x) (hbc : b ≠ c) (u : Sc) : SC (putS w c u) b x := by
  have e := putS_heap w c u hbc
  have g : ∀ k, (putS w c u).cell? ⟨b, k, none⟩ = w.cell? ⟨b, k, none⟩ := fun k => World.cell?_of_block (w := w) (a := ⟨b, k, none⟩) e
  have f : ∀ k, (putS w c u).frozen? ⟨b, k, none⟩ = w.frozen? ⟨b, k, none⟩ := fun k => World.frozen?_of_block (w := w) (a := ⟨b, k, none⟩) e
  exact ⟨by rw [putS_size]; exact h.lt, (g 0).trans h.c0, (g 1).trans h.c1, (g 2).trans h.c2, (g 3).trans h.c3, (f 0).trans h.f0, (f 1).trans h.f1, (f 2).trans h.f2, (f 3).trans h.f3⟩
end Go.Proofs.Ytodmikjpmcabiaa
