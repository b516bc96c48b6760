/-
  Registers and slots in blocks of the call's own; contracts of isNear, regMay, slotMay, isLength, sure.
-/
import Derived.Test.YtjcnpjidkimldaaGreatDoorAStS
namespace Go.Proofs.YtjcnpjidkimldaaGreatDoor
set_option linter.unusedSimpArgs false
set_option linter.unusedVariables false
set_option maxRecDepth 100000
set_option maxRecDepth 100000
open Go.ChangeShapes Go.WideShapes Go.ChangeAt Go.RowKit Me

/-- Cells in a block of the call's own. -/
structure RC (w : World) (b : Nat) (x : Rg) : Prop where
  lt : b < w.heap.size
  c0 : w.cell? ⟨b, 0, none⟩ = some (.int .u8 x.k)
  c1 : w.cell? ⟨b, 1, none⟩ = some (.bool x.l)
  c2 : w.cell? ⟨b, 2, none⟩ = some (.int .i64 x.m)
  c3 : w.cell? ⟨b, 3, none⟩ = some (.int .u64 (ub x.s.1.1))
  c4 : w.cell? ⟨b, 4, none⟩ = some (.int .u64 (ub x.s.1.2))
  c5 : w.cell? ⟨b, 5, none⟩ = some (.int .u64 (ub x.s.2.1))
  c6 : w.cell? ⟨b, 6, none⟩ = some (.int .u64 (ub x.s.2.2))
  c7 : w.cell? ⟨b, 7, none⟩ = some (.int .i64 x.lo)
  c8 : w.cell? ⟨b, 8, none⟩ = some (.int .i64 x.hi)
  f0 : w.frozen? ⟨b, 0, none⟩ = false
  f1 : w.frozen? ⟨b, 1, none⟩ = false
  f2 : w.frozen? ⟨b, 2, none⟩ = false
  f3 : w.frozen? ⟨b, 3, none⟩ = false
  f4 : w.frozen? ⟨b, 4, none⟩ = false
  f5 : w.frozen? ⟨b, 5, none⟩ = false
  f6 : w.frozen? ⟨b, 6, none⟩ = false
  f7 : w.frozen? ⟨b, 7, none⟩ = false
  f8 : w.frozen? ⟨b, 8, none⟩ = false
theorem RC.below {w w' : World} {b : Nat} {x : Rg} (h : RC w b x) (hb : Below w.heap.size w w') : RC w' b x :=
  ⟨Nat.lt_of_lt_of_le h.lt hb.size, (hb.cell h.lt).trans h.c0, (hb.cell h.lt).trans h.c1, (hb.cell h.lt).trans h.c2, (hb.cell h.lt).trans h.c3, (hb.cell h.lt).trans h.c4, (hb.cell h.lt).trans h.c5, (hb.cell h.lt).trans h.c6, (hb.cell h.lt).trans h.c7, (hb.cell h.lt).trans h.c8, (hb.frozen (p := ⟨b, 0, none⟩) h.lt).trans h.f0, (hb.frozen (p := ⟨b, 1, none⟩) h.lt).trans h.f1, (hb.frozen (p := ⟨b, 2, none⟩) h.lt).trans h.f2, (hb.frozen (p := ⟨b, 3, none⟩) h.lt).trans h.f3, (hb.frozen (p := ⟨b, 4, none⟩) h.lt).trans h.f4, (hb.frozen (p := ⟨b, 5, none⟩) h.lt).trans h.f5, (hb.frozen (p := ⟨b, 6, none⟩) h.lt).trans h.f6, (hb.frozen (p := ⟨b, 7, none⟩) h.lt).trans h.f7, (hb.frozen (p := ⟨b, 8, none⟩) h.lt).trans h.f8⟩
theorem RC.alloc {w : World} {b : Nat} {x : Rg} (h : RC w b x) (o : Obj) : RC (w.alloc o) b x := h.below ((Below.refl _ _).alloc (Nat.le_refl _) o)
theorem RC.new {w : World} {x : Rg} {t : TypeId} {b : Nat} (hb : b = w.heap.size) : RC (w.alloc (.cells #[.int .u8 x.k, .bool x.l, .int .i64 x.m, .int .u64 (ub x.s.1.1), .int .u64 (ub x.s.1.2), .int .u64 (ub x.s.2.1), .int .u64 (ub x.s.2.2), .int .i64 x.lo, .int .i64 x.hi] t)) b x := by
  subst hb
  exact ⟨by simp, by simp, by simp, by simp, by simp, by simp, by simp, by simp, by simp, by simp, by simp, by simp, by simp, by simp, by simp, by simp, by simp, by simp, by simp⟩
def putR (w : World) (b : Nat) (u : Rg) : World := (((((((((w.setCell ⟨b, 0, none⟩ (.int .u8 u.k)).setCell ⟨b, 1, none⟩ (.bool u.l)).setCell ⟨b, 2, none⟩ (.int .i64 u.m)).setCell ⟨b, 3, none⟩ (.int .u64 (ub u.s.1.1))).setCell ⟨b, 4, none⟩ (.int .u64 (ub u.s.1.2))).setCell ⟨b, 5, none⟩ (.int .u64 (ub u.s.2.1))).setCell ⟨b, 6, none⟩ (.int .u64 (ub u.s.2.2))).setCell ⟨b, 7, none⟩ (.int .i64 u.lo)).setCell ⟨b, 8, none⟩ (.int .i64 u.hi))
theorem putR_below {n : Nat} {w w1 : World} {b : Nat} (u : Rg) (h : Below n w w1) (hb : n ≤ b) : Below n w (putR w1 b u) := (((((((((h.setCell (p := ⟨b, 0, none⟩) hb _).setCell (p := ⟨b, 1, none⟩) hb _).setCell (p := ⟨b, 2, none⟩) hb _).setCell (p := ⟨b, 3, none⟩) hb _).setCell (p := ⟨b, 4, none⟩) hb _).setCell (p := ⟨b, 5, none⟩) hb _).setCell (p := ⟨b, 6, none⟩) hb _).setCell (p := ⟨b, 7, none⟩) hb _).setCell (p := ⟨b, 8, none⟩) hb _)
theorem RC.put {w : World} {b : Nat} {x : Rg} (h : RC w b x) (u : Rg) : RC (putR w b u) b u := by
  unfold putR
  refine ⟨by simp; exact h.lt, ?_, ?_, ?_, ?_, ?_, ?_, ?_, ?_, ?_, by simp; exact h.f0, by simp; exact h.f1, by simp; exact h.f2, by simp; exact h.f3, by simp; exact h.f4, by simp; exact h.f5, by simp; exact h.f6, by simp; exact h.f7, by simp; exact h.f8⟩
  · exact ((World.cell?_setCell_other _ _ _ _ (by simp)).trans ((World.cell?_setCell_other _ _ _ _ (by simp)).trans ((World.cell?_setCell_other _ _ _ _ (by simp)).trans ((World.cell?_setCell_other _ _ _ _ (by simp)).trans ((World.cell?_setCell_other _ _ _ _ (by simp)).trans ((World.cell?_setCell_other _ _ _ _ (by simp)).trans ((World.cell?_setCell_other _ _ _ _ (by simp)).trans ((World.cell?_setCell_other _ _ _ _ (by simp)).trans (World.cell?_setCell_same _ _ _ h.c0)))))))))
  · exact ((World.cell?_setCell_other _ _ _ _ (by simp)).trans ((World.cell?_setCell_other _ _ _ _ (by simp)).trans ((World.cell?_setCell_other _ _ _ _ (by simp)).trans ((World.cell?_setCell_other _ _ _ _ (by simp)).trans ((World.cell?_setCell_other _ _ _ _ (by simp)).trans ((World.cell?_setCell_other _ _ _ _ (by simp)).trans ((World.cell?_setCell_other _ _ _ _ (by simp)).trans (World.cell?_setCell_same _ _ _ ((World.cell?_setCell_other _ _ _ _ (by simp)).trans (h.c1))))))))))
  · exact ((World.cell?_setCell_other _ _ _ _ (by simp)).trans ((World.cell?_setCell_other _ _ _ _ (by simp)).trans ((World.cell?_setCell_other _ _ _ _ (by simp)).trans ((World.cell?_setCell_other _ _ _ _ (by simp)).trans ((World.cell?_setCell_other _ _ _ _ (by simp)).trans ((World.cell?_setCell_other _ _ _ _ (by simp)).trans (World.cell?_setCell_same _ _ _ ((World.cell?_setCell_other _ _ _ _ (by simp)).trans (((World.cell?_setCell_other _ _ _ _ (by simp)).trans (h.c2)))))))))))
  · exact ((World.cell?_setCell_other _ _ _ _ (by simp)).trans ((World.cell?_setCell_other _ _ _ _ (by simp)).trans ((World.cell?_setCell_other _ _ _ _ (by simp)).trans ((World.cell?_setCell_other _ _ _ _ (by simp)).trans ((World.cell?_setCell_other _ _ _ _ (by simp)).trans (World.cell?_setCell_same _ _ _ ((World.cell?_setCell_other _ _ _ _ (by simp)).trans (((World.cell?_setCell_other _ _ _ _ (by simp)).trans (((World.cell?_setCell_other _ _ _ _ (by simp)).trans (h.c3))))))))))))
  · exact ((World.cell?_setCell_other _ _ _ _ (by simp)).trans ((World.cell?_setCell_other _ _ _ _ (by simp)).trans ((World.cell?_setCell_other _ _ _ _ (by simp)).trans ((World.cell?_setCell_other _ _ _ _ (by simp)).trans (World.cell?_setCell_same _ _ _ ((World.cell?_setCell_other _ _ _ _ (by simp)).trans (((World.cell?_setCell_other _ _ _ _ (by simp)).trans (((World.cell?_setCell_other _ _ _ _ (by simp)).trans (((World.cell?_setCell_other _ _ _ _ (by simp)).trans (h.c4)))))))))))))
  · exact ((World.cell?_setCell_other _ _ _ _ (by simp)).trans ((World.cell?_setCell_other _ _ _ _ (by simp)).trans ((World.cell?_setCell_other _ _ _ _ (by simp)).trans (World.cell?_setCell_same _ _ _ ((World.cell?_setCell_other _ _ _ _ (by simp)).trans (((World.cell?_setCell_other _ _ _ _ (by simp)).trans (((World.cell?_setCell_other _ _ _ _ (by simp)).trans (((World.cell?_setCell_other _ _ _ _ (by simp)).trans (((World.cell?_setCell_other _ _ _ _ (by simp)).trans (h.c5))))))))))))))
  · exact ((World.cell?_setCell_other _ _ _ _ (by simp)).trans ((World.cell?_setCell_other _ _ _ _ (by simp)).trans (World.cell?_setCell_same _ _ _ ((World.cell?_setCell_other _ _ _ _ (by simp)).trans (((World.cell?_setCell_other _ _ _ _ (by simp)).trans (((World.cell?_setCell_other _ _ _ _ (by simp)).trans (((World.cell?_setCell_other _ _ _ _ (by simp)).trans (((World.cell?_setCell_other _ _ _ _ (by simp)).trans (((World.cell?_setCell_other _ _ _ _ (by simp)).trans (h.c6)))))))))))))))
  · exact ((World.cell?_setCell_other _ _ _ _ (by simp)).trans (World.cell?_setCell_same _ _ _ ((World.cell?_setCell_other _ _ _ _ (by simp)).trans (((World.cell?_setCell_other _ _ _ _ (by simp)).trans (((World.cell?_setCell_other _ _ _ _ (by simp)).trans (((World.cell?_setCell_other _ _ _ _ (by simp)).trans (((World.cell?_setCell_other _ _ _ _ (by simp)).trans (((World.cell?_setCell_other _ _ _ _ (by simp)).trans (((World.cell?_setCell_other _ _ _ _ (by simp)).trans (h.c7))))))))))))))))
  · exact (World.cell?_setCell_same _ _ _ ((World.cell?_setCell_other _ _ _ _ (by simp)).trans (((World.cell?_setCell_other _ _ _ _ (by simp)).trans (((World.cell?_setCell_other _ _ _ _ (by simp)).trans (((World.cell?_setCell_other _ _ _ _ (by simp)).trans (((World.cell?_setCell_other _ _ _ _ (by simp)).trans (((World.cell?_setCell_other _ _ _ _ (by simp)).trans (((World.cell?_setCell_other _ _ _ _ (by simp)).trans (((World.cell?_setCell_other _ _ _ _ (by simp)).trans (h.c8)))))))))))))))))
/-- Cells in a block of the call's own. -/
structure KC (w : World) (b : Nat) (x : Sk) : Prop where
  lt : b < w.heap.size
  c0 : w.cell? ⟨b, 0, none⟩ = some (.int .u8 (vb x.h))
  c1 : w.cell? ⟨b, 1, none⟩ = some (.int .u8 x.r.k)
  c2 : w.cell? ⟨b, 2, none⟩ = some (.bool x.r.l)
  c3 : w.cell? ⟨b, 3, none⟩ = some (.int .i64 x.r.m)
  c4 : w.cell? ⟨b, 4, none⟩ = some (.int .u64 (ub x.r.s.1.1))
  c5 : w.cell? ⟨b, 5, none⟩ = some (.int .u64 (ub x.r.s.1.2))
  c6 : w.cell? ⟨b, 6, none⟩ = some (.int .u64 (ub x.r.s.2.1))
  c7 : w.cell? ⟨b, 7, none⟩ = some (.int .u64 (ub x.r.s.2.2))
  c8 : w.cell? ⟨b, 8, none⟩ = some (.int .i64 x.r.lo)
  c9 : w.cell? ⟨b, 9, none⟩ = some (.int .i64 x.r.hi)
  f0 : w.frozen? ⟨b, 0, none⟩ = false
  f1 : w.frozen? ⟨b, 1, none⟩ = false
  f2 : w.frozen? ⟨b, 2, none⟩ = false
  f3 : w.frozen? ⟨b, 3, none⟩ = false
  f4 : w.frozen? ⟨b, 4, none⟩ = false
  f5 : w.frozen? ⟨b, 5, none⟩ = false
  f6 : w.frozen? ⟨b, 6, none⟩ = false
  f7 : w.frozen? ⟨b, 7, none⟩ = false
  f8 : w.frozen? ⟨b, 8, none⟩ = false
  f9 : w.frozen? ⟨b, 9, none⟩ = false
theorem KC.below {w w' : World} {b : Nat} {x : Sk} (h : KC w b x) (hb : Below w.heap.size w w') : KC w' b x :=
  ⟨Nat.lt_of_lt_of_le h.lt hb.size, (hb.cell h.lt).trans h.c0, (hb.cell h.lt).trans h.c1, (hb.cell h.lt).trans h.c2, (hb.cell h.lt).trans h.c3, (hb.cell h.lt).trans h.c4, (hb.cell h.lt).trans h.c5, (hb.cell h.lt).trans h.c6, (hb.cell h.lt).trans h.c7, (hb.cell h.lt).trans h.c8, (hb.cell h.lt).trans h.c9, (hb.frozen (p := ⟨b, 0, none⟩) h.lt).trans h.f0, (hb.frozen (p := ⟨b, 1, none⟩) h.lt).trans h.f1, (hb.frozen (p := ⟨b, 2, none⟩) h.lt).trans h.f2, (hb.frozen (p := ⟨b, 3, none⟩) h.lt).trans h.f3, (hb.frozen (p := ⟨b, 4, none⟩) h.lt).trans h.f4, (hb.frozen (p := ⟨b, 5, none⟩) h.lt).trans h.f5, (hb.frozen (p := ⟨b, 6, none⟩) h.lt).trans h.f6, (hb.frozen (p := ⟨b, 7, none⟩) h.lt).trans h.f7, (hb.frozen (p := ⟨b, 8, none⟩) h.lt).trans h.f8, (hb.frozen (p := ⟨b, 9, none⟩) h.lt).trans h.f9⟩
theorem KC.alloc {w : World} {b : Nat} {x : Sk} (h : KC w b x) (o : Obj) : KC (w.alloc o) b x := h.below ((Below.refl _ _).alloc (Nat.le_refl _) o)
theorem KC.new {w : World} {x : Sk} {t : TypeId} {b : Nat} (hb : b = w.heap.size) : KC (w.alloc (.cells #[.int .u8 (vb x.h), .int .u8 x.r.k, .bool x.r.l, .int .i64 x.r.m, .int .u64 (ub x.r.s.1.1), .int .u64 (ub x.r.s.1.2), .int .u64 (ub x.r.s.2.1), .int .u64 (ub x.r.s.2.2), .int .i64 x.r.lo, .int .i64 x.r.hi] t)) b x := by
  subst hb
  exact ⟨by simp, by simp, by simp, by simp, by simp, by simp, by simp, by simp, by simp, by simp, by simp, by simp, by simp, by simp, by simp, by simp, by simp, by simp, by simp, by simp, by simp⟩
def putK (w : World) (b : Nat) (u : Sk) : World := ((((((((((w.setCell ⟨b, 0, none⟩ (.int .u8 (vb u.h))).setCell ⟨b, 1, none⟩ (.int .u8 u.r.k)).setCell ⟨b, 2, none⟩ (.bool u.r.l)).setCell ⟨b, 3, none⟩ (.int .i64 u.r.m)).setCell ⟨b, 4, none⟩ (.int .u64 (ub u.r.s.1.1))).setCell ⟨b, 5, none⟩ (.int .u64 (ub u.r.s.1.2))).setCell ⟨b, 6, none⟩ (.int .u64 (ub u.r.s.2.1))).setCell ⟨b, 7, none⟩ (.int .u64 (ub u.r.s.2.2))).setCell ⟨b, 8, none⟩ (.int .i64 u.r.lo)).setCell ⟨b, 9, none⟩ (.int .i64 u.r.hi))
theorem KC.put {w : World} {b : Nat} {x : Sk} (h : KC w b x) (u : Sk) : KC (putK w b u) b u := by
  unfold putK
  refine ⟨by simp; exact h.lt, ?_, ?_, ?_, ?_, ?_, ?_, ?_, ?_, ?_, ?_, by simp; exact h.f0, by simp; exact h.f1, by simp; exact h.f2, by simp; exact h.f3, by simp; exact h.f4, by simp; exact h.f5, by simp; exact h.f6, by simp; exact h.f7, by simp; exact h.f8, by simp; exact h.f9⟩
  · exact ((World.cell?_setCell_other _ _ _ _ (by simp)).trans ((World.cell?_setCell_other _ _ _ _ (by simp)).trans ((World.cell?_setCell_other _ _ _ _ (by simp)).trans ((World.cell?_setCell_other _ _ _ _ (by simp)).trans ((World.cell?_setCell_other _ _ _ _ (by simp)).trans ((World.cell?_setCell_other _ _ _ _ (by simp)).trans ((World.cell?_setCell_other _ _ _ _ (by simp)).trans ((World.cell?_setCell_other _ _ _ _ (by simp)).trans ((World.cell?_setCell_other _ _ _ _ (by simp)).trans (World.cell?_setCell_same _ _ _ h.c0))))))))))
  · exact ((World.cell?_setCell_other _ _ _ _ (by simp)).trans ((World.cell?_setCell_other _ _ _ _ (by simp)).trans ((World.cell?_setCell_other _ _ _ _ (by simp)).trans ((World.cell?_setCell_other _ _ _ _ (by simp)).trans ((World.cell?_setCell_other _ _ _ _ (by simp)).trans ((World.cell?_setCell_other _ _ _ _ (by simp)).trans ((World.cell?_setCell_other _ _ _ _ (by simp)).trans ((World.cell?_setCell_other _ _ _ _ (by simp)).trans (World.cell?_setCell_same _ _ _ ((World.cell?_setCell_other _ _ _ _ (by simp)).trans (h.c1)))))))))))
  · exact ((World.cell?_setCell_other _ _ _ _ (by simp)).trans ((World.cell?_setCell_other _ _ _ _ (by simp)).trans ((World.cell?_setCell_other _ _ _ _ (by simp)).trans ((World.cell?_setCell_other _ _ _ _ (by simp)).trans ((World.cell?_setCell_other _ _ _ _ (by simp)).trans ((World.cell?_setCell_other _ _ _ _ (by simp)).trans ((World.cell?_setCell_other _ _ _ _ (by simp)).trans (World.cell?_setCell_same _ _ _ ((World.cell?_setCell_other _ _ _ _ (by simp)).trans (((World.cell?_setCell_other _ _ _ _ (by simp)).trans (h.c2))))))))))))
  · exact ((World.cell?_setCell_other _ _ _ _ (by simp)).trans ((World.cell?_setCell_other _ _ _ _ (by simp)).trans ((World.cell?_setCell_other _ _ _ _ (by simp)).trans ((World.cell?_setCell_other _ _ _ _ (by simp)).trans ((World.cell?_setCell_other _ _ _ _ (by simp)).trans ((World.cell?_setCell_other _ _ _ _ (by simp)).trans (World.cell?_setCell_same _ _ _ ((World.cell?_setCell_other _ _ _ _ (by simp)).trans (((World.cell?_setCell_other _ _ _ _ (by simp)).trans (((World.cell?_setCell_other _ _ _ _ (by simp)).trans (h.c3)))))))))))))
  · exact ((World.cell?_setCell_other _ _ _ _ (by simp)).trans ((World.cell?_setCell_other _ _ _ _ (by simp)).trans ((World.cell?_setCell_other _ _ _ _ (by simp)).trans ((World.cell?_setCell_other _ _ _ _ (by simp)).trans ((World.cell?_setCell_other _ _ _ _ (by simp)).trans (World.cell?_setCell_same _ _ _ ((World.cell?_setCell_other _ _ _ _ (by simp)).trans (((World.cell?_setCell_other _ _ _ _ (by simp)).trans (((World.cell?_setCell_other _ _ _ _ (by simp)).trans (((World.cell?_setCell_other _ _ _ _ (by simp)).trans (h.c4))))))))))))))
  · exact ((World.cell?_setCell_other _ _ _ _ (by simp)).trans ((World.cell?_setCell_other _ _ _ _ (by simp)).trans ((World.cell?_setCell_other _ _ _ _ (by simp)).trans ((World.cell?_setCell_other _ _ _ _ (by simp)).trans (World.cell?_setCell_same _ _ _ ((World.cell?_setCell_other _ _ _ _ (by simp)).trans (((World.cell?_setCell_other _ _ _ _ (by simp)).trans (((World.cell?_setCell_other _ _ _ _ (by simp)).trans (((World.cell?_setCell_other _ _ _ _ (by simp)).trans (((World.cell?_setCell_other _ _ _ _ (by simp)).trans (h.c5)))))))))))))))
  · exact ((World.cell?_setCell_other _ _ _ _ (by simp)).trans ((World.cell?_setCell_other _ _ _ _ (by simp)).trans ((World.cell?_setCell_other _ _ _ _ (by simp)).trans (World.cell?_setCell_same _ _ _ ((World.cell?_setCell_other _ _ _ _ (by simp)).trans (((World.cell?_setCell_other _ _ _ _ (by simp)).trans (((World.cell?_setCell_other _ _ _ _ (by simp)).trans (((World.cell?_setCell_other _ _ _ _ (by simp)).trans (((World.cell?_setCell_other _ _ _ _ (by simp)).trans (((World.cell?_setCell_other _ _ _ _ (by simp)).trans (h.c6))))))))))))))))
  · exact ((World.cell?_setCell_other _ _ _ _ (by simp)).trans ((World.cell?_setCell_other _ _ _ _ (by simp)).trans (World.cell?_setCell_same _ _ _ ((World.cell?_setCell_other _ _ _ _ (by simp)).trans (((World.cell?_setCell_other _ _ _ _ (by simp)).trans (((World.cell?_setCell_other _ _ _ _ (by simp)).trans (((World.cell?_setCell_other _ _ _ _ (by simp)).trans (((World.cell?_setCell_other _ _ _ _ (by simp)).trans (((World.cell?_setCell_other _ _ _ _ (by simp)).trans (((World.cell?_setCell_other _ _ _ _ (by simp)).trans (h.c7)))))))))))))))))
  · exact ((World.cell?_setCell_other _ _ _ _ (by simp)).trans (World.cell?_setCell_same _ _ _ ((World.cell?_setCell_other _ _ _ _ (by simp)).trans (((World.cell?_setCell_other _ _ _ _ (by simp)).trans (((World.cell?_setCell_other _ _ _ _ (by simp)).trans (((World.cell?_setCell_other _ _ _ _ (by simp)).trans (((World.cell?_setCell_other _ _ _ _ (by simp)).trans (((World.cell?_setCell_other _ _ _ _ (by simp)).trans (((World.cell?_setCell_other _ _ _ _ (by simp)).trans (((World.cell?_setCell_other _ _ _ _ (by simp)).trans (h.c8))))))))))))))))))
  · exact (World.cell?_setCell_same _ _ _ ((World.cell?_setCell_other _ _ _ _ (by simp)).trans (((World.cell?_setCell_other _ _ _ _ (by simp)).trans (((World.cell?_setCell_other _ _ _ _ (by simp)).trans (((World.cell?_setCell_other _ _ _ _ (by simp)).trans (((World.cell?_setCell_other _ _ _ _ (by simp)).trans (((World.cell?_setCell_other _ _ _ _ (by simp)).trans (((World.cell?_setCell_other _ _ _ _ (by simp)).trans (((World.cell?_setCell_other _ _ _ _ (by simp)).trans (((World.cell?_setCell_other _ _ _ _ (by simp)).trans (h.c9)))))))))))))))))))
/-- Cells in a block of the call's own. -/
structure VC (w : World) (b : Nat) (x : Vl) : Prop where
  lt : b < w.heap.size
  c0 : w.cell? ⟨b, 0, none⟩ = some (.int .u8 x.k)
  c1 : w.cell? ⟨b, 1, none⟩ = some (.int .i64 x.m)
  c2 : w.cell? ⟨b, 2, none⟩ = some (.int .u64 x.n)
  c3 : w.cell? ⟨b, 3, none⟩ = some (.int .i64 x.o)
  f0 : w.frozen? ⟨b, 0, none⟩ = false
  f1 : w.frozen? ⟨b, 1, none⟩ = false
  f2 : w.frozen? ⟨b, 2, none⟩ = false
  f3 : w.frozen? ⟨b, 3, none⟩ = false
theorem VC.below {w w' : World} {b : Nat} {x : Vl} (h : VC w b x) (hb : Below w.heap.size w w') : VC w' b x :=
  ⟨Nat.lt_of_lt_of_le h.lt hb.size, (hb.cell h.lt).trans h.c0, (hb.cell h.lt).trans h.c1, (hb.cell h.lt).trans h.c2, (hb.cell h.lt).trans h.c3, (hb.frozen (p := ⟨b, 0, none⟩) h.lt).trans h.f0, (hb.frozen (p := ⟨b, 1, none⟩) h.lt).trans h.f1, (hb.frozen (p := ⟨b, 2, none⟩) h.lt).trans h.f2, (hb.frozen (p := ⟨b, 3, none⟩) h.lt).trans h.f3⟩
theorem VC.alloc {w : World} {b : Nat} {x : Vl} (h : VC w b x) (o : Obj) : VC (w.alloc o) b x := h.below ((Below.refl _ _).alloc (Nat.le_refl _) o)
theorem VC.new {w : World} {x : Vl} {t : TypeId} {b : Nat} (hb : b = w.heap.size) : VC (w.alloc (.cells #[.int .u8 x.k, .int .i64 x.m, .int .u64 x.n, .int .i64 x.o] t)) b x := by
  subst hb
  exact ⟨by simp, by simp, by simp, by simp, by simp, by simp, by simp, by simp, by simp⟩
def putV (w : World) (b : Nat) (u : Vl) : World := ((((w.setCell ⟨b, 0, none⟩ (.int .u8 u.k)).setCell ⟨b, 1, none⟩ (.int .i64 u.m)).setCell ⟨b, 2, none⟩ (.int .u64 u.n)).setCell ⟨b, 3, none⟩ (.int .i64 u.o))
theorem VC.put {w : World} {b : Nat} {x : Vl} (h : VC w b x) (u : Vl) : VC (putV w b u) b u := by
  unfold putV
  refine ⟨by simp; exact h.lt, ?_, ?_, ?_, ?_, by simp; exact h.f0, by simp; exact h.f1, by simp; exact h.f2, by simp; exact h.f3⟩
  · exact ((World.cell?_setCell_other _ _ _ _ (by simp)).trans ((World.cell?_setCell_other _ _ _ _ (by simp)).trans ((World.cell?_setCell_other _ _ _ _ (by simp)).trans (World.cell?_setCell_same _ _ _ h.c0))))
  · exact ((World.cell?_setCell_other _ _ _ _ (by simp)).trans ((World.cell?_setCell_other _ _ _ _ (by simp)).trans (World.cell?_setCell_same _ _ _ ((World.cell?_setCell_other _ _ _ _ (by simp)).trans (h.c1)))))
  · exact ((World.cell?_setCell_other _ _ _ _ (by simp)).trans (World.cell?_setCell_same _ _ _ ((World.cell?_setCell_other _ _ _ _ (by simp)).trans (((World.cell?_setCell_other _ _ _ _ (by simp)).trans (h.c2))))))
  · exact (World.cell?_setCell_same _ _ _ ((World.cell?_setCell_other _ _ _ _ (by simp)).trans (((World.cell?_setCell_other _ _ _ _ (by simp)).trans (((World.cell?_setCell_other _ _ _ _ (by simp)).trans (h.c3)))))))
theorem ub00 : ub 0#64 = 0 := rfl
theorem bld_r_s (k : Int) (l : Bool) (a b c d : Int) (W : World) : (Instr.build 41 #[(0, .int .u8 k), (1, .bool l), (3, .agg #[.int .u64 a, .int .u64 b, .int .u64 c, .int .u64 d])]).run Tryz.prog W = .ok (.agg #[.int .u8 k, .bool l, .int .i64 0, .int .u64 a, .int .u64 b, .int .u64 c, .int .u64 d, .int .i64 0, .int .i64 0]) W := by kernel_rfl
theorem bld_r_e (k lo hi : Int) (W : World) : (Instr.build 41 #[(0, .int .u8 k), (4, .int .i64 lo), (5, .int .i64 hi)]).run Tryz.prog W = .ok (.agg #[.int .u8 k, .bool false, .int .i64 0, .int .u64 0, .int .u64 0, .int .u64 0, .int .u64 0, .int .i64 lo, .int .i64 hi]) W := by kernel_rfl
theorem bld_r_m (k m : Int) (W : World) : (Instr.build 41 #[(0, .int .u8 k), (2, .int .i64 m)]).run Tryz.prog W = .ok (.agg #[.int .u8 k, .bool false, .int .i64 m, .int .u64 0, .int .u64 0, .int .u64 0, .int .u64 0, .int .i64 0, .int .i64 0]) W := by kernel_rfl
theorem bld_r_me (k m lo hi : Int) (W : World) : (Instr.build 41 #[(0, .int .u8 k), (2, .int .i64 m), (4, .int .i64 lo), (5, .int .i64 hi)]).run Tryz.prog W = .ok (.agg #[.int .u8 k, .bool false, .int .i64 m, .int .u64 0, .int .u64 0, .int .u64 0, .int .u64 0, .int .i64 lo, .int .i64 hi]) W := by kernel_rfl
set_option maxHeartbeats 4000000 in
theorem near_any (r : Rg) (w : World) : Calls Tryz.prog 119 #[rV r] w fun e w' => e = .returned (.bool (nearB r)) ∧ Below w.heap.size w w' := by
  unfold nearB rV
  cases h1 : decide (-1048576 ≤ r.lo)
  · go_enter Tryz.func119, Tryz.ntmps119
    go_wp2
    go_ret
    exact ⟨rfl, bel_alloc (Below.refl _ _)⟩
  cases h2 : decide (r.lo ≤ r.hi)
  · go_enter Tryz.func119, Tryz.ntmps119
    go_wp2
    go_ret
    exact ⟨rfl, bel_alloc (Below.refl _ _)⟩
  · go_enter Tryz.func119, Tryz.ntmps119
    go_wp2
    go_ret
    exact ⟨by simp, bel_alloc (Below.refl _ _)⟩
theorem lenS_any (p : Int) (w : World) : Calls Tryz.prog 79 #[.int .i64 p] w fun e w' => e = .returned (.bool (lenB p)) ∧ Below w.heap.size w w' := by
  unfold lenB
  cases h1 : decide (0 ≤ p)
  · go_enter Tryz.func79, Tryz.ntmps79
    go_wp2
    go_ret
    exact ⟨rfl, Below.refl _ _⟩
  · go_enter Tryz.func79, Tryz.ntmps79
    go_wp2
    go_ret
    exact ⟨by simp, Below.refl _ _⟩
theorem sure_any (x : Sk) (w : World) : Calls Tryz.prog 249 #[kV x] w fun e w' => e = .returned (.int .u8 (vb (sure x))) ∧ Below w.heap.size w w' := by
  unfold sure kV
  by_cases h0 : x.r.k = 0
  · rw [if_pos h0, h0]
    go_enter Tryz.func249, Tryz.ntmps249
    go_wp2
    go_ret
    exact ⟨rfl, bel_alloc (Below.refl _ _)⟩
  rw [if_neg h0]
  have e0 : (x.r.k == 0) = false := by simpa using h0
  by_cases h1 : x.r.k = 1
  · rw [if_pos h1, h1]
    go_enter Tryz.func249, Tryz.ntmps249
    go_wp2
    go_ret
    exact ⟨rfl, bel_alloc (Below.refl _ _)⟩
  · rw [if_neg h1]
    have e1 : (x.r.k == 1) = false := by simpa using h1
    clear h0 h1
    go_enter Tryz.func249, Tryz.ntmps249
    go_wp2
    go_ret
    exact ⟨rfl, bel_alloc (Below.refl _ _)⟩
theorem ROk_sub {r : Rg} (h : ROk r) (l : Bool) (s : Sc) {m lo hi : Int} (hm : m = 0 ∨ m = r.m) (hlo : lo = 0 ∨ lo = r.lo) (hhi : hi = 0 ∨ hi = r.hi) : ROk ⟨r.k, l, m, s, lo, hi⟩ := by
  unfold ROk at h ⊢
  dsimp only
  omega
set_option maxHeartbeats 8000000 in
theorem regMay_any (r : Rg) (hr : ROk r) (w : World) : Calls Tryz.prog 77 #[rV r] w fun e w' => e = .returned (.bool (rMay r)) ∧ Below w.heap.size w w' := by
  have NE := fun W => near_any r W
  have SM := fun W => cMay_any r.s W
  have E02 := fun W => eq_r r ⟨r.k, false, 0, sc0, 0, 0⟩ hr (ROk_sub hr false sc0 (.inl rfl) (.inl rfl) (.inl rfl)) W
  have E1 := fun W => eq_r r ⟨r.k, r.l, 0, r.s, 0, 0⟩ hr (ROk_sub hr r.l r.s (.inl rfl) (.inl rfl) (.inl rfl)) W
  have E34 := fun W => eq_r r ⟨r.k, false, 0, sc0, r.lo, r.hi⟩ hr (ROk_sub hr false sc0 (.inl rfl) (.inr rfl) (.inr rfl)) W
  have E57 := fun W => eq_r r ⟨r.k, false, r.m, sc0, 0, 0⟩ hr (ROk_sub hr false sc0 (.inr rfl) (.inl rfl) (.inl rfl)) W
  have E6 := fun W => eq_r r ⟨r.k, false, r.m, sc0, r.lo, r.hi⟩ hr (ROk_sub hr false sc0 (.inr rfl) (.inr rfl) (.inr rfl)) W
  unfold rMay
  have hk := hr.1
  clear hr
  by_cases h0 : r.k = 0 ∨ r.k = 2
  · rw [if_pos h0]
    clear E1 E34 E57 E6 NE SM
    generalize rB r ⟨r.k, false, 0, sc0, 0, 0⟩ = q at *
    have BL := fun a => bld_r_k a
    unfold rV at E02 ⊢
    rcases h0 with h0 | h0
    all_goals
      rw [h0] at E02 ⊢
      simp only [sc0, t0, ub00] at E02
      go_enter Tryz.func77, Tryz.ntmps77
      go_wp2
      go_ret
      exact ⟨rfl, bel_alloc (Below.refl _ _)⟩
  rw [if_neg h0]
  have e0 : (r.k == 0) = false := by simp; omega
  have e2 : (r.k == 2) = false := by simp; omega
  by_cases h1 : r.k = 1
  · rw [if_pos h1]
    clear E02 E34 E57 E6 NE e0 e2 h0
    rw [h1] at E1
    generalize hq : rB r ⟨1, r.l, 0, r.s, 0, 0⟩ = q at *
    have BL := bld_r_s 1
    unfold rV at E1 ⊢
    unfold sv at SM
    rw [h1] at E1 ⊢
    clear hq
    cases q
    · clear SM
      rw [Bool.false_and]
      go_enter Tryz.func77, Tryz.ntmps77
      go_wp2
      go_ret
      exact ⟨rfl, bel_alloc (Below.refl _ _)⟩
    · rw [Bool.true_and]
      have SMh := hid SM
      clear SM
      generalize mayX r.s = mx at *
      cases mx
      · rw [Bool.false_and]
        go_enter Tryz.func77, Tryz.ntmps77
        go_wp2_with fail
        refine (SMh.out _).mono ?_
        rintro e w1 ⟨rfl, z⟩
        have JX : RC w1 w.heap.size ⟨1, r.l, r.m, r.s, r.lo, r.hi⟩ := (RC.new rfl).below z
        have B := below_next (bel_alloc (Below.refl w.heap.size w)) z
        clear z
        have JX1 := JX.c1
        have JX5 := JX.c5
        have JX6 := JX.c6
        have JXl := JX.lt
        dsimp only at JX1 JX5 JX6
        go_wp2
        go_ret
        exact ⟨rfl, B⟩
      · rw [Bool.true_and]
        have hc : (ub r.s.2.2 > 65535 : Bool) = decide (65535 < r.s.2.2.toNat) := by unfold ub; rw [Bool.eq_iff_iff, decide_eq_true_eq, decide_eq_true_eq]; omega
        go_enter Tryz.func77, Tryz.ntmps77
        go_wp2_with fail
        refine (SMh.out _).mono ?_
        rintro e w1 ⟨rfl, z⟩
        have JX : RC w1 w.heap.size ⟨1, r.l, r.m, r.s, r.lo, r.hi⟩ := (RC.new rfl).below z
        have B := below_next (bel_alloc (Below.refl w.heap.size w)) z
        clear z
        have JX1 := JX.c1
        have JX5 := JX.c5
        have JX6 := JX.c6
        have JXl := JX.lt
        dsimp only at JX1 JX5 JX6
        cases hl : r.l
        · rw [hl] at JX1
          go_wp2
          go_ret
          exact ⟨by rw [hl]; rfl, B⟩
        · rw [hl] at JX1
          go_wp2
          go_ret
          exact ⟨by rw [hl]; rfl, B⟩
  rw [if_neg h1]
  have e1 : (r.k == 1) = false := by simp; omega
  by_cases h3 : r.k = 3 ∨ r.k = 4
  · rw [if_pos h3]
    clear E02 E1 E57 E6 SM h0 h1
    generalize rB r ⟨r.k, false, 0, sc0, r.lo, r.hi⟩ = q at *
    have BL := fun a => bld_r_e a
    have NEh := hid NE
    clear NE
    generalize nearB r = nb' at *
    unfold rV at E34 NEh ⊢
    rcases h3 with h3 | h3
    all_goals
      rw [h3] at E34 NEh ⊢
      simp only [sc0, t0, ub00] at E34
      cases q
      · go_enter Tryz.func77, Tryz.ntmps77
        go_wp2
        go_ret
        exact ⟨rfl, bel_alloc (Below.refl _ _)⟩
      · rw [Bool.true_and]
        go_enter Tryz.func77, Tryz.ntmps77
        go_wp2_with fail
        refine (NEh.out _).mono ?_
        rintro e w1 ⟨rfl, z⟩
        have B := below_next (bel_alloc (Below.refl w.heap.size w)) z
        clear z
        go_wp2
        go_ret
        exact ⟨rfl, B⟩
  rw [if_neg h3]
  have e3 : (r.k == 3) = false := by simp; omega
  have e4 : (r.k == 4) = false := by simp; omega
  by_cases h5 : r.k = 5 ∨ r.k = 7
  · rw [if_pos h5]
    clear E02 E1 E34 E6 SM NE h0 h1 h3
    generalize rB r ⟨r.k, false, r.m, sc0, 0, 0⟩ = q at *
    have BL := fun a => bld_r_m a
    unfold rV at E57 ⊢
    rcases h5 with h5 | h5
    all_goals
      rw [h5] at E57 ⊢
      simp only [sc0, t0, ub00] at E57
      cases q
      · go_enter Tryz.func77, Tryz.ntmps77
        go_wp2
        go_ret
        exact ⟨rfl, bel_alloc (Below.refl _ _)⟩
      · rw [Bool.true_and]
        cases hm : decide (0 ≤ r.m)
        all_goals
          go_enter Tryz.func77, Tryz.ntmps77
          go_wp2
          go_ret
          exact ⟨rfl, bel_alloc (Below.refl _ _)⟩
  rw [if_neg h5]
  have e5 : (r.k == 5) = false := by simp; omega
  have e7 : (r.k == 7) = false := by simp; omega
  by_cases h6 : r.k = 6
  · rw [if_pos h6]
    clear E02 E1 E34 E57 SM e0 e1 e2 e3 e4 e5 e7
    rw [h6] at E6
    generalize hq : rB r ⟨6, false, r.m, sc0, r.lo, r.hi⟩ = q at *
    have BL := bld_r_me 6
    have NEh := hid NE
    clear NE hq
    generalize nearB r = nb' at *
    unfold rV at E6 NEh ⊢
    rw [h6] at E6 NEh ⊢
    simp only [sc0, t0, ub00] at E6
    cases q
    · go_enter Tryz.func77, Tryz.ntmps77
      go_wp2
      go_ret
      exact ⟨rfl, bel_alloc (Below.refl _ _)⟩
    · rw [Bool.true_and]
      cases hm : decide (0 ≤ r.m)
      · go_enter Tryz.func77, Tryz.ntmps77
        go_wp2
        go_ret
        exact ⟨rfl, bel_alloc (Below.refl _ _)⟩
      · rw [Bool.true_and]
        go_enter Tryz.func77, Tryz.ntmps77
        go_wp2_with fail
        refine (NEh.out _).mono ?_
        rintro e w1 ⟨rfl, z⟩
        have B := below_next (bel_alloc (Below.refl w.heap.size w)) z
        clear z
        go_wp2
        go_ret
        exact ⟨rfl, B⟩
  · rw [if_neg h6]
    have e6 : (r.k == 6) = false := by simp; omega
    clear E02 E1 E34 E57 E6 SM NE h0 h1 h3 h5 h6
    unfold rV
    go_enter Tryz.func77, Tryz.ntmps77
    go_wp2
    go_ret
    exact ⟨rfl, bel_alloc (Below.refl _ _)⟩
end Go.Proofs.YtjcnpjidkimldaaGreatDoor
