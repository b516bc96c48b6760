/-
  Contracts of sums, products, quotients, rests, counts, as the landed code has them. Contracts of sum, product, rest, counts, as the landed code has them. Contracts of half and of the closure that chooses a way, as the landed code has them. The closure that chooses a way, as the landed code has it. Contracts of fromTop, least, bitwise, as the landed code has them. Contracts of bitwise and of the shifts with the sign, as the landed code has them.
-/
import Derived.Test.YtjcnpjidkimldaaGreatDoorASpC
import Derived.Laws.Externs
import Derived.Lib.Mul64
import Derived.Deep.RegionHeld3
import Derived.Deep.RegionLaw
namespace Go.Proofs.YtjcnpjidkimldaaGreatDoor
set_option linter.unusedSimpArgs false
set_option linter.unusedVariables false
set_option maxRecDepth 100000
open Go.ChangeShapes Go.WideShapes Go.ChangeAt Go.RowKit

def szI (w : Bool) : Int := if w then 64 else 32
theorem ub_m32 (x : B64) : bits .and .u64 (ub x) 4294967295 = ub (x &&& 4294967295#64) := by rw [← ub_and, show ub 4294967295#64 = 4294967295 by kernel_rfl]
attribute [go_sem] ub_m32
end Go.Proofs.YtjcnpjidkimldaaGreatDoor

namespace Go.Proofs.YtjcnpjidkimldaaGreatDoor
set_option linter.unusedSimpArgs false
set_option linter.unusedVariables false
set_option maxRecDepth 100000
open Go.ChangeShapes Go.WideShapes Go.ChangeAt Go.RowKit

@[go_sem] theorem szI_wrap (c : Bool) : IntKind.u64.wrap (szI c) = ub (sizeB c) := by cases c <;> kernel_rfl
end Go.Proofs.YtjcnpjidkimldaaGreatDoor

namespace Go.Proofs.YtjcnpjidkimldaaGreatDoor
set_option linter.unusedSimpArgs false
set_option linter.unusedVariables false
set_option maxRecDepth 100000
open Go.ChangeShapes Go.WideShapes Go.ChangeAt Go.RowKit

@[go_sem] theorem ub_dbl (x : B64) : IntKind.u64.wrap (ub x * 2) = ub (x <<< 1) := by have h := ub_wshl x 1; rw [Int.pow_succ, Int.pow_zero, Int.one_mul] at h; exact h
def PC (w : World) (b : Nat) (K : Tn × Tn) : Prop := b < w.heap.size ∧ w.cell? ⟨b, 0, none⟩ = some (.int .u64 (ub K.1.1)) ∧ w.cell? ⟨b, 1, none⟩ = some (.int .u64 (ub K.1.2)) ∧ w.cell? ⟨b, 2, none⟩ = some (.int .u64 (ub K.2.1)) ∧ w.cell? ⟨b, 3, none⟩ = some (.int .u64 (ub K.2.2)) ∧
  w.frozen? ⟨b, 0, none⟩ = false ∧ w.frozen? ⟨b, 1, none⟩ = false ∧ w.frozen? ⟨b, 2, none⟩ = false ∧ w.frozen? ⟨b, 3, none⟩ = false
theorem PC.below {w w' : World} {b : Nat} {K : Tn × Tn} (h : PC w b K) (hb : Below w.heap.size w w') : PC w' b K := by
  obtain ⟨h0, h1, h2, h3, h4, f1, f2, f3, f4⟩ := h
  exact ⟨Nat.lt_of_lt_of_le h0 hb.size, (hb.cell h0).trans h1, (hb.cell h0).trans h2, (hb.cell h0).trans h3, (hb.cell h0).trans h4,
    (hb.frozen (p := ⟨b, 0, none⟩) h0).trans f1, (hb.frozen (p := ⟨b, 1, none⟩) h0).trans f2, (hb.frozen (p := ⟨b, 2, none⟩) h0).trans f3, (hb.frozen (p := ⟨b, 3, none⟩) h0).trans f4⟩
theorem PC.new {w : World} {K : Tn × Tn} {t : TypeId} {b : Nat} (hb : b = w.heap.size) : PC (w.alloc (.cells #[.int .u64 (ub K.1.1), .int .u64 (ub K.1.2), .int .u64 (ub K.2.1), .int .u64 (ub K.2.2)] t)) b K := by
  subst hb
  refine ⟨by simp, ?_, ?_, ?_, ?_, ?_, ?_, ?_, ?_⟩ <;> simp
def put4 (w : World) (b : Nat) (K : Tn × Tn) : World := (((w.setCell ⟨b, 0, none⟩ (.int .u64 (ub K.1.1))).setCell ⟨b, 1, none⟩ (.int .u64 (ub K.1.2))).setCell ⟨b, 2, none⟩ (.int .u64 (ub K.2.1))).setCell ⟨b, 3, none⟩ (.int .u64 (ub K.2.2))
theorem put4_heap (w : World) (b : Nat) (K : Tn × Tn) {b' : Nat} (h : b' ≠ b) : (put4 w b K).heap[b']? = w.heap[b']? :=
  (((Below.heap_setCell _ _ _ _ h).trans (Below.heap_setCell _ _ _ _ h)).trans (Below.heap_setCell _ _ _ _ h)).trans (Below.heap_setCell _ _ _ _ h)
theorem put4_below {n : Nat} {w w1 : World} {b : Nat} (K : Tn × Tn) (h : Below n w w1) (hb : n ≤ b) : Below n w (put4 w1 b K) :=
  (((h.setCell (p := ⟨b, 0, none⟩) hb _).setCell (p := ⟨b, 1, none⟩) hb _).setCell (p := ⟨b, 2, none⟩) hb _).setCell (p := ⟨b, 3, none⟩) hb _
theorem put4_size (w : World) (b : Nat) (K : Tn × Tn) : (put4 w b K).heap.size = w.heap.size := by unfold put4; simp
theorem PC.put {w : World} {b : Nat} {K : Tn × Tn} (h : PC w b K) (U : Tn × Tn) : PC (put4 w b U) b U := by
  obtain ⟨h0, h1, h2, h3, h4, f1, f2, f3, f4⟩ := h
  have o : ∀ (w : World) (i j : Nat) (v : Value), i ≠ j → (w.setCell ⟨b, j, none⟩ v).cell? ⟨b, i, none⟩ = w.cell? ⟨b, i, none⟩ := fun w i j v hij => World.cell?_setCell_other _ _ _ _ (fun h => hij (congrArg Addr.off h).symm)
  unfold put4
  refine ⟨by simp; exact h0, ?_, ?_, ?_, ?_, by simp; exact f1, by simp; exact f2, by simp; exact f3, by simp; exact f4⟩
  · rw [o _ 0 3 _ (by decide), o _ 0 2 _ (by decide), o _ 0 1 _ (by decide)]; exact World.cell?_setCell_same _ _ _ h1
  · rw [o _ 1 3 _ (by decide), o _ 1 2 _ (by decide)]; exact World.cell?_setCell_same _ _ _ ((o _ 1 0 _ (by decide)).trans h2)
  · rw [o _ 2 3 _ (by decide)]; exact World.cell?_setCell_same _ _ _ ((o _ 2 1 _ (by decide)).trans ((o _ 2 0 _ (by decide)).trans h3))
  · exact World.cell?_setCell_same _ _ _ ((o _ 3 2 _ (by decide)).trans ((o _ 3 1 _ (by decide)).trans ((o _ 3 0 _ (by decide)).trans h4)))
theorem PC.other {w : World} {b c : Nat} {K : Tn × Tn} (h : PC w b K) (hbc : b ≠ c) (U : Tn × Tn) : PC (put4 w c U) b K := by
  obtain ⟨h0, h1, h2, h3, h4, f1, f2, f3, f4⟩ := h
  have e := put4_heap w c U hbc
  exact ⟨by rw [put4_size]; exact h0, (World.cell?_of_block (w := w) (a := ⟨b, 0, none⟩) e).trans h1, (World.cell?_of_block (w := w) (a := ⟨b, 1, none⟩) e).trans h2, (World.cell?_of_block (w := w) (a := ⟨b, 2, none⟩) e).trans h3, (World.cell?_of_block (w := w) (a := ⟨b, 3, none⟩) e).trans h4,
    (World.frozen?_of_block (w := w) (a := ⟨b, 0, none⟩) e).trans f1, (World.frozen?_of_block (w := w) (a := ⟨b, 1, none⟩) e).trans f2, (World.frozen?_of_block (w := w) (a := ⟨b, 2, none⟩) e).trans f3, (World.frozen?_of_block (w := w) (a := ⟨b, 3, none⟩) e).trans f4⟩
/-- One cell that holds a function. -/
def FC (w : World) (q : Nat) (D : FuncId) : Prop := q < w.heap.size ∧ w.cell? ⟨q, 0, none⟩ = some (.func (.func D) #[] #[])
theorem FC.below {w w' : World} {q : Nat} {D : FuncId} (h : FC w q D) (hb : Below w.heap.size w w') : FC w' q D := ⟨Nat.lt_of_lt_of_le h.1 hb.size, (hb.cell h.1).trans h.2⟩
theorem FC.other {w : World} {q c : Nat} {D : FuncId} (h : FC w q D) (hqc : q ≠ c) (U : Tn × Tn) : FC (put4 w c U) q D :=
  ⟨by rw [put4_size]; exact h.1, (World.cell?_of_block (w := w) (a := ⟨q, 0, none⟩) (put4_heap w c U hqc)).trans h.2⟩
structure LeI (w : World) (q : Nat) (D : FuncId) (K : Tn × Tn) (st : Tn × Tn) (wr : World) : Prop where
  kc : PC wr w.heap.size K
  bc : PC wr (w.heap.size + 2) st
  rc : PC wr (w.heap.size + 1) (t0, t0)
  fc : FC wr q D
  bel : Below w.heap.size w wr
theorem LeI.next {w : World} {q : Nat} {D : FuncId} {K st : Tn × Tn} {wr w' : World} (h : LeI w q D K st wr) (hb : Below wr.heap.size wr w') : LeI w q D K st w' :=
  ⟨h.kc.below hb, h.bc.below hb, h.rc.below hb, h.fc.below hb, h.bel.trans (hb.mono h.bel.size)⟩
theorem LeI.put {w : World} {q : Nat} {D : FuncId} {K st : Tn × Tn} {wr : World} (h : LeI w q D K st wr) (hq : q < w.heap.size) (U : Tn × Tn) : LeI w q D K U (put4 wr (w.heap.size + 2) U) :=
  ⟨h.kc.other (by omega) U, h.bc.put U, h.rc.other (by omega) U, h.fc.other (by omega) U, put4_below U h.bel (by omega)⟩
/-- A way's cells. -/
def WC (w : World) (b : Nat) (x y : B64) : Prop := b < w.heap.size ∧ w.cell? ⟨b, 0, none⟩ = some (.int .u64 (ub x)) ∧ w.cell? ⟨b, 1, none⟩ = some (.int .u64 (ub y))
theorem WC.below {w w' : World} {b : Nat} {x y : B64} (h : WC w b x y) (hb : Below w.heap.size w w') : WC w' b x y := ⟨Nat.lt_of_lt_of_le h.1 hb.size, (hb.cell h.1).trans h.2.1, (hb.cell h.1).trans h.2.2⟩
theorem WC.new {w : World} {x y : B64} {t : TypeId} {b : Nat} (hb : b = w.heap.size) : WC (w.alloc (.cells #[.int .u64 (ub x), .int .u64 (ub y)] t)) b x y := by
  subst hb
  refine ⟨by simp, ?_, ?_⟩ <;> simp
end Go.Proofs.YtjcnpjidkimldaaGreatDoor

namespace Go.Proofs.YtjcnpjidkimldaaGreatDoor
set_option linter.unusedSimpArgs false
set_option linter.unusedVariables false
set_option maxRecDepth 100000
open Go.ChangeShapes Go.WideShapes Go.ChangeAt Go.RowKit

end Go.Proofs.YtjcnpjidkimldaaGreatDoor

namespace Go.Proofs.YtjcnpjidkimldaaGreatDoor
set_option linter.unusedSimpArgs false
set_option linter.unusedVariables false
set_option maxRecDepth 100000
open Go.ChangeShapes Go.WideShapes Go.ChangeAt Go.RowKit

structure TpI (w : World) (q : Nat) (D : FuncId) (K : Tn × Tn) (wr : World) : Prop where
  kc : PC wr w.heap.size K
  rc : PC wr (w.heap.size + 1) (t0, t0)
  fc : FC wr q D
  bel : Below w.heap.size w wr
theorem TpI.next {w : World} {q : Nat} {D : FuncId} {K : Tn × Tn} {wr w' : World} (h : TpI w q D K wr) (hb : Below wr.heap.size wr w') : TpI w q D K w' :=
  ⟨h.kc.below hb, h.rc.below hb, h.fc.below hb, h.bel.trans (hb.mono h.bel.size)⟩
theorem TpI.put {w : World} {q : Nat} {D : FuncId} {K : Tn × Tn} {wr : World} (h : TpI w q D K wr) (hq : q < w.heap.size) (U : Tn × Tn) : TpI w q D U (put4 wr w.heap.size U) :=
  ⟨h.kc.put U, h.rc.other (by omega) U, h.fc.other (by omega) U, put4_below U h.bel (Nat.le_refl _)⟩
theorem FC.new {w : World} {D : FuncId} {t : TypeId} {b : Nat} (hb : b = w.heap.size) : FC (w.alloc (.cells #[.func (.func D) #[] #[]] t)) b D := by
  subst hb
  exact ⟨by simp, by simp⟩
end Go.Proofs.YtjcnpjidkimldaaGreatDoor

namespace Go.Proofs.YtjcnpjidkimldaaGreatDoor
set_option linter.unusedSimpArgs false
set_option linter.unusedVariables false
set_option maxRecDepth 100000
open Go.ChangeShapes Go.WideShapes Go.ChangeAt Go.RowKit

/-- A span's cells in a block of the call's own. -/
structure BC (w : World) (b : Nat) (t : Tn) : Prop where
  lt : b < w.heap.size
  c0 : w.cell? ⟨b, 0, none⟩ = some (.int .u64 (ub t.1))
  c1 : w.cell? ⟨b, 1, none⟩ = some (.int .u64 (ub t.2))
  f0 : w.frozen? ⟨b, 0, none⟩ = false
  f1 : w.frozen? ⟨b, 1, none⟩ = false
theorem BC.below {w w' : World} {b : Nat} {t : Tn} (h : BC w b t) (hb : Below w.heap.size w w') : BC w' b t :=
  ⟨Nat.lt_of_lt_of_le h.lt hb.size, (hb.cell h.lt).trans h.c0, (hb.cell h.lt).trans h.c1, (hb.frozen (p := ⟨b, 0, none⟩) h.lt).trans h.f0, (hb.frozen (p := ⟨b, 1, none⟩) h.lt).trans h.f1⟩
theorem BC.new {w : World} {a : Tn} {t : TypeId} {b : Nat} (hb : b = w.heap.size) : BC (w.alloc (.cells #[.int .u64 (ub a.1), .int .u64 (ub a.2)] t)) b a := by
  subst hb
  exact ⟨by simp, by simp, by simp, by simp, by simp⟩
def put2 (w : World) (b : Nat) (u : Tn) : World := (w.setCell ⟨b, 0, none⟩ (.int .u64 (ub u.1))).setCell ⟨b, 1, none⟩ (.int .u64 (ub u.2))
theorem put2_heap (w : World) (b : Nat) (u : Tn) {b' : Nat} (h : b' ≠ b) : (put2 w b u).heap[b']? = w.heap[b']? := (Below.heap_setCell _ _ _ _ h).trans (Below.heap_setCell _ _ _ _ h)
theorem put2_size (w : World) (b : Nat) (u : Tn) : (put2 w b u).heap.size = w.heap.size := by unfold put2; simp
theorem BC.put {w : World} {b : Nat} {t : Tn} (h : BC w b t) (u : Tn) : BC (put2 w b u) b u := by
  unfold put2
  refine ⟨by simp; exact h.lt, ?_, ?_, by simp; exact h.f0, by simp; exact h.f1⟩
  · exact (World.cell?_setCell_other _ _ _ _ (by simp)).trans (World.cell?_setCell_same _ _ _ h.c0)
  · exact World.cell?_setCell_same _ _ _ ((World.cell?_setCell_other _ _ _ _ (by simp)).trans h.c1)
theorem BC.other {w : World} {b c : Nat} {t : Tn} (h : BC w b t) (hbc : b ≠ c) (u : Tn) : BC (put2 w c u) b t := by
  have e := put2_heap w c u hbc
  exact ⟨by rw [put2_size]; exact h.lt, (World.cell?_of_block (w := w) (a := ⟨b, 0, none⟩) e).trans h.c0, (World.cell?_of_block (w := w) (a := ⟨b, 1, none⟩) e).trans h.c1,
    (World.frozen?_of_block (w := w) (a := ⟨b, 0, none⟩) e).trans h.f0, (World.frozen?_of_block (w := w) (a := ⟨b, 1, none⟩) e).trans h.f1⟩
/-- The boxes of two spans, and of a result. -/
structure RI (w : World) (a b : Tn) (w' : World) : Prop where
  ca : BC w' w.heap.size a
  cb : BC w' (w.heap.size + 1) b
  rc : BC w' (w.heap.size + 1 + 1) t0
  bel : Below w.heap.size w w'
theorem RI.next {w : World} {a b : Tn} {w' w2 : World} (h : RI w a b w') (hb : Below w'.heap.size w' w2) : RI w a b w2 :=
  ⟨h.ca.below hb, h.cb.below hb, h.rc.below hb, h.bel.trans (hb.mono h.bel.size)⟩
theorem RI.start (w : World) (a b : Tn) (t t' t'' : TypeId) : RI w a b (((w.alloc (.cells #[.int .u64 (ub a.1), .int .u64 (ub a.2)] t)).alloc (.cells #[.int .u64 (ub b.1), .int .u64 (ub b.2)] t')).alloc (.cells #[.int .u64 0, .int .u64 0] t'')) := by
  have e1 := BC.new (w := w) (a := a) (t := t) rfl
  have s1 : (w.alloc (.cells #[.int .u64 (ub a.1), .int .u64 (ub a.2)] t)).heap.size = w.heap.size + 1 := by simp
  have b1 : Below w.heap.size w (w.alloc (.cells #[.int .u64 (ub a.1), .int .u64 (ub a.2)] t)) := (Below.refl _ _).alloc (Nat.le_refl _) _
  generalize w.alloc (.cells #[.int .u64 (ub a.1), .int .u64 (ub a.2)] t) = u1 at *
  have e2 := BC.new (w := u1) (a := b) (t := t') s1.symm
  have b2 : Below u1.heap.size u1 (u1.alloc (.cells #[.int .u64 (ub b.1), .int .u64 (ub b.2)] t')) := (Below.refl _ _).alloc (Nat.le_refl _) _
  have s2 : (u1.alloc (.cells #[.int .u64 (ub b.1), .int .u64 (ub b.2)] t')).heap.size = w.heap.size + 1 + 1 := by simp; omega
  generalize u1.alloc (.cells #[.int .u64 (ub b.1), .int .u64 (ub b.2)] t') = u2 at *
  have e3 : BC (u2.alloc (.cells #[.int .u64 0, .int .u64 0] t'')) (w.heap.size + 1 + 1) t0 := BC.new (w := u2) (a := t0) (t := t'') s2.symm
  have b3 : Below u2.heap.size u2 (u2.alloc (.cells #[.int .u64 0, .int .u64 0] t'')) := (Below.refl _ _).alloc (Nat.le_refl _) _
  exact ⟨(e1.below b2).below b3, e2.below b3, e3, (b1.trans (b2.mono b1.size)).trans (b3.mono (by omega))⟩
/-- A block that takes a result. -/
structure RsI (w : World) (r : Nat) (w' : World) : Prop where
  lt : r < w'.heap.size
  c0 : ∃ c, w'.cell? ⟨r, 0, none⟩ = some c
  c1 : ∃ c, w'.cell? ⟨r, 1, none⟩ = some c
  f0 : w'.frozen? ⟨r, 0, none⟩ = false
  f1 : w'.frozen? ⟨r, 1, none⟩ = false
  le : w.heap.size ≤ r
  bel : Below w.heap.size w w'
theorem RsI.next {w : World} {r : Nat} {w' w2 : World} (h : RsI w r w') (hb : Below w'.heap.size w' w2) : RsI w r w2 := by
  obtain ⟨h0, ⟨c0, h1⟩, ⟨c1, h2⟩, h3, h4, h6, h5⟩ := h
  exact ⟨Nat.lt_of_lt_of_le h0 hb.size, ⟨c0, (hb.cell h0).trans h1⟩, ⟨c1, (hb.cell h0).trans h2⟩, (hb.frozen (p := ⟨r, 0, none⟩) h0).trans h3, (hb.frozen (p := ⟨r, 1, none⟩) h0).trans h4, h6, h5.trans (hb.mono h5.size)⟩
theorem RsI.put {w : World} {r : Nat} {w' : World} (h : RsI w r w') (u v : Int) : RsI w r ((w'.setCell ⟨r, 0, none⟩ (.int .u64 u)).setCell ⟨r, 1, none⟩ (.int .u64 v)) := by
  obtain ⟨h0, ⟨c0, h1⟩, ⟨c1, h2⟩, h3, h4, h6, h5⟩ := h
  refine ⟨by simp; exact h0, ⟨.int .u64 u, ?_⟩, ⟨.int .u64 v, ?_⟩, by simp; exact h3, by simp; exact h4, h6, (h5.setCell (p := ⟨r, 0, none⟩) h6 _).setCell (p := ⟨r, 1, none⟩) h6 _⟩
  · exact (World.cell?_setCell_other _ _ _ _ (by simp)).trans (World.cell?_setCell_same _ _ _ h1)
  · exact World.cell?_setCell_same _ _ _ ((World.cell?_setCell_other _ _ _ _ (by simp)).trans h2)
theorem RI.res {w : World} {a b : Tn} {w' : World} (h : RI w a b w') : RsI w (w.heap.size + 1 + 1) w' := ⟨h.rc.lt, ⟨_, h.rc.c0⟩, ⟨_, h.rc.c1⟩, h.rc.f0, h.rc.f1, by omega, h.bel⟩
end Go.Proofs.YtjcnpjidkimldaaGreatDoor
