/-
  Contracts of package tnum's Mul and Meet, as the landed code has them.
-/
import Derived.Test.YtjcnpjidkimldaaATnF
import Derived.Deep.RegionLaw
namespace Go.Proofs.Ytjcnpjidkimldaa
set_option linter.unusedSimpArgs false
set_option linter.unusedVariables false
set_option maxRecDepth 100000
open Go.ChangeShapes Go.WideShapes Go.ChangeAt Go.RowKit

/-- A block of the call's own that holds a tnum. -/
def TB (w : World) (b : Nat) (t : Tn) : Prop := TC w b t ∧ w.frozen? ⟨b, 0, none⟩ = false ∧ w.frozen? ⟨b, 1, none⟩ = false
theorem TB.below {w w' : World} {b : Nat} {t : Tn} (h : TB w b t) (hb : Below w.heap.size w w') : TB w' b t :=
  ⟨h.1.below hb, (hb.frozen (p := ⟨b, 0, none⟩) h.1.1).trans h.2.1, (hb.frozen (p := ⟨b, 1, none⟩) h.1.1).trans h.2.2⟩
theorem TB.new {w : World} {a : Tn} {t : TypeId} {b : Nat} (hb : b = w.heap.size) : TB (w.alloc (.cells #[.int .u64 (ub a.1), .int .u64 (ub a.2)] t)) b a :=
  ⟨TC.new hb, by subst hb; simp, by subst hb; simp⟩
theorem TB.put {w : World} {b : Nat} {t : Tn} (h : TB w b t) (u : Tn) : TB ((w.setCell ⟨b, 0, none⟩ (.int .u64 (ub u.1))).setCell ⟨b, 1, none⟩ (.int .u64 (ub u.2))) b u := by
  obtain ⟨⟨h0, h1, h2⟩, h3, h4⟩ := h
  refine ⟨⟨by simp; exact h0, ?_, ?_⟩, by simp; exact h3, by simp; exact h4⟩
  · exact (World.cell?_setCell_other _ _ _ _ (by simp)).trans (World.cell?_setCell_same _ _ _ h1)
  · exact World.cell?_setCell_same _ _ _ ((World.cell?_setCell_other _ _ _ _ (by simp)).trans h2)
theorem TB.other {w : World} {b c : Nat} {t : Tn} (h : TB w b t) (hbc : b ≠ c) (u v : Value) : TB ((w.setCell ⟨c, 0, none⟩ u).setCell ⟨c, 1, none⟩ v) b t := by
  obtain ⟨⟨h0, h1, h2⟩, h3, h4⟩ := h
  have e : ∀ b', b' ≠ c → ((w.setCell ⟨c, 0, none⟩ u).setCell ⟨c, 1, none⟩ v).heap[b']? = w.heap[b']? := fun b' hb' => (Below.heap_setCell _ _ _ _ hb').trans (Below.heap_setCell _ _ _ _ hb')
  refine ⟨⟨by simp; exact h0, ?_, ?_⟩, ?_, ?_⟩
  · exact (World.cell?_of_block (w := w) (a := ⟨b, 0, none⟩) (e b hbc)).trans h1
  · exact (World.cell?_of_block (w := w) (a := ⟨b, 1, none⟩) (e b hbc)).trans h2
  · exact (World.frozen?_of_block (w := w) (a := ⟨b, 0, none⟩) (e b hbc)).trans h3
  · exact (World.frozen?_of_block (w := w) (a := ⟨b, 1, none⟩) (e b hbc)).trans h4

theorem TC.put {w : World} {g c : Nat} {t : Tn} (h : TC w g t) (hgc : g ≠ c) (u v : Value) : TC ((w.setCell ⟨c, 0, none⟩ u).setCell ⟨c, 1, none⟩ v) g t := by
  obtain ⟨h0, h1, h2⟩ := h
  have e : ((w.setCell ⟨c, 0, none⟩ u).setCell ⟨c, 1, none⟩ v).heap[g]? = w.heap[g]? := (Below.heap_setCell _ _ _ _ hgc).trans (Below.heap_setCell _ _ _ _ hgc)
  exact ⟨by simp; exact h0, (World.cell?_of_block (w := w) (a := ⟨g, 0, none⟩) e).trans h1, (World.cell?_of_block (w := w) (a := ⟨g, 1, none⟩) e).trans h2⟩
structure MuI (w : World) (p q : Nat) (a b : Tn) (b3 : Nat) (t : Tn) (wr : World) : Prop where
  ca : TC wr p a
  cb : TC wr q b
  res : TB wr w.heap.size t0
  acc : TB wr b3 t
  bel : Below w.heap.size w wr
  n1 : w.heap.size < b3
theorem MuI.next {w : World} {p q : Nat} {a b : Tn} {b3 : Nat} {t : Tn} {wr w' : World} (h : MuI w p q a b b3 t wr) (hb : Below wr.heap.size wr w') : MuI w p q a b b3 t w' :=
  ⟨h.ca.below hb, h.cb.below hb, h.res.below hb, h.acc.below hb, h.bel.trans (hb.mono h.bel.size), h.n1⟩
theorem MuI.put {w : World} {p q : Nat} {a b : Tn} {b3 : Nat} {t : Tn} {wr : World} (h : MuI w p q a b b3 t wr) (hp : p < w.heap.size) (hq : q < w.heap.size) (u : Tn) :
    MuI w p q a b b3 u ((wr.setCell ⟨b3, 0, none⟩ (.int .u64 (ub u.1))).setCell ⟨b3, 1, none⟩ (.int .u64 (ub u.2))) := by
  have hn := h.n1
  have e : ∀ b', b' ≠ b3 → ((wr.setCell ⟨b3, 0, none⟩ (.int .u64 (ub u.1))).setCell ⟨b3, 1, none⟩ (.int .u64 (ub u.2))).heap[b']? = wr.heap[b']? := fun b' hb' => (Below.heap_setCell _ _ _ _ hb').trans (Below.heap_setCell _ _ _ _ hb')
  refine ⟨⟨by simp; exact h.ca.1, ?_, ?_⟩, ⟨by simp; exact h.cb.1, ?_, ?_⟩, h.res.other (by omega) _ _, h.acc.put u, (h.bel.setCell (Nat.le_of_lt hn) _).setCell (Nat.le_of_lt hn) _, hn⟩
  · exact (World.cell?_of_block (w := wr) (a := ⟨p, 0, none⟩) (e p (by omega))).trans h.ca.2.1
  · exact (World.cell?_of_block (w := wr) (a := ⟨p, 1, none⟩) (e p (by omega))).trans h.ca.2.2
  · exact (World.cell?_of_block (w := wr) (a := ⟨q, 0, none⟩) (e q (by omega))).trans h.cb.2.1
  · exact (World.cell?_of_block (w := wr) (a := ⟨q, 1, none⟩) (e q (by omega))).trans h.cb.2.2
end Go.Proofs.Ytjcnpjidkimldaa
