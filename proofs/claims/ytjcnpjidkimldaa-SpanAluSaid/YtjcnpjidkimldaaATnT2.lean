/-
  Contracts of the document's Has, Free and In. Contract of the document's Join.
-/
import Derived.Test.YtjcnpjidkimldaaATnX
import Derived.Deep.RegionHeld3
import Derived.Deep.RegionLaw
namespace Go.Proofs.Ytjcnpjidkimldaa
set_option linter.unusedSimpArgs false
set_option linter.unusedVariables false
set_option maxRecDepth 100000
open Go.ChangeShapes Go.WideShapes Go.ChangeAt Go.RowKit

@[go_sem] theorem mM_and1 (z o : Bool) : bits .and .i64 (mM z o) 1 = mM z false := by cases z <;> cases o <;> kernel_rfl
@[go_sem] theorem mM_and2 (z o : Bool) : bits .and .i64 (mM z o) 2 = mM false o := by cases z <;> cases o <;> kernel_rfl
/-- Whether a bit of a number may be one of a tnum's. -/
def hb (a : Tn) (n : B64) (i : Nat) : Bool := if bt n i then ko a i else kz a i
structure BxI (w : World) (a : Tn) (wr : World) : Prop where
  ca : TC wr w.heap.size a
  bel : Below w.heap.size w wr
theorem BxI.next {w : World} {a : Tn} {wr w' : World} (h : BxI w a wr) (hb : Below wr.heap.size wr w') : BxI w a w' := ⟨h.ca.below hb, h.bel.trans (hb.mono h.bel.size)⟩
end Go.Proofs.Ytjcnpjidkimldaa

namespace Go.Proofs.Ytjcnpjidkimldaa
set_option linter.unusedSimpArgs false
set_option linter.unusedVariables false
set_option maxRecDepth 100000
open Go.ChangeShapes Go.WideShapes Go.ChangeAt Go.RowKit

structure J2 (w : World) (a b : Tn) (g : Nat) (z o : Nat → Bool) (k : Nat) (wr : World) : Prop where
  ca : TC wr w.heap.size a
  cb : TC wr (w.heap.size + 1) b
  res : TB wr (w.heap.size + 1 + 1) t0
  arr : AR wr g (pref z k) (pref o k)
  bel : Below w.heap.size w wr
  big : w.heap.size + 1 + 1 < g
theorem J2.next {w : World} {a b : Tn} {g : Nat} {z o : Nat → Bool} {k : Nat} {wr w' : World} (h : J2 w a b g z o k wr) (hb : Below wr.heap.size wr w') : J2 w a b g z o k w' :=
  ⟨h.ca.below hb, h.cb.below hb, h.res.below hb, h.arr.below hb, h.bel.trans (hb.mono h.bel.size), h.big⟩
theorem TC.other {w : World} {b c : Nat} {t : Tn} (h : TC w b t) (hbc : b ≠ c) (j : Nat) (u : Value) : TC (w.setCell ⟨c, j, none⟩ u) b t := by
  obtain ⟨h0, h1, h2⟩ := h
  have e : (w.setCell ⟨c, j, none⟩ u).heap[b]? = w.heap[b]? := Below.heap_setCell _ _ _ _ hbc
  exact ⟨by simp; exact h0, (World.cell?_of_block (w := w) (a := ⟨b, 0, none⟩) e).trans h1, (World.cell?_of_block (w := w) (a := ⟨b, 1, none⟩) e).trans h2⟩
theorem J2.put {w : World} {a b : Tn} {g : Nat} {z o : Nat → Bool} {k : Nat} {wr : World} (h : J2 w a b g z o k wr) (hk : k < 64) (m : Int) (hm : m = mM (z k) (o k)) : J2 w a b g z o (k + 1) (wr.setCell ⟨g, k, none⟩ (.int .i64 m)) := by
  subst hm
  have hbig := h.big
  refine ⟨h.ca.other (by omega) _ _, h.cb.other (by omega) _ _, h.res.other1 (by omega) _ _, ?_, h.bel.setCell (by simp; omega) _, h.big⟩
  have := h.arr.put k hk (z k) (o k)
  rwa [pref_up z k _ rfl, pref_up o k _ rfl] at this
end Go.Proofs.Ytjcnpjidkimldaa
