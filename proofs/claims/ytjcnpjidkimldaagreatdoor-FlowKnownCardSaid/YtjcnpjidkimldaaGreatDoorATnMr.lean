/-
  Contracts of the document's Mark, bit and Made. Contracts of the document's Moved. Plain numbers: what is moved bit by bit is what is shifted and cut. Plain numbers: what meets, joins and spans hold; being in as an order. Plain: the sign again, step by step; what is fitted. Plain: shifted and cut tnums hold the shifted and cut numbers.
-/
import Derived.Test.YtjcnpjidkimldaaGreatDoorATnH
import Derived.Test.YtjcnpjidkimldaaGreatDoorATnU
import Derived.Deep.MidRow
import Derived.Deep.WholeRow
namespace Go.Proofs.YtjcnpjidkimldaaGreatDoor
set_option linter.unusedSimpArgs false
set_option linter.unusedVariables false
set_option maxRecDepth 100000
open Go.ChangeShapes Go.WideShapes Go.ChangeAt Go.RowKit

/-- An array of 64 marks, as the program has it. -/
def mL (z o : Nat → Bool) : List Value := (List.range 64).map fun i => Value.int .i64 (mM (z i) (o i))
/-- A block of 64 marks of the call's own. -/
def AR (w : World) (b : Nat) (z o : Nat → Bool) : Prop := b < w.heap.size ∧ ∀ i, i < 64 → w.cell? ⟨b, i, none⟩ = some (.int .i64 (mM (z i) (o i))) ∧ w.frozen? ⟨b, i, none⟩ = false
theorem mL_get (z o : Nat → Bool) (i : Nat) (hi : i < 64) : (mL z o).toArray[i]? = some (.int .i64 (mM (z i) (o i))) := by
  unfold mL
  simp [hi]
theorem mL_len (z o : Nat → Bool) : (mL z o).length = 64 := by simp [mL]
theorem AR.below {w w' : World} {b : Nat} {z o : Nat → Bool} (h : AR w b z o) (hb : Below w.heap.size w w') : AR w' b z o :=
  ⟨Nat.lt_of_lt_of_le h.1 hb.size, fun i hi => ⟨(hb.cell (p := ⟨b, i, none⟩) h.1).trans (h.2 i hi).1, (hb.frozen (p := ⟨b, i, none⟩) h.1).trans (h.2 i hi).2⟩⟩
def upd (f : Nat → Bool) (i : Nat) (v : Bool) : Nat → Bool := fun j => if j = i then v else f j
theorem AR.put {w : World} {b : Nat} {z o : Nat → Bool} (h : AR w b z o) (k : Nat) (hk : k < 64) (zv ov : Bool) : AR (w.setCell ⟨b, k, none⟩ (.int .i64 (mM zv ov))) b (upd z k zv) (upd o k ov) := by
  refine ⟨by simp; exact h.1, fun i hi => ⟨?_, by rw [World.frozen?_setCell]; exact (h.2 i hi).2⟩⟩
  by_cases hik : i = k
  · subst hik
    simp only [upd, if_true]
    exact World.cell?_setCell_same _ _ _ (h.2 i hi).1
  · simp only [upd, if_neg hik]
    exact (World.cell?_setCell_other _ _ _ _ (by simp; try omega)).trans (h.2 i hi).1
theorem AR.range {w : World} {b : Nat} {z o : Nat → Bool} (h : AR w b z o) : w.rangeAt b 0 (mL z o) := by
  intro i v hv
  have hi : i < 64 := by
    have := List.getElem?_eq_some_iff.1 hv
    obtain ⟨h1, _⟩ := this
    rwa [mL_len] at h1
  rw [Nat.zero_add]
  have h2 := mL_get z o i hi
  rw [List.getElem?_toArray] at h2
  rw [h2] at hv
  rw [← hv]
  exact (h.2 i hi).1
structure MdI (w : World) (z o : Nat → Bool) (k : Nat) (wr : World) : Prop where
  box : AR wr w.heap.size z o
  res : TB wr (w.heap.size + 1) t0
  acc : TB wr (w.heap.size + 1 + 1) (madeV z o k, madeM z o k)
  bel : Below w.heap.size w wr
theorem AR.other {w : World} {b c : Nat} {z o : Nat → Bool} (h : AR w b z o) (hbc : b ≠ c) (j : Nat) (u : Value) : AR (w.setCell ⟨c, j, none⟩ u) b z o := by
  have e : (w.setCell ⟨c, j, none⟩ u).heap[b]? = w.heap[b]? := Below.heap_setCell _ _ _ _ hbc
  exact ⟨by simp; exact h.1, fun i hi => ⟨(World.cell?_of_block (w := w) (a := ⟨b, i, none⟩) e).trans (h.2 i hi).1, (World.frozen?_of_block (w := w) (a := ⟨b, i, none⟩) e).trans (h.2 i hi).2⟩⟩
theorem TB.other1 {w : World} {b c : Nat} {t : Tn} (h : TB w b t) (hbc : b ≠ c) (j : Nat) (u : Value) : TB (w.setCell ⟨c, j, none⟩ u) b t := by
  obtain ⟨⟨h0, h1, h2⟩, h3, h4⟩ := h
  have e : (w.setCell ⟨c, j, none⟩ u).heap[b]? = w.heap[b]? := Below.heap_setCell _ _ _ _ hbc
  exact ⟨⟨by simp; exact h0, (World.cell?_of_block (w := w) (a := ⟨b, 0, none⟩) e).trans h1, (World.cell?_of_block (w := w) (a := ⟨b, 1, none⟩) e).trans h2⟩, (World.frozen?_of_block (w := w) (a := ⟨b, 0, none⟩) e).trans h3, (World.frozen?_of_block (w := w) (a := ⟨b, 1, none⟩) e).trans h4⟩
theorem TB.put2 {w : World} {b : Nat} {t : Tn} (h : TB w b t) (x : B64) : TB (w.setCell ⟨b, 1, none⟩ (.int .u64 (ub x))) b (t.1, x) := by
  obtain ⟨⟨h0, h1, h2⟩, h3, h4⟩ := h
  exact ⟨⟨by simp; exact h0, (World.cell?_setCell_other _ _ _ _ (by simp)).trans h1, World.cell?_setCell_same _ _ _ h2⟩, by simp; exact h3, by simp; exact h4⟩
theorem MdI.step {w : World} {z o : Nat → Bool} {k : Nat} {wr : World} (h : MdI w z o k wr) (h1 : (!z k && o k) = false) (h2 : (z k && o k) = false) : MdI w z o (k + 1) wr := by
  have e : (madeV z o (k + 1), madeM z o (k + 1)) = (madeV z o k, madeM z o k) := by rw [madeV, madeM, h1, h2]; rfl
  exact ⟨h.box, h.res, e ▸ h.acc, h.bel⟩
theorem AR.new {w : World} {z o : Nat → Bool} {A : Array Value} {t : TypeId} {b : Nat} (hA : A = (mL z o).toArray) (hb : b = w.heap.size) : AR (w.alloc (.cells A t)) b z o := by
  subst hb hA
  refine ⟨by simp, fun i hi => ⟨?_, by simp⟩⟩
  have h : (w.alloc (.cells (mL z o).toArray t)).heap[w.heap.size]? = some (.cells (mL z o).toArray t (0, 0)) := heap_alloc_new w _
  simp only [World.cell?, h]
  exact mL_get z o i hi
end Go.Proofs.YtjcnpjidkimldaaGreatDoor

namespace Go.Proofs.YtjcnpjidkimldaaGreatDoor
set_option linter.unusedSimpArgs false
set_option linter.unusedVariables false
set_option maxRecDepth 100000
open Go.ChangeShapes Go.WideShapes Go.ChangeAt Go.RowKit

theorem at_load {P : Program} {ops : Array Oper} {Q : Exit → Act → World → Prop} {rest : List Oper} {a : Act} {w : World} {d : Option Tmp} {x : Operand} {ty : TypeId} {ps : String} {af : Array Edge} {gd : Option (Tmp × Bool)} (T : TypeId)
    (h : wpList P ops Q (⟨d, .load T x, ty, ps, af, gd⟩ :: rest) a w) : wpList P ops Q (⟨d, .load T x, ty, ps, af, gd⟩ :: rest) a w := h
/-- The first k, and no more. -/
def pref (f : Nat → Bool) (k : Nat) : Nat → Bool := fun j => decide (j < k) && f j
theorem pref_up (f : Nat → Bool) (k : Nat) (v : Bool) (hv : v = f k) : upd (pref f k) k v = pref f (k + 1) := by
  funext j
  unfold upd pref
  by_cases h : j = k
  · subst h hv; simp
  · have : (j < k + 1) ↔ (j < k) := by omega
    simp [h, this]
theorem AR.zero {w : World} {A : Array Value} {t : TypeId} {b : Nat} (hA : ∀ i, i < 64 → A[i]? = some (.int .i64 0)) (hb : b = w.heap.size) : AR (w.alloc (.cells A t)) b (fun _ => false) (fun _ => false) := by
  subst hb
  refine ⟨by simp, fun i hi => ⟨?_, by simp⟩⟩
  have h : (w.alloc (.cells A t)).heap[w.heap.size]? = some (.cells A t (0, 0)) := heap_alloc_new w _
  simp only [World.cell?, h]
  exact hA i hi
structure MvI (w : World) (a : Tn) (z o : Nat → Bool) (k : Nat) (wr : World) : Prop where
  box : TC wr w.heap.size a
  res : TB wr (w.heap.size + 1) t0
  arr : AR wr (w.heap.size + 1 + 1) (pref z k) (pref o k)
  bel : Below w.heap.size w wr
theorem MvI.next {w : World} {a : Tn} {z o : Nat → Bool} {k : Nat} {wr w' : World} (h : MvI w a z o k wr) (hb : Below wr.heap.size wr w') : MvI w a z o k w' :=
  ⟨h.box.below hb, h.res.below hb, h.arr.below hb, h.bel.trans (hb.mono h.bel.size)⟩
theorem MvI.put {w : World} {a : Tn} {z o : Nat → Bool} {k : Nat} {wr : World} (h : MvI w a z o k wr) (hk : k < 64) (zv ov : Bool) (hz : zv = z k) (ho : ov = o k) (u : Value) (hu : u = .int .i64 (mM zv ov)) : MvI w a z o (k + 1) (wr.setCell ⟨w.heap.size + 1 + 1, k, none⟩ u) := by
  subst hu
  have e : TC (wr.setCell ⟨w.heap.size + 1 + 1, k, none⟩ (.int .i64 (mM zv ov))) w.heap.size a := by
    obtain ⟨h0, h1, h2⟩ := h.box
    have e : (wr.setCell ⟨w.heap.size + 1 + 1, k, none⟩ (.int .i64 (mM zv ov))).heap[w.heap.size]? = wr.heap[w.heap.size]? := Below.heap_setCell _ _ _ _ (by simp; omega)
    exact ⟨by simp; exact h0, (World.cell?_of_block (w := wr) (a := ⟨w.heap.size, 0, none⟩) e).trans h1, (World.cell?_of_block (w := wr) (a := ⟨w.heap.size, 1, none⟩) e).trans h2⟩
  refine ⟨e, h.res.other1 (by omega) _ _, ?_, h.bel.setCell (by simp; omega) _⟩
  have := h.arr.put k hk zv ov
  rwa [pref_up z k zv hz, pref_up o k ov ho] at this
end Go.Proofs.YtjcnpjidkimldaaGreatDoor

namespace Go.Proofs.YtjcnpjidkimldaaGreatDoor
set_option linter.unusedSimpArgs false
set_option linter.unusedVariables false
set_option maxRecDepth 100000
open Go.RowKit

end Go.Proofs.YtjcnpjidkimldaaGreatDoor

namespace Go.Proofs.YtjcnpjidkimldaaGreatDoor
set_option linter.unusedSimpArgs false
set_option linter.unusedVariables false
set_option maxRecDepth 100000
open Go.RowKit

theorem hs_iff (t : Tn) (x : B64) : Hs t x ↔ ∀ i, i < 64 → bt t.1 i = (bt x i && !bt t.2 i) :=
  ⟨fun h i hi => hs_bit h i hi, fun h => b_ext fun i hi => by rw [bt_and, bt_not _ _ hi, h i hi]⟩
theorem may_of {t : Tn} (h : ∀ i, i < 64 → (bt t.1 i && bt t.2 i) = false) : tmay t = true := by
  unfold tmay
  rw [beq_iff_eq]
  exact b_ext fun i hi => by rw [bt_and, bt_zero, h i hi]
theorem meetB_iff {a b : Tn} (ha : tmay a = true) (hb : tmay b = true) : meetB a b = true ↔ ∀ i, i < 64 → ((bt a.1 i ^^ bt b.1 i) && !bt a.2 i && !bt b.2 i) = false := by
  unfold meetB
  rw [ha, hb, Bool.true_and, Bool.true_and, Bool.and_eq_true, tin_iff, tin_iff]
  constructor
  · rintro ⟨⟨_, _, _, h1⟩, ⟨_, _, _, h2⟩⟩ i hi
    have e1 := hs_bit h1 i hi
    have e2 := hs_bit h2 i hi
    unfold meetT at e1 e2
    simp only [bt_or] at e1 e2
    revert e1 e2
    cases bt a.1 i <;> cases bt a.2 i <;> cases bt b.1 i <;> cases bt b.2 i <;> simp
  · intro h
    have hm : tmay (meetT a b) = true := may_of fun i hi => by
      unfold meetT
      simp only [bt_or, bt_and]
      have := may_bit ha i
      have := may_bit hb i
      revert this; revert this
      cases bt a.1 i <;> cases bt a.2 i <;> cases bt b.1 i <;> cases bt b.2 i <;> simp
    refine ⟨⟨hm, ha, fun i hi => ?_, (hs_iff _ _).2 fun i hi => ?_⟩, ⟨hm, hb, fun i hi => ?_, (hs_iff _ _).2 fun i hi => ?_⟩⟩
    · unfold meetT; simp only [bt_and]; cases bt a.2 i <;> simp
    · have e := h i hi
      have m1 := may_bit ha i
      have m2 := may_bit hb i
      unfold meetT; simp only [bt_or]
      revert e m1 m2
      cases bt a.1 i <;> cases bt a.2 i <;> cases bt b.1 i <;> cases bt b.2 i <;> simp
    · unfold meetT; simp only [bt_and]; cases bt a.2 i <;> cases bt b.2 i <;> simp
    · have e := h i hi
      have m1 := may_bit ha i
      have m2 := may_bit hb i
      unfold meetT; simp only [bt_or]
      revert e m1 m2
      cases bt a.1 i <;> cases bt a.2 i <;> cases bt b.1 i <;> cases bt b.2 i <;> simp
/-- How many of the lowest bits lo and hi do not share. -/
def LL (lo hi : B64) : Nat := Lib.bitLen (lo ^^^ hi).toNat
def rgT (lo hi : B64) : Tn := butT lo (lowB (LL lo hi))
theorem rg_may (lo hi : B64) : tmay (rgT lo hi) = true := but_may _ _
end Go.Proofs.YtjcnpjidkimldaaGreatDoor

namespace Go.Proofs.YtjcnpjidkimldaaGreatDoor
set_option linter.unusedSimpArgs false
set_option linter.unusedVariables false
set_option maxRecDepth 100000
open Go.ChangeShapes Go.WideShapes Go.ChangeAt Go.RowKit

end Go.Proofs.YtjcnpjidkimldaaGreatDoor

namespace Go.Proofs.YtjcnpjidkimldaaGreatDoor
set_option linter.unusedSimpArgs false
set_option linter.unusedVariables false
set_option maxRecDepth 100000
open Go.ChangeShapes Go.WideShapes Go.ChangeAt Go.RowKit

end Go.Proofs.YtjcnpjidkimldaaGreatDoor
