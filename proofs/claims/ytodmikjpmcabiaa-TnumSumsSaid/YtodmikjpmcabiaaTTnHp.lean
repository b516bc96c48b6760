/-
  Contracts of the document's Mark, bit and Made. Contracts of the document's Moved. Plain numbers: what is moved bit by bit is what is shifted and cut. Plain numbers: what meets, joins and spans hold; being in as an order.
-/
import Derived.Test.YtodmikjpmcabiaaTTnG
import Derived.Test.YtodmikjpmcabiaaTTnU
import Derived.Test.YtodmikjpmcabiaaTTnH
import Derived.Deep.MidRow
import Derived.Deep.WholeRow
namespace Go.Proofs.Ytodmikjpmcabiaa
set_option linter.unusedSimpArgs false
set_option linter.unusedVariables false
set_option maxRecDepth 100000
open Go.ChangeShapes Go.WideShapes Go.ChangeAt Go.RowKit

theorem rMark_any (a : Tn) (i : Nat) (hi : i < 64) (w : World) : Calls Try.prog 64 #[tv a, .int .i64 (i : Int)] w fun e w' => e = .returned (.int .i64 (mk a i)) ∧ Below w.heap.size w w' := by
  obtain ⟨v, m⟩ := a
  unfold mk kz ko tv
  have hi' : (i : Int) < 64 := by omega
  cases h2 : bt m i
  · cases h1 : bt v i
    · go_enter Try.func64, Try.ntmps64
      go_wp2
      go_ret
      exact ⟨rfl, (Below.refl _ _).alloc (Nat.le_refl _) _⟩
    · go_enter Try.func64, Try.ntmps64
      go_wp2
      go_ret
      exact ⟨rfl, (Below.refl _ _).alloc (Nat.le_refl _) _⟩
  · go_enter Try.func64, Try.ntmps64
    go_wp2
    go_ret
    exact ⟨by simp [mM], (Below.refl _ _).alloc (Nat.le_refl _) _⟩
/-- An array of 64 marks, as the program has it. -/
def mL (z o : Nat → Bool) : List Value := (List.range 64).map fun i => Value.int .i64 (mM (z i) (o i))
/-- A block of 64 marks of the call's own. -/
def AR (w : World) (b : Nat) (z o : Nat → Bool) : Prop := b < w.heap.size ∧ ∀ i, i < 64 → w.cell? ⟨b, i, none⟩ = some (.int .i64 (mM (z i) (o i))) ∧ w.frozen? ⟨b, i, none⟩ = false
theorem mL_get (z o : Nat → Bool) (i : Nat) (hi : i < 64) : (mL z o).toArray[i]? = some (.int .i64 (mM (z i) (o i))) := by
  unfold mL
  simp [hi]
theorem mL_len (z o : Nat → Bool) : (mL z o).length = 64 := by simp [mL]
theorem AR.below {w w' : World} {b : Nat} {z o : Nat → Bool} (h : AR w b z o) (hb : Below w.heap.size w w') : AR w' b z o :=
  ⟨Nat.lt_of_lt_of_le h.1 hb.size, fun i hi => ⟨(hb.cell (p := ⟨b, i, none⟩) h.1).trans (h.2 i hi).1, (hb.frozen (p := ⟨b, i, none⟩) h.1).trans (h.2 i hi).2⟩⟩
def upd (f : Nat → Bool) (i : Nat) (v : Bool) : Nat → Bool := fun j => if j = i then v else f j
theorem AR.put {w : World} {b : Nat} {z o : Nat → Bool} (h : AR w b z o) (k : Nat) (hk : k < 64) (zv ov : Bool) : AR (w.setCell ⟨b, k, none⟩ (.int .i64 (mM zv ov))) b (upd z k zv) (upd o k ov) := by
  refine ⟨by simp; exact h.1, fun i hi => ⟨?_, by rw [World.frozen?_setCell]; exact (h.2 i hi).2⟩⟩
  by_cases hik : i = k
  · subst hik
    simp only [upd, if_true]
    exact World.cell?_setCell_same _ _ _ (h.2 i hi).1
  · simp only [upd, if_neg hik]
    exact (World.cell?_setCell_other _ _ _ _ (by simp; try omega)).trans (h.2 i hi).1
theorem AR.range {w : World} {b : Nat} {z o : Nat → Bool} (h : AR w b z o) : w.rangeAt b 0 (mL z o) := by
  intro i v hv
  have hi : i < 64 := by
    have := List.getElem?_eq_some_iff.1 hv
    obtain ⟨h1, _⟩ := this
    rwa [mL_len] at h1
  rw [Nat.zero_add]
  have h2 := mL_get z o i hi
  rw [List.getElem?_toArray] at h2
  rw [h2] at hv
  rw [← hv]
  exact (h.2 i hi).1
structure MdI (w : World) (z o : Nat → Bool) (k : Nat) (wr : World) : Prop where
  box : AR wr w.heap.size z o
  res : TB wr (w.heap.size + 1) t0
  acc : TB wr (w.heap.size + 1 + 1) (madeV z o k, madeM z o k)
  bel : Below w.heap.size w wr
theorem AR.other {w : World} {b c : Nat} {z o : Nat → Bool} (h : AR w b z o) (hbc : b ≠ c) (j : Nat) (u : Value) : AR (w.setCell ⟨c, j, none⟩ u) b z o := by
  have e : (w.setCell ⟨c, j, none⟩ u).heap[b]? = w.heap[b]? := Below.heap_setCell _ _ _ _ hbc
  exact ⟨by simp; exact h.1, fun i hi => ⟨(World.cell?_of_block (w := w) (a := ⟨b, i, none⟩) e).trans (h.2 i hi).1, (World.frozen?_of_block (w := w) (a := ⟨b, i, none⟩) e).trans (h.2 i hi).2⟩⟩
theorem TB.other1 {w : World} {b c : Nat} {t : Tn} (h : TB w b t) (hbc : b ≠ c) (j : Nat) (u : Value) : TB (w.setCell ⟨c, j, none⟩ u) b t := by
  obtain ⟨⟨h0, h1, h2⟩, h3, h4⟩ := h
  have e : (w.setCell ⟨c, j, none⟩ u).heap[b]? = w.heap[b]? := Below.heap_setCell _ _ _ _ hbc
  exact ⟨⟨by simp; exact h0, (World.cell?_of_block (w := w) (a := ⟨b, 0, none⟩) e).trans h1, (World.cell?_of_block (w := w) (a := ⟨b, 1, none⟩) e).trans h2⟩, (World.frozen?_of_block (w := w) (a := ⟨b, 0, none⟩) e).trans h3, (World.frozen?_of_block (w := w) (a := ⟨b, 1, none⟩) e).trans h4⟩
theorem TB.put1 {w : World} {b : Nat} {t : Tn} (h : TB w b t) (x : B64) : TB (w.setCell ⟨b, 0, none⟩ (.int .u64 (ub x))) b (x, t.2) := by
  obtain ⟨⟨h0, h1, h2⟩, h3, h4⟩ := h
  exact ⟨⟨by simp; exact h0, World.cell?_setCell_same _ _ _ h1, (World.cell?_setCell_other _ _ _ _ (by simp)).trans h2⟩, by simp; exact h3, by simp; exact h4⟩
theorem TB.put2 {w : World} {b : Nat} {t : Tn} (h : TB w b t) (x : B64) : TB (w.setCell ⟨b, 1, none⟩ (.int .u64 (ub x))) b (t.1, x) := by
  obtain ⟨⟨h0, h1, h2⟩, h3, h4⟩ := h
  exact ⟨⟨by simp; exact h0, (World.cell?_setCell_other _ _ _ _ (by simp)).trans h1, World.cell?_setCell_same _ _ _ h2⟩, by simp; exact h3, by simp; exact h4⟩
theorem MdI.step {w : World} {z o : Nat → Bool} {k : Nat} {wr : World} (h : MdI w z o k wr) (h1 : (!z k && o k) = false) (h2 : (z k && o k) = false) : MdI w z o (k + 1) wr := by
  have e : (madeV z o (k + 1), madeM z o (k + 1)) = (madeV z o k, madeM z o k) := by rw [madeV, madeM, h1, h2]; rfl
  exact ⟨h.box, h.res, e ▸ h.acc, h.bel⟩
theorem MdI.step1 {w : World} {z o : Nat → Bool} {k : Nat} {wr : World} (h : MdI w z o k wr) (h1 : (!z k && o k) = true) (h2 : (z k && o k) = false) : MdI w z o (k + 1) (wr.setCell ⟨w.heap.size + 1 + 1, 0, none⟩ (.int .u64 (ub (madeV z o k + 1#64 <<< k)))) := by
  have e : (madeV z o (k + 1), madeM z o (k + 1)) = (madeV z o k + 1#64 <<< k, madeM z o k) := by rw [madeV, madeM, h1, h2]; rfl
  exact ⟨h.box.other (by omega) _ _, h.res.other1 (by omega) _ _, e ▸ h.acc.put1 _, h.bel.setCell (by simp; omega) _⟩
theorem MdI.step2 {w : World} {z o : Nat → Bool} {k : Nat} {wr : World} (h : MdI w z o k wr) (h1 : (!z k && o k) = false) (h2 : (z k && o k) = true) : MdI w z o (k + 1) (wr.setCell ⟨w.heap.size + 1 + 1, 1, none⟩ (.int .u64 (ub (madeM z o k + 1#64 <<< k)))) := by
  have e : (madeV z o (k + 1), madeM z o (k + 1)) = (madeV z o k, madeM z o k + 1#64 <<< k) := by rw [madeV, madeM, h1, h2]; rfl
  exact ⟨h.box.other (by omega) _ _, h.res.other1 (by omega) _ _, e ▸ h.acc.put2 _, h.bel.setCell (by simp; omega) _⟩
theorem AR.new {w : World} {z o : Nat → Bool} {A : Array Value} {t : TypeId} {b : Nat} (hA : A = (mL z o).toArray) (hb : b = w.heap.size) : AR (w.alloc (.cells A t)) b z o := by
  subst hb hA
  refine ⟨by simp, fun i hi => ⟨?_, by simp⟩⟩
  have h : (w.alloc (.cells (mL z o).toArray t)).heap[w.heap.size]? = some (.cells (mL z o).toArray t (0, 0)) := heap_alloc_new w _
  simp only [World.cell?, h]
  exact mL_get z o i hi
theorem rMade_any (z o : Nat → Bool) (A : Array Value) (hA : A = (mL z o).toArray) (w : World) : Calls Try.prog 67 #[.agg A] w fun e w' => e = .returned (tv (madeT z o)) ∧ Below w.heap.size w w' := by
  have X0 : MdI w z o 0 (((w.alloc (.cells A 98)).alloc (.cells #[.int .u64 0, .int .u64 0] 24)).alloc (.cells #[.int .u64 0, .int .u64 0] 24)) :=
    ⟨((AR.new hA rfl).below ((Below.refl _ _).alloc (Nat.le_refl _) _)).below ((Below.refl _ _).alloc (Nat.le_refl _) _), (TB.new (a := t0) (by simp)).below ((Below.refl _ _).alloc (Nat.le_refl _) _), TB.new (a := t0) (by simp), (((Below.refl _ _).alloc (Nat.le_refl _) _).alloc (by simp) _).alloc (by simp; omega) _⟩
  have HX := hid X0
  clear X0 hA
  go_enter Try.func67, Try.ntmps67
  go_wp2_with fail
  go_loopw [4] (fun i wr => ∃ k : Nat, k ≤ 64 ∧ i = .int .i64 k ∧ Hid (MdI w z o k wr)) (fun i _ => 64 - (intOf i).toNat)
  case atStart => exact ⟨0, by omega, rfl, HX⟩
  case round =>
    obtain ⟨k, hk, rfl, HI⟩ := hrel
    by_cases hlt : k < 64
    · have hlt' : (k : Int) < 64 := by omega
      have c0 := (HI.out.box.2 k hlt).1
      have c1 := HI.out.acc.1.2.1
      have c2 := HI.out.acc.1.2.2
      have c3 := HI.out.acc.2.1
      have c4 := HI.out.acc.2.2
      cases hz : z k <;> cases ho : o k
      · have I1 := hid (HI.out.step (by rw [hz, ho]; rfl) (by rw [hz, ho]; rfl))
        rw [hz, ho] at c0
        go_wp2
        go_roundw
        case rel => exact ⟨k + 1, by omega, by go_num, I1⟩
        case measure => simp [intOf]; omega
      · have I1 := hid (HI.out.step1 (by rw [hz, ho]; rfl) (by rw [hz, ho]; rfl))
        rw [hz, ho] at c0
        go_wp2
        go_roundw
        case rel => exact ⟨k + 1, by omega, by go_num, I1⟩
        case measure => simp [intOf]; omega
      · have I1 := hid (HI.out.step (by rw [hz, ho]; rfl) (by rw [hz, ho]; rfl))
        rw [hz, ho] at c0
        go_wp2
        go_roundw
        case rel => exact ⟨k + 1, by omega, by go_num, I1⟩
        case measure => simp [intOf]; omega
      · have I1 := hid (HI.out.step2 (by rw [hz, ho]; rfl) (by rw [hz, ho]; rfl))
        rw [hz, ho] at c0
        go_wp2
        go_roundw
        case rel => exact ⟨k + 1, by omega, by go_num, I1⟩
        case measure => simp [intOf]; omega
    · have hk64 : k = 64 := by omega
      subst hk64
      have c1 := HI.out.acc.1.2.1
      have c2 := HI.out.acc.1.2.2
      have d1 := HI.out.res.1.2.1
      have d2 := HI.out.res.1.2.2
      have d3 := HI.out.res.2.1
      have d4 := HI.out.res.2.2
      have dz := HI.out.res.1.1
      have HB := hid HI.out.bel
      clear HI
      go_wp2
      refine bodyPost_ret (v := .agg #[.int .u64 (ub (madeV z o 64)), .int .u64 (ub (madeM z o 64))]) (by simp [results, Try.results67, go_sem, d1, d2, dz]; try rfl) rfl ⟨rfl, ?_⟩
      exact (HB.out.setCell (by simp) _).setCell (by simp) _
end Go.Proofs.Ytodmikjpmcabiaa

namespace Go.Proofs.Ytodmikjpmcabiaa
set_option linter.unusedSimpArgs false
set_option linter.unusedVariables false
set_option maxRecDepth 100000
open Go.ChangeShapes Go.WideShapes Go.ChangeAt Go.RowKit

theorem at_load {P : Program} {ops : Array Oper} {Q : Exit → Act → World → Prop} {rest : List Oper} {a : Act} {w : World} {d : Option Tmp} {x : Operand} {ty : TypeId} {ps : String} {af : Array Edge} {gd : Option (Tmp × Bool)} (T : TypeId)
    (h : wpList P ops Q (⟨d, .load T x, ty, ps, af, gd⟩ :: rest) a w) : wpList P ops Q (⟨d, .load T x, ty, ps, af, gd⟩ :: rest) a w := h
/-- The first k, and no more. -/
def pref (f : Nat → Bool) (k : Nat) : Nat → Bool := fun j => decide (j < k) && f j
theorem pref_up (f : Nat → Bool) (k : Nat) (v : Bool) (hv : v = f k) : upd (pref f k) k v = pref f (k + 1) := by
  funext j
  unfold upd pref
  by_cases h : j = k
  · subst h hv; simp
  · have : (j < k + 1) ↔ (j < k) := by omega
    simp [h, this]
theorem pref_zero (f : Nat → Bool) : pref f 0 = fun _ => false := by funext j; simp [pref]
theorem pref_all (f : Nat → Bool) (i : Nat) (hi : i < 64) : pref f 64 i = f i := by simp [pref, hi]
theorem madeT_congr (z o z' o' : Nat → Bool) (hz : ∀ i, i < 64 → z i = z' i) (ho : ∀ i, i < 64 → o i = o' i) : madeT z o = madeT z' o' :=
  t_ext (fun i hi => by rw [madeV_bit _ _ _ hi, madeV_bit _ _ _ hi, hz i hi, ho i hi]) (fun i hi => by rw [madeM_bit _ _ _ hi, madeM_bit _ _ _ hi, hz i hi, ho i hi])
theorem AR.zero {w : World} {A : Array Value} {t : TypeId} {b : Nat} (hA : ∀ i, i < 64 → A[i]? = some (.int .i64 0)) (hb : b = w.heap.size) : AR (w.alloc (.cells A t)) b (fun _ => false) (fun _ => false) := by
  subst hb
  refine ⟨by simp, fun i hi => ⟨?_, by simp⟩⟩
  have h : (w.alloc (.cells A t)).heap[w.heap.size]? = some (.cells A t (0, 0)) := heap_alloc_new w _
  simp only [World.cell?, h]
  exact hA i hi
def Z64 : Array Value := #[.int .i64 0, .int .i64 0, .int .i64 0, .int .i64 0, .int .i64 0, .int .i64 0, .int .i64 0, .int .i64 0, .int .i64 0, .int .i64 0, .int .i64 0, .int .i64 0, .int .i64 0, .int .i64 0, .int .i64 0, .int .i64 0, .int .i64 0, .int .i64 0, .int .i64 0, .int .i64 0, .int .i64 0, .int .i64 0, .int .i64 0, .int .i64 0, .int .i64 0, .int .i64 0, .int .i64 0, .int .i64 0, .int .i64 0, .int .i64 0, .int .i64 0, .int .i64 0, .int .i64 0, .int .i64 0, .int .i64 0, .int .i64 0, .int .i64 0, .int .i64 0, .int .i64 0, .int .i64 0, .int .i64 0, .int .i64 0, .int .i64 0, .int .i64 0, .int .i64 0, .int .i64 0, .int .i64 0, .int .i64 0, .int .i64 0, .int .i64 0, .int .i64 0, .int .i64 0, .int .i64 0, .int .i64 0, .int .i64 0, .int .i64 0, .int .i64 0, .int .i64 0, .int .i64 0, .int .i64 0, .int .i64 0, .int .i64 0, .int .i64 0, .int .i64 0]
theorem Z64_is : Z64 = (List.replicate 64 (Value.int .i64 0)).toArray := rfl
theorem Z64_get : ∀ i, i < 64 → Z64[i]? = some (.int .i64 0) := by
  intro i hi
  rw [Z64_is, List.getElem?_toArray, List.getElem?_replicate, if_pos hi]
/-- Where a bit comes from. -/
def frm (i : Nat) (by_ most : Int) : Int := if 0 ≤ most ∧ most < (i : Int) + by_ then most else (i : Int) + by_
def mvOk (i : Nat) (by_ size most : Int) : Bool := decide ((i : Int) < size ∧ 0 ≤ frm i by_ most ∧ frm i by_ most < 64)
def mvZ (a : Tn) (by_ size most : Int) (i : Nat) : Bool := if mvOk i by_ size most then kz a (frm i by_ most).toNat else true
def mvO (a : Tn) (by_ size most : Int) (i : Nat) : Bool := if mvOk i by_ size most then ko a (frm i by_ most).toNat else false
def movT (a : Tn) (by_ size most : Int) : Tn := madeT (mvZ a by_ size most) (mvO a by_ size most)
structure MvI (w : World) (a : Tn) (z o : Nat → Bool) (k : Nat) (wr : World) : Prop where
  box : TC wr w.heap.size a
  res : TB wr (w.heap.size + 1) t0
  arr : AR wr (w.heap.size + 1 + 1) (pref z k) (pref o k)
  bel : Below w.heap.size w wr
theorem MvI.next {w : World} {a : Tn} {z o : Nat → Bool} {k : Nat} {wr w' : World} (h : MvI w a z o k wr) (hb : Below wr.heap.size wr w') : MvI w a z o k w' :=
  ⟨h.box.below hb, h.res.below hb, h.arr.below hb, h.bel.trans (hb.mono h.bel.size)⟩
theorem upd_upd (f : Nat → Bool) (k : Nat) (u v : Bool) : upd (upd f k u) k v = upd f k v := by
  funext j; unfold upd; split <;> rfl
theorem MvI.put {w : World} {a : Tn} {z o : Nat → Bool} {k : Nat} {wr : World} (h : MvI w a z o k wr) (hk : k < 64) (zv ov : Bool) (hz : zv = z k) (ho : ov = o k) (u : Value) (hu : u = .int .i64 (mM zv ov)) : MvI w a z o (k + 1) (wr.setCell ⟨w.heap.size + 1 + 1, k, none⟩ u) := by
  subst hu
  have e : TC (wr.setCell ⟨w.heap.size + 1 + 1, k, none⟩ (.int .i64 (mM zv ov))) w.heap.size a := by
    obtain ⟨h0, h1, h2⟩ := h.box
    have e : (wr.setCell ⟨w.heap.size + 1 + 1, k, none⟩ (.int .i64 (mM zv ov))).heap[w.heap.size]? = wr.heap[w.heap.size]? := Below.heap_setCell _ _ _ _ (by simp; omega)
    exact ⟨by simp; exact h0, (World.cell?_of_block (w := wr) (a := ⟨w.heap.size, 0, none⟩) e).trans h1, (World.cell?_of_block (w := wr) (a := ⟨w.heap.size, 1, none⟩) e).trans h2⟩
  refine ⟨e, h.res.other1 (by omega) _ _, ?_, h.bel.setCell (by simp; omega) _⟩
  have := h.arr.put k hk zv ov
  rwa [pref_up z k zv hz, pref_up o k ov ho] at this
/-- A first store, with which another comes. -/
theorem MvI.put1 {w : World} {a : Tn} {z o : Nat → Bool} {k : Nat} {wr : World} (h : MvI w a z o k wr) (hk : k < 64) : TC (wr.setCell ⟨w.heap.size + 1 + 1, k, none⟩ (.int .i64 1)) w.heap.size a ∧ TB (wr.setCell ⟨w.heap.size + 1 + 1, k, none⟩ (.int .i64 1)) (w.heap.size + 1) t0 ∧ AR (wr.setCell ⟨w.heap.size + 1 + 1, k, none⟩ (.int .i64 1)) (w.heap.size + 1 + 1) (upd (pref z k) k true) (upd (pref o k) k false) ∧ Below w.heap.size w (wr.setCell ⟨w.heap.size + 1 + 1, k, none⟩ (.int .i64 1)) := by
  obtain ⟨h0, h1, h2⟩ := h.box
  have e : (wr.setCell ⟨w.heap.size + 1 + 1, k, none⟩ (.int .i64 1)).heap[w.heap.size]? = wr.heap[w.heap.size]? := Below.heap_setCell _ _ _ _ (by simp; omega)
  exact ⟨⟨by simp; exact h0, (World.cell?_of_block (w := wr) (a := ⟨w.heap.size, 0, none⟩) e).trans h1, (World.cell?_of_block (w := wr) (a := ⟨w.heap.size, 1, none⟩) e).trans h2⟩, h.res.other1 (by omega) _ _, h.arr.put k hk true false, h.bel.setCell (by simp; omega) _⟩
theorem mv_end {w : World} {a : Tn} {z o : Nat → Bool} {k : Nat} {W : World} (hk : k < 64) (T1 : TC W w.heap.size a) (T2 : TB W (w.heap.size + 1) t0) (T3 : AR W (w.heap.size + 1 + 1) (upd (pref z k) k true) (upd (pref o k) k false)) (T4 : Below w.heap.size w W) (u : Value) (hu : u = .int .i64 (mM (z k) (o k))) :
    MvI w a z o (k + 1) (W.setCell ⟨w.heap.size + 1 + 1, k, none⟩ u) := by
  subst hu
  obtain ⟨h0, h1, h2⟩ := T1
  have e : (W.setCell ⟨w.heap.size + 1 + 1, k, none⟩ (.int .i64 (mM (z k) (o k)))).heap[w.heap.size]? = W.heap[w.heap.size]? := Below.heap_setCell _ _ _ _ (by simp; omega)
  refine ⟨⟨by simp; exact h0, (World.cell?_of_block (w := W) (a := ⟨w.heap.size, 0, none⟩) e).trans h1, (World.cell?_of_block (w := W) (a := ⟨w.heap.size, 1, none⟩) e).trans h2⟩, T2.other1 (by omega) _ _, ?_, T4.setCell (by simp; omega) _⟩
  have := T3.put k hk (z k) (o k)
  rwa [upd_upd, upd_upd, pref_up z k _ rfl, pref_up o k _ rfl] at this
theorem mv_noop {w : World} {a : Tn} {z o : Nat → Bool} {k : Nat} {wr W : World} (h : MvI w a z o k wr) (hk : k < 64) (T1 : TC W w.heap.size a) (T2 : TB W (w.heap.size + 1) t0) (T3 : AR W (w.heap.size + 1 + 1) (upd (pref z k) k true) (upd (pref o k) k false)) (T4 : Below w.heap.size w W) (hz : z k = true) (ho : o k = false) : MvI w a z o (k + 1) W := by
  rw [pref_up z k _ hz.symm, pref_up o k _ ho.symm] at T3
  exact ⟨T1, T2, T3, T4⟩
theorem mvZ_no {a : Tn} {k : Nat} {by_ size most at_ : Int} (hf : frm k by_ most = at_) (h : ¬ ((k : Int) < size ∧ 0 ≤ at_ ∧ at_ < 64)) : mvZ a by_ size most k = true := by
  unfold mvZ mvOk; rw [hf, decide_eq_false h]; rfl
theorem mvO_no {a : Tn} {k : Nat} {by_ size most at_ : Int} (hf : frm k by_ most = at_) (h : ¬ ((k : Int) < size ∧ 0 ≤ at_ ∧ at_ < 64)) : mvO a by_ size most k = false := by
  unfold mvO mvOk; rw [hf, decide_eq_false h]; rfl
theorem mvZ_yes {a : Tn} {k n : Nat} {by_ size most at_ : Int} (hf : frm k by_ most = at_) (h1 : (k : Int) < size) (h2 : 0 ≤ at_ ∧ at_ < 64) (h3 : at_ = n) : mvZ a by_ size most k = kz a n := by
  unfold mvZ mvOk; rw [hf, decide_eq_true ⟨h1, h2⟩, h3]; rfl
theorem mvO_yes {a : Tn} {k n : Nat} {by_ size most at_ : Int} (hf : frm k by_ most = at_) (h1 : (k : Int) < size) (h2 : 0 ≤ at_ ∧ at_ < 64) (h3 : at_ = n) : mvO a by_ size most k = ko a n := by
  unfold mvO mvOk; rw [hf, decide_eq_true ⟨h1, h2⟩, h3]; rfl
theorem infoA : (Try.prog.info? 98).map (·.size) = some 64 := by kernel_rfl
set_option maxRecDepth 100000 in
set_option maxHeartbeats 4000000 in
theorem rMoved_any (a : Tn) (by_ size most : Int) (w : World) (hb0 : -64 < by_) (hb1 : by_ < 64) (hs0 : 0 ≤ size) (hs1 : size ≤ 64) (hm0 : -1 ≤ most) (hm1 : most < 64) : Calls Try.prog 105 #[tv a, .int .i64 by_, .int .i64 size, .int .i64 most] w fun e w' => e = .returned (tv (movT a by_ size most)) ∧ Below w.heap.size w w' := by
  have X0 : MvI w a (mvZ a by_ size most) (mvO a by_ size most) 0 (((w.alloc (.cells #[.int .u64 (ub a.1), .int .u64 (ub a.2)] 24)).alloc (.cells #[.int .u64 0, .int .u64 0] 24)).alloc (.cells Z64 98)) := by
    refine ⟨((TC.new rfl).alloc _).alloc _, (TB.new (a := t0) (by simp)).below ((Below.refl _ _).alloc (Nat.le_refl _) _), ?_, (((Below.refl _ _).alloc (Nat.le_refl _) _).alloc (by simp) _).alloc (by simp; omega) _⟩
    rw [pref_zero, pref_zero]
    exact AR.zero Z64_get (by simp)
  have HX := hid X0
  clear X0
  have HM := hid fun i hi W => rMark_any a i hi W
  generalize hzz : mvZ a by_ size most = z at HX
  generalize hoo : mvO a by_ size most = o at HX
  have HZ := hid hzz
  have HO := hid hoo
  clear hzz hoo
  unfold tv at HM ⊢
  unfold Z64 at HX
  go_enter Try.func105, Try.ntmps105
  go_wp2_with fail
  go_loopw [10] (fun i wr => ∃ k : Nat, k ≤ 64 ∧ i = .int .i64 k ∧ Hid (MvI w a z o k wr)) (fun i _ => 64 - (intOf i).toNat)
  case atStart => exact ⟨0, by omega, rfl, HX⟩
  case round =>
    clear HX
    obtain ⟨k, hk, rfl, HI⟩ := hrel
    obtain ⟨wo, rfl⟩ : ∃ wo : World, wo = wr := ⟨_, rfl⟩
    by_cases hlt : k < 64
    · have hlt' : (k : Int) < 64 := by omega
      have y1 := (HI.out.arr.2 k hlt).1
      have y2 := (HI.out.arr.2 k hlt).2
      obtain ⟨U1, U2, U3, U4⟩ := HI.out.put1 hlt
      have c1 := U1.2.1
      have c2 := U1.2.2
      by_cases hp : 0 ≤ most
      · by_cases hq : most < (k : Int) + by_
        · have fr : frm k by_ most = most := by unfold frm; rw [if_pos ⟨hp, hq⟩]
          by_cases hs : (k : Int) < size
          · have hlt'' : (k : Int) < size := hs
            obtain ⟨n, hn⟩ : ∃ n : Nat, most = n := ⟨(most).toNat, by omega⟩
            have hn64 : n < 64 := by omega
            have hz : z k = kz a n := by rw [← HZ.out]; exact mvZ_yes fr hlt'' (by omega) (by omega)
            have ho : o k = ko a n := by rw [← HO.out]; exact mvO_yes fr hlt'' (by omega) (by omega)
            have HK0 := HM.out n hn64
            rw [← hn] at HK0
            have HK := hid HK0
            have HN := hid hn
            clear HK0 hn hn64
            have hmk := hid (show (Value.int .i64 (mk a n)) = .int .i64 (mM (z k) (o k)) by rw [hz, ho]; rfl)
            have HU3 := hid U3
            have HU2 := hid U2
            have HU1 := hid U1
            have HU4 := hid U4
            clear U1 U2 U3 U4 HI hz ho HZ HO
            go_wp2_with fail
            refine (HK.out _).mono ?_
            rintro e w1 ⟨rfl, b1⟩
            have R := hid (mv_end hlt (HU1.out.below b1) (HU2.out.below b1) (HU3.out.below b1) (HU4.out.trans (b1.mono HU4.out.size)) _ hmk.out)
            have y3 := ((HU3.out.below b1).2 k hlt).1
            have y4 := ((HU3.out.below b1).2 k hlt).2
            clear b1 HU1 HU2 HU3 HU4 y1 y2 c1 c2 HK
            go_wp2
            go_roundw
            case rel => first | exact ⟨k + 1, by omega, by go_num, R⟩ | ((repeat apply Exists.intro); exact ⟨⟨k + 1, by omega, by go_num, R⟩, rfl⟩)
            case measure => simp [intOf]; omega
          · have R := hid (mv_noop HI.out hlt U1 U2 U3 U4 (by rw [← HZ.out]; exact (mvZ_no fr (by omega))) (by rw [← HO.out]; exact (mvO_no fr (by omega))))
            clear U1 U2 U3 U4 HI
            go_wp2
            go_roundw
            case rel => first | exact ⟨k + 1, by omega, by go_num, R⟩ | ((repeat apply Exists.intro); exact ⟨⟨k + 1, by omega, by go_num, R⟩, rfl⟩)
            case measure => simp [intOf]; omega
        · have fr : frm k by_ most = (k : Int) + by_ := by unfold frm; rw [if_neg (by omega)]
          have hq' : (k : Int) + by_ ≤ most := by omega
          by_cases hs : (k : Int) < size
          · have hlt'' : (k : Int) < size := hs
            by_cases h4 : 0 ≤ ((k : Int) + by_)
            · by_cases h5 : ((k : Int) + by_) < 64
              · obtain ⟨n, hn⟩ : ∃ n : Nat, ((k : Int) + by_) = n := ⟨(((k : Int) + by_)).toNat, by omega⟩
                have hn64 : n < 64 := by omega
                have hz : z k = kz a n := by rw [← HZ.out]; exact mvZ_yes fr hlt'' (by omega) (by omega)
                have ho : o k = ko a n := by rw [← HO.out]; exact mvO_yes fr hlt'' (by omega) (by omega)
                have HK0 := HM.out n hn64
                rw [← hn] at HK0
                have HK := hid HK0
                have HN := hid hn
                clear HK0 hn hn64
                have hmk := hid (show (Value.int .i64 (mk a n)) = .int .i64 (mM (z k) (o k)) by rw [hz, ho]; rfl)
                have HU3 := hid U3
                have HU2 := hid U2
                have HU1 := hid U1
                have HU4 := hid U4
                clear U1 U2 U3 U4 HI hz ho HZ HO
                go_wp2_with fail
                refine (HK.out _).mono ?_
                rintro e w1 ⟨rfl, b1⟩
                have R := hid (mv_end hlt (HU1.out.below b1) (HU2.out.below b1) (HU3.out.below b1) (HU4.out.trans (b1.mono HU4.out.size)) _ hmk.out)
                have y3 := ((HU3.out.below b1).2 k hlt).1
                have y4 := ((HU3.out.below b1).2 k hlt).2
                clear b1 HU1 HU2 HU3 HU4 y1 y2 c1 c2 HK
                go_wp2
                go_roundw
                case rel => first | exact ⟨k + 1, by omega, by go_num, R⟩ | ((repeat apply Exists.intro); exact ⟨⟨k + 1, by omega, by go_num, R⟩, rfl⟩)
                case measure => simp [intOf]; omega
              · exfalso; omega
            · have R := hid (mv_noop HI.out hlt U1 U2 U3 U4 (by rw [← HZ.out]; exact (mvZ_no fr (by omega))) (by rw [← HO.out]; exact (mvO_no fr (by omega))))
              clear U1 U2 U3 U4 HI
              go_wp2
              go_roundw
              case rel => first | exact ⟨k + 1, by omega, by go_num, R⟩ | ((repeat apply Exists.intro); exact ⟨⟨k + 1, by omega, by go_num, R⟩, rfl⟩)
              case measure => simp [intOf]; omega
          · have R := hid (mv_noop HI.out hlt U1 U2 U3 U4 (by rw [← HZ.out]; exact (mvZ_no fr (by omega))) (by rw [← HO.out]; exact (mvO_no fr (by omega))))
            clear U1 U2 U3 U4 HI
            go_wp2
            go_roundw
            case rel => first | exact ⟨k + 1, by omega, by go_num, R⟩ | ((repeat apply Exists.intro); exact ⟨⟨k + 1, by omega, by go_num, R⟩, rfl⟩)
            case measure => simp [intOf]; omega
      · have fr : frm k by_ most = (k : Int) + by_ := by unfold frm; rw [if_neg (by omega)]
        have hp' : most < 0 := by omega
        by_cases hs : (k : Int) < size
        · have hlt'' : (k : Int) < size := hs
          by_cases h4 : 0 ≤ ((k : Int) + by_)
          · by_cases h5 : ((k : Int) + by_) < 64
            · obtain ⟨n, hn⟩ : ∃ n : Nat, ((k : Int) + by_) = n := ⟨(((k : Int) + by_)).toNat, by omega⟩
              have hn64 : n < 64 := by omega
              have hz : z k = kz a n := by rw [← HZ.out]; exact mvZ_yes fr hlt'' (by omega) (by omega)
              have ho : o k = ko a n := by rw [← HO.out]; exact mvO_yes fr hlt'' (by omega) (by omega)
              have HK0 := HM.out n hn64
              rw [← hn] at HK0
              have HK := hid HK0
              have HN := hid hn
              clear HK0 hn hn64
              have hmk := hid (show (Value.int .i64 (mk a n)) = .int .i64 (mM (z k) (o k)) by rw [hz, ho]; rfl)
              have HU3 := hid U3
              have HU2 := hid U2
              have HU1 := hid U1
              have HU4 := hid U4
              clear U1 U2 U3 U4 HI hz ho HZ HO
              go_wp2_with fail
              refine (HK.out _).mono ?_
              rintro e w1 ⟨rfl, b1⟩
              have R := hid (mv_end hlt (HU1.out.below b1) (HU2.out.below b1) (HU3.out.below b1) (HU4.out.trans (b1.mono HU4.out.size)) _ hmk.out)
              have y3 := ((HU3.out.below b1).2 k hlt).1
              have y4 := ((HU3.out.below b1).2 k hlt).2
              clear b1 HU1 HU2 HU3 HU4 y1 y2 c1 c2 HK
              go_wp2
              go_roundw
              case rel => first | exact ⟨k + 1, by omega, by go_num, R⟩ | ((repeat apply Exists.intro); exact ⟨⟨k + 1, by omega, by go_num, R⟩, rfl⟩)
              case measure => simp [intOf]; omega
            · have R := hid (mv_noop HI.out hlt U1 U2 U3 U4 (by rw [← HZ.out]; exact (mvZ_no fr (by omega))) (by rw [← HO.out]; exact (mvO_no fr (by omega))))
              clear U1 U2 U3 U4 HI
              go_wp2
              go_roundw
              case rel => first | exact ⟨k + 1, by omega, by go_num, R⟩ | ((repeat apply Exists.intro); exact ⟨⟨k + 1, by omega, by go_num, R⟩, rfl⟩)
              case measure => simp [intOf]; omega
          · have R := hid (mv_noop HI.out hlt U1 U2 U3 U4 (by rw [← HZ.out]; exact (mvZ_no fr (by omega))) (by rw [← HO.out]; exact (mvO_no fr (by omega))))
            clear U1 U2 U3 U4 HI
            go_wp2
            go_roundw
            case rel => first | exact ⟨k + 1, by omega, by go_num, R⟩ | ((repeat apply Exists.intro); exact ⟨⟨k + 1, by omega, by go_num, R⟩, rfl⟩)
            case measure => simp [intOf]; omega
        · have R := hid (mv_noop HI.out hlt U1 U2 U3 U4 (by rw [← HZ.out]; exact (mvZ_no fr (by omega))) (by rw [← HO.out]; exact (mvO_no fr (by omega))))
          clear U1 U2 U3 U4 HI
          go_wp2
          go_roundw
          case rel => first | exact ⟨k + 1, by omega, by go_num, R⟩ | ((repeat apply Exists.intro); exact ⟨⟨k + 1, by omega, by go_num, R⟩, rfl⟩)
          case measure => simp [intOf]; omega
    · have hk64 : k = 64 := by omega
      subst hk64
      have d1 := HI.out.res.1.2.1
      have d2 := HI.out.res.1.2.2
      have d3 := HI.out.res.2.1
      have d4 := HI.out.res.2.2
      have HS := hid (show (World.there wo (w.heap.size + 1 + 1) 0 64) ∧ wo.rangeAt (w.heap.size + 1 + 1) 0 (mL (pref z 64) (pref o 64)) from ⟨fun i hi => by rw [Nat.zero_add]; exact ⟨by rw [(HI.out.arr.2 i hi).1]; rfl, (HI.out.arr.2 i hi).2⟩, HI.out.arr.range⟩)
      have HMd := hid (fun W => rMade_any (pref z 64) (pref o 64) _ rfl W)
      have he : madeT (pref z 64) (pref o 64) = movT a by_ size most := by unfold movT; rw [HZ.out, HO.out]; exact madeT_congr _ _ _ _ (fun i hi => pref_all z i hi) (fun i hi => pref_all o i hi)
      rw [he] at HMd
      have HII := HI
      clear HI
      obtain ⟨L, hL⟩ : ∃ L, L = mL (pref z 64) (pref o 64) := ⟨_, rfl⟩
      rw [← hL] at HS HMd
      have hLl : L.length = 64 := by rw [hL]; exact mL_len _ _
      have HLL := hid hLl
      clear hL hLl
      unfold tv at HMd
      obtain ⟨R, hR⟩ : ∃ R, R = movT a by_ size most := ⟨_, rfl⟩
      rw [← hR] at HMd
      have HR := hid hR
      clear hR
      go_wp2_with ((with_reducible refine at_load 98 ?_); refine wpList_load_mid rfl 98 _ rfl (w.heap.size + 1 + 1) 0 rfl L _ HS.out.2 Try.underlying98 rfl (by rw [HLL.out]; exact infoA) ?_)
      refine (HMd.out _).mono ?_
      rintro e w1 ⟨rfl, b1⟩
      have R1 := HII.out.res.below b1
      have e1 := R1.1.2.1
      have e2 := R1.1.2.2
      have e3 := R1.2.1
      have e4 := R1.2.2
      have e5 := R1.1.1
      have HB := hid (HII.out.bel.trans (b1.mono HII.out.bel.size))
      clear R1 b1 d1 d2 d3 d4 HII
      go_wp2
      refine bodyPost_ret (v := .agg #[.int .u64 (ub R.1), .int .u64 (ub R.2)]) (by simp [results, Try.results105, go_sem, e1, e2, e5]; try rfl) rfl ⟨by rw [HR.out], ?_⟩
      exact (HB.out.setCell (by simp) _).setCell (by simp) _
end Go.Proofs.Ytodmikjpmcabiaa

namespace Go.Proofs.Ytodmikjpmcabiaa
set_option linter.unusedSimpArgs false
set_option linter.unusedVariables false
set_option maxRecDepth 100000
open Go.RowKit

theorem kz_ko {a : Tn} (h : tmay a = true) (i : Nat) : (!kz a i && ko a i) = bt a.1 i ∧ (kz a i && ko a i) = bt a.2 i := by
  have := may_bit h i
  unfold kz ko
  revert this
  cases bt a.1 i <;> cases bt a.2 i <;> simp
theorem mov_bits {a : Tn} (h : tmay a = true) (by_ size most : Int) (i : Nat) (hi : i < 64) :
    bt (movT a by_ size most).1 i = (mvOk i by_ size most && bt a.1 (frm i by_ most).toNat) ∧ bt (movT a by_ size most).2 i = (mvOk i by_ size most && bt a.2 (frm i by_ most).toNat) := by
  unfold movT
  rw [madeV_bit _ _ _ hi, madeM_bit _ _ _ hi]
  have k := kz_ko h (frm i by_ most).toNat
  unfold mvZ mvO
  cases mvOk i by_ size most
  · simp
  · simp only [if_true, Bool.true_and]; exact k
theorem mov_ext {a b : Tn} (h : tmay a = true) (by_ size most : Int) (h1 : ∀ i, i < 64 → (mvOk i by_ size most && bt a.1 (frm i by_ most).toNat) = bt b.1 i) (h2 : ∀ i, i < 64 → (mvOk i by_ size most && bt a.2 (frm i by_ most).toNat) = bt b.2 i) : movT a by_ size most = b :=
  t_ext (fun i hi => by rw [(mov_bits h by_ size most i hi).1, h1 i hi]) (fun i hi => by rw [(mov_bits h by_ size most i hi).2, h2 i hi])
theorem frm_no (i : Nat) (b : Int) : frm i b (-1) = (i : Int) + b := by unfold frm; rw [if_neg (by omega)]
theorem lsh_one (x : B64) (n i : Nat) (hi : i < 64) : (mvOk i (-(n : Int)) 64 (-1) && bt x (frm i (-(n : Int)) (-1)).toNat) = bt (x <<< n) i := by
  rw [bt_shl _ _ _ hi, frm_no]
  unfold mvOk
  rw [frm_no]
  by_cases h : n ≤ i
  · have e : ((i : Int) + -(n : Int)).toNat = i - n := by omega
    have d : decide ((i : Int) < 64 ∧ 0 ≤ (i : Int) + -(n : Int) ∧ (i : Int) + -(n : Int) < 64) = true := decide_eq_true (by omega)
    rw [e, d, decide_eq_true h]
  · have d : decide ((i : Int) < 64 ∧ 0 ≤ (i : Int) + -(n : Int) ∧ (i : Int) + -(n : Int) < 64) = false := decide_eq_false (by omega)
    rw [d, decide_eq_false h]; rfl
end Go.Proofs.Ytodmikjpmcabiaa

namespace Go.Proofs.Ytodmikjpmcabiaa
set_option linter.unusedSimpArgs false
set_option linter.unusedVariables false
set_option maxRecDepth 100000
open Go.RowKit

theorem may_of {t : Tn} (h : ∀ i, i < 64 → (bt t.1 i && bt t.2 i) = false) : tmay t = true := by
  unfold tmay
  rw [beq_iff_eq]
  exact b_ext fun i hi => by rw [bt_and, bt_zero, h i hi]
end Go.Proofs.Ytodmikjpmcabiaa
