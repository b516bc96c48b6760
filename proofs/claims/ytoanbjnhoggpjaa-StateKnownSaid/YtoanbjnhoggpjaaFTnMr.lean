/-
  Contracts of the document's Mark, bit and Made. Contracts of the document's Moved. Plain numbers: what is moved bit by bit is what is shifted and cut. Plain numbers: what meets, joins and spans hold; being in as an order. Plain: the sign again, step by step; what is fitted. Plain: shifted and cut tnums hold the shifted and cut numbers.
-/
import Derived.Test.YtoanbjnhoggpjaaFTnG
import Derived.Test.YtoanbjnhoggpjaaFTnU
import Derived.Test.YtoanbjnhoggpjaaFTnH
import Derived.Deep.MidRow
import Derived.Deep.WholeRow
namespace Go.Proofs.Ytoanbjnhoggpjaa
set_option linter.unusedSimpArgs false
set_option linter.unusedVariables false
set_option maxRecDepth 100000
open Go.ChangeShapes Go.WideShapes Go.ChangeAt Go.RowKit

theorem rMark_any (a : Tn) (i : Nat) (hi : i < 64) (w : World) : Calls Try.prog 126 #[tv a, .int .i64 (i : Int)] w fun e w' => e = .returned (.int .i64 (mk a i)) ∧ Below w.heap.size w w' := by
  obtain ⟨v, m⟩ := a
  unfold mk kz ko tv
  have hi' : (i : Int) < 64 := by omega
  cases h2 : bt m i
  · cases h1 : bt v i
    · go_enter Try.func126, Try.ntmps126
      go_wp2
      go_ret
      exact ⟨rfl, (Below.refl _ _).alloc (Nat.le_refl _) _⟩
    · go_enter Try.func126, Try.ntmps126
      go_wp2
      go_ret
      exact ⟨rfl, (Below.refl _ _).alloc (Nat.le_refl _) _⟩
  · go_enter Try.func126, Try.ntmps126
    go_wp2
    go_ret
    exact ⟨by simp [mM], (Below.refl _ _).alloc (Nat.le_refl _) _⟩
theorem rbit_any (n : Bool) (w : World) : Calls Try.prog 128 #[.int .i64 (if n then 1 else 0)] w fun e w' => e = .returned (.int .i64 (mM (!n) n)) ∧ w = w' := by
  cases n
  · go_enter Try.func128, Try.ntmps128
    go_wp2
    go_ret
    exact ⟨rfl, rfl⟩
  · go_enter Try.func128, Try.ntmps128
    go_wp2
    go_ret
    exact ⟨rfl, rfl⟩
/-- An array of 64 marks, as the program has it. -/
def mL (z o : Nat → Bool) : List Value := (List.range 64).map fun i => Value.int .i64 (mM (z i) (o i))
/-- A block of 64 marks of the call's own. -/
def AR (w : World) (b : Nat) (z o : Nat → Bool) : Prop := b < w.heap.size ∧ ∀ i, i < 64 → w.cell? ⟨b, i, none⟩ = some (.int .i64 (mM (z i) (o i))) ∧ w.frozen? ⟨b, i, none⟩ = false
theorem mL_get (z o : Nat → Bool) (i : Nat) (hi : i < 64) : (mL z o).toArray[i]? = some (.int .i64 (mM (z i) (o i))) := by
  unfold mL
  simp [hi]
theorem mL_len (z o : Nat → Bool) : (mL z o).length = 64 := by simp [mL]
theorem AR.below {w w' : World} {b : Nat} {z o : Nat → Bool} (h : AR w b z o) (hb : Below w.heap.size w w') : AR w' b z o :=
  ⟨Nat.lt_of_lt_of_le h.1 hb.size, fun i hi => ⟨(hb.cell (p := ⟨b, i, none⟩) h.1).trans (h.2 i hi).1, (hb.frozen (p := ⟨b, i, none⟩) h.1).trans (h.2 i hi).2⟩⟩
def upd (f : Nat → Bool) (i : Nat) (v : Bool) : Nat → Bool := fun j => if j = i then v else f j
theorem AR.put {w : World} {b : Nat} {z o : Nat → Bool} (h : AR w b z o) (k : Nat) (hk : k < 64) (zv ov : Bool) : AR (w.setCell ⟨b, k, none⟩ (.int .i64 (mM zv ov))) b (upd z k zv) (upd o k ov) := by
  refine ⟨by simp; exact h.1, fun i hi => ⟨?_, by rw [World.frozen?_setCell]; exact (h.2 i hi).2⟩⟩
  by_cases hik : i = k
  · subst hik
    simp only [upd, if_true]
    exact World.cell?_setCell_same _ _ _ (h.2 i hi).1
  · simp only [upd, if_neg hik]
    exact (World.cell?_setCell_other _ _ _ _ (by simp; try omega)).trans (h.2 i hi).1
theorem AR.range {w : World} {b : Nat} {z o : Nat → Bool} (h : AR w b z o) : w.rangeAt b 0 (mL z o) := by
  intro i v hv
  have hi : i < 64 := by
    have := List.getElem?_eq_some_iff.1 hv
    obtain ⟨h1, _⟩ := this
    rwa [mL_len] at h1
  rw [Nat.zero_add]
  have h2 := mL_get z o i hi
  rw [List.getElem?_toArray] at h2
  rw [h2] at hv
  rw [← hv]
  exact (h.2 i hi).1
structure MdI (w : World) (z o : Nat → Bool) (k : Nat) (wr : World) : Prop where
  box : AR wr w.heap.size z o
  res : TB wr (w.heap.size + 1) t0
  acc : TB wr (w.heap.size + 1 + 1) (madeV z o k, madeM z o k)
  bel : Below w.heap.size w wr
theorem AR.other {w : World} {b c : Nat} {z o : Nat → Bool} (h : AR w b z o) (hbc : b ≠ c) (j : Nat) (u : Value) : AR (w.setCell ⟨c, j, none⟩ u) b z o := by
  have e : (w.setCell ⟨c, j, none⟩ u).heap[b]? = w.heap[b]? := Below.heap_setCell _ _ _ _ hbc
  exact ⟨by simp; exact h.1, fun i hi => ⟨(World.cell?_of_block (w := w) (a := ⟨b, i, none⟩) e).trans (h.2 i hi).1, (World.frozen?_of_block (w := w) (a := ⟨b, i, none⟩) e).trans (h.2 i hi).2⟩⟩
theorem TB.other1 {w : World} {b c : Nat} {t : Tn} (h : TB w b t) (hbc : b ≠ c) (j : Nat) (u : Value) : TB (w.setCell ⟨c, j, none⟩ u) b t := by
  obtain ⟨⟨h0, h1, h2⟩, h3, h4⟩ := h
  have e : (w.setCell ⟨c, j, none⟩ u).heap[b]? = w.heap[b]? := Below.heap_setCell _ _ _ _ hbc
  exact ⟨⟨by simp; exact h0, (World.cell?_of_block (w := w) (a := ⟨b, 0, none⟩) e).trans h1, (World.cell?_of_block (w := w) (a := ⟨b, 1, none⟩) e).trans h2⟩, (World.frozen?_of_block (w := w) (a := ⟨b, 0, none⟩) e).trans h3, (World.frozen?_of_block (w := w) (a := ⟨b, 1, none⟩) e).trans h4⟩
theorem TB.put1 {w : World} {b : Nat} {t : Tn} (h : TB w b t) (x : B64) : TB (w.setCell ⟨b, 0, none⟩ (.int .u64 (ub x))) b (x, t.2) := by
  obtain ⟨⟨h0, h1, h2⟩, h3, h4⟩ := h
  exact ⟨⟨by simp; exact h0, World.cell?_setCell_same _ _ _ h1, (World.cell?_setCell_other _ _ _ _ (by simp)).trans h2⟩, by simp; exact h3, by simp; exact h4⟩
theorem TB.put2 {w : World} {b : Nat} {t : Tn} (h : TB w b t) (x : B64) : TB (w.setCell ⟨b, 1, none⟩ (.int .u64 (ub x))) b (t.1, x) := by
  obtain ⟨⟨h0, h1, h2⟩, h3, h4⟩ := h
  exact ⟨⟨by simp; exact h0, (World.cell?_setCell_other _ _ _ _ (by simp)).trans h1, World.cell?_setCell_same _ _ _ h2⟩, by simp; exact h3, by simp; exact h4⟩
theorem MdI.step {w : World} {z o : Nat → Bool} {k : Nat} {wr : World} (h : MdI w z o k wr) (h1 : (!z k && o k) = false) (h2 : (z k && o k) = false) : MdI w z o (k + 1) wr := by
  have e : (madeV z o (k + 1), madeM z o (k + 1)) = (madeV z o k, madeM z o k) := by rw [madeV, madeM, h1, h2]; rfl
  exact ⟨h.box, h.res, e ▸ h.acc, h.bel⟩
theorem MdI.step1 {w : World} {z o : Nat → Bool} {k : Nat} {wr : World} (h : MdI w z o k wr) (h1 : (!z k && o k) = true) (h2 : (z k && o k) = false) : MdI w z o (k + 1) (wr.setCell ⟨w.heap.size + 1 + 1, 0, none⟩ (.int .u64 (ub (madeV z o k + 1#64 <<< k)))) := by
  have e : (madeV z o (k + 1), madeM z o (k + 1)) = (madeV z o k + 1#64 <<< k, madeM z o k) := by rw [madeV, madeM, h1, h2]; rfl
  exact ⟨h.box.other (by omega) _ _, h.res.other1 (by omega) _ _, e ▸ h.acc.put1 _, h.bel.setCell (by simp; omega) _⟩
theorem MdI.step2 {w : World} {z o : Nat → Bool} {k : Nat} {wr : World} (h : MdI w z o k wr) (h1 : (!z k && o k) = false) (h2 : (z k && o k) = true) : MdI w z o (k + 1) (wr.setCell ⟨w.heap.size + 1 + 1, 1, none⟩ (.int .u64 (ub (madeM z o k + 1#64 <<< k)))) := by
  have e : (madeV z o (k + 1), madeM z o (k + 1)) = (madeV z o k, madeM z o k + 1#64 <<< k) := by rw [madeV, madeM, h1, h2]; rfl
  exact ⟨h.box.other (by omega) _ _, h.res.other1 (by omega) _ _, e ▸ h.acc.put2 _, h.bel.setCell (by simp; omega) _⟩
theorem AR.new {w : World} {z o : Nat → Bool} {A : Array Value} {t : TypeId} {b : Nat} (hA : A = (mL z o).toArray) (hb : b = w.heap.size) : AR (w.alloc (.cells A t)) b z o := by
  subst hb hA
  refine ⟨by simp, fun i hi => ⟨?_, by simp⟩⟩
  have h : (w.alloc (.cells (mL z o).toArray t)).heap[w.heap.size]? = some (.cells (mL z o).toArray t (0, 0)) := heap_alloc_new w _
  simp only [World.cell?, h]
  exact mL_get z o i hi
theorem rMade_any (z o : Nat → Bool) (A : Array Value) (hA : A = (mL z o).toArray) (w : World) : Calls Try.prog 129 #[.agg A] w fun e w' => e = .returned (tv (madeT z o)) ∧ Below w.heap.size w w' := by
  have X0 : MdI w z o 0 (((w.alloc (.cells A 154)).alloc (.cells #[.int .u64 0, .int .u64 0] 24)).alloc (.cells #[.int .u64 0, .int .u64 0] 24)) :=
    ⟨((AR.new hA rfl).below ((Below.refl _ _).alloc (Nat.le_refl _) _)).below ((Below.refl _ _).alloc (Nat.le_refl _) _), (TB.new (a := t0) (by simp)).below ((Below.refl _ _).alloc (Nat.le_refl _) _), TB.new (a := t0) (by simp), (((Below.refl _ _).alloc (Nat.le_refl _) _).alloc (by simp) _).alloc (by simp; omega) _⟩
  have HX := hid X0
  clear X0 hA
  go_enter Try.func129, Try.ntmps129
  go_wp2_with fail
  go_loopw [4] (fun i wr => ∃ k : Nat, k ≤ 64 ∧ i = .int .i64 k ∧ Hid (MdI w z o k wr)) (fun i _ => 64 - (intOf i).toNat)
  case atStart => exact ⟨0, by omega, rfl, HX⟩
  case round =>
    obtain ⟨k, hk, rfl, HI⟩ := hrel
    by_cases hlt : k < 64
    · have hlt' : (k : Int) < 64 := by omega
      have c0 := (HI.out.box.2 k hlt).1
      have c1 := HI.out.acc.1.2.1
      have c2 := HI.out.acc.1.2.2
      have c3 := HI.out.acc.2.1
      have c4 := HI.out.acc.2.2
      cases hz : z k <;> cases ho : o k
      · have I1 := hid (HI.out.step (by rw [hz, ho]; rfl) (by rw [hz, ho]; rfl))
        rw [hz, ho] at c0
        go_wp2
        go_roundw
        case rel => exact ⟨k + 1, by omega, by go_num, I1⟩
        case measure => simp [intOf]; omega
      · have I1 := hid (HI.out.step1 (by rw [hz, ho]; rfl) (by rw [hz, ho]; rfl))
        rw [hz, ho] at c0
        go_wp2
        go_roundw
        case rel => exact ⟨k + 1, by omega, by go_num, I1⟩
        case measure => simp [intOf]; omega
      · have I1 := hid (HI.out.step (by rw [hz, ho]; rfl) (by rw [hz, ho]; rfl))
        rw [hz, ho] at c0
        go_wp2
        go_roundw
        case rel => exact ⟨k + 1, by omega, by go_num, I1⟩
        case measure => simp [intOf]; omega
      · have I1 := hid (HI.out.step2 (by rw [hz, ho]; rfl) (by rw [hz, ho]; rfl))
        rw [hz, ho] at c0
        go_wp2
        go_roundw
        case rel => exact ⟨k + 1, by omega, by go_num, I1⟩
        case measure => simp [intOf]; omega
    · have hk64 : k = 64 := by omega
      subst hk64
      have c1 := HI.out.acc.1.2.1
      have c2 := HI.out.acc.1.2.2
      have d1 := HI.out.res.1.2.1
      have d2 := HI.out.res.1.2.2
      have d3 := HI.out.res.2.1
      have d4 := HI.out.res.2.2
      have dz := HI.out.res.1.1
      have HB := hid HI.out.bel
      clear HI
      go_wp2
      refine bodyPost_ret (v := .agg #[.int .u64 (ub (madeV z o 64)), .int .u64 (ub (madeM z o 64))]) (by simp [results, Try.results129, go_sem, d1, d2, dz]; try rfl) rfl ⟨rfl, ?_⟩
      exact (HB.out.setCell (by simp) _).setCell (by simp) _
end Go.Proofs.Ytoanbjnhoggpjaa

namespace Go.Proofs.Ytoanbjnhoggpjaa
set_option linter.unusedSimpArgs false
set_option linter.unusedVariables false
set_option maxRecDepth 100000
open Go.ChangeShapes Go.WideShapes Go.ChangeAt Go.RowKit

theorem at_load {P : Program} {ops : Array Oper} {Q : Exit → Act → World → Prop} {rest : List Oper} {a : Act} {w : World} {d : Option Tmp} {x : Operand} {ty : TypeId} {ps : String} {af : Array Edge} {gd : Option (Tmp × Bool)} (T : TypeId)
    (h : wpList P ops Q (⟨d, .load T x, ty, ps, af, gd⟩ :: rest) a w) : wpList P ops Q (⟨d, .load T x, ty, ps, af, gd⟩ :: rest) a w := h
/-- The first k, and no more. -/
def pref (f : Nat → Bool) (k : Nat) : Nat → Bool := fun j => decide (j < k) && f j
theorem pref_up (f : Nat → Bool) (k : Nat) (v : Bool) (hv : v = f k) : upd (pref f k) k v = pref f (k + 1) := by
  funext j
  unfold upd pref
  by_cases h : j = k
  · subst h hv; simp
  · have : (j < k + 1) ↔ (j < k) := by omega
    simp [h, this]
theorem pref_zero (f : Nat → Bool) : pref f 0 = fun _ => false := by funext j; simp [pref]
theorem pref_all (f : Nat → Bool) (i : Nat) (hi : i < 64) : pref f 64 i = f i := by simp [pref, hi]
theorem madeT_congr (z o z' o' : Nat → Bool) (hz : ∀ i, i < 64 → z i = z' i) (ho : ∀ i, i < 64 → o i = o' i) : madeT z o = madeT z' o' :=
  t_ext (fun i hi => by rw [madeV_bit _ _ _ hi, madeV_bit _ _ _ hi, hz i hi, ho i hi]) (fun i hi => by rw [madeM_bit _ _ _ hi, madeM_bit _ _ _ hi, hz i hi, ho i hi])
theorem AR.zero {w : World} {A : Array Value} {t : TypeId} {b : Nat} (hA : ∀ i, i < 64 → A[i]? = some (.int .i64 0)) (hb : b = w.heap.size) : AR (w.alloc (.cells A t)) b (fun _ => false) (fun _ => false) := by
  subst hb
  refine ⟨by simp, fun i hi => ⟨?_, by simp⟩⟩
  have h : (w.alloc (.cells A t)).heap[w.heap.size]? = some (.cells A t (0, 0)) := heap_alloc_new w _
  simp only [World.cell?, h]
  exact hA i hi
def Z64 : Array Value := #[.int .i64 0, .int .i64 0, .int .i64 0, .int .i64 0, .int .i64 0, .int .i64 0, .int .i64 0, .int .i64 0, .int .i64 0, .int .i64 0, .int .i64 0, .int .i64 0, .int .i64 0, .int .i64 0, .int .i64 0, .int .i64 0, .int .i64 0, .int .i64 0, .int .i64 0, .int .i64 0, .int .i64 0, .int .i64 0, .int .i64 0, .int .i64 0, .int .i64 0, .int .i64 0, .int .i64 0, .int .i64 0, .int .i64 0, .int .i64 0, .int .i64 0, .int .i64 0, .int .i64 0, .int .i64 0, .int .i64 0, .int .i64 0, .int .i64 0, .int .i64 0, .int .i64 0, .int .i64 0, .int .i64 0, .int .i64 0, .int .i64 0, .int .i64 0, .int .i64 0, .int .i64 0, .int .i64 0, .int .i64 0, .int .i64 0, .int .i64 0, .int .i64 0, .int .i64 0, .int .i64 0, .int .i64 0, .int .i64 0, .int .i64 0, .int .i64 0, .int .i64 0, .int .i64 0, .int .i64 0, .int .i64 0, .int .i64 0, .int .i64 0, .int .i64 0]
theorem Z64_is : Z64 = (List.replicate 64 (Value.int .i64 0)).toArray := rfl
theorem Z64_get : ∀ i, i < 64 → Z64[i]? = some (.int .i64 0) := by
  intro i hi
  rw [Z64_is, List.getElem?_toArray, List.getElem?_replicate, if_pos hi]
/-- Where a bit comes from. -/
def frm (i : Nat) (by_ most : Int) : Int := if 0 ≤ most ∧ most < (i : Int) + by_ then most else (i : Int) + by_
def mvOk (i : Nat) (by_ size most : Int) : Bool := decide ((i : Int) < size ∧ 0 ≤ frm i by_ most ∧ frm i by_ most < 64)
def mvZ (a : Tn) (by_ size most : Int) (i : Nat) : Bool := if mvOk i by_ size most then kz a (frm i by_ most).toNat else true
def mvO (a : Tn) (by_ size most : Int) (i : Nat) : Bool := if mvOk i by_ size most then ko a (frm i by_ most).toNat else false
def movT (a : Tn) (by_ size most : Int) : Tn := madeT (mvZ a by_ size most) (mvO a by_ size most)
structure MvI (w : World) (a : Tn) (z o : Nat → Bool) (k : Nat) (wr : World) : Prop where
  box : TC wr w.heap.size a
  res : TB wr (w.heap.size + 1) t0
  arr : AR wr (w.heap.size + 1 + 1) (pref z k) (pref o k)
  bel : Below w.heap.size w wr
theorem MvI.next {w : World} {a : Tn} {z o : Nat → Bool} {k : Nat} {wr w' : World} (h : MvI w a z o k wr) (hb : Below wr.heap.size wr w') : MvI w a z o k w' :=
  ⟨h.box.below hb, h.res.below hb, h.arr.below hb, h.bel.trans (hb.mono h.bel.size)⟩
theorem upd_upd (f : Nat → Bool) (k : Nat) (u v : Bool) : upd (upd f k u) k v = upd f k v := by
  funext j; unfold upd; split <;> rfl
theorem MvI.put {w : World} {a : Tn} {z o : Nat → Bool} {k : Nat} {wr : World} (h : MvI w a z o k wr) (hk : k < 64) (zv ov : Bool) (hz : zv = z k) (ho : ov = o k) (u : Value) (hu : u = .int .i64 (mM zv ov)) : MvI w a z o (k + 1) (wr.setCell ⟨w.heap.size + 1 + 1, k, none⟩ u) := by
  subst hu
  have e : TC (wr.setCell ⟨w.heap.size + 1 + 1, k, none⟩ (.int .i64 (mM zv ov))) w.heap.size a := by
    obtain ⟨h0, h1, h2⟩ := h.box
    have e : (wr.setCell ⟨w.heap.size + 1 + 1, k, none⟩ (.int .i64 (mM zv ov))).heap[w.heap.size]? = wr.heap[w.heap.size]? := Below.heap_setCell _ _ _ _ (by simp; omega)
    exact ⟨by simp; exact h0, (World.cell?_of_block (w := wr) (a := ⟨w.heap.size, 0, none⟩) e).trans h1, (World.cell?_of_block (w := wr) (a := ⟨w.heap.size, 1, none⟩) e).trans h2⟩
  refine ⟨e, h.res.other1 (by omega) _ _, ?_, h.bel.setCell (by simp; omega) _⟩
  have := h.arr.put k hk zv ov
  rwa [pref_up z k zv hz, pref_up o k ov ho] at this
/-- A first store, with which another comes. -/
theorem MvI.put1 {w : World} {a : Tn} {z o : Nat → Bool} {k : Nat} {wr : World} (h : MvI w a z o k wr) (hk : k < 64) : TC (wr.setCell ⟨w.heap.size + 1 + 1, k, none⟩ (.int .i64 1)) w.heap.size a ∧ TB (wr.setCell ⟨w.heap.size + 1 + 1, k, none⟩ (.int .i64 1)) (w.heap.size + 1) t0 ∧ AR (wr.setCell ⟨w.heap.size + 1 + 1, k, none⟩ (.int .i64 1)) (w.heap.size + 1 + 1) (upd (pref z k) k true) (upd (pref o k) k false) ∧ Below w.heap.size w (wr.setCell ⟨w.heap.size + 1 + 1, k, none⟩ (.int .i64 1)) := by
  obtain ⟨h0, h1, h2⟩ := h.box
  have e : (wr.setCell ⟨w.heap.size + 1 + 1, k, none⟩ (.int .i64 1)).heap[w.heap.size]? = wr.heap[w.heap.size]? := Below.heap_setCell _ _ _ _ (by simp; omega)
  exact ⟨⟨by simp; exact h0, (World.cell?_of_block (w := wr) (a := ⟨w.heap.size, 0, none⟩) e).trans h1, (World.cell?_of_block (w := wr) (a := ⟨w.heap.size, 1, none⟩) e).trans h2⟩, h.res.other1 (by omega) _ _, h.arr.put k hk true false, h.bel.setCell (by simp; omega) _⟩
theorem mv_end {w : World} {a : Tn} {z o : Nat → Bool} {k : Nat} {W : World} (hk : k < 64) (T1 : TC W w.heap.size a) (T2 : TB W (w.heap.size + 1) t0) (T3 : AR W (w.heap.size + 1 + 1) (upd (pref z k) k true) (upd (pref o k) k false)) (T4 : Below w.heap.size w W) (u : Value) (hu : u = .int .i64 (mM (z k) (o k))) :
    MvI w a z o (k + 1) (W.setCell ⟨w.heap.size + 1 + 1, k, none⟩ u) := by
  subst hu
  obtain ⟨h0, h1, h2⟩ := T1
  have e : (W.setCell ⟨w.heap.size + 1 + 1, k, none⟩ (.int .i64 (mM (z k) (o k)))).heap[w.heap.size]? = W.heap[w.heap.size]? := Below.heap_setCell _ _ _ _ (by simp; omega)
  refine ⟨⟨by simp; exact h0, (World.cell?_of_block (w := W) (a := ⟨w.heap.size, 0, none⟩) e).trans h1, (World.cell?_of_block (w := W) (a := ⟨w.heap.size, 1, none⟩) e).trans h2⟩, T2.other1 (by omega) _ _, ?_, T4.setCell (by simp; omega) _⟩
  have := T3.put k hk (z k) (o k)
  rwa [upd_upd, upd_upd, pref_up z k _ rfl, pref_up o k _ rfl] at this
theorem mv_noop {w : World} {a : Tn} {z o : Nat → Bool} {k : Nat} {wr W : World} (h : MvI w a z o k wr) (hk : k < 64) (T1 : TC W w.heap.size a) (T2 : TB W (w.heap.size + 1) t0) (T3 : AR W (w.heap.size + 1 + 1) (upd (pref z k) k true) (upd (pref o k) k false)) (T4 : Below w.heap.size w W) (hz : z k = true) (ho : o k = false) : MvI w a z o (k + 1) W := by
  rw [pref_up z k _ hz.symm, pref_up o k _ ho.symm] at T3
  exact ⟨T1, T2, T3, T4⟩
theorem mvZ_no {a : Tn} {k : Nat} {by_ size most at_ : Int} (hf : frm k by_ most = at_) (h : ¬ ((k : Int) < size ∧ 0 ≤ at_ ∧ at_ < 64)) : mvZ a by_ size most k = true := by
  unfold mvZ mvOk; rw [hf, decide_eq_false h]; rfl
theorem mvO_no {a : Tn} {k : Nat} {by_ size most at_ : Int} (hf : frm k by_ most = at_) (h : ¬ ((k : Int) < size ∧ 0 ≤ at_ ∧ at_ < 64)) : mvO a by_ size most k = false := by
  unfold mvO mvOk; rw [hf, decide_eq_false h]; rfl
theorem mvZ_yes {a : Tn} {k n : Nat} {by_ size most at_ : Int} (hf : frm k by_ most = at_) (h1 : (k : Int) < size) (h2 : 0 ≤ at_ ∧ at_ < 64) (h3 : at_ = n) : mvZ a by_ size most k = kz a n := by
  unfold mvZ mvOk; rw [hf, decide_eq_true ⟨h1, h2⟩, h3]; rfl
theorem mvO_yes {a : Tn} {k n : Nat} {by_ size most at_ : Int} (hf : frm k by_ most = at_) (h1 : (k : Int) < size) (h2 : 0 ≤ at_ ∧ at_ < 64) (h3 : at_ = n) : mvO a by_ size most k = ko a n := by
  unfold mvO mvOk; rw [hf, decide_eq_true ⟨h1, h2⟩, h3]; rfl
theorem infoA : (Try.prog.info? 154).map (·.size) = some 64 := by kernel_rfl
set_option maxRecDepth 100000 in
set_option maxHeartbeats 4000000 in
theorem rMoved_any (a : Tn) (by_ size most : Int) (w : World) (hb0 : -64 < by_) (hb1 : by_ < 64) (hs0 : 0 ≤ size) (hs1 : size ≤ 64) (hm0 : -1 ≤ most) (hm1 : most < 64) : Calls Try.prog 173 #[tv a, .int .i64 by_, .int .i64 size, .int .i64 most] w fun e w' => e = .returned (tv (movT a by_ size most)) ∧ Below w.heap.size w w' := by
  have X0 : MvI w a (mvZ a by_ size most) (mvO a by_ size most) 0 (((w.alloc (.cells #[.int .u64 (ub a.1), .int .u64 (ub a.2)] 24)).alloc (.cells #[.int .u64 0, .int .u64 0] 24)).alloc (.cells Z64 154)) := by
    refine ⟨((TC.new rfl).alloc _).alloc _, (TB.new (a := t0) (by simp)).below ((Below.refl _ _).alloc (Nat.le_refl _) _), ?_, (((Below.refl _ _).alloc (Nat.le_refl _) _).alloc (by simp) _).alloc (by simp; omega) _⟩
    rw [pref_zero, pref_zero]
    exact AR.zero Z64_get (by simp)
  have HX := hid X0
  clear X0
  have HM := hid fun i hi W => rMark_any a i hi W
  generalize hzz : mvZ a by_ size most = z at HX
  generalize hoo : mvO a by_ size most = o at HX
  have HZ := hid hzz
  have HO := hid hoo
  clear hzz hoo
  unfold tv at HM ⊢
  unfold Z64 at HX
  go_enter Try.func173, Try.ntmps173
  go_wp2_with fail
  go_loopw [10] (fun i wr => ∃ k : Nat, k ≤ 64 ∧ i = .int .i64 k ∧ Hid (MvI w a z o k wr)) (fun i _ => 64 - (intOf i).toNat)
  case atStart => exact ⟨0, by omega, rfl, HX⟩
  case round =>
    clear HX
    obtain ⟨k, hk, rfl, HI⟩ := hrel
    obtain ⟨wo, rfl⟩ : ∃ wo : World, wo = wr := ⟨_, rfl⟩
    by_cases hlt : k < 64
    · have hlt' : (k : Int) < 64 := by omega
      have y1 := (HI.out.arr.2 k hlt).1
      have y2 := (HI.out.arr.2 k hlt).2
      obtain ⟨U1, U2, U3, U4⟩ := HI.out.put1 hlt
      have c1 := U1.2.1
      have c2 := U1.2.2
      by_cases hp : 0 ≤ most
      · by_cases hq : most < (k : Int) + by_
        · have fr : frm k by_ most = most := by unfold frm; rw [if_pos ⟨hp, hq⟩]
          by_cases hs : (k : Int) < size
          · have hlt'' : (k : Int) < size := hs
            obtain ⟨n, hn⟩ : ∃ n : Nat, most = n := ⟨(most).toNat, by omega⟩
            have hn64 : n < 64 := by omega
            have hz : z k = kz a n := by rw [← HZ.out]; exact mvZ_yes fr hlt'' (by omega) (by omega)
            have ho : o k = ko a n := by rw [← HO.out]; exact mvO_yes fr hlt'' (by omega) (by omega)
            have HK0 := HM.out n hn64
            rw [← hn] at HK0
            have HK := hid HK0
            have HN := hid hn
            clear HK0 hn hn64
            have hmk := hid (show (Value.int .i64 (mk a n)) = .int .i64 (mM (z k) (o k)) by rw [hz, ho]; rfl)
            have HU3 := hid U3
            have HU2 := hid U2
            have HU1 := hid U1
            have HU4 := hid U4
            clear U1 U2 U3 U4 HI hz ho HZ HO
            go_wp2_with fail
            refine (HK.out _).mono ?_
            rintro e w1 ⟨rfl, b1⟩
            have R := hid (mv_end hlt (HU1.out.below b1) (HU2.out.below b1) (HU3.out.below b1) (HU4.out.trans (b1.mono HU4.out.size)) _ hmk.out)
            have y3 := ((HU3.out.below b1).2 k hlt).1
            have y4 := ((HU3.out.below b1).2 k hlt).2
            clear b1 HU1 HU2 HU3 HU4 y1 y2 c1 c2 HK
            go_wp2
            go_roundw
            case rel => first | exact ⟨k + 1, by omega, by go_num, R⟩ | ((repeat apply Exists.intro); exact ⟨⟨k + 1, by omega, by go_num, R⟩, rfl⟩)
            case measure => simp [intOf]; omega
          · have R := hid (mv_noop HI.out hlt U1 U2 U3 U4 (by rw [← HZ.out]; exact (mvZ_no fr (by omega))) (by rw [← HO.out]; exact (mvO_no fr (by omega))))
            clear U1 U2 U3 U4 HI
            go_wp2
            go_roundw
            case rel => first | exact ⟨k + 1, by omega, by go_num, R⟩ | ((repeat apply Exists.intro); exact ⟨⟨k + 1, by omega, by go_num, R⟩, rfl⟩)
            case measure => simp [intOf]; omega
        · have fr : frm k by_ most = (k : Int) + by_ := by unfold frm; rw [if_neg (by omega)]
          have hq' : (k : Int) + by_ ≤ most := by omega
          by_cases hs : (k : Int) < size
          · have hlt'' : (k : Int) < size := hs
            by_cases h4 : 0 ≤ ((k : Int) + by_)
            · by_cases h5 : ((k : Int) + by_) < 64
              · obtain ⟨n, hn⟩ : ∃ n : Nat, ((k : Int) + by_) = n := ⟨(((k : Int) + by_)).toNat, by omega⟩
                have hn64 : n < 64 := by omega
                have hz : z k = kz a n := by rw [← HZ.out]; exact mvZ_yes fr hlt'' (by omega) (by omega)
                have ho : o k = ko a n := by rw [← HO.out]; exact mvO_yes fr hlt'' (by omega) (by omega)
                have HK0 := HM.out n hn64
                rw [← hn] at HK0
                have HK := hid HK0
                have HN := hid hn
                clear HK0 hn hn64
                have hmk := hid (show (Value.int .i64 (mk a n)) = .int .i64 (mM (z k) (o k)) by rw [hz, ho]; rfl)
                have HU3 := hid U3
                have HU2 := hid U2
                have HU1 := hid U1
                have HU4 := hid U4
                clear U1 U2 U3 U4 HI hz ho HZ HO
                go_wp2_with fail
                refine (HK.out _).mono ?_
                rintro e w1 ⟨rfl, b1⟩
                have R := hid (mv_end hlt (HU1.out.below b1) (HU2.out.below b1) (HU3.out.below b1) (HU4.out.trans (b1.mono HU4.out.size)) _ hmk.out)
                have y3 := ((HU3.out.below b1).2 k hlt).1
                have y4 := ((HU3.out.below b1).2 k hlt).2
                clear b1 HU1 HU2 HU3 HU4 y1 y2 c1 c2 HK
                go_wp2
                go_roundw
                case rel => first | exact ⟨k + 1, by omega, by go_num, R⟩ | ((repeat apply Exists.intro); exact ⟨⟨k + 1, by omega, by go_num, R⟩, rfl⟩)
                case measure => simp [intOf]; omega
              · exfalso; omega
            · have R := hid (mv_noop HI.out hlt U1 U2 U3 U4 (by rw [← HZ.out]; exact (mvZ_no fr (by omega))) (by rw [← HO.out]; exact (mvO_no fr (by omega))))
              clear U1 U2 U3 U4 HI
              go_wp2
              go_roundw
              case rel => first | exact ⟨k + 1, by omega, by go_num, R⟩ | ((repeat apply Exists.intro); exact ⟨⟨k + 1, by omega, by go_num, R⟩, rfl⟩)
              case measure => simp [intOf]; omega
          · have R := hid (mv_noop HI.out hlt U1 U2 U3 U4 (by rw [← HZ.out]; exact (mvZ_no fr (by omega))) (by rw [← HO.out]; exact (mvO_no fr (by omega))))
            clear U1 U2 U3 U4 HI
            go_wp2
            go_roundw
            case rel => first | exact ⟨k + 1, by omega, by go_num, R⟩ | ((repeat apply Exists.intro); exact ⟨⟨k + 1, by omega, by go_num, R⟩, rfl⟩)
            case measure => simp [intOf]; omega
      · have fr : frm k by_ most = (k : Int) + by_ := by unfold frm; rw [if_neg (by omega)]
        have hp' : most < 0 := by omega
        by_cases hs : (k : Int) < size
        · have hlt'' : (k : Int) < size := hs
          by_cases h4 : 0 ≤ ((k : Int) + by_)
          · by_cases h5 : ((k : Int) + by_) < 64
            · obtain ⟨n, hn⟩ : ∃ n : Nat, ((k : Int) + by_) = n := ⟨(((k : Int) + by_)).toNat, by omega⟩
              have hn64 : n < 64 := by omega
              have hz : z k = kz a n := by rw [← HZ.out]; exact mvZ_yes fr hlt'' (by omega) (by omega)
              have ho : o k = ko a n := by rw [← HO.out]; exact mvO_yes fr hlt'' (by omega) (by omega)
              have HK0 := HM.out n hn64
              rw [← hn] at HK0
              have HK := hid HK0
              have HN := hid hn
              clear HK0 hn hn64
              have hmk := hid (show (Value.int .i64 (mk a n)) = .int .i64 (mM (z k) (o k)) by rw [hz, ho]; rfl)
              have HU3 := hid U3
              have HU2 := hid U2
              have HU1 := hid U1
              have HU4 := hid U4
              clear U1 U2 U3 U4 HI hz ho HZ HO
              go_wp2_with fail
              refine (HK.out _).mono ?_
              rintro e w1 ⟨rfl, b1⟩
              have R := hid (mv_end hlt (HU1.out.below b1) (HU2.out.below b1) (HU3.out.below b1) (HU4.out.trans (b1.mono HU4.out.size)) _ hmk.out)
              have y3 := ((HU3.out.below b1).2 k hlt).1
              have y4 := ((HU3.out.below b1).2 k hlt).2
              clear b1 HU1 HU2 HU3 HU4 y1 y2 c1 c2 HK
              go_wp2
              go_roundw
              case rel => first | exact ⟨k + 1, by omega, by go_num, R⟩ | ((repeat apply Exists.intro); exact ⟨⟨k + 1, by omega, by go_num, R⟩, rfl⟩)
              case measure => simp [intOf]; omega
            · have R := hid (mv_noop HI.out hlt U1 U2 U3 U4 (by rw [← HZ.out]; exact (mvZ_no fr (by omega))) (by rw [← HO.out]; exact (mvO_no fr (by omega))))
              clear U1 U2 U3 U4 HI
              go_wp2
              go_roundw
              case rel => first | exact ⟨k + 1, by omega, by go_num, R⟩ | ((repeat apply Exists.intro); exact ⟨⟨k + 1, by omega, by go_num, R⟩, rfl⟩)
              case measure => simp [intOf]; omega
          · have R := hid (mv_noop HI.out hlt U1 U2 U3 U4 (by rw [← HZ.out]; exact (mvZ_no fr (by omega))) (by rw [← HO.out]; exact (mvO_no fr (by omega))))
            clear U1 U2 U3 U4 HI
            go_wp2
            go_roundw
            case rel => first | exact ⟨k + 1, by omega, by go_num, R⟩ | ((repeat apply Exists.intro); exact ⟨⟨k + 1, by omega, by go_num, R⟩, rfl⟩)
            case measure => simp [intOf]; omega
        · have R := hid (mv_noop HI.out hlt U1 U2 U3 U4 (by rw [← HZ.out]; exact (mvZ_no fr (by omega))) (by rw [← HO.out]; exact (mvO_no fr (by omega))))
          clear U1 U2 U3 U4 HI
          go_wp2
          go_roundw
          case rel => first | exact ⟨k + 1, by omega, by go_num, R⟩ | ((repeat apply Exists.intro); exact ⟨⟨k + 1, by omega, by go_num, R⟩, rfl⟩)
          case measure => simp [intOf]; omega
    · have hk64 : k = 64 := by omega
      subst hk64
      have d1 := HI.out.res.1.2.1
      have d2 := HI.out.res.1.2.2
      have d3 := HI.out.res.2.1
      have d4 := HI.out.res.2.2
      have HS := hid (show (World.there wo (w.heap.size + 1 + 1) 0 64) ∧ wo.rangeAt (w.heap.size + 1 + 1) 0 (mL (pref z 64) (pref o 64)) from ⟨fun i hi => by rw [Nat.zero_add]; exact ⟨by rw [(HI.out.arr.2 i hi).1]; rfl, (HI.out.arr.2 i hi).2⟩, HI.out.arr.range⟩)
      have HMd := hid (fun W => rMade_any (pref z 64) (pref o 64) _ rfl W)
      have he : madeT (pref z 64) (pref o 64) = movT a by_ size most := by unfold movT; rw [HZ.out, HO.out]; exact madeT_congr _ _ _ _ (fun i hi => pref_all z i hi) (fun i hi => pref_all o i hi)
      rw [he] at HMd
      have HII := HI
      clear HI
      obtain ⟨L, hL⟩ : ∃ L, L = mL (pref z 64) (pref o 64) := ⟨_, rfl⟩
      rw [← hL] at HS HMd
      have hLl : L.length = 64 := by rw [hL]; exact mL_len _ _
      have HLL := hid hLl
      clear hL hLl
      unfold tv at HMd
      obtain ⟨R, hR⟩ : ∃ R, R = movT a by_ size most := ⟨_, rfl⟩
      rw [← hR] at HMd
      have HR := hid hR
      clear hR
      go_wp2_with ((with_reducible refine at_load 154 ?_); refine wpList_load_mid rfl 154 _ rfl (w.heap.size + 1 + 1) 0 rfl L _ HS.out.2 Try.underlying154 rfl (by rw [HLL.out]; exact infoA) ?_)
      refine (HMd.out _).mono ?_
      rintro e w1 ⟨rfl, b1⟩
      have R1 := HII.out.res.below b1
      have e1 := R1.1.2.1
      have e2 := R1.1.2.2
      have e3 := R1.2.1
      have e4 := R1.2.2
      have e5 := R1.1.1
      have HB := hid (HII.out.bel.trans (b1.mono HII.out.bel.size))
      clear R1 b1 d1 d2 d3 d4 HII
      go_wp2
      refine bodyPost_ret (v := .agg #[.int .u64 (ub R.1), .int .u64 (ub R.2)]) (by simp [results, Try.results173, go_sem, e1, e2, e5]; try rfl) rfl ⟨by rw [HR.out], ?_⟩
      exact (HB.out.setCell (by simp) _).setCell (by simp) _
end Go.Proofs.Ytoanbjnhoggpjaa

namespace Go.Proofs.Ytoanbjnhoggpjaa
set_option linter.unusedSimpArgs false
set_option linter.unusedVariables false
set_option maxRecDepth 100000
open Go.RowKit

theorem kz_ko {a : Tn} (h : tmay a = true) (i : Nat) : (!kz a i && ko a i) = bt a.1 i ∧ (kz a i && ko a i) = bt a.2 i := by
  have := may_bit h i
  unfold kz ko
  revert this
  cases bt a.1 i <;> cases bt a.2 i <;> simp
theorem mov_bits {a : Tn} (h : tmay a = true) (by_ size most : Int) (i : Nat) (hi : i < 64) :
    bt (movT a by_ size most).1 i = (mvOk i by_ size most && bt a.1 (frm i by_ most).toNat) ∧ bt (movT a by_ size most).2 i = (mvOk i by_ size most && bt a.2 (frm i by_ most).toNat) := by
  unfold movT
  rw [madeV_bit _ _ _ hi, madeM_bit _ _ _ hi]
  have k := kz_ko h (frm i by_ most).toNat
  unfold mvZ mvO
  cases mvOk i by_ size most
  · simp
  · simp only [if_true, Bool.true_and]; exact k
theorem low_bit (k i : Nat) (hk : k ≤ 64) (hi : i < 64) : bt (lowB k) i = decide (i < k) := by
  have e : (lowB k).toNat = 2 ^ k - 1 := by
    unfold lowB
    rw [BitVec.toNat_sub, BitVec.toNat_shiftLeft, show (1#64 : B64).toNat = 1 from rfl, Nat.shiftLeft_eq, Nat.one_mul]
    by_cases h : k = 64
    · subst h; decide
    · have h1 : 2 ^ k ≤ 2 ^ 63 := Nat.pow_le_pow_right (by decide) (by omega)
      have h2 : 0 < 2 ^ k := Nat.two_pow_pos k
      rw [Nat.mod_eq_of_lt (a := 2 ^ k) (by omega)]
      omega
  unfold bt
  rw [BitVec.getLsbD, e, Nat.testBit_two_pow_sub_one]
theorem mov_ext {a b : Tn} (h : tmay a = true) (by_ size most : Int) (h1 : ∀ i, i < 64 → (mvOk i by_ size most && bt a.1 (frm i by_ most).toNat) = bt b.1 i) (h2 : ∀ i, i < 64 → (mvOk i by_ size most && bt a.2 (frm i by_ most).toNat) = bt b.2 i) : movT a by_ size most = b :=
  t_ext (fun i hi => by rw [(mov_bits h by_ size most i hi).1, h1 i hi]) (fun i hi => by rw [(mov_bits h by_ size most i hi).2, h2 i hi])
theorem frm_no (i : Nat) (b : Int) : frm i b (-1) = (i : Int) + b := by unfold frm; rw [if_neg (by omega)]
theorem lsh_one (x : B64) (n i : Nat) (hi : i < 64) : (mvOk i (-(n : Int)) 64 (-1) && bt x (frm i (-(n : Int)) (-1)).toNat) = bt (x <<< n) i := by
  rw [bt_shl _ _ _ hi, frm_no]
  unfold mvOk
  rw [frm_no]
  by_cases h : n ≤ i
  · have e : ((i : Int) + -(n : Int)).toNat = i - n := by omega
    have d : decide ((i : Int) < 64 ∧ 0 ≤ (i : Int) + -(n : Int) ∧ (i : Int) + -(n : Int) < 64) = true := decide_eq_true (by omega)
    rw [e, d, decide_eq_true h]
  · have d : decide ((i : Int) < 64 ∧ 0 ≤ (i : Int) + -(n : Int) ∧ (i : Int) + -(n : Int) < 64) = false := decide_eq_false (by omega)
    rw [d, decide_eq_false h]; rfl
theorem rsh_one (x : B64) (n i : Nat) (hi : i < 64) : (mvOk i (n : Int) 64 (-1) && bt x (frm i (n : Int) (-1)).toNat) = bt (x >>> n) i := by
  rw [bt_shr, frm_no]
  unfold mvOk
  rw [frm_no]
  have e : ((i : Int) + (n : Int)).toNat = n + i := by omega
  rw [e]
  by_cases h : n + i < 64
  · rw [decide_eq_true (by omega)]; rfl
  · rw [decide_eq_false (by omega), bt_out _ _ (by omega)]; rfl
theorem cut_one (x : B64) (n i : Nat) (hn : n ≤ 64) (hi : i < 64) : (mvOk i 0 (n : Int) (-1) && bt x (frm i 0 (-1)).toNat) = bt (x &&& lowB n) i := by
  rw [bt_and, low_bit _ _ hn hi, frm_no]
  unfold mvOk
  rw [frm_no]
  have e : ((i : Int) + 0).toNat = i := by omega
  rw [e]
  by_cases h : i < n
  · rw [decide_eq_true (by omega), decide_eq_true h]; simp
  · rw [decide_eq_false (by omega), decide_eq_false h]; simp
theorem ssh_bit (x : B64) (n i : Nat) (hi : i < 64) : bt (x.sshiftRight n) i = if n + i < 64 then bt x (n + i) else bt x 63 := by
  unfold bt
  rw [BitVec.getLsbD_sshiftRight]
  have : ¬ 64 ≤ i := by omega
  simp only [this, decide_false, Bool.not_false, Bool.true_and]
  split
  · rfl
  · rw [BitVec.msb_eq_getLsbD_last]
theorem arsh_one (x : B64) (l n i : Nat) (hl : l = 32 ∨ l = 64) (hn : n < l) (hi : i < 64) : (mvOk i (n : Int) (l : Int) ((l : Int) - 1) && bt x (frm i (n : Int) ((l : Int) - 1)).toNat) = bt (arB (64 - l) n l x) i := by
  unfold arB
  rw [bt_and, low_bit _ _ (by omega) hi, ssh_bit _ _ _ hi]
  have hf : frm i (n : Int) ((l : Int) - 1) = if (l : Int) - 1 < (i : Int) + n then (l : Int) - 1 else (i : Int) + n := by
    unfold frm
    by_cases h : (l : Int) - 1 < (i : Int) + n
    · rw [if_pos ⟨by omega, h⟩, if_pos h]
    · rw [if_neg (by omega), if_neg h]
  unfold mvOk
  rw [hf]
  by_cases hil : i < l
  · rw [decide_eq_true hil, Bool.and_true]
    by_cases h : (l : Int) - 1 < (i : Int) + n
    · rw [if_pos h, decide_eq_true (by omega), Bool.true_and]
      have e : ((l : Int) - 1).toNat = l - 1 := by omega
      rw [e]
      by_cases h2 : n + i < 64
      · rw [if_pos h2, ssh_bit _ _ _ h2, if_neg (by omega), bt_shl _ _ _ (by omega), decide_eq_true (by omega), Bool.true_and]
        congr 1; omega
      · rw [if_neg h2, ssh_bit _ _ _ (by omega)]
        by_cases h3 : 64 - l + 63 < 64
        · rw [if_pos h3, bt_shl _ _ _ (by omega), decide_eq_true (by omega), Bool.true_and]; congr 1; omega
        · rw [if_neg h3, bt_shl _ _ _ (by omega), decide_eq_true (by omega), Bool.true_and]; congr 1; omega
    · rw [if_neg h, decide_eq_true (by omega), Bool.true_and, if_pos (by omega), ssh_bit _ _ _ (by omega), if_pos (by omega), bt_shl _ _ _ (by omega), decide_eq_true (by omega), Bool.true_and]
      congr 1; omega
  · rw [decide_eq_false hil, decide_eq_false (by omega)]; simp
end Go.Proofs.Ytoanbjnhoggpjaa

namespace Go.Proofs.Ytoanbjnhoggpjaa
set_option linter.unusedSimpArgs false
set_option linter.unusedVariables false
set_option maxRecDepth 100000
open Go.RowKit

theorem hs_iff (t : Tn) (x : B64) : Hs t x ↔ ∀ i, i < 64 → bt t.1 i = (bt x i && !bt t.2 i) :=
  ⟨fun h i hi => hs_bit h i hi, fun h => b_ext fun i hi => by rw [bt_and, bt_not _ _ hi, h i hi]⟩
theorem has_iff2 {t : Tn} (h : tmay t = true) (x : B64) : thas t x = true ↔ ∀ i, i < 64 → bt t.1 i = (bt x i && !bt t.2 i) := by
  rw [has_iff, hs_iff]; exact ⟨fun a => a.2, fun a => ⟨h, a⟩⟩
theorem may_of {t : Tn} (h : ∀ i, i < 64 → (bt t.1 i && bt t.2 i) = false) : tmay t = true := by
  unfold tmay
  rw [beq_iff_eq]
  exact b_ext fun i hi => by rw [bt_and, bt_zero, h i hi]
theorem meetB_iff {a b : Tn} (ha : tmay a = true) (hb : tmay b = true) : meetB a b = true ↔ ∀ i, i < 64 → ((bt a.1 i ^^ bt b.1 i) && !bt a.2 i && !bt b.2 i) = false := by
  unfold meetB
  rw [ha, hb, Bool.true_and, Bool.true_and, Bool.and_eq_true, tin_iff, tin_iff]
  constructor
  · rintro ⟨⟨_, _, _, h1⟩, ⟨_, _, _, h2⟩⟩ i hi
    have e1 := hs_bit h1 i hi
    have e2 := hs_bit h2 i hi
    unfold meetT at e1 e2
    simp only [bt_or] at e1 e2
    revert e1 e2
    cases bt a.1 i <;> cases bt a.2 i <;> cases bt b.1 i <;> cases bt b.2 i <;> simp
  · intro h
    have hm : tmay (meetT a b) = true := may_of fun i hi => by
      unfold meetT
      simp only [bt_or, bt_and]
      have := may_bit ha i
      have := may_bit hb i
      revert this; revert this
      cases bt a.1 i <;> cases bt a.2 i <;> cases bt b.1 i <;> cases bt b.2 i <;> simp
    refine ⟨⟨hm, ha, fun i hi => ?_, (hs_iff _ _).2 fun i hi => ?_⟩, ⟨hm, hb, fun i hi => ?_, (hs_iff _ _).2 fun i hi => ?_⟩⟩
    · unfold meetT; simp only [bt_and]; cases bt a.2 i <;> simp
    · have e := h i hi
      have m1 := may_bit ha i
      have m2 := may_bit hb i
      unfold meetT; simp only [bt_or]
      revert e m1 m2
      cases bt a.1 i <;> cases bt a.2 i <;> cases bt b.1 i <;> cases bt b.2 i <;> simp
    · unfold meetT; simp only [bt_and]; cases bt a.2 i <;> cases bt b.2 i <;> simp
    · have e := h i hi
      have m1 := may_bit ha i
      have m2 := may_bit hb i
      unfold meetT; simp only [bt_or]
      revert e m1 m2
      cases bt a.1 i <;> cases bt a.2 i <;> cases bt b.1 i <;> cases bt b.2 i <;> simp
theorem meet_may {a b : Tn} (ha : tmay a = true) (hb : tmay b = true) : tmay (meetT a b) = true := may_of fun i hi => by
  unfold meetT
  simp only [bt_or, bt_and]
  have := may_bit ha i
  have := may_bit hb i
  revert this; revert this
  cases bt a.1 i <;> cases bt a.2 i <;> cases bt b.1 i <;> cases bt b.2 i <;> simp
theorem meet_has {a b : Tn} (ha : tmay a = true) (hb : tmay b = true) (x : B64) : (meetB a b && thas (meetT a b) x) = (thas a x && thas b x) := by
  rw [Bool.eq_iff_iff, Bool.and_eq_true, Bool.and_eq_true, meetB_iff ha hb, has_iff2 (meet_may ha hb), has_iff2 ha, has_iff2 hb]
  constructor
  · rintro ⟨h1, h2⟩
    constructor <;> intro i hi <;> (
      have e1 := h1 i hi
      have e2 := h2 i hi
      have m1 := may_bit ha i
      have m2 := may_bit hb i
      unfold meetT at e2
      simp only [bt_or, bt_and] at e2
      revert e1 e2 m1 m2
      cases bt a.1 i <;> cases bt a.2 i <;> cases bt b.1 i <;> cases bt b.2 i <;> cases bt x i <;> simp)
  · rintro ⟨h1, h2⟩
    constructor <;> intro i hi <;> (
      have e1 := h1 i hi
      have e2 := h2 i hi
      (try unfold meetT)
      (try simp only [bt_or, bt_and])
      revert e1 e2
      cases bt a.1 i <;> cases bt a.2 i <;> cases bt b.1 i <;> cases bt b.2 i <;> cases bt x i <;> simp)
theorem join_may (a b : Tn) : tmay (joinT a b) = true := but_may _ _
theorem join_has {a b : Tn} (ha : tmay a = true) (hb : tmay b = true) (x : B64) (h : thas a x = true ∨ thas b x = true) : thas (joinT a b) x = true := by
  rw [has_iff2 (join_may a b)]
  rw [has_iff2 ha, has_iff2 hb] at h
  intro i hi
  have m1 := may_bit ha i
  have m2 := may_bit hb i
  unfold joinT butT
  simp only [bt_and, bt_not _ _ hi, bt_or, bt_xor]
  rcases h with h | h <;> (
    have e := h i hi
    revert e m1 m2
    cases bt a.1 i <;> cases bt a.2 i <;> cases bt b.1 i <;> cases bt b.2 i <;> cases bt x i <;> simp)
/-- How many of the lowest bits lo and hi do not share. -/
def LL (lo hi : B64) : Nat := Lib.bitLen (lo ^^^ hi).toNat
theorem LL_le (lo hi : B64) : LL lo hi ≤ 64 := bitLen_le _
theorem high_same (lo hi : B64) (i : Nat) (h : LL lo hi ≤ i) (hi' : i < 64) : bt lo i = bt hi i := by
  have hx : (lo ^^^ hi).toNat < 2 ^ LL lo hi := by
    unfold LL
    by_cases h0 : (lo ^^^ hi).toNat = 0
    · rw [h0]; decide
    · false_or_by_contra
      rename_i hn
      by_cases h6 : Lib.bitLen (lo ^^^ hi).toNat < 64
      · have h2 := Lib.bitLen_shift (Lib.bitLen (lo ^^^ hi).toNat) (lo ^^^ hi).toNat (by omega) (lo ^^^ hi).isLt
        have hp : 0 < (lo ^^^ hi).toNat / 2 ^ Lib.bitLen (lo ^^^ hi).toNat := Nat.div_pos (by omega) (Nat.two_pow_pos _)
        have hq : (lo ^^^ hi).toNat / 2 ^ Lib.bitLen (lo ^^^ hi).toNat < 2 ^ 64 := Nat.lt_of_le_of_lt (Nat.div_le_self _ _) (lo ^^^ hi).isLt
        have h3 := Lib.bitLen_half _ (Nat.ne_of_gt hp) hq
        omega
      · have := (lo ^^^ hi).isLt
        have h7 : 2 ^ 64 ≤ 2 ^ Lib.bitLen (lo ^^^ hi).toNat := Nat.pow_le_pow_right (by decide) (by omega)
        omega
  have e : bt (lo ^^^ hi) i = false := by
    unfold bt
    rw [BitVec.getLsbD]
    exact Nat.testBit_lt_two_pow (Nat.lt_of_lt_of_le hx (Nat.pow_le_pow_right (by decide) h))
  rw [bt_xor] at e
  revert e; cases bt lo i <;> cases bt hi i <;> simp
theorem div_eq_bits {x y : B64} {L : Nat} (h : ∀ i, L ≤ i → i < 64 → bt x i = bt y i) : x.toNat / 2 ^ L = y.toNat / 2 ^ L := by
  apply Nat.eq_of_testBit_eq
  intro j
  rw [Nat.testBit_div_two_pow, Nat.testBit_div_two_pow]
  by_cases hj : j + L < 64
  · exact h (j + L) (by omega) hj
  · have e1 : x.toNat.testBit (j + L) = false := BitVec.getLsbD_of_ge x (j + L) (by omega)
    have e2 : y.toNat.testBit (j + L) = false := BitVec.getLsbD_of_ge y (j + L) (by omega)
    rw [e1, e2]
theorem bits_of_div {x y : B64} {L : Nat} (h : x.toNat / 2 ^ L = y.toNat / 2 ^ L) (i : Nat) (hi : L ≤ i) : bt x i = bt y i := by
  have e : (x.toNat / 2 ^ L).testBit (i - L) = (y.toNat / 2 ^ L).testBit (i - L) := by rw [h]
  rw [Nat.testBit_div_two_pow, Nat.testBit_div_two_pow, Nat.sub_add_cancel hi] at e
  exact e
def rgT (lo hi : B64) : Tn := butT lo (lowB (LL lo hi))
theorem rg_may (lo hi : B64) : tmay (rgT lo hi) = true := but_may _ _
theorem rg_has_iff (lo hi x : B64) : thas (rgT lo hi) x = true ↔ ∀ i, LL lo hi ≤ i → i < 64 → bt x i = bt lo i := by
  rw [has_iff2 (rg_may lo hi)]
  unfold rgT butT
  constructor
  · intro h i h1 h2
    have e := h i h2
    simp only [bt_and, bt_not _ _ h2, low_bit _ _ (LL_le lo hi) h2] at e
    rw [decide_eq_false (by omega)] at e
    revert e; cases bt x i <;> cases bt lo i <;> simp
  · intro h i h2
    simp only [bt_and, bt_not _ _ h2, low_bit _ _ (LL_le lo hi) h2]
    by_cases h1 : i < LL lo hi
    · rw [decide_eq_true h1]; simp
    · rw [decide_eq_false h1, h i (by omega) h2]
theorem rg_lo (lo hi : B64) : thas (rgT lo hi) lo = true := (rg_has_iff _ _ _).2 fun _ _ _ => rfl
theorem rg_hi (lo hi : B64) : thas (rgT lo hi) hi = true := (rg_has_iff _ _ _).2 fun i h1 h2 => (high_same lo hi i h1 h2).symm
theorem rg_mid {lo hi x : B64} (h1 : ub lo ≤ ub x) (h2 : ub x ≤ ub hi) : thas (rgT lo hi) x = true := by
  rw [rg_has_iff]
  intro i hi1 hi2
  have e : lo.toNat / 2 ^ LL lo hi = hi.toNat / 2 ^ LL lo hi := div_eq_bits fun j hj1 hj2 => high_same lo hi j hj1 hj2
  unfold ub at h1 h2
  have l1 : lo.toNat / 2 ^ LL lo hi ≤ x.toNat / 2 ^ LL lo hi := Nat.div_le_div_right (by omega)
  have l2 : x.toNat / 2 ^ LL lo hi ≤ hi.toNat / 2 ^ LL lo hi := Nat.div_le_div_right (by omega)
  exact bits_of_div (by omega) i hi1
theorem low_up (k : Nat) : lowB k + 1#64 = 1#64 <<< k := by unfold lowB; rw [BitVec.sub_add_cancel]
theorem low_and (k : Nat) (hk : k ≤ 64) : lowB k &&& (lowB k + 1#64) = 0#64 := by
  rw [low_up]
  apply b_ext
  intro i hi
  rw [bt_and, low_bit _ _ hk hi, bt_shl _ _ _ hi, one_bit, bt_zero]
  by_cases h : i < k
  · have : ¬ k ≤ i := by omega
    simp [this]
  · simp [h]
theorem rg_m (lo hi : B64) : (rgT lo hi).2 = lowB (LL lo hi) := rfl
theorem rg_eq (lo hi : B64) : (lo == hi) = ((rgT lo hi).2 == 0#64) := by
  rw [rg_m, Bool.eq_iff_iff, beq_iff_eq, beq_iff_eq]
  constructor
  · rintro rfl
    unfold LL
    rw [BitVec.xor_self]
    decide
  · intro h
    apply b_ext
    intro i h6
    apply high_same lo hi i _ h6
    have e : bt (lowB (LL lo hi)) i = false := by rw [h, bt_zero]
    rw [low_bit _ _ (LL_le lo hi) h6, decide_eq_false_iff_not] at e
    omega
theorem rg_out (lo hi : B64) : (lo ^^^ hi) &&& ~~~(rgT lo hi).2 = 0#64 := by
  rw [rg_m]
  apply b_ext
  intro i h6
  rw [bt_and, bt_not _ _ h6, low_bit _ _ (LL_le lo hi) h6, bt_zero, bt_xor]
  by_cases h : i < LL lo hi
  · rw [decide_eq_true h]; simp
  · rw [high_same lo hi i (by omega) h6]; simp
theorem rg_big {lo hi : B64} (h : lo ≠ hi) : ub ((rgT lo hi).2 >>> 1) < ub (lo ^^^ hi) := by
  have h0 : (lo ^^^ hi).toNat ≠ 0 := by
    intro e
    apply h
    have : lo ^^^ hi = 0#64 := BitVec.eq_of_toNat_eq (by rw [e]; rfl)
    exact BitVec.xor_eq_zero_iff.1 this
  have hl : LL lo hi ≠ 0 := by
    intro e
    apply h
    exact b_ext fun i h6 => high_same lo hi i (by omega) h6
  have hk := LL_le lo hi
  have e1 : ((rgT lo hi).2 >>> 1).toNat = 2 ^ (LL lo hi - 1) - 1 := by
    rw [rg_m, BitVec.toNat_ushiftRight, Nat.shiftRight_eq_div_pow]
    have : (lowB (LL lo hi)).toNat = 2 ^ LL lo hi - 1 := by
      unfold lowB
      rw [BitVec.toNat_sub, BitVec.toNat_shiftLeft, show (1#64 : B64).toNat = 1 from rfl, Nat.shiftLeft_eq, Nat.one_mul]
      by_cases h : LL lo hi = 64
      · rw [h]
      · have h1 : 2 ^ LL lo hi ≤ 2 ^ 63 := Nat.pow_le_pow_right (by decide) (by omega)
        have h2 : 0 < 2 ^ LL lo hi := Nat.two_pow_pos _
        rw [Nat.mod_eq_of_lt (a := 2 ^ LL lo hi) (by omega)]
        omega
    rw [this]
    have h3 : 2 ^ LL lo hi = 2 * 2 ^ (LL lo hi - 1) := by rw [← Nat.pow_succ']; congr 1; omega
    have h4 : 0 < 2 ^ (LL lo hi - 1) := Nat.two_pow_pos _
    omega
  have e2 : 2 ^ (LL lo hi - 1) ≤ (lo ^^^ hi).toNat := by
    false_or_by_contra
    rename_i hn
    have := Lib.bitLen_le (lo ^^^ hi).toNat (LL lo hi - 1) (by omega) (by omega)
    unfold LL at this hl
    omega
  have h4 : 0 < 2 ^ (LL lo hi - 1) := Nat.two_pow_pos _
  unfold ub
  rw [e1]
  omega
end Go.Proofs.Ytoanbjnhoggpjaa

namespace Go.Proofs.Ytoanbjnhoggpjaa
set_option linter.unusedSimpArgs false
set_option linter.unusedVariables false
set_option maxRecDepth 100000
open Go.ChangeShapes Go.WideShapes Go.ChangeAt Go.RowKit

theorem rfit_t (x : B64) (w : World) : Calls Try.prog 132 #[.bool true, .int .u64 (ub x)] w fun e w' => e = .returned (.int .u64 (ub x)) ∧ w = w' := by
  go_enter Try.func132, Try.ntmps132
  go_wp2
  go_ret
  exact ⟨rfl, rfl⟩
theorem rsize_t (w : World) : Calls Try.prog 133 #[.bool true] w fun e w' => e = .returned (.int .u64 64) ∧ w = w' := by
  go_enter Try.func133, Try.ntmps133
  go_wp2
  go_ret
  exact ⟨rfl, rfl⟩
/-- One step down, the sign again. -/
def stp (l : Nat) (v : B64) : B64 := (v >>> 1) ||| (v &&& (1#64 <<< (l - 1)))
def itr (l : Nat) (x : B64) : Nat → B64
  | 0 => x
  | k + 1 => stp l (itr l x k)
theorem itr_bit (l : Nat) (hl : l = 32 ∨ l = 64) (x : B64) (hx : ∀ i, l ≤ i → bt x i = false) : ∀ k i, i < 64 → bt (itr l x k) i = (decide (i < l) && bt x (min (i + k) (l - 1)))
  | 0, i, hi => by
    show bt x i = _
    by_cases h : i < l
    · rw [decide_eq_true h, Bool.true_and]; congr 1; omega
    · rw [decide_eq_false h, hx i (by omega)]; rfl
  | k + 1, i, hi => by
    show bt (stp l (itr l x k)) i = _
    have ih := itr_bit l hl x hx k
    unfold stp
    rw [bt_or, bt_shr, bt_and, bt_shl _ _ _ hi, one_bit, ih i hi]
    by_cases h63 : 1 + i < 64
    · rw [ih (1 + i) h63]
      by_cases h1 : 1 + i < l
      · have hd : ¬ (l - 1 ≤ i) := by omega
        have hd2 : i < l := by omega
        simp only [h1, hd, hd2, decide_true, decide_false, Bool.true_and, Bool.false_and, Bool.and_false, Bool.or_false]
        congr 1; omega
      · by_cases h2 : i < l
        · have e : i = l - 1 := by omega
          have hd : l - 1 ≤ i := by omega
          have hd3 : i - (l - 1) = 0 := by omega
          simp only [h1, h2, hd, hd3, decide_true, decide_false, Bool.true_and, Bool.false_and, Bool.and_true, Bool.false_or]
          congr 1; omega
        · have hd3 : ¬ (i - (l - 1) = 0) := by omega
          simp only [h1, h2, decide_false, Bool.false_and, Bool.false_or]
    · rw [bt_out _ (1 + i) (by omega)]
      by_cases h2 : i < l
      · have hd : l - 1 ≤ i := by omega
        have hd3 : i - (l - 1) = 0 := by omega
        simp only [h2, hd, hd3, decide_true, Bool.true_and, Bool.and_true, Bool.false_or]
        congr 1; omega
      · simp only [h2, decide_false, Bool.false_and, Bool.false_or]
theorem itr_hi (x : B64) (hx : ∀ i, 32 ≤ i → bt x i = false) (k : Nat) : ∀ i, 32 ≤ i → bt (itr 32 x k) i = false := by
  intro i hi
  by_cases h6 : i < 64
  · rw [itr_bit 32 (Or.inl rfl) x hx _ i h6, decide_eq_false (by omega)]; rfl
  · exact bt_out _ _ (by omega)
theorem fit_bits (x : B64) : ub x % 4294967296 = ub (x &&& lowB 32) ∧ ∀ i, 32 ≤ i → bt (x &&& lowB 32) i = false := by
  constructor
  · unfold ub
    rw [BitVec.toNat_and, show (lowB 32).toNat = 2 ^ 32 - 1 by decide, Nat.and_two_pow_sub_one_eq_mod]
    omega
  · intro i hi
    by_cases h6 : i < 64
    · rw [bt_and, low_bit _ _ (by decide) h6, decide_eq_false (by omega)]; simp
    · exact bt_out _ _ (by omega)
theorem fit_same {x : B64} (h : ∀ i, 32 ≤ i → bt x i = false) : x &&& lowB 32 = x := by
  apply b_ext
  intro i hi
  rw [bt_and, low_bit _ _ (by decide) hi]
  by_cases h2 : i < 32
  · rw [decide_eq_true h2]; simp
  · rw [h i (by omega)]; rfl
theorem rfit_f (x : B64) (w : World) : Calls Try.prog 132 #[.bool false, .int .u64 (ub x)] w fun e w' => e = .returned (.int .u64 (ub (x &&& lowB 32))) ∧ w = w' := by
  have h := hid (fit_bits x).1
  have h0 := ub_ge x
  go_enter Try.func132, Try.ntmps132
  go_wp2
  go_ret
  exact ⟨ret_val (congrArg (Value.int .u64) (by rw [← h.out]; first | done | rfl | exact Int.tmod_eq_emod_of_nonneg h0)), rfl⟩
theorem rsize_f (w : World) : Calls Try.prog 133 #[.bool false] w fun e w' => e = .returned (.int .u64 32) ∧ w = w' := by
  go_enter Try.func133, Try.ntmps133
  go_wp2
  go_ret
  exact ⟨rfl, rfl⟩
set_option maxHeartbeats 4000000 in
theorem ralu12_64 (x : B64) (k : Nat) (hk : k < 64) (w : World) : Calls Try.prog 66 #[.int .i64 12, .bool true, .int .u64 (ub x), .int .u64 (k : Int)] w fun e w' => e = .returned (.tuple #[.int .u64 (ub (itr 64 x k)), .int .i64 0]) ∧ w = w' := by
  have hk' : (k : Int) < 64 := by omega
  have HF := hid fun (y : B64) W => rfit_t y W
  have hkm : (k : Int) % 64 = (k : Int) := by omega
  have hk0 : 0 ≤ (k : Int) := by omega
  have hkk : (k : Int) = ub (BitVec.ofNat 64 k) := ub_ofNat k (by omega)
  have HFk0 := rfit_t (BitVec.ofNat 64 k) w
  have hke : BitVec.ofNat 64 k = BitVec.ofNat 64 k := by rfl
  rw [hke, ← hkk] at HFk0
  have HFk := hid HFk0
  clear HFk0 hkk hke
  have HSt := hid (show ∀ j, itr 64 x (j + 1) = (itr 64 x j >>> 1) ||| (itr 64 x j &&& 9223372036854775808#64) from fun j => rfl)
  go_enter Try.func66, Try.ntmps66
  go_wp2_with fail
  refine (HF.out x _ ).mono ?_
  rintro e w' ⟨rfl, rfl⟩
  go_wp2_with fail
  refine HFk.out.mono ?_
  rintro e w' ⟨rfl, rfl⟩
  go_wp2_with fail
  refine (rsize_t _).mono ?_
  rintro e w' ⟨rfl, rfl⟩
  go_wp2_with fail
  refine (rsize_t _).mono ?_
  rintro e w' ⟨rfl, rfl⟩
  go_wp2_with fail
  go_loop [13, 15, 16] (fun v c t => ∃ j : Nat, j ≤ k ∧ c = .int .u64 j ∧ v = .int .u64 (ub (itr 64 x j))) (fun _ c _ => k - (intOf c).toNat)
  case atStart => exact ⟨0, by omega, rfl, rfl⟩
  case round =>
    obtain ⟨j, hj, rfl, rfl⟩ := hrel
    by_cases hlt : j < k
    · have hlt' : (j : Int) < (k : Int) := by omega
      have hj64 : (j : Int) < 64 := by omega
      have hst := hid (HSt.out j)
      go_wp2
      go_round
      case rel => exact ⟨j + 1, by omega, by go_num, by rw [hst.out, ← ub_or, ← ub_and, show ub 9223372036854775808#64 = 9223372036854775808 by kernel_rfl]⟩
      case measure => simp [intOf]; omega
    · have hjk : j = k := by omega
      subst hjk
      go_wp2_with fail
      refine (HF.out _ _ ).mono ?_
      rintro e w' ⟨rfl, rfl⟩
      go_wp2
      exact bodyPost_ret (v := .tuple #[.int .u64 (ub (itr 64 x j)), .int .i64 0]) (by simp [results, Try.results66, go_sem]; try rfl) rfl ⟨rfl, rfl⟩
set_option maxHeartbeats 4000000 in
theorem ralu12_32 (x : B64) (k : Nat) (hk : k < 32) (hx : ∀ i, 32 ≤ i → bt x i = false) (w : World) : Calls Try.prog 66 #[.int .i64 12, .bool false, .int .u64 (ub x), .int .u64 (k : Int)] w fun e w' => e = .returned (.tuple #[.int .u64 (ub (itr 32 x k)), .int .i64 0]) ∧ w = w' := by
  have hk' : (k : Int) < 32 := by omega
  have HF := hid fun (y : B64) W => (fun (h : ∀ i, 32 ≤ i → bt y i = false) => by have hr := rfit_f y W; rw [fit_same h] at hr; exact hr : (∀ i, 32 ≤ i → bt y i = false) → Calls Try.prog 132 #[.bool false, .int .u64 (ub y)] W fun e w' => e = .returned (.int .u64 (ub y)) ∧ W = w')
  have hkm : (k : Int) % 32 = (k : Int) := by omega
  have hk0 : 0 ≤ (k : Int) := by omega
  have hkk : (k : Int) = ub (BitVec.ofNat 64 k) := ub_ofNat k (by omega)
  have HFk0 := rfit_f (BitVec.ofNat 64 k) w
  have hke : BitVec.ofNat 64 k &&& lowB 32 = BitVec.ofNat 64 k := by apply fit_same; intro i hi; unfold bt; rw [BitVec.getLsbD, BitVec.toNat_ofNat, Nat.mod_eq_of_lt (by omega)]; exact Nat.testBit_lt_two_pow (Nat.lt_of_lt_of_le hk (Nat.le_of_lt (Nat.lt_of_lt_of_le (by decide : 32 < 2 ^ 32) (Nat.pow_le_pow_right (by decide) hi))))
  rw [hke, ← hkk] at HFk0
  have HFk := hid HFk0
  clear HFk0 hkk hke
  have HSt := hid (show ∀ j, itr 32 x (j + 1) = (itr 32 x j >>> 1) ||| (itr 32 x j &&& 2147483648#64) from fun j => rfl)
  go_enter Try.func66, Try.ntmps66
  go_wp2_with fail
  refine (HF.out x _ hx).mono ?_
  rintro e w' ⟨rfl, rfl⟩
  go_wp2_with fail
  refine HFk.out.mono ?_
  rintro e w' ⟨rfl, rfl⟩
  go_wp2_with fail
  refine (rsize_f _).mono ?_
  rintro e w' ⟨rfl, rfl⟩
  go_wp2_with fail
  refine (rsize_f _).mono ?_
  rintro e w' ⟨rfl, rfl⟩
  go_wp2_with fail
  go_loop [13, 15, 16] (fun v c t => ∃ j : Nat, j ≤ k ∧ c = .int .u64 j ∧ v = .int .u64 (ub (itr 32 x j))) (fun _ c _ => k - (intOf c).toNat)
  case atStart => exact ⟨0, by omega, rfl, rfl⟩
  case round =>
    obtain ⟨j, hj, rfl, rfl⟩ := hrel
    by_cases hlt : j < k
    · have hlt' : (j : Int) < (k : Int) := by omega
      have hj64 : (j : Int) < 64 := by omega
      have hst := hid (HSt.out j)
      go_wp2
      go_round
      case rel => exact ⟨j + 1, by omega, by go_num, by rw [hst.out, ← ub_or, ← ub_and, show ub 2147483648#64 = 2147483648 by kernel_rfl]⟩
      case measure => simp [intOf]; omega
    · have hjk : j = k := by omega
      subst hjk
      go_wp2_with fail
      refine (HF.out _ _ (itr_hi x hx _)).mono ?_
      rintro e w' ⟨rfl, rfl⟩
      go_wp2
      exact bodyPost_ret (v := .tuple #[.int .u64 (ub (itr 32 x j)), .int .i64 0]) (by simp [results, Try.results66, go_sem]; try rfl) rfl ⟨rfl, rfl⟩
end Go.Proofs.Ytoanbjnhoggpjaa

namespace Go.Proofs.Ytoanbjnhoggpjaa
set_option linter.unusedSimpArgs false
set_option linter.unusedVariables false
set_option maxRecDepth 100000
open Go.ChangeShapes Go.WideShapes Go.ChangeAt Go.RowKit

theorem cut_may {t : Tn} (h : tmay t = true) (l : Nat) : tmay (t.1 &&& lowB l, t.2 &&& lowB l) = true := may_of fun i hi => by
  have := may_bit h i
  dsimp only
  rw [bt_and, bt_and]
  revert this
  cases bt t.1 i <;> cases bt t.2 i <;> cases bt (lowB l) i <;> simp
theorem cut_hs {t : Tn} {x : B64} (h : Hs t x) (l : Nat) : Hs (t.1 &&& lowB l, t.2 &&& lowB l) (x &&& lowB l) := b_ext fun i hi => by
  have e := hs_bit h i hi
  dsimp only
  rw [bt_and, bt_not _ _ hi, bt_and, bt_and, bt_and, e]
  cases bt x i <;> cases bt t.2 i <;> cases bt (lowB l) i <;> simp
theorem and_low64 (x : B64) : x &&& lowB 64 = x := by
  apply b_ext
  intro i hi
  rw [bt_and, low_bit _ _ (by decide) hi, decide_eq_true hi]; simp
theorem ar_hs {t : Tn} {x : B64} (h : Hs t x) (l n : Nat) (hl : l = 32 ∨ l = 64) (hn : n < l) : Hs (arB (64 - l) n l t.1, arB (64 - l) n l t.2) (arB (64 - l) n l x) := b_ext fun i hi => by
  dsimp only
  rw [bt_and, bt_not _ _ hi, ← arsh_one x l n i hl hn hi, ← arsh_one t.1 l n i hl hn hi, ← arsh_one t.2 l n i hl hn hi]
  cases hm : mvOk i (n : Int) (l : Int) ((l : Int) - 1)
  · simp
  · have hr : (frm i (n : Int) ((l : Int) - 1)).toNat < 64 := by
      unfold mvOk at hm
      rw [decide_eq_true_eq] at hm
      omega
    rw [hs_bit h _ hr]
    simp
theorem ar_may {t : Tn} (h : tmay t = true) (l n : Nat) (hl : l = 32 ∨ l = 64) (hn : n < l) : tmay (arB (64 - l) n l t.1, arB (64 - l) n l t.2) = true := may_of fun i hi => by
  dsimp only
  rw [← arsh_one t.1 l n i hl hn hi, ← arsh_one t.2 l n i hl hn hi]
  have := may_bit h (frm i (n : Int) ((l : Int) - 1)).toNat
  revert this
  cases mvOk i (n : Int) (l : Int) ((l : Int) - 1) <;> simp
theorem itr_ar (l : Nat) (hl : l = 32 ∨ l = 64) (x : B64) (hx : ∀ i, l ≤ i → bt x i = false) (n : Nat) (hn : n < l) : itr l x n = arB (64 - l) n l x := by
  apply b_ext
  intro i hi
  rw [itr_bit l hl x hx n i hi, ← arsh_one x l n i hl hn hi]
  have hf : frm i (n : Int) ((l : Int) - 1) = ((min (i + n) (l - 1) : Nat) : Int) := by
    unfold frm
    split <;> omega
  unfold mvOk
  rw [hf, Int.toNat_natCast]
  by_cases h : i < l
  · rw [decide_eq_true h, decide_eq_true (by omega)]
  · rw [decide_eq_false h, decide_eq_false (by omega)]
theorem shr_hs {t : Tn} {x : B64} (h : Hs t x) (n : Nat) : Hs (t.1 >>> n, t.2 >>> n) (x >>> n) := b_ext fun i hi => by
  dsimp only
  rw [bt_and, bt_not _ _ hi, bt_shr, bt_shr, bt_shr]
  by_cases h6 : n + i < 64
  · rw [hs_bit h _ h6]
  · rw [bt_out x _ (by omega), bt_out t.2 _ (by omega), bt_out t.1 _ (by omega)]; rfl
theorem shr_may {t : Tn} (h : tmay t = true) (n : Nat) : tmay (t.1 >>> n, t.2 >>> n) = true := may_of fun i hi => by
  dsimp only; rw [bt_shr, bt_shr]; exact may_bit h _
end Go.Proofs.Ytoanbjnhoggpjaa
