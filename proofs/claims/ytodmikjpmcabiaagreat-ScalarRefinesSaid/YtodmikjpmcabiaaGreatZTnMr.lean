import Derived.Test.YtodmikjpmcabiaaGreatZTnH
import Derived.Test.YtodmikjpmcabiaaGreatZTnU
import Derived.Deep.MidRow
import Derived.Deep.WholeRow
namespace Go.Proofs.YtodmikjpmcabiaaGreat
set_option linter.unusedSimpArgs false
set_option linter.unusedVariables false
set_option maxRecDepth 100000
open Go.ChangeShapes Go.WideShapes Go.ChangeAt Go.RowKit

theorem rMark_any (a : Tn) (i : Nat) (hi : i < 64) (w : World) : Calls Tryz.prog 78 #[tv a, .int .i64 (i : Int)] w fun e w' => e = .returned (.int .i64 (mk a i)) ∧ Below w.heap.size w w' := by
  obtain ⟨v, m⟩ := a
  unfold mk kz ko tv
  have hi' : (i : Int) < 64 := by omega
  cases h2 : bt m i
  · cases h1 : bt v i
    · go_enter Tryz.func78, Tryz.ntmps78
      go_wp2
      go_ret
      exact ⟨rfl, (Below.refl _ _).alloc (Nat.le_refl _) _⟩
    · go_enter Tryz.func78, Tryz.ntmps78
      go_wp2
      go_ret
      exact ⟨rfl, (Below.refl _ _).alloc (Nat.le_refl _) _⟩
  · go_enter Tryz.func78, Tryz.ntmps78
    go_wp2
    go_ret
    exact ⟨by simp [mM], (Below.refl _ _).alloc (Nat.le_refl _) _⟩
def mL (z o : Nat → Bool) : List Value := (List.range 64).map fun i => Value.int .i64 (mM (z i) (o i))
def AR (w : World) (b : Nat) (z o : Nat → Bool) : Prop := b < w.heap.size ∧ ∀ i, i < 64 → w.cell? ⟨b, i, none⟩ = some (.int .i64 (mM (z i) (o i))) ∧ w.frozen? ⟨b, i, none⟩ = false
theorem mL_get (z o : Nat → Bool) (i : Nat) (hi : i < 64) : (mL z o).toArray[i]? = some (.int .i64 (mM (z i) (o i))) := by
  unfold mL
  simp [hi]
theorem mL_len (z o : Nat → Bool) : (mL z o).length = 64 := by simp [mL]
theorem AR.below {w w' : World} {b : Nat} {z o : Nat → Bool} (h : AR w b z o) (hb : Below w.heap.size w w') : AR w' b z o :=
  ⟨Nat.lt_of_lt_of_le h.1 hb.size, fun i hi => ⟨(hb.cell (p := ⟨b, i, none⟩) h.1).trans (h.2 i hi).1, (hb.frozen (p := ⟨b, i, none⟩) h.1).trans (h.2 i hi).2⟩⟩
def upd (f : Nat → Bool) (i : Nat) (v : Bool) : Nat → Bool := fun j => if j = i then v else f j
theorem AR.put {w : World} {b : Nat} {z o : Nat → Bool} (h : AR w b z o) (k : Nat) (hk : k < 64) (zv ov : Bool) : AR (w.setCell ⟨b, k, none⟩ (.int .i64 (mM zv ov))) b (upd z k zv) (upd o k ov) := by
  refine ⟨by simp; exact h.1, fun i hi => ⟨?_, by rw [World.frozen?_setCell]; exact (h.2 i hi).2⟩⟩
  by_cases hik : i = k
  · subst hik
    simp only [upd, if_true]
    exact World.cell?_setCell_same _ _ _ (h.2 i hi).1
  · simp only [upd, if_neg hik]
    exact (World.cell?_setCell_other _ _ _ _ (by simp; try omega)).trans (h.2 i hi).1
theorem AR.range {w : World} {b : Nat} {z o : Nat → Bool} (h : AR w b z o) : w.rangeAt b 0 (mL z o) := by
  intro i v hv
  have hi : i < 64 := by
    have := List.getElem?_eq_some_iff.1 hv
    obtain ⟨h1, _⟩ := this
    rwa [mL_len] at h1
  rw [Nat.zero_add]
  have h2 := mL_get z o i hi
  rw [List.getElem?_toArray] at h2
  rw [h2] at hv
  rw [← hv]
  exact (h.2 i hi).1
structure MdI (w : World) (z o : Nat → Bool) (k : Nat) (wr : World) : Prop where
  box : AR wr w.heap.size z o
  res : TB wr (w.heap.size + 1) t0
  acc : TB wr (w.heap.size + 1 + 1) (madeV z o k, madeM z o k)
  bel : Below w.heap.size w wr
theorem AR.other {w : World} {b c : Nat} {z o : Nat → Bool} (h : AR w b z o) (hbc : b ≠ c) (j : Nat) (u : Value) : AR (w.setCell ⟨c, j, none⟩ u) b z o := by
  have e : (w.setCell ⟨c, j, none⟩ u).heap[b]? = w.heap[b]? := Below.heap_setCell _ _ _ _ hbc
  exact ⟨by simp; exact h.1, fun i hi => ⟨(World.cell?_of_block (w := w) (a := ⟨b, i, none⟩) e).trans (h.2 i hi).1, (World.frozen?_of_block (w := w) (a := ⟨b, i, none⟩) e).trans (h.2 i hi).2⟩⟩
theorem TB.other1 {w : World} {b c : Nat} {t : Tn} (h : TB w b t) (hbc : b ≠ c) (j : Nat) (u : Value) : TB (w.setCell ⟨c, j, none⟩ u) b t := by
  obtain ⟨⟨h0, h1, h2⟩, h3, h4⟩ := h
  have e : (w.setCell ⟨c, j, none⟩ u).heap[b]? = w.heap[b]? := Below.heap_setCell _ _ _ _ hbc
  exact ⟨⟨by simp; exact h0, (World.cell?_of_block (w := w) (a := ⟨b, 0, none⟩) e).trans h1, (World.cell?_of_block (w := w) (a := ⟨b, 1, none⟩) e).trans h2⟩, (World.frozen?_of_block (w := w) (a := ⟨b, 0, none⟩) e).trans h3, (World.frozen?_of_block (w := w) (a := ⟨b, 1, none⟩) e).trans h4⟩
theorem TB.put1 {w : World} {b : Nat} {t : Tn} (h : TB w b t) (x : B64) : TB (w.setCell ⟨b, 0, none⟩ (.int .u64 (ub x))) b (x, t.2) := by
  obtain ⟨⟨h0, h1, h2⟩, h3, h4⟩ := h
  exact ⟨⟨by simp; exact h0, World.cell?_setCell_same _ _ _ h1, (World.cell?_setCell_other _ _ _ _ (by simp)).trans h2⟩, by simp; exact h3, by simp; exact h4⟩
theorem TB.put2 {w : World} {b : Nat} {t : Tn} (h : TB w b t) (x : B64) : TB (w.setCell ⟨b, 1, none⟩ (.int .u64 (ub x))) b (t.1, x) := by
  obtain ⟨⟨h0, h1, h2⟩, h3, h4⟩ := h
  exact ⟨⟨by simp; exact h0, (World.cell?_setCell_other _ _ _ _ (by simp)).trans h1, World.cell?_setCell_same _ _ _ h2⟩, by simp; exact h3, by simp; exact h4⟩
theorem MdI.step {w : World} {z o : Nat → Bool} {k : Nat} {wr : World} (h : MdI w z o k wr) (h1 : (!z k && o k) = false) (h2 : (z k && o k) = false) : MdI w z o (k + 1) wr := by
  have e : (madeV z o (k + 1), madeM z o (k + 1)) = (madeV z o k, madeM z o k) := by rw [madeV, madeM, h1, h2]; rfl
  exact ⟨h.box, h.res, e ▸ h.acc, h.bel⟩
theorem MdI.step1 {w : World} {z o : Nat → Bool} {k : Nat} {wr : World} (h : MdI w z o k wr) (h1 : (!z k && o k) = true) (h2 : (z k && o k) = false) : MdI w z o (k + 1) (wr.setCell ⟨w.heap.size + 1 + 1, 0, none⟩ (.int .u64 (ub (madeV z o k + 1#64 <<< k)))) := by
  have e : (madeV z o (k + 1), madeM z o (k + 1)) = (madeV z o k + 1#64 <<< k, madeM z o k) := by rw [madeV, madeM, h1, h2]; rfl
  exact ⟨h.box.other (by omega) _ _, h.res.other1 (by omega) _ _, e ▸ h.acc.put1 _, h.bel.setCell (by simp; omega) _⟩
theorem MdI.step2 {w : World} {z o : Nat → Bool} {k : Nat} {wr : World} (h : MdI w z o k wr) (h1 : (!z k && o k) = false) (h2 : (z k && o k) = true) : MdI w z o (k + 1) (wr.setCell ⟨w.heap.size + 1 + 1, 1, none⟩ (.int .u64 (ub (madeM z o k + 1#64 <<< k)))) := by
  have e : (madeV z o (k + 1), madeM z o (k + 1)) = (madeV z o k, madeM z o k + 1#64 <<< k) := by rw [madeV, madeM, h1, h2]; rfl
  exact ⟨h.box.other (by omega) _ _, h.res.other1 (by omega) _ _, e ▸ h.acc.put2 _, h.bel.setCell (by simp; omega) _⟩
theorem AR.new {w : World} {z o : Nat → Bool} {A : Array Value} {t : TypeId} {b : Nat} (hA : A = (mL z o).toArray) (hb : b = w.heap.size) : AR (w.alloc (.cells A t)) b z o := by
  subst hb hA
  refine ⟨by simp, fun i hi => ⟨?_, by simp⟩⟩
  have h : (w.alloc (.cells (mL z o).toArray t)).heap[w.heap.size]? = some (.cells (mL z o).toArray t (0, 0)) := heap_alloc_new w _
  simp only [World.cell?, h]
  exact mL_get z o i hi
theorem rMade_any (z o : Nat → Bool) (A : Array Value) (hA : A = (mL z o).toArray) (w : World) : Calls Tryz.prog 77 #[.agg A] w fun e w' => e = .returned (tv (madeT z o)) ∧ Below w.heap.size w w' := by
  have X0 : MdI w z o 0 (((w.alloc (.cells A 104)).alloc (.cells #[.int .u64 0, .int .u64 0] 24)).alloc (.cells #[.int .u64 0, .int .u64 0] 24)) :=
    ⟨((AR.new hA rfl).below ((Below.refl _ _).alloc (Nat.le_refl _) _)).below ((Below.refl _ _).alloc (Nat.le_refl _) _), (TB.new (a := t0) (by simp)).below ((Below.refl _ _).alloc (Nat.le_refl _) _), TB.new (a := t0) (by simp), (((Below.refl _ _).alloc (Nat.le_refl _) _).alloc (by simp) _).alloc (by simp; omega) _⟩
  have HX := hid X0
  clear X0 hA
  go_enter Tryz.func77, Tryz.ntmps77
  go_wp2_with fail
  go_loopw [4] (fun i wr => ∃ k : Nat, k ≤ 64 ∧ i = .int .i64 k ∧ Hid (MdI w z o k wr)) (fun i _ => 64 - (intOf i).toNat)
  case atStart => exact ⟨0, by omega, rfl, HX⟩
  case round =>
    obtain ⟨k, hk, rfl, HI⟩ := hrel
    by_cases hlt : k < 64
    · have hlt' : (k : Int) < 64 := by omega
      have c0 := (HI.out.box.2 k hlt).1
      have c1 := HI.out.acc.1.2.1
      have c2 := HI.out.acc.1.2.2
      have c3 := HI.out.acc.2.1
      have c4 := HI.out.acc.2.2
      cases hz : z k <;> cases ho : o k
      · have I1 := hid (HI.out.step (by rw [hz, ho]; rfl) (by rw [hz, ho]; rfl))
        rw [hz, ho] at c0
        go_wp2
        go_roundw
        case rel => exact ⟨k + 1, by omega, by go_num, I1⟩
        case measure => simp [intOf]; omega
      · have I1 := hid (HI.out.step1 (by rw [hz, ho]; rfl) (by rw [hz, ho]; rfl))
        rw [hz, ho] at c0
        go_wp2
        go_roundw
        case rel => exact ⟨k + 1, by omega, by go_num, I1⟩
        case measure => simp [intOf]; omega
      · have I1 := hid (HI.out.step (by rw [hz, ho]; rfl) (by rw [hz, ho]; rfl))
        rw [hz, ho] at c0
        go_wp2
        go_roundw
        case rel => exact ⟨k + 1, by omega, by go_num, I1⟩
        case measure => simp [intOf]; omega
      · have I1 := hid (HI.out.step2 (by rw [hz, ho]; rfl) (by rw [hz, ho]; rfl))
        rw [hz, ho] at c0
        go_wp2
        go_roundw
        case rel => exact ⟨k + 1, by omega, by go_num, I1⟩
        case measure => simp [intOf]; omega
    · have hk64 : k = 64 := by omega
      subst hk64
      have c1 := HI.out.acc.1.2.1
      have c2 := HI.out.acc.1.2.2
      have d1 := HI.out.res.1.2.1
      have d2 := HI.out.res.1.2.2
      have d3 := HI.out.res.2.1
      have d4 := HI.out.res.2.2
      have dz := HI.out.res.1.1
      have HB := hid HI.out.bel
      clear HI
      go_wp2
      refine bodyPost_ret (v := .agg #[.int .u64 (ub (madeV z o 64)), .int .u64 (ub (madeM z o 64))]) (by simp [results, Tryz.results77, go_sem, d1, d2, dz]; try rfl) rfl ⟨rfl, ?_⟩
      exact (HB.out.setCell (by simp) _).setCell (by simp) _
end Go.Proofs.YtodmikjpmcabiaaGreat

namespace Go.Proofs.YtodmikjpmcabiaaGreat
set_option linter.unusedSimpArgs false
set_option linter.unusedVariables false
set_option maxRecDepth 100000
open Go.ChangeShapes Go.WideShapes Go.ChangeAt Go.RowKit

theorem at_load {P : Program} {ops : Array Oper} {Q : Exit → Act → World → Prop} {rest : List Oper} {a : Act} {w : World} {d : Option Tmp} {x : Operand} {ty : TypeId} {ps : String} {af : Array Edge} {gd : Option (Tmp × Bool)} (T : TypeId)
    (h : wpList P ops Q (⟨d, .load T x, ty, ps, af, gd⟩ :: rest) a w) : wpList P ops Q (⟨d, .load T x, ty, ps, af, gd⟩ :: rest) a w := h
def pref (f : Nat → Bool) (k : Nat) : Nat → Bool := fun j => decide (j < k) && f j
theorem pref_up (f : Nat → Bool) (k : Nat) (v : Bool) (hv : v = f k) : upd (pref f k) k v = pref f (k + 1) := by
  funext j
  unfold upd pref
  by_cases h : j = k
  · subst h hv; simp
  · have : (j < k + 1) ↔ (j < k) := by omega
    simp [h, this]
theorem pref_zero (f : Nat → Bool) : pref f 0 = fun _ => false := by funext j; simp [pref]
theorem pref_all (f : Nat → Bool) (i : Nat) (hi : i < 64) : pref f 64 i = f i := by simp [pref, hi]
theorem madeT_congr (z o z' o' : Nat → Bool) (hz : ∀ i, i < 64 → z i = z' i) (ho : ∀ i, i < 64 → o i = o' i) : madeT z o = madeT z' o' :=
  t_ext (fun i hi => by rw [madeV_bit _ _ _ hi, madeV_bit _ _ _ hi, hz i hi, ho i hi]) (fun i hi => by rw [madeM_bit _ _ _ hi, madeM_bit _ _ _ hi, hz i hi, ho i hi])
theorem AR.zero {w : World} {A : Array Value} {t : TypeId} {b : Nat} (hA : ∀ i, i < 64 → A[i]? = some (.int .i64 0)) (hb : b = w.heap.size) : AR (w.alloc (.cells A t)) b (fun _ => false) (fun _ => false) := by
  subst hb
  refine ⟨by simp, fun i hi => ⟨?_, by simp⟩⟩
  have h : (w.alloc (.cells A t)).heap[w.heap.size]? = some (.cells A t (0, 0)) := heap_alloc_new w _
  simp only [World.cell?, h]
  exact hA i hi
def Z64 : Array Value := #[.int .i64 0, .int .i64 0, .int .i64 0, .int .i64 0, .int .i64 0, .int .i64 0, .int .i64 0, .int .i64 0, .int .i64 0, .int .i64 0, .int .i64 0, .int .i64 0, .int .i64 0, .int .i64 0, .int .i64 0, .int .i64 0, .int .i64 0, .int .i64 0, .int .i64 0, .int .i64 0, .int .i64 0, .int .i64 0, .int .i64 0, .int .i64 0, .int .i64 0, .int .i64 0, .int .i64 0, .int .i64 0, .int .i64 0, .int .i64 0, .int .i64 0, .int .i64 0, .int .i64 0, .int .i64 0, .int .i64 0, .int .i64 0, .int .i64 0, .int .i64 0, .int .i64 0, .int .i64 0, .int .i64 0, .int .i64 0, .int .i64 0, .int .i64 0, .int .i64 0, .int .i64 0, .int .i64 0, .int .i64 0, .int .i64 0, .int .i64 0, .int .i64 0, .int .i64 0, .int .i64 0, .int .i64 0, .int .i64 0, .int .i64 0, .int .i64 0, .int .i64 0, .int .i64 0, .int .i64 0, .int .i64 0, .int .i64 0, .int .i64 0, .int .i64 0]
theorem Z64_is : Z64 = (List.replicate 64 (Value.int .i64 0)).toArray := rfl
theorem Z64_get : ∀ i, i < 64 → Z64[i]? = some (.int .i64 0) := by
  intro i hi
  rw [Z64_is, List.getElem?_toArray, List.getElem?_replicate, if_pos hi]
def frm (i : Nat) (by_ most : Int) : Int := if 0 ≤ most ∧ most < (i : Int) + by_ then most else (i : Int) + by_
def mvOk (i : Nat) (by_ size most : Int) : Bool := decide ((i : Int) < size ∧ 0 ≤ frm i by_ most ∧ frm i by_ most < 64)
structure MvI (w : World) (a : Tn) (z o : Nat → Bool) (k : Nat) (wr : World) : Prop where
  box : TC wr w.heap.size a
  res : TB wr (w.heap.size + 1) t0
  arr : AR wr (w.heap.size + 1 + 1) (pref z k) (pref o k)
  bel : Below w.heap.size w wr
theorem MvI.next {w : World} {a : Tn} {z o : Nat → Bool} {k : Nat} {wr w' : World} (h : MvI w a z o k wr) (hb : Below wr.heap.size wr w') : MvI w a z o k w' :=
  ⟨h.box.below hb, h.res.below hb, h.arr.below hb, h.bel.trans (hb.mono h.bel.size)⟩
theorem upd_upd (f : Nat → Bool) (k : Nat) (u v : Bool) : upd (upd f k u) k v = upd f k v := by
  funext j; unfold upd; split <;> rfl
theorem MvI.put {w : World} {a : Tn} {z o : Nat → Bool} {k : Nat} {wr : World} (h : MvI w a z o k wr) (hk : k < 64) (zv ov : Bool) (hz : zv = z k) (ho : ov = o k) (u : Value) (hu : u = .int .i64 (mM zv ov)) : MvI w a z o (k + 1) (wr.setCell ⟨w.heap.size + 1 + 1, k, none⟩ u) := by
  subst hu
  have e : TC (wr.setCell ⟨w.heap.size + 1 + 1, k, none⟩ (.int .i64 (mM zv ov))) w.heap.size a := by
    obtain ⟨h0, h1, h2⟩ := h.box
    have e : (wr.setCell ⟨w.heap.size + 1 + 1, k, none⟩ (.int .i64 (mM zv ov))).heap[w.heap.size]? = wr.heap[w.heap.size]? := Below.heap_setCell _ _ _ _ (by simp; omega)
    exact ⟨by simp; exact h0, (World.cell?_of_block (w := wr) (a := ⟨w.heap.size, 0, none⟩) e).trans h1, (World.cell?_of_block (w := wr) (a := ⟨w.heap.size, 1, none⟩) e).trans h2⟩
  refine ⟨e, h.res.other1 (by omega) _ _, ?_, h.bel.setCell (by simp; omega) _⟩
  have := h.arr.put k hk zv ov
  rwa [pref_up z k zv hz, pref_up o k ov ho] at this
theorem MvI.put1 {w : World} {a : Tn} {z o : Nat → Bool} {k : Nat} {wr : World} (h : MvI w a z o k wr) (hk : k < 64) : TC (wr.setCell ⟨w.heap.size + 1 + 1, k, none⟩ (.int .i64 1)) w.heap.size a ∧ TB (wr.setCell ⟨w.heap.size + 1 + 1, k, none⟩ (.int .i64 1)) (w.heap.size + 1) t0 ∧ AR (wr.setCell ⟨w.heap.size + 1 + 1, k, none⟩ (.int .i64 1)) (w.heap.size + 1 + 1) (upd (pref z k) k true) (upd (pref o k) k false) ∧ Below w.heap.size w (wr.setCell ⟨w.heap.size + 1 + 1, k, none⟩ (.int .i64 1)) := by
  obtain ⟨h0, h1, h2⟩ := h.box
  have e : (wr.setCell ⟨w.heap.size + 1 + 1, k, none⟩ (.int .i64 1)).heap[w.heap.size]? = wr.heap[w.heap.size]? := Below.heap_setCell _ _ _ _ (by simp; omega)
  exact ⟨⟨by simp; exact h0, (World.cell?_of_block (w := wr) (a := ⟨w.heap.size, 0, none⟩) e).trans h1, (World.cell?_of_block (w := wr) (a := ⟨w.heap.size, 1, none⟩) e).trans h2⟩, h.res.other1 (by omega) _ _, h.arr.put k hk true false, h.bel.setCell (by simp; omega) _⟩
theorem infoA : (Tryz.prog.info? 104).map (·.size) = some 64 := by kernel_rfl
end Go.Proofs.YtodmikjpmcabiaaGreat

namespace Go.Proofs.YtodmikjpmcabiaaGreat
set_option linter.unusedSimpArgs false
set_option linter.unusedVariables false
set_option maxRecDepth 100000
open Go.RowKit

theorem low_bit (k i : Nat) (hk : k ≤ 64) (hi : i < 64) : bt (lowB k) i = decide (i < k) := by
  have e : (lowB k).toNat = 2 ^ k - 1 := by
    unfold lowB
    rw [BitVec.toNat_sub, BitVec.toNat_shiftLeft, show (1#64 : B64).toNat = 1 from rfl, Nat.shiftLeft_eq, Nat.one_mul]
    by_cases h : k = 64
    · subst h; decide
    · have h1 : 2 ^ k ≤ 2 ^ 63 := Nat.pow_le_pow_right (by decide) (by omega)
      have h2 : 0 < 2 ^ k := Nat.two_pow_pos k
      rw [Nat.mod_eq_of_lt (a := 2 ^ k) (by omega)]
      omega
  unfold bt
  rw [BitVec.getLsbD, e, Nat.testBit_two_pow_sub_one]
theorem ssh_bit (x : B64) (n i : Nat) (hi : i < 64) : bt (x.sshiftRight n) i = if n + i < 64 then bt x (n + i) else bt x 63 := by
  unfold bt
  rw [BitVec.getLsbD_sshiftRight]
  have : ¬ 64 ≤ i := by omega
  simp only [this, decide_false, Bool.not_false, Bool.true_and]
  split
  · rfl
  · rw [BitVec.msb_eq_getLsbD_last]
theorem arsh_one (x : B64) (l n i : Nat) (hl : l = 32 ∨ l = 64) (hn : n < l) (hi : i < 64) : (mvOk i (n : Int) (l : Int) ((l : Int) - 1) && bt x (frm i (n : Int) ((l : Int) - 1)).toNat) = bt (arB (64 - l) n l x) i := by
  unfold arB
  rw [bt_and, low_bit _ _ (by omega) hi, ssh_bit _ _ _ hi]
  have hf : frm i (n : Int) ((l : Int) - 1) = if (l : Int) - 1 < (i : Int) + n then (l : Int) - 1 else (i : Int) + n := by
    unfold frm
    by_cases h : (l : Int) - 1 < (i : Int) + n
    · rw [if_pos ⟨by omega, h⟩, if_pos h]
    · rw [if_neg (by omega), if_neg h]
  unfold mvOk
  rw [hf]
  by_cases hil : i < l
  · rw [decide_eq_true hil, Bool.and_true]
    by_cases h : (l : Int) - 1 < (i : Int) + n
    · rw [if_pos h, decide_eq_true (by omega), Bool.true_and]
      have e : ((l : Int) - 1).toNat = l - 1 := by omega
      rw [e]
      by_cases h2 : n + i < 64
      · rw [if_pos h2, ssh_bit _ _ _ h2, if_neg (by omega), bt_shl _ _ _ (by omega), decide_eq_true (by omega), Bool.true_and]
        congr 1; omega
      · rw [if_neg h2, ssh_bit _ _ _ (by omega)]
        by_cases h3 : 64 - l + 63 < 64
        · rw [if_pos h3, bt_shl _ _ _ (by omega), decide_eq_true (by omega), Bool.true_and]; congr 1; omega
        · rw [if_neg h3, bt_shl _ _ _ (by omega), decide_eq_true (by omega), Bool.true_and]; congr 1; omega
    · rw [if_neg h, decide_eq_true (by omega), Bool.true_and, if_pos (by omega), ssh_bit _ _ _ (by omega), if_pos (by omega), bt_shl _ _ _ (by omega), decide_eq_true (by omega), Bool.true_and]
      congr 1; omega
  · rw [decide_eq_false hil, decide_eq_false (by omega)]; simp
end Go.Proofs.YtodmikjpmcabiaaGreat

namespace Go.Proofs.YtodmikjpmcabiaaGreat
set_option linter.unusedSimpArgs false
set_option linter.unusedVariables false
set_option maxRecDepth 100000
open Go.RowKit

theorem hs_iff (t : Tn) (x : B64) : Hs t x ↔ ∀ i, i < 64 → bt t.1 i = (bt x i && !bt t.2 i) :=
  ⟨fun h i hi => hs_bit h i hi, fun h => b_ext fun i hi => by rw [bt_and, bt_not _ _ hi, h i hi]⟩
theorem has_iff2 {t : Tn} (h : tmay t = true) (x : B64) : thas t x = true ↔ ∀ i, i < 64 → bt t.1 i = (bt x i && !bt t.2 i) := by
  rw [has_iff, hs_iff]; exact ⟨fun a => a.2, fun a => ⟨h, a⟩⟩
theorem may_of {t : Tn} (h : ∀ i, i < 64 → (bt t.1 i && bt t.2 i) = false) : tmay t = true := by
  unfold tmay
  rw [beq_iff_eq]
  exact b_ext fun i hi => by rw [bt_and, bt_zero, h i hi]
theorem meetB_iff {a b : Tn} (ha : tmay a = true) (hb : tmay b = true) : meetB a b = true ↔ ∀ i, i < 64 → ((bt a.1 i ^^ bt b.1 i) && !bt a.2 i && !bt b.2 i) = false := by
  unfold meetB
  rw [ha, hb, Bool.true_and, Bool.true_and, Bool.and_eq_true, tin_iff, tin_iff]
  constructor
  · rintro ⟨⟨_, _, _, h1⟩, ⟨_, _, _, h2⟩⟩ i hi
    have e1 := hs_bit h1 i hi
    have e2 := hs_bit h2 i hi
    unfold meetT at e1 e2
    simp only [bt_or] at e1 e2
    revert e1 e2
    cases bt a.1 i <;> cases bt a.2 i <;> cases bt b.1 i <;> cases bt b.2 i <;> simp
  · intro h
    have hm : tmay (meetT a b) = true := may_of fun i hi => by
      unfold meetT
      simp only [bt_or, bt_and]
      have := may_bit ha i
      have := may_bit hb i
      revert this; revert this
      cases bt a.1 i <;> cases bt a.2 i <;> cases bt b.1 i <;> cases bt b.2 i <;> simp
    refine ⟨⟨hm, ha, fun i hi => ?_, (hs_iff _ _).2 fun i hi => ?_⟩, ⟨hm, hb, fun i hi => ?_, (hs_iff _ _).2 fun i hi => ?_⟩⟩
    · unfold meetT; simp only [bt_and]; cases bt a.2 i <;> simp
    · have e := h i hi
      have m1 := may_bit ha i
      have m2 := may_bit hb i
      unfold meetT; simp only [bt_or]
      revert e m1 m2
      cases bt a.1 i <;> cases bt a.2 i <;> cases bt b.1 i <;> cases bt b.2 i <;> simp
    · unfold meetT; simp only [bt_and]; cases bt a.2 i <;> cases bt b.2 i <;> simp
    · have e := h i hi
      have m1 := may_bit ha i
      have m2 := may_bit hb i
      unfold meetT; simp only [bt_or]
      revert e m1 m2
      cases bt a.1 i <;> cases bt a.2 i <;> cases bt b.1 i <;> cases bt b.2 i <;> simp
theorem meet_may {a b : Tn} (ha : tmay a = true) (hb : tmay b = true) : tmay (meetT a b) = true := may_of fun i hi => by
  unfold meetT
  simp only [bt_or, bt_and]
  have := may_bit ha i
  have := may_bit hb i
  revert this; revert this
  cases bt a.1 i <;> cases bt a.2 i <;> cases bt b.1 i <;> cases bt b.2 i <;> simp
theorem meet_has {a b : Tn} (ha : tmay a = true) (hb : tmay b = true) (x : B64) : (meetB a b && thas (meetT a b) x) = (thas a x && thas b x) := by
  rw [Bool.eq_iff_iff, Bool.and_eq_true, Bool.and_eq_true, meetB_iff ha hb, has_iff2 (meet_may ha hb), has_iff2 ha, has_iff2 hb]
  constructor
  · rintro ⟨h1, h2⟩
    constructor <;> intro i hi <;> (
      have e1 := h1 i hi
      have e2 := h2 i hi
      have m1 := may_bit ha i
      have m2 := may_bit hb i
      unfold meetT at e2
      simp only [bt_or, bt_and] at e2
      revert e1 e2 m1 m2
      cases bt a.1 i <;> cases bt a.2 i <;> cases bt b.1 i <;> cases bt b.2 i <;> cases bt x i <;> simp)
  · rintro ⟨h1, h2⟩
    constructor <;> intro i hi <;> (
      have e1 := h1 i hi
      have e2 := h2 i hi
      (try unfold meetT)
      (try simp only [bt_or, bt_and])
      revert e1 e2
      cases bt a.1 i <;> cases bt a.2 i <;> cases bt b.1 i <;> cases bt b.2 i <;> cases bt x i <;> simp)
def LL (lo hi : B64) : Nat := Lib.bitLen (lo ^^^ hi).toNat
theorem LL_le (lo hi : B64) : LL lo hi ≤ 64 := bitLen_le _
theorem high_same (lo hi : B64) (i : Nat) (h : LL lo hi ≤ i) (hi' : i < 64) : bt lo i = bt hi i := by
  have hx : (lo ^^^ hi).toNat < 2 ^ LL lo hi := by
    unfold LL
    by_cases h0 : (lo ^^^ hi).toNat = 0
    · rw [h0]; decide
    · false_or_by_contra
      rename_i hn
      by_cases h6 : Lib.bitLen (lo ^^^ hi).toNat < 64
      · have h2 := Lib.bitLen_shift (Lib.bitLen (lo ^^^ hi).toNat) (lo ^^^ hi).toNat (by omega) (lo ^^^ hi).isLt
        have hp : 0 < (lo ^^^ hi).toNat / 2 ^ Lib.bitLen (lo ^^^ hi).toNat := Nat.div_pos (by omega) (Nat.two_pow_pos _)
        have hq : (lo ^^^ hi).toNat / 2 ^ Lib.bitLen (lo ^^^ hi).toNat < 2 ^ 64 := Nat.lt_of_le_of_lt (Nat.div_le_self _ _) (lo ^^^ hi).isLt
        have h3 := Lib.bitLen_half _ (Nat.ne_of_gt hp) hq
        omega
      · have := (lo ^^^ hi).isLt
        have h7 : 2 ^ 64 ≤ 2 ^ Lib.bitLen (lo ^^^ hi).toNat := Nat.pow_le_pow_right (by decide) (by omega)
        omega
  have e : bt (lo ^^^ hi) i = false := by
    unfold bt
    rw [BitVec.getLsbD]
    exact Nat.testBit_lt_two_pow (Nat.lt_of_lt_of_le hx (Nat.pow_le_pow_right (by decide) h))
  rw [bt_xor] at e
  revert e; cases bt lo i <;> cases bt hi i <;> simp
theorem div_eq_bits {x y : B64} {L : Nat} (h : ∀ i, L ≤ i → i < 64 → bt x i = bt y i) : x.toNat / 2 ^ L = y.toNat / 2 ^ L := by
  apply Nat.eq_of_testBit_eq
  intro j
  rw [Nat.testBit_div_two_pow, Nat.testBit_div_two_pow]
  by_cases hj : j + L < 64
  · exact h (j + L) (by omega) hj
  · have e1 : x.toNat.testBit (j + L) = false := BitVec.getLsbD_of_ge x (j + L) (by omega)
    have e2 : y.toNat.testBit (j + L) = false := BitVec.getLsbD_of_ge y (j + L) (by omega)
    rw [e1, e2]
theorem bits_of_div {x y : B64} {L : Nat} (h : x.toNat / 2 ^ L = y.toNat / 2 ^ L) (i : Nat) (hi : L ≤ i) : bt x i = bt y i := by
  have e : (x.toNat / 2 ^ L).testBit (i - L) = (y.toNat / 2 ^ L).testBit (i - L) := by rw [h]
  rw [Nat.testBit_div_two_pow, Nat.testBit_div_two_pow, Nat.sub_add_cancel hi] at e
  exact e
def rgT (lo hi : B64) : Tn := butT lo (lowB (LL lo hi))
theorem rg_may (lo hi : B64) : tmay (rgT lo hi) = true := but_may _ _
theorem rg_has_iff (lo hi x : B64) : thas (rgT lo hi) x = true ↔ ∀ i, LL lo hi ≤ i → i < 64 → bt x i = bt lo i := by
  rw [has_iff2 (rg_may lo hi)]
  unfold rgT butT
  constructor
  · intro h i h1 h2
    have e := h i h2
    simp only [bt_and, bt_not _ _ h2, low_bit _ _ (LL_le lo hi) h2] at e
    rw [decide_eq_false (by omega)] at e
    revert e; cases bt x i <;> cases bt lo i <;> simp
  · intro h i h2
    simp only [bt_and, bt_not _ _ h2, low_bit _ _ (LL_le lo hi) h2]
    by_cases h1 : i < LL lo hi
    · rw [decide_eq_true h1]; simp
    · rw [decide_eq_false h1, h i (by omega) h2]
theorem rg_lo (lo hi : B64) : thas (rgT lo hi) lo = true := (rg_has_iff _ _ _).2 fun _ _ _ => rfl
theorem rg_mid {lo hi x : B64} (h1 : ub lo ≤ ub x) (h2 : ub x ≤ ub hi) : thas (rgT lo hi) x = true := by
  rw [rg_has_iff]
  intro i hi1 hi2
  have e : lo.toNat / 2 ^ LL lo hi = hi.toNat / 2 ^ LL lo hi := div_eq_bits fun j hj1 hj2 => high_same lo hi j hj1 hj2
  unfold ub at h1 h2
  have l1 : lo.toNat / 2 ^ LL lo hi ≤ x.toNat / 2 ^ LL lo hi := Nat.div_le_div_right (by omega)
  have l2 : x.toNat / 2 ^ LL lo hi ≤ hi.toNat / 2 ^ LL lo hi := Nat.div_le_div_right (by omega)
  exact bits_of_div (by omega) i hi1
theorem rg_m (lo hi : B64) : (rgT lo hi).2 = lowB (LL lo hi) := rfl
theorem rg_eq (lo hi : B64) : (lo == hi) = ((rgT lo hi).2 == 0#64) := by
  rw [rg_m, Bool.eq_iff_iff, beq_iff_eq, beq_iff_eq]
  constructor
  · rintro rfl
    unfold LL
    rw [BitVec.xor_self]
    decide
  · intro h
    apply b_ext
    intro i h6
    apply high_same lo hi i _ h6
    have e : bt (lowB (LL lo hi)) i = false := by rw [h, bt_zero]
    rw [low_bit _ _ (LL_le lo hi) h6, decide_eq_false_iff_not] at e
    omega
end Go.Proofs.YtodmikjpmcabiaaGreat

namespace Go.Proofs.YtodmikjpmcabiaaGreat
set_option linter.unusedSimpArgs false
set_option linter.unusedVariables false
set_option maxRecDepth 100000
open Go.ChangeShapes Go.WideShapes Go.ChangeAt Go.RowKit

end Go.Proofs.YtodmikjpmcabiaaGreat

namespace Go.Proofs.YtodmikjpmcabiaaGreat
set_option linter.unusedSimpArgs false
set_option linter.unusedVariables false
set_option maxRecDepth 100000
open Go.ChangeShapes Go.WideShapes Go.ChangeAt Go.RowKit

theorem ar_may {t : Tn} (h : tmay t = true) (l n : Nat) (hl : l = 32 ∨ l = 64) (hn : n < l) : tmay (arB (64 - l) n l t.1, arB (64 - l) n l t.2) = true := may_of fun i hi => by
  dsimp only
  rw [← arsh_one t.1 l n i hl hn hi, ← arsh_one t.2 l n i hl hn hi]
  have := may_bit h (frm i (n : Int) ((l : Int) - 1)).toNat
  revert this
  cases mvOk i (n : Int) (l : Int) ((l : Int) - 1) <;> simp
theorem shr_may {t : Tn} (h : tmay t = true) (n : Nat) : tmay (t.1 >>> n, t.2 >>> n) = true := may_of fun i hi => by
  dsimp only; rw [bt_shr, bt_shr]; exact may_bit h _
end Go.Proofs.YtodmikjpmcabiaaGreat
