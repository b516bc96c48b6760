/-
  Plain numbers: sums and differences of tnums hold the sums and differences.
-/
import Derived.Test.YtoanbjnhoggpjaaTnM
namespace Go.Proofs.Ytoanbjnhoggpjaa
set_option linter.unusedSimpArgs false
set_option linter.unusedVariables false
set_option maxRecDepth 100000
open Go.RowKit

/-- The carry into a bit. -/
def cy (i : Nat) (x y : B64) (c : Bool) : Bool := BitVec.carry i x y c
theorem cy_zero (x y : B64) (c : Bool) : cy 0 x y c = c := BitVec.carry_zero
theorem cy_succ (i : Nat) (x y : B64) (c : Bool) : cy (i + 1) x y c = ((bt x i && bt y i) || (bt x i && cy i x y c) || (bt y i && cy i x y c)) := by
  unfold cy bt
  rw [BitVec.carry_succ, Bool.atLeastTwo]
theorem bt_add (x y : B64) (i : Nat) (hi : i < 64) : bt (x + y) i = (bt x i ^^ (bt y i ^^ cy i x y false)) := by
  unfold bt cy; exact BitVec.getLsbD_add hi x y
theorem bt_sub (x y : B64) (i : Nat) (hi : i < 64) : bt (x - y) i = (bt x i ^^ (!bt y i ^^ cy i x (~~~y) true)) := by
  have h := BitVec.getLsbD_add_add_bool hi x (~~~y) true
  have e : x + ~~~y + BitVec.setWidth 64 (BitVec.ofBool true) = x - y := by
    rw [show BitVec.setWidth 64 (BitVec.ofBool true) = 1#64 by decide, BitVec.sub_eq_add_neg, BitVec.neg_eq_not_add, BitVec.add_assoc]
  rw [e] at h
  unfold bt cy
  rw [h, BitVec.getLsbD_not]
  simp [hi]
theorem cy_mono (x y x' y' : B64) (c : Bool) (hx : ∀ i, bt x i = true → bt x' i = true) (hy : ∀ i, bt y i = true → bt y' i = true) : ∀ i, cy i x y c = true → cy i x' y' c = true
  | 0, h => by rwa [cy_zero] at h ⊢
  | i + 1, h => by
    rw [cy_succ] at h ⊢
    have ih := cy_mono x y x' y' c hx hy i
    have h1 := hx i
    have h2 := hy i
    revert h ih h1 h2
    cases bt x i <;> cases bt y i <;> cases cy i x y c <;> cases bt x' i <;> cases bt y' i <;> cases cy i x' y' c <;> simp
/-- What a tnum holds, bit by bit. -/
def Hs (t : Tn) (x : B64) : Prop := x &&& ~~~t.2 = t.1
theorem has_iff (t : Tn) (x : B64) : thas t x = true ↔ tmay t = true ∧ Hs t x := by
  unfold thas Hs
  rw [Bool.and_eq_true, beq_iff_eq]
theorem hs_bit {t : Tn} {x : B64} (h : Hs t x) (i : Nat) (hi : i < 64) : bt t.1 i = (bt x i && !bt t.2 i) := by
  rw [← h, bt_and, bt_not _ _ hi]
theorem hs_lo {t : Tn} {x : B64} (h : Hs t x) (i : Nat) (hv : bt t.1 i = true) : bt x i = true := by
  by_cases hi : i < 64
  · rw [hs_bit h i hi, Bool.and_eq_true] at hv; exact hv.1
  · rw [bt_out _ _ (by omega)] at hv; cases hv
theorem hs_hi {t : Tn} {x : B64} (h : Hs t x) (i : Nat) (hv : bt x i = true) : bt (t.1 ||| t.2) i = true := by
  by_cases hi : i < 64
  · rw [bt_or, hs_bit h i hi, hv]; cases bt t.2 i <;> rfl
  · rw [bt_out _ _ (by omega)] at hv; cases hv
theorem hs_own {t : Tn} (h : tmay t = true) : Hs t t.1 := by
  apply b_ext
  intro i hi
  rw [bt_and, bt_not _ _ hi]
  have := may_bit h i
  revert this
  cases bt t.1 i <;> cases bt t.2 i <;> simp
theorem hs_top {t : Tn} (h : tmay t = true) : Hs t (t.1 ||| t.2) := by
  apply b_ext
  intro i hi
  rw [bt_and, bt_not _ _ hi, bt_or]
  have := may_bit h i
  revert this
  cases bt t.1 i <;> cases bt t.2 i <;> simp
theorem or_add {t : Tn} (h : tmay t = true) : t.1 ||| t.2 = t.1 + t.2 := by
  unfold tmay at h
  rw [beq_iff_eq] at h
  exact (BitVec.add_eq_or_of_and_eq_zero _ _ h).symm
theorem but_may (n f : B64) : tmay (butT n f) = true := by
  unfold tmay butT
  rw [beq_iff_eq]
  apply b_ext
  intro i hi
  rw [bt_and, bt_and, bt_not _ _ hi, bt_zero]
  cases bt n i <;> cases bt f i <;> rfl
theorem hs_but {n f x : B64} (h : ∀ i, i < 64 → bt f i = false → bt x i = bt n i) : Hs (butT n f) x := by
  apply b_ext
  intro i hi
  unfold butT
  rw [bt_and, bt_and, bt_not _ _ hi]
  have := h i hi
  revert this
  cases bt f i <;> simp
theorem top_sum {a b : Tn} (ha : tmay a = true) (hb : tmay b = true) : a.1 + b.1 + a.2 + b.2 = (a.1 ||| a.2) + (b.1 ||| b.2) := by
  rw [or_add ha, or_add hb]
  rw [BitVec.add_assoc a.1, BitVec.add_comm b.1, ← BitVec.add_assoc, BitVec.add_assoc]
theorem sub_low {a b : Tn} (hb : tmay b = true) : a.1 - b.1 - b.2 = a.1 - (b.1 ||| b.2) := by
  rw [or_add hb, BitVec.sub_eq_add_neg, BitVec.sub_eq_add_neg, BitVec.sub_eq_add_neg, BitVec.neg_add, BitVec.sub_eq_add_neg, BitVec.add_assoc]
theorem sub_top {a b : Tn} (ha : tmay a = true) : a.1 + a.2 - b.1 = (a.1 ||| a.2) - b.1 := by rw [or_add ha]
theorem sum_free (a b : Tn) (ha : tmay a = true) (hb : tmay b = true) (i : Nat) (hi : i < 64) :
    bt (sumT a b).2 i = (bt a.2 i || bt b.2 i || (cy i a.1 b.1 false ^^ cy i (a.1 ||| a.2) (b.1 ||| b.2) false)) := by
  unfold sumT butT
  rw [top_sum ha hb, bt_or, bt_or, bt_xor, bt_add _ _ i hi, bt_add _ _ i hi, bt_or, bt_or]
  have h1 := may_bit ha i
  have h2 := may_bit hb i
  revert h1 h2
  cases bt a.1 i <;> cases bt a.2 i <;> cases bt b.1 i <;> cases bt b.2 i <;> simp
theorem sub_free (a b : Tn) (ha : tmay a = true) (hb : tmay b = true) (i : Nat) (hi : i < 64) :
    bt (subT a b).2 i = (bt a.2 i || bt b.2 i || (cy i a.1 (~~~(b.1 ||| b.2)) true ^^ cy i (a.1 ||| a.2) (~~~b.1) true)) := by
  unfold subT butT
  rw [sub_low hb, sub_top ha, bt_or, bt_or, bt_xor, bt_sub _ _ i hi, bt_sub _ _ i hi, bt_or, bt_or]
  have h1 := may_bit ha i
  have h2 := may_bit hb i
  revert h1 h2
  cases bt a.1 i <;> cases bt a.2 i <;> cases bt b.1 i <;> cases bt b.2 i <;> simp
theorem mid (p q r : Bool) (h1 : p = true → q = true) (h2 : q = true → r = true) (h3 : (p ^^ r) = false) : q = p ∧ q = r := by
  revert h1 h2 h3; cases p <;> cases q <;> cases r <;> simp
theorem sum_sound {a b : Tn} (ha : tmay a = true) (hb : tmay b = true) {x y : B64} (hx : Hs a x) (hy : Hs b y) : Hs (sumT a b) (x + y) := by
  apply hs_but
  intro i hi hf
  have hf' : bt (sumT a b).2 i = false := hf
  rw [sum_free a b ha hb i hi] at hf'
  simp only [Bool.or_eq_false_iff] at hf'
  obtain ⟨⟨f1, f2⟩, f3⟩ := hf'
  have m := mid _ (cy i x y false) _ (cy_mono _ _ _ _ false (hs_lo hx) (hs_lo hy) i) (cy_mono _ _ _ _ false (hs_hi hx) (hs_hi hy) i) f3
  rw [bt_add _ _ i hi, bt_add _ _ i hi, hs_bit hx i hi, hs_bit hy i hi, f1, f2, m.1]
  simp
theorem not_bit {x y : B64} (h : ∀ i, bt x i = true → bt y i = true) (i : Nat) (hi : bt (~~~y) i = true) : bt (~~~x) i = true := by
  by_cases h6 : i < 64
  · rw [bt_not _ _ h6] at hi ⊢
    have := h i
    revert hi this
    cases bt x i <;> cases bt y i <;> simp
  · rw [bt_out _ _ (by omega)] at hi; cases hi
theorem sub_sound {a b : Tn} (ha : tmay a = true) (hb : tmay b = true) {x y : B64} (hx : Hs a x) (hy : Hs b y) : Hs (subT a b) (x - y) := by
  apply hs_but
  intro i hi hf
  have hf' : bt (subT a b).2 i = false := hf
  rw [sub_free a b ha hb i hi] at hf'
  simp only [Bool.or_eq_false_iff] at hf'
  obtain ⟨⟨f1, f2⟩, f3⟩ := hf'
  have m := mid _ (cy i x (~~~y) true) _ (cy_mono _ _ _ _ true (hs_lo hx) (not_bit (hs_hi hy)) i) (cy_mono _ _ _ _ true (hs_hi hx) (not_bit (hs_lo hy)) i) f3
  have e1 : cy i a.1 (~~~b.1) true = cy i x (~~~y) true := by
    have p1 := cy_mono a.1 (~~~(b.1 ||| b.2)) a.1 (~~~b.1) true (fun _ h => h) (not_bit (fun j h => by rw [bt_or, h]; rfl)) i
    have p2 := cy_mono a.1 (~~~b.1) (a.1 ||| a.2) (~~~b.1) true (fun j h => by rw [bt_or, h]; rfl) (fun _ h => h) i
    exact ((mid _ (cy i a.1 (~~~b.1) true) _ p1 p2 f3).1).trans m.1.symm
  rw [bt_sub _ _ i hi, bt_sub _ _ i hi, hs_bit hx i hi, hs_bit hy i hi, f1, f2, e1]
  simp
theorem and_sound {a b : Tn} (ha : tmay a = true) (hb : tmay b = true) {x y : B64} (hx : Hs a x) (hy : Hs b y) : Hs (andT a b) (x &&& y) := by
  apply hs_but
  intro i hi hf
  simp only [bt_and, bt_or] at hf ⊢
  have h1 := hs_bit hx i hi
  have h2 := hs_bit hy i hi
  revert hf
  rw [h1, h2]
  cases bt x i <;> cases bt y i <;> cases bt a.2 i <;> cases bt b.2 i <;> simp
theorem or_sound {a b : Tn} (ha : tmay a = true) (hb : tmay b = true) {x y : B64} (hx : Hs a x) (hy : Hs b y) : Hs (orT a b) (x ||| y) := by
  apply hs_but
  intro i hi hf
  simp only [bt_and, bt_or, bt_not _ _ hi] at hf ⊢
  have h1 := hs_bit hx i hi
  have h2 := hs_bit hy i hi
  revert hf
  rw [h1, h2]
  cases bt x i <;> cases bt y i <;> cases bt a.2 i <;> cases bt b.2 i <;> simp
theorem xor_sound {a b : Tn} (ha : tmay a = true) (hb : tmay b = true) {x y : B64} (hx : Hs a x) (hy : Hs b y) : Hs (xorT a b) (x ^^^ y) := by
  apply hs_but
  intro i hi hf
  simp only [bt_and, bt_or, bt_xor] at hf ⊢
  have h1 := hs_bit hx i hi
  have h2 := hs_bit hy i hi
  revert hf
  rw [h1, h2]
  cases bt x i <;> cases bt y i <;> cases bt a.2 i <;> cases bt b.2 i <;> simp
end Go.Proofs.Ytoanbjnhoggpjaa
