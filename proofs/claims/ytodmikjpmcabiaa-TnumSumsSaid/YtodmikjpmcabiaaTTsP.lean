/-
  Plain: sums and differences with the set of what each carry may be, bit by bit.
-/
import Derived.Test.YtodmikjpmcabiaaTTnU
import Derived.Test.YtodmikjpmcabiaaTTnHp
namespace Go.Proofs.Ytodmikjpmcabiaa
set_option linter.unusedSimpArgs false
set_option linter.unusedVariables false
set_option maxRecDepth 100000
open Go.RowKit

abbrev B2 := Bool × Bool
def selB (m : B2) (b : Bool) : Bool := if b then m.2 else m.1
def orB (m : B2) (b : Bool) : B2 := if b then (m.1, true) else (true, m.2)
def xB (n : Nat) : Bool := n % 2 == 1
def yB (n : Nat) : Bool := n / 2 % 2 == 1
def cB (n : Nat) : Bool := n / 4 == 1
def ovB (less x y c : Bool) : Bool := if less then (!x && (y || c)) || (y && c) else (x && y) || (x && c) || (y && c)
def inS (less : Bool) (A B C : B2) (n : Nat) (s : B2 × B2) : B2 × B2 :=
  if selB A (xB n) && (selB B (yB n) && selB C (cB n)) then (orB s.1 (xB n ^^ (yB n ^^ cB n)), orB s.2 (ovB less (xB n) (yB n) (cB n))) else s
def inn (less : Bool) (A B C : B2) : Nat → B2 × B2
  | 0 => ((false, false), (false, false))
  | k + 1 => inS less A B C k (inn less A B C k)
def mkB (t : Tn) (i : Nat) : B2 := (kz t i, ko t i)
def crB (less : Bool) (a b : Tn) : Nat → B2
  | 0 => (true, false)
  | i + 1 => (inn less (mkB a i) (mkB b i) (crB less a b i) 8).2
def rsB (less : Bool) (a b : Tn) (i : Nat) : B2 := (inn less (mkB a i) (mkB b i) (crB less a b i) 8).1
def carT (less : Bool) (a b : Tn) : Tn := madeT (fun i => (rsB less a b i).1) (fun i => (rsB less a b i).2)
/-- What the eight rounds come to: the mark of a bit and of a carry, of what the two bits and the carry may be. -/
theorem inn8 (less am av bm bv c0 c1 : Bool) (ha : (av && am) = false) (hb : (bv && bm) = false) (hc : c0 = true → c1 = true) :
    inn less (am || !av, am || av) (bm || !bv, bm || bv) (!c0, c1) 8 =
      (if am || (bm || (c0 ^^ c1)) then (true, true) else (!(av ^^ (bv ^^ c0)), av ^^ (bv ^^ c0)),
       (!(if less then (!(av || am) && (bv || c0)) || (bv && c0) else (av && bv) || (av && c0) || (bv && c0)),
        if less then (!av && ((bv || bm) || c1)) || ((bv || bm) && c1) else ((av || am) && (bv || bm)) || ((av || am) && c1) || ((bv || bm) && c1))) := by
  revert ha hb hc
  cases less <;> cases am <;> cases av <;> cases bm <;> cases bv <;> cases c0 <;> cases c1 <;> simp <;> decide
theorem may_bits {t : Tn} (h : tmay t = true) (i : Nat) : (bt t.1 i && bt t.2 i) = false := may_bit h i
theorem cr_add {a b : Tn} (ha : tmay a = true) (hb : tmay b = true) : ∀ i, crB false a b i = (!cy i a.1 b.1 false, cy i (a.1 ||| a.2) (b.1 ||| b.2) false)
  | 0 => by rw [cy_zero, cy_zero]; rfl
  | i + 1 => by
    have hm : cy i a.1 b.1 false = true → cy i (a.1 ||| a.2) (b.1 ||| b.2) false = true := cy_mono _ _ _ _ _ (fun j h => by rw [bt_or, h]; rfl) (fun j h => by rw [bt_or, h]; rfl) i
    rw [crB, cr_add ha hb i]
    unfold mkB kz ko
    rw [inn8 false _ _ _ _ _ _ (may_bits ha i) (may_bits hb i) hm]
    rw [cy_succ, cy_succ, bt_or, bt_or]
    simp
theorem cr_sub {a b : Tn} (ha : tmay a = true) (hb : tmay b = true) : ∀ i, i ≤ 64 → crB true a b i = (cy i (a.1 ||| a.2) (~~~b.1) true, !cy i a.1 (~~~(b.1 ||| b.2)) true)
  | 0, _ => by rw [cy_zero, cy_zero]; rfl
  | i + 1, hi => by
    have hlt : i < 64 := by omega
    have hm : cy i a.1 (~~~(b.1 ||| b.2)) true = true → cy i (a.1 ||| a.2) (~~~b.1) true = true := by
      refine cy_mono _ _ _ _ _ (fun j h => by rw [bt_or, h]; rfl) (fun j h => ?_) i
      by_cases hj : j < 64
      · rw [bt_not _ _ hj, bt_or] at h
        rw [bt_not _ _ hj]
        revert h
        cases bt b.1 j <;> cases bt b.2 j <;> simp
      · rw [bt_out _ _ (by omega)] at h; cases h
    rw [crB, cr_sub ha hb i (by omega)]
    have e : (cy i (a.1 ||| a.2) (~~~b.1) true, !cy i a.1 (~~~(b.1 ||| b.2)) true) = ((!(!cy i (a.1 ||| a.2) (~~~b.1) true), !cy i a.1 (~~~(b.1 ||| b.2)) true) : B2) := by rw [Bool.not_not]
    rw [e]
    unfold mkB kz ko
    rw [inn8 true _ _ _ _ _ _ (may_bits ha i) (may_bits hb i) (by
      intro h
      cases h2 : cy i a.1 (~~~(b.1 ||| b.2)) true
      · rfl
      · rw [hm h2] at h; cases h)]
    rw [cy_succ, cy_succ, bt_or, bt_not _ _ hlt, bt_not _ _ hlt, bt_or]
    have m1 := may_bits ha i
    have m2 := may_bits hb i
    revert m1 m2 hm
    cases bt a.1 i <;> cases bt a.2 i <;> cases bt b.1 i <;> cases bt b.2 i <;> cases cy i (a.1 ||| a.2) (~~~b.1) true <;> cases cy i a.1 (~~~(b.1 ||| b.2)) true <;> simp
theorem sum_top {a b : Tn} (ha : tmay a = true) (hb : tmay b = true) : a.1 + b.1 + a.2 + b.2 = (a.1 ||| a.2) + (b.1 ||| b.2) := by
  rw [or_add ha, or_add hb, BitVec.add_assoc, BitVec.add_assoc, BitVec.add_assoc]
  congr 1
  rw [← BitVec.add_assoc, ← BitVec.add_assoc, BitVec.add_comm b.1 a.2]
theorem car_add {a b : Tn} (ha : tmay a = true) (hb : tmay b = true) : carT false a b = sumT a b := by
  have hr : ∀ i, i < 64 → rsB false a b i = if bt a.2 i || (bt b.2 i || (cy i a.1 b.1 false ^^ cy i (a.1 ||| a.2) (b.1 ||| b.2) false)) then (true, true) else (!(bt a.1 i ^^ (bt b.1 i ^^ cy i a.1 b.1 false)), bt a.1 i ^^ (bt b.1 i ^^ cy i a.1 b.1 false)) := by
    intro i hi
    have hm : cy i a.1 b.1 false = true → cy i (a.1 ||| a.2) (b.1 ||| b.2) false = true := cy_mono _ _ _ _ _ (fun j h => by rw [bt_or, h]; rfl) (fun j h => by rw [bt_or, h]; rfl) i
    unfold rsB
    rw [cr_add ha hb i]
    unfold mkB kz ko
    rw [inn8 false _ _ _ _ _ _ (may_bits ha i) (may_bits hb i) hm]
  unfold carT sumT butT
  rw [sum_top ha hb]
  apply t_ext
  · intro i hi
    rw [madeV_bit _ _ _ hi, hr i hi]
    simp only [bt_and, bt_not _ _ hi, bt_or, bt_xor, bt_add _ _ _ hi]
    have m1 := may_bits ha i
    have m2 := may_bits hb i
    revert m1 m2
    cases bt a.1 i <;> cases bt a.2 i <;> cases bt b.1 i <;> cases bt b.2 i <;> cases cy i a.1 b.1 false <;> cases cy i (a.1 ||| a.2) (b.1 ||| b.2) false <;> simp
  · intro i hi
    rw [madeM_bit _ _ _ hi, hr i hi]
    simp only [bt_and, bt_not _ _ hi, bt_or, bt_xor, bt_add _ _ _ hi]
    have m1 := may_bits ha i
    have m2 := may_bits hb i
    revert m1 m2
    cases bt a.1 i <;> cases bt a.2 i <;> cases bt b.1 i <;> cases bt b.2 i <;> cases cy i a.1 b.1 false <;> cases cy i (a.1 ||| a.2) (b.1 ||| b.2) false <;> simp
theorem car_sub {a b : Tn} (ha : tmay a = true) (hb : tmay b = true) : carT true a b = subT a b := by
  have hr : ∀ i, i < 64 → rsB true a b i = if bt a.2 i || (bt b.2 i || (cy i (a.1 ||| a.2) (~~~b.1) true ^^ cy i a.1 (~~~(b.1 ||| b.2)) true)) then (true, true) else (!(bt a.1 i ^^ (bt b.1 i ^^ !cy i (a.1 ||| a.2) (~~~b.1) true)), bt a.1 i ^^ (bt b.1 i ^^ !cy i (a.1 ||| a.2) (~~~b.1) true)) := by
    intro i hi
    unfold rsB
    rw [cr_sub ha hb i (by omega)]
    have e : (cy i (a.1 ||| a.2) (~~~b.1) true, !cy i a.1 (~~~(b.1 ||| b.2)) true) = ((!(!cy i (a.1 ||| a.2) (~~~b.1) true), !cy i a.1 (~~~(b.1 ||| b.2)) true) : B2) := by rw [Bool.not_not]
    rw [e]
    unfold mkB kz ko
    have hm : cy i a.1 (~~~(b.1 ||| b.2)) true = true → cy i (a.1 ||| a.2) (~~~b.1) true = true := by
      refine cy_mono _ _ _ _ _ (fun j h => by rw [bt_or, h]; rfl) (fun j h => ?_) i
      by_cases hj : j < 64
      · rw [bt_not _ _ hj, bt_or] at h
        rw [bt_not _ _ hj]
        revert h
        cases bt b.1 j <;> cases bt b.2 j <;> simp
      · rw [bt_out _ _ (by omega)] at h; cases h
    rw [inn8 true _ _ _ _ _ _ (may_bits ha i) (may_bits hb i) (by
      intro h
      cases h2 : cy i a.1 (~~~(b.1 ||| b.2)) true
      · rfl
      · rw [hm h2] at h; cases h)]
    cases cy i (a.1 ||| a.2) (~~~b.1) true <;> cases cy i a.1 (~~~(b.1 ||| b.2)) true <;> simp
  have e1 : a.1 - b.1 - b.2 = a.1 - (b.1 ||| b.2) := by rw [or_add hb, BitVec.sub_sub]
  have e2 : a.1 + a.2 = a.1 ||| a.2 := (or_add ha).symm
  unfold carT subT butT
  rw [e1, e2]
  have C : ∀ i, i < 64 → cy i a.1 (~~~b.1) true = true → cy i (a.1 ||| a.2) (~~~b.1) true = true := fun i _ => cy_mono _ _ _ _ _ (fun j h => by rw [bt_or, h]; rfl) (fun j h => h) i
  have D : ∀ i, i < 64 → cy i a.1 (~~~(b.1 ||| b.2)) true = true → cy i a.1 (~~~b.1) true = true := fun i _ => cy_mono _ _ _ _ _ (fun j h => h) (fun j h => by
    by_cases hj : j < 64
    · rw [bt_not _ _ hj, bt_or] at h
      rw [bt_not _ _ hj]
      revert h
      cases bt b.1 j <;> cases bt b.2 j <;> simp
    · rw [bt_out _ _ (by omega)] at h; cases h) i
  apply t_ext
  · intro i hi
    rw [madeV_bit _ _ _ hi, hr i hi]
    have c := C i hi
    have d := D i hi
    simp only [bt_and, bt_not _ _ hi, bt_or, bt_xor, bt_sub _ _ _ hi]
    have m1 := may_bits ha i
    have m2 := may_bits hb i
    revert m1 m2 c d
    cases bt a.1 i <;> cases bt a.2 i <;> cases bt b.1 i <;> cases bt b.2 i <;> cases cy i a.1 (~~~b.1) true <;> cases cy i (a.1 ||| a.2) (~~~b.1) true <;> cases cy i a.1 (~~~(b.1 ||| b.2)) true <;> simp
  · intro i hi
    rw [madeM_bit _ _ _ hi, hr i hi]
    have c := C i hi
    have d := D i hi
    simp only [bt_and, bt_not _ _ hi, bt_or, bt_xor, bt_sub _ _ _ hi]
    have m1 := may_bits ha i
    have m2 := may_bits hb i
    revert m1 m2 c d
    cases bt a.1 i <;> cases bt a.2 i <;> cases bt b.1 i <;> cases bt b.2 i <;> cases cy i a.1 (~~~b.1) true <;> cases cy i (a.1 ||| a.2) (~~~b.1) true <;> cases cy i a.1 (~~~(b.1 ||| b.2)) true <;> simp
end Go.Proofs.Ytodmikjpmcabiaa
