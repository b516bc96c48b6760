/-
  Contract of the document's One: an operation of two numbers.
-/
import Derived.Test.YtoanbjnhoggpjaaSpO
namespace Go.Proofs.Ytoanbjnhoggpjaa
set_option linter.unusedSimpArgs false
set_option linter.unusedVariables false
set_option maxRecDepth 100000
open Go.ChangeShapes Go.WideShapes Go.ChangeAt Go.RowKit

theorem ib_small (x : B64) (h : x.toNat < 9223372036854775808) : ib x = ((x.toNat : Nat) : Int) := by
  unfold ib
  rw [BitVec.toInt_eq_toNat_cond]
  split <;> omega
def shB (c : Bool) (y : B64) : Nat := (y % sizeB c).toNat
theorem shB_lt (c : Bool) (y : B64) : shB c y < sizeW c := by
  unfold shB
  rw [BitVec.toNat_umod]
  cases c
  · exact Nat.mod_lt _ (by decide)
  · exact Nat.mod_lt _ (by decide)
/-- An operation of two numbers that are cut. -/
def oneC (op : Nat) (c : Bool) (x y : B64) : B64 :=
  match op with
  | 0 => (x + y) &&& topW c
  | 1 => (x - y) &&& topW c
  | 2 => (x * y) &&& topW c
  | 3 => if y = 0#64 then 0#64 else x / y
  | 4 => x ||| y
  | 5 => x &&& y
  | 6 => (x * (1#64 <<< shB c y)) &&& topW c
  | 7 => x / (1#64 <<< shB c y)
  | 8 => (0#64 - x) &&& topW c
  | 9 => if y = 0#64 then x else x % y
  | 10 => x ^^^ y
  | 11 => y
  | _ => drB (1#64 <<< (sizeW c - 1)) x (shB c y)
def oneB (op : Nat) (c : Bool) (x y : B64) : B64 := oneC op c (x &&& topW c) (y &&& topW c)
theorem sh_pow (c : Bool) (y : B64) : (1#64 <<< shB c y).toNat = 2 ^ (y.toNat % sizeW c) := by
  have h := shB_lt c y
  have := sizeW_le c
  rw [toNat_bit _ (by omega)]
  congr 1
  unfold shB
  rw [BitVec.toNat_umod]; cases c <;> rfl
theorem mul_mod (w : Bool) (x y : B64) : (x * y &&& topW w).toNat = x.toNat * y.toNat % modW w := by
  rw [and_top, BitVec.toNat_mul]
  rcases modW_two w with h | h <;> rw [h] <;> omega
theorem and_pow (y n : Nat) : y &&& 2 ^ n = if y.testBit n = true then 2 ^ n else 0 := by
  apply Nat.eq_of_testBit_eq
  intro i
  rw [Nat.testBit_and, Nat.testBit_two_pow]
  by_cases h : n = i
  · subst h
    cases hb : y.testBit n <;> simp
  · cases hb : y.testBit n <;> simp [h, Nat.testBit_two_pow]
theorem drB_is (c : Bool) (x : B64) (hx : x.toNat < modW c) (k : Nat) : (drB (1#64 <<< (sizeW c - 1)) x k).toNat = drawN c x.toNat k := by
  have hp : (1#64 <<< (sizeW c - 1)).toNat = 2 ^ (sizeW c - 1) := by
    have h1 := sizeW_le c
    have h2 : 0 < sizeW c := by cases c <;> decide
    exact toNat_bit _ (by omega)
  have hM : modW c / 2 = 2 ^ (sizeW c - 1) ∧ modW c = 2 * 2 ^ (sizeW c - 1) := by cases c <;> decide
  have hle := modW_le c
  have an : ∀ y : B64, y.toNat < modW c → (y &&& 1#64 <<< (sizeW c - 1)).toNat = if y.toNat < modW c / 2 then 0 else modW c / 2 := by
    intro y hy
    rw [BitVec.toNat_and, hp, and_pow]
    by_cases h : y.toNat < modW c / 2
    · rw [if_pos h, Nat.testBit_lt_two_pow (by omega)]; simp
    · rw [if_neg h]
      have : y.toNat.testBit (sizeW c - 1) = true := by
        rw [Nat.testBit_eq_decide_div_mod_eq]
        have : y.toNat / 2 ^ (sizeW c - 1) = 1 := by
          rw [Nat.div_eq_iff (Nat.two_pow_pos _)]
          omega
        rw [this]; rfl
      rw [this, hM.1]; simp
  have bd : ∀ k, drawN c x.toNat k < modW c ∧ (x.toNat < modW c / 2 ↔ drawN c x.toNat k < modW c / 2) := by
    intro k
    unfold drawN
    have d1 := Nat.div_le_self x.toNat (2 ^ k)
    have d2 := Nat.div_le_self (modW c - 1 - x.toNat) (2 ^ k)
    generalize x.toNat / 2 ^ k = p at *
    generalize (modW c - 1 - x.toNat) / 2 ^ k = q at *
    split <;> omega
  induction k with
  | zero =>
    show x.toNat = _
    unfold drawN
    simp only [Nat.pow_zero, Nat.div_one]
    split <;> omega
  | succ k ih =>
    have b := bd k
    show (drB (1#64 <<< (sizeW c - 1)) x k / 2#64 + (drB (1#64 <<< (sizeW c - 1)) x k &&& 1#64 <<< (sizeW c - 1))).toNat = _
    rw [add64, BitVec.toNat_udiv, an _ (by rw [ih]; exact b.1), ih, show (2#64 : B64).toNat = 2 from rfl]
    by_cases h : x.toNat < modW c / 2
    · rw [if_pos (b.2.1 h)]
      have e1 : drawN c x.toNat k = x.toNat / 2 ^ k := if_pos h
      have e2 : drawN c x.toNat (k + 1) = x.toNat / 2 ^ k / 2 := by
        rw [Nat.div_div_eq_div_mul, ← Nat.pow_succ]; exact if_pos h
      rw [e2, e1]
      have := b.1
      omega
    · rw [if_neg (fun hh => h (b.2.2 hh))]
      have e1 : drawN c x.toNat k = modW c - 1 - (modW c - 1 - x.toNat) / 2 ^ k := if_neg h
      have e2 : drawN c x.toNat (k + 1) = modW c - 1 - (modW c - 1 - x.toNat) / 2 ^ k / 2 := by
        rw [Nat.div_div_eq_div_mul, ← Nat.pow_succ]; exact if_neg h
      have d2 := Nat.div_le_self (modW c - 1 - x.toNat) (2 ^ k)
      rw [e2, e1]
      generalize (modW c - 1 - x.toNat) / 2 ^ k = q at *
      omega
theorem oneB_is (op : Nat) (hop : op ≤ 12) (c : Bool) (X Y : B64) : (oneB op c X Y).toNat = opN op c (X.toNat % modW c) (Y.toNat % modW c) := by
  have hp := modW_pos c
  have hx : (X &&& topW c).toNat = X.toNat % modW c := and_top X c
  have hy : (Y &&& topW c).toNat = Y.toNat % modW c := and_top Y c
  unfold oneB
  generalize X &&& topW c = x at *
  generalize Y &&& topW c = y at *
  have lx : x.toNat < modW c := by rw [hx]; exact Nat.mod_lt _ hp
  have ly : y.toNat < modW c := by rw [hy]; exact Nat.mod_lt _ hp
  rw [← hx, ← hy]
  clear hx hy
  have hw := modW_two c
  rcases twelve hop with rfl | rfl | rfl | rfl | rfl | rfl | rfl | rfl | rfl | rfl | rfl | rfl | rfl
  · show ((x + y) &&& topW c).toNat = (x.toNat + y.toNat) % modW c
    rw [and_top, add64]; rcases hw with h | h <;> rw [h] <;> omega
  · show ((x - y) &&& topW c).toNat = (x.toNat + modW c - y.toNat) % modW c
    rw [and_top, sub64]
    generalize modW c = M at *
    rcases hw with rfl | rfl <;> omega
  · exact mul_mod c x y
  · show (if y = 0#64 then 0#64 else x / y).toNat = x.toNat / y.toNat
    by_cases h : y = 0#64
    · rw [if_pos h, h, show (0#64 : B64).toNat = 0 from rfl, Nat.div_zero]
    · rw [if_neg h, BitVec.toNat_udiv]
  · exact BitVec.toNat_or ..
  · exact BitVec.toNat_and ..
  · show (x * (1#64 <<< shB c y) &&& topW c).toNat = _
    rw [mul_mod, sh_pow]; rfl
  · show (x / (1#64 <<< shB c y)).toNat = _
    rw [BitVec.toNat_udiv, sh_pow]; rfl
  · show ((0#64 - x) &&& topW c).toNat = (modW c - x.toNat) % modW c
    rw [and_top, sub64, show (0#64 : B64).toNat = 0 from rfl]
    generalize modW c = M at *
    rcases hw with rfl | rfl <;> omega
  · show (if y = 0#64 then x else x % y).toNat = x.toNat % y.toNat
    by_cases h : y = 0#64
    · rw [if_pos h, h, show (0#64 : B64).toNat = 0 from rfl, Nat.mod_zero]
    · rw [if_neg h, BitVec.toNat_umod]
  · exact BitVec.toNat_xor ..
  · rfl
  · show (drB (1#64 <<< (sizeW c - 1)) x (shB c y)).toNat = drawN c x.toNat (y.toNat % sizeW c)
    rw [drB_is c x lx]
    congr 1
    unfold shB
    rw [BitVec.toNat_umod]; cases c <;> rfl
end Go.Proofs.Ytoanbjnhoggpjaa
