/-
  Plain numbers: products hold the products; what is added and taken away again.
-/
import Derived.Test.YtoanbjnhoggpjaaTnS
namespace Go.Proofs.Ytoanbjnhoggpjaa
set_option linter.unusedSimpArgs false
set_option linter.unusedVariables false
set_option maxRecDepth 100000
open Go.RowKit

theorem sum_may (a b : Tn) : tmay (sumT a b) = true := but_may _ _
theorem sub_may (a b : Tn) : tmay (subT a b) = true := but_may _ _
theorem t0_may : tmay t0 = true := by decide
theorem of_may (n : B64) : tmay (n, 0#64) = true := by unfold tmay; simp
theorem and_ones (n : B64) : n &&& ~~~0#64 = n := by
  apply b_ext
  intro i hi
  rw [bt_and, bt_not _ _ hi, bt_zero]
  simp
theorem hs_of (n : B64) : Hs (n, 0#64) n := and_ones n
theorem mulStep_may {a b t : Tn} {i : Nat} (h : tmay t = true) : tmay (mulStep a b i t) = true := by
  unfold mulStep
  dsimp only
  split <;> split <;> first | exact sum_may _ _ | exact h
theorem mulN_may (a b : Tn) : ∀ k, tmay (mulN a b k) = true
  | 0 => t0_may
  | k + 1 => mulStep_may (mulN_may a b k)
theorem mul_may (a b : Tn) : tmay (mulT a b) = true := mulN_may a b 64
theorem up_may {b : Tn} (h : tmay b = true) (k : Nat) : tmay (upT b k) = true := by
  unfold tmay upT
  rw [beq_iff_eq]
  apply b_ext
  intro i hi
  dsimp only
  rw [bt_and, bt_shl _ _ _ hi, bt_shl _ _ _ hi, bt_zero]
  have := may_bit h (i - k)
  revert this
  cases decide (k ≤ i) <;> cases bt b.1 (i - k) <;> cases bt b.2 (i - k) <;> simp
theorem up_hs {b : Tn} {y : B64} (h : Hs b y) (k : Nat) : Hs (upT b k) (y <<< k) := by
  apply b_ext
  intro i hi
  unfold upT
  dsimp only
  rw [bt_and, bt_not _ _ hi, bt_shl _ _ _ hi, bt_shl _ _ _ hi, bt_shl _ _ _ hi]
  by_cases hk : k ≤ i
  · have := hs_bit h (i - k) (by omega)
    rw [this]
    simp [hk]
  · simp [hk]
theorem may_hs {b : Tn} {y : B64} (h : Hs b y) (hb : tmay b = true) (i : Nat) (hi : i < 64) (hv : bt y i = true) : (bt b.1 i || bt b.2 i) = true := by
  rw [hs_bit h i hi, hv]; cases bt b.2 i <;> rfl
/-- A product as a sum. -/
def pm (x y : B64) : Nat → B64
  | 0 => 0#64
  | k + 1 => pm x y k + (if bt x k then y <<< k else 0#64)
theorem pm_is (x y : B64) : ∀ k, pm x y k = BitVec.ofNat 64 (x.toNat % 2 ^ k) * y
  | 0 => by simp [pm, Nat.mod_one]
  | k + 1 => by
    rw [pm, pm_is x y k]
    have hb : bt x k = decide (x.toNat / 2 ^ k % 2 = 1) := by unfold bt; rw [BitVec.getLsbD, Nat.testBit_eq_decide_div_mod_eq]
    have hm : x.toNat % 2 ^ (k + 1) = x.toNat % 2 ^ k + 2 ^ k * (x.toNat / 2 ^ k % 2) := by
      rw [Nat.pow_succ, Nat.mod_mul]
    by_cases h : x.toNat / 2 ^ k % 2 = 1
    · rw [hb, hm, h]
      simp only [decide_true, if_true, Nat.mul_one]
      rw [BitVec.ofNat_add, BitVec.add_mul, BitVec.shiftLeft_eq_mul_twoPow, BitVec.mul_comm y, show BitVec.twoPow 64 k = BitVec.ofNat 64 (2 ^ k) by apply BitVec.eq_of_toNat_eq; rw [BitVec.toNat_twoPow, BitVec.toNat_ofNat]]
    · have h0 : x.toNat / 2 ^ k % 2 = 0 := by omega
      rw [hb, hm, h0]
      simp
theorem pm_mul (x y : B64) : pm x y 64 = x * y := by
  rw [pm_is, Nat.mod_eq_of_lt x.isLt]
  simp
theorem mulN_sound {a b : Tn} (ha : tmay a = true) (hb : tmay b = true) {x y : B64} (hx : Hs a x) (hy : Hs b y) : ∀ k, k ≤ 64 → Hs (mulN a b k) (pm x y k)
  | 0, _ => hs_of 0#64
  | k + 1, hk => by
    have ih := mulN_sound ha hb hx hy k (by omega)
    have im := mulN_may a b k
    show Hs (mulStep a b k (mulN a b k)) (pm x y k + (if bt x k then y <<< k else 0#64))
    have h1 := hs_bit hx k (by omega)
    have h2 := may_bit ha k
    unfold mulStep
    dsimp only
    cases e2 : bt a.2 k
    · rw [e2] at h1 h2
      cases e1 : bt a.1 k
      · rw [e1] at h1
        have : bt x k = false := by revert h1; cases bt x k <;> simp
        rw [this]
        simpa using ih
      · rw [e1] at h1
        have : bt x k = true := by revert h1; cases bt x k <;> simp
        rw [this]
        simp only [if_true, Bool.false_eq_true, if_false]
        exact sum_sound im (up_may hb k) ih (up_hs hy k)
    · rw [e2] at h1 h2
      have e1 : bt a.1 k = false := by revert h2; cases bt a.1 k <;> simp
      rw [e1]
      simp only [if_true, Bool.false_eq_true, if_false]
      refine sum_sound im (but_may _ _) ih (hs_but ?_)
      intro i hi hf
      rw [bt_zero]
      cases bt x k
      · simp [bt_zero]
      · simp only [if_true]
        cases hv : bt (y <<< k) i
        · rfl
        · have := may_hs (up_hs hy k) (up_may hb k) i hi hv
          rw [bt_or] at hf
          rw [hf] at this
          cases this
theorem mul_sound {a b : Tn} (ha : tmay a = true) (hb : tmay b = true) {x y : B64} (hx : Hs a x) (hy : Hs b y) : Hs (mulT a b) (x * y) := by
  rw [← pm_mul]; exact mulN_sound ha hb hx hy 64 (Nat.le_refl _)

theorem but_zero (n : B64) : butT n 0#64 = (n, 0#64) := by unfold butT; rw [and_ones]
theorem sum_of (n v : B64) : sumT (n, 0#64) (v, 0#64) = (n + v, 0#64) := by unfold sumT; simp [but_zero]
theorem sum_zero {a : Tn} (h : tmay a = true) : sumT a t0 = a := by
  have e : a.1 ^^^ (a.1 + a.2) = a.2 := by
    rw [← or_add h]
    apply b_ext
    intro i hi
    rw [bt_xor, bt_or]
    have := may_bit h i
    revert this
    cases bt a.1 i <;> cases bt a.2 i <;> simp
  unfold sumT t0
  simp only [BitVec.add_zero, BitVec.or_zero, e, BitVec.or_self]
  exact Prod.ext (hs_own h) rfl
theorem sum_comm (a b : Tn) : sumT a b = sumT b a := by
  unfold sumT
  have e : a.1 + b.1 + a.2 + b.2 = b.1 + a.1 + b.2 + a.2 := by
    rw [BitVec.add_comm b.1 a.1, BitVec.add_assoc (a.1 + b.1), BitVec.add_comm a.2 b.2, ← BitVec.add_assoc]
  rw [e, BitVec.add_comm a.1 b.1, BitVec.or_comm a.2 b.2]
theorem mulN_zero (a : Tn) : ∀ k, mulN a t0 k = t0
  | 0 => rfl
  | k + 1 => by
    show mulStep a t0 k (mulN a t0 k) = t0
    rw [mulN_zero a k]
    have u : upT t0 k = t0 := by unfold upT t0; simp
    have s : sumT t0 t0 = t0 := by decide
    have b : butT 0#64 (t0.1 ||| t0.2) = t0 := by decide
    unfold mulStep
    rw [u, b]
    simp only [s]
    split <;> split <;> first | rfl | exact s
theorem mul_zero (a : Tn) : mulT a (0#64, 0#64) = t0 := mulN_zero a 64
theorem one_bit (k : Nat) : bt 1#64 k = decide (k = 0) := by unfold bt; simp
theorem mulN_one {a : Tn} (h : tmay a = true) : ∀ k, mulN (1#64, 0#64) a (k + 1) = a
  | 0 => by
    show mulStep (1#64, 0#64) a 0 t0 = a
    unfold mulStep
    simp only [one_bit, bt_zero, decide_true, if_true, Bool.false_eq_true, if_false]
    rw [sum_comm]
    have u : upT a 0 = a := by unfold upT; simp
    rw [u]
    exact sum_zero h
  | k + 1 => by
    show mulStep (1#64, 0#64) a (k + 1) (mulN (1#64, 0#64) a (k + 1)) = a
    rw [mulN_one h k]
    unfold mulStep
    simp [one_bit, bt_zero]
theorem mul_one {a : Tn} (h : tmay a = true) : mulT (1#64, 0#64) a = a := mulN_one h 63
theorem tin_iff (a b : Tn) : tin a b = true ↔ tmay a = true ∧ tmay b = true ∧ (∀ i, i < 64 → bt a.2 i = true → bt b.2 i = true) ∧ Hs b a.1 := by
  unfold tin Hs
  rw [Bool.and_eq_true, Bool.and_eq_true, Bool.and_eq_true, beq_iff_eq, beq_iff_eq]
  constructor
  · rintro ⟨⟨⟨h1, h2⟩, h3⟩, h4⟩
    refine ⟨h1, h2, fun i hi h => ?_, h4⟩
    have e : bt (a.2 &&& ~~~b.2) i = false := by rw [h3, bt_zero]
    rw [bt_and, bt_not _ _ hi, h] at e
    revert e; cases bt b.2 i <;> simp
  · rintro ⟨h1, h2, h3, h4⟩
    refine ⟨⟨⟨h1, h2⟩, b_ext fun i hi => ?_⟩, h4⟩
    rw [bt_and, bt_not _ _ hi, bt_zero]
    have := h3 i hi
    revert this
    cases bt a.2 i <;> cases bt b.2 i <;> simp
theorem undo {a b : Tn} (ha : tmay a = true) (hb : tmay b = true) : tin a (subT (sumT a b) b) = true := by
  rw [tin_iff]
  refine ⟨ha, sub_may _ _, fun i hi h => ?_, ?_⟩
  · rw [sub_free _ _ (sum_may a b) hb i hi, sum_free a b ha hb i hi, h]
    rfl
  · have h := sub_sound (sum_may a b) hb (sum_sound ha hb (hs_own ha) (hs_own hb)) (hs_own hb)
    rwa [show a.1 + b.1 - b.1 = a.1 by rw [BitVec.add_sub_cancel]] at h
end Go.Proofs.Ytoanbjnhoggpjaa
