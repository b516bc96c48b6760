/-
  Plain numbers: what meets, joins and spans hold; being in as an order.
-/
import Derived.Test.YtoanbjnhoggpjaaTnX
namespace Go.Proofs.Ytoanbjnhoggpjaa
set_option linter.unusedSimpArgs false
set_option linter.unusedVariables false
set_option maxRecDepth 100000
open Go.RowKit

theorem hs_iff (t : Tn) (x : B64) : Hs t x ↔ ∀ i, i < 64 → bt t.1 i = (bt x i && !bt t.2 i) :=
  ⟨fun h i hi => hs_bit h i hi, fun h => b_ext fun i hi => by rw [bt_and, bt_not _ _ hi, h i hi]⟩
theorem has_iff2 {t : Tn} (h : tmay t = true) (x : B64) : thas t x = true ↔ ∀ i, i < 64 → bt t.1 i = (bt x i && !bt t.2 i) := by
  rw [has_iff, hs_iff]; exact ⟨fun a => a.2, fun a => ⟨h, a⟩⟩
theorem may_of {t : Tn} (h : ∀ i, i < 64 → (bt t.1 i && bt t.2 i) = false) : tmay t = true := by
  unfold tmay
  rw [beq_iff_eq]
  exact b_ext fun i hi => by rw [bt_and, bt_zero, h i hi]
theorem meetB_iff {a b : Tn} (ha : tmay a = true) (hb : tmay b = true) : meetB a b = true ↔ ∀ i, i < 64 → ((bt a.1 i ^^ bt b.1 i) && !bt a.2 i && !bt b.2 i) = false := by
  unfold meetB
  rw [ha, hb, Bool.true_and, Bool.true_and, Bool.and_eq_true, tin_iff, tin_iff]
  constructor
  · rintro ⟨⟨_, _, _, h1⟩, ⟨_, _, _, h2⟩⟩ i hi
    have e1 := hs_bit h1 i hi
    have e2 := hs_bit h2 i hi
    unfold meetT at e1 e2
    simp only [bt_or] at e1 e2
    revert e1 e2
    cases bt a.1 i <;> cases bt a.2 i <;> cases bt b.1 i <;> cases bt b.2 i <;> simp
  · intro h
    have hm : tmay (meetT a b) = true := may_of fun i hi => by
      unfold meetT
      simp only [bt_or, bt_and]
      have := may_bit ha i
      have := may_bit hb i
      revert this; revert this
      cases bt a.1 i <;> cases bt a.2 i <;> cases bt b.1 i <;> cases bt b.2 i <;> simp
    refine ⟨⟨hm, ha, fun i hi => ?_, (hs_iff _ _).2 fun i hi => ?_⟩, ⟨hm, hb, fun i hi => ?_, (hs_iff _ _).2 fun i hi => ?_⟩⟩
    · unfold meetT; simp only [bt_and]; cases bt a.2 i <;> simp
    · have e := h i hi
      have m1 := may_bit ha i
      have m2 := may_bit hb i
      unfold meetT; simp only [bt_or]
      revert e m1 m2
      cases bt a.1 i <;> cases bt a.2 i <;> cases bt b.1 i <;> cases bt b.2 i <;> simp
    · unfold meetT; simp only [bt_and]; cases bt a.2 i <;> cases bt b.2 i <;> simp
    · have e := h i hi
      have m1 := may_bit ha i
      have m2 := may_bit hb i
      unfold meetT; simp only [bt_or]
      revert e m1 m2
      cases bt a.1 i <;> cases bt a.2 i <;> cases bt b.1 i <;> cases bt b.2 i <;> simp
theorem meet_may {a b : Tn} (ha : tmay a = true) (hb : tmay b = true) : tmay (meetT a b) = true := may_of fun i hi => by
  unfold meetT
  simp only [bt_or, bt_and]
  have := may_bit ha i
  have := may_bit hb i
  revert this; revert this
  cases bt a.1 i <;> cases bt a.2 i <;> cases bt b.1 i <;> cases bt b.2 i <;> simp
theorem meet_has {a b : Tn} (ha : tmay a = true) (hb : tmay b = true) (x : B64) : (meetB a b && thas (meetT a b) x) = (thas a x && thas b x) := by
  rw [Bool.eq_iff_iff, Bool.and_eq_true, Bool.and_eq_true, meetB_iff ha hb, has_iff2 (meet_may ha hb), has_iff2 ha, has_iff2 hb]
  constructor
  · rintro ⟨h1, h2⟩
    constructor <;> intro i hi <;> (
      have e1 := h1 i hi
      have e2 := h2 i hi
      have m1 := may_bit ha i
      have m2 := may_bit hb i
      unfold meetT at e2
      simp only [bt_or, bt_and] at e2
      revert e1 e2 m1 m2
      cases bt a.1 i <;> cases bt a.2 i <;> cases bt b.1 i <;> cases bt b.2 i <;> cases bt x i <;> simp)
  · rintro ⟨h1, h2⟩
    constructor <;> intro i hi <;> (
      have e1 := h1 i hi
      have e2 := h2 i hi
      (try unfold meetT)
      (try simp only [bt_or, bt_and])
      revert e1 e2
      cases bt a.1 i <;> cases bt a.2 i <;> cases bt b.1 i <;> cases bt b.2 i <;> cases bt x i <;> simp)
theorem join_may (a b : Tn) : tmay (joinT a b) = true := but_may _ _
theorem join_has {a b : Tn} (ha : tmay a = true) (hb : tmay b = true) (x : B64) (h : thas a x = true ∨ thas b x = true) : thas (joinT a b) x = true := by
  rw [has_iff2 (join_may a b)]
  rw [has_iff2 ha, has_iff2 hb] at h
  intro i hi
  have m1 := may_bit ha i
  have m2 := may_bit hb i
  unfold joinT butT
  simp only [bt_and, bt_not _ _ hi, bt_or, bt_xor]
  rcases h with h | h <;> (
    have e := h i hi
    revert e m1 m2
    cases bt a.1 i <;> cases bt a.2 i <;> cases bt b.1 i <;> cases bt b.2 i <;> cases bt x i <;> simp)
/-- How many of the lowest bits lo and hi do not share. -/
def LL (lo hi : B64) : Nat := Lib.bitLen (lo ^^^ hi).toNat
theorem LL_le (lo hi : B64) : LL lo hi ≤ 64 := bitLen_le _
theorem high_same (lo hi : B64) (i : Nat) (h : LL lo hi ≤ i) (hi' : i < 64) : bt lo i = bt hi i := by
  have hx : (lo ^^^ hi).toNat < 2 ^ LL lo hi := by
    unfold LL
    by_cases h0 : (lo ^^^ hi).toNat = 0
    · rw [h0]; decide
    · false_or_by_contra
      rename_i hn
      by_cases h6 : Lib.bitLen (lo ^^^ hi).toNat < 64
      · have h2 := Lib.bitLen_shift (Lib.bitLen (lo ^^^ hi).toNat) (lo ^^^ hi).toNat (by omega) (lo ^^^ hi).isLt
        have hp : 0 < (lo ^^^ hi).toNat / 2 ^ Lib.bitLen (lo ^^^ hi).toNat := Nat.div_pos (by omega) (Nat.two_pow_pos _)
        have hq : (lo ^^^ hi).toNat / 2 ^ Lib.bitLen (lo ^^^ hi).toNat < 2 ^ 64 := Nat.lt_of_le_of_lt (Nat.div_le_self _ _) (lo ^^^ hi).isLt
        have h3 := Lib.bitLen_half _ (Nat.ne_of_gt hp) hq
        omega
      · have := (lo ^^^ hi).isLt
        have h7 : 2 ^ 64 ≤ 2 ^ Lib.bitLen (lo ^^^ hi).toNat := Nat.pow_le_pow_right (by decide) (by omega)
        omega
  have e : bt (lo ^^^ hi) i = false := by
    unfold bt
    rw [BitVec.getLsbD]
    exact Nat.testBit_lt_two_pow (Nat.lt_of_lt_of_le hx (Nat.pow_le_pow_right (by decide) h))
  rw [bt_xor] at e
  revert e; cases bt lo i <;> cases bt hi i <;> simp
theorem div_eq_bits {x y : B64} {L : Nat} (h : ∀ i, L ≤ i → i < 64 → bt x i = bt y i) : x.toNat / 2 ^ L = y.toNat / 2 ^ L := by
  apply Nat.eq_of_testBit_eq
  intro j
  rw [Nat.testBit_div_two_pow, Nat.testBit_div_two_pow]
  by_cases hj : j + L < 64
  · exact h (j + L) (by omega) hj
  · have e1 : x.toNat.testBit (j + L) = false := BitVec.getLsbD_of_ge x (j + L) (by omega)
    have e2 : y.toNat.testBit (j + L) = false := BitVec.getLsbD_of_ge y (j + L) (by omega)
    rw [e1, e2]
theorem bits_of_div {x y : B64} {L : Nat} (h : x.toNat / 2 ^ L = y.toNat / 2 ^ L) (i : Nat) (hi : L ≤ i) : bt x i = bt y i := by
  have e : (x.toNat / 2 ^ L).testBit (i - L) = (y.toNat / 2 ^ L).testBit (i - L) := by rw [h]
  rw [Nat.testBit_div_two_pow, Nat.testBit_div_two_pow, Nat.sub_add_cancel hi] at e
  exact e
def rgT (lo hi : B64) : Tn := butT lo (lowB (LL lo hi))
theorem rg_may (lo hi : B64) : tmay (rgT lo hi) = true := but_may _ _
theorem rg_has_iff (lo hi x : B64) : thas (rgT lo hi) x = true ↔ ∀ i, LL lo hi ≤ i → i < 64 → bt x i = bt lo i := by
  rw [has_iff2 (rg_may lo hi)]
  unfold rgT butT
  constructor
  · intro h i h1 h2
    have e := h i h2
    simp only [bt_and, bt_not _ _ h2, low_bit _ _ (LL_le lo hi) h2] at e
    rw [decide_eq_false (by omega)] at e
    revert e; cases bt x i <;> cases bt lo i <;> simp
  · intro h i h2
    simp only [bt_and, bt_not _ _ h2, low_bit _ _ (LL_le lo hi) h2]
    by_cases h1 : i < LL lo hi
    · rw [decide_eq_true h1]; simp
    · rw [decide_eq_false h1, h i (by omega) h2]
theorem rg_lo (lo hi : B64) : thas (rgT lo hi) lo = true := (rg_has_iff _ _ _).2 fun _ _ _ => rfl
theorem rg_hi (lo hi : B64) : thas (rgT lo hi) hi = true := (rg_has_iff _ _ _).2 fun i h1 h2 => (high_same lo hi i h1 h2).symm
theorem rg_mid {lo hi x : B64} (h1 : ub lo ≤ ub x) (h2 : ub x ≤ ub hi) : thas (rgT lo hi) x = true := by
  rw [rg_has_iff]
  intro i hi1 hi2
  have e : lo.toNat / 2 ^ LL lo hi = hi.toNat / 2 ^ LL lo hi := div_eq_bits fun j hj1 hj2 => high_same lo hi j hj1 hj2
  unfold ub at h1 h2
  have l1 : lo.toNat / 2 ^ LL lo hi ≤ x.toNat / 2 ^ LL lo hi := Nat.div_le_div_right (by omega)
  have l2 : x.toNat / 2 ^ LL lo hi ≤ hi.toNat / 2 ^ LL lo hi := Nat.div_le_div_right (by omega)
  exact bits_of_div (by omega) i hi1
theorem low_up (k : Nat) : lowB k + 1#64 = 1#64 <<< k := by unfold lowB; rw [BitVec.sub_add_cancel]
theorem low_and (k : Nat) (hk : k ≤ 64) : lowB k &&& (lowB k + 1#64) = 0#64 := by
  rw [low_up]
  apply b_ext
  intro i hi
  rw [bt_and, low_bit _ _ hk hi, bt_shl _ _ _ hi, one_bit, bt_zero]
  by_cases h : i < k
  · have : ¬ k ≤ i := by omega
    simp [this]
  · simp [h]
theorem rg_m (lo hi : B64) : (rgT lo hi).2 = lowB (LL lo hi) := rfl
theorem rg_eq (lo hi : B64) : (lo == hi) = ((rgT lo hi).2 == 0#64) := by
  rw [rg_m, Bool.eq_iff_iff, beq_iff_eq, beq_iff_eq]
  constructor
  · rintro rfl
    unfold LL
    rw [BitVec.xor_self]
    decide
  · intro h
    apply b_ext
    intro i h6
    apply high_same lo hi i _ h6
    have e : bt (lowB (LL lo hi)) i = false := by rw [h, bt_zero]
    rw [low_bit _ _ (LL_le lo hi) h6, decide_eq_false_iff_not] at e
    omega
theorem rg_out (lo hi : B64) : (lo ^^^ hi) &&& ~~~(rgT lo hi).2 = 0#64 := by
  rw [rg_m]
  apply b_ext
  intro i h6
  rw [bt_and, bt_not _ _ h6, low_bit _ _ (LL_le lo hi) h6, bt_zero, bt_xor]
  by_cases h : i < LL lo hi
  · rw [decide_eq_true h]; simp
  · rw [high_same lo hi i (by omega) h6]; simp
theorem rg_big {lo hi : B64} (h : lo ≠ hi) : ub ((rgT lo hi).2 >>> 1) < ub (lo ^^^ hi) := by
  have h0 : (lo ^^^ hi).toNat ≠ 0 := by
    intro e
    apply h
    have : lo ^^^ hi = 0#64 := BitVec.eq_of_toNat_eq (by rw [e]; rfl)
    exact BitVec.xor_eq_zero_iff.1 this
  have hl : LL lo hi ≠ 0 := by
    intro e
    apply h
    exact b_ext fun i h6 => high_same lo hi i (by omega) h6
  have hk := LL_le lo hi
  have e1 : ((rgT lo hi).2 >>> 1).toNat = 2 ^ (LL lo hi - 1) - 1 := by
    rw [rg_m, BitVec.toNat_ushiftRight, Nat.shiftRight_eq_div_pow]
    have : (lowB (LL lo hi)).toNat = 2 ^ LL lo hi - 1 := by
      unfold lowB
      rw [BitVec.toNat_sub, BitVec.toNat_shiftLeft, show (1#64 : B64).toNat = 1 from rfl, Nat.shiftLeft_eq, Nat.one_mul]
      by_cases h : LL lo hi = 64
      · rw [h]
      · have h1 : 2 ^ LL lo hi ≤ 2 ^ 63 := Nat.pow_le_pow_right (by decide) (by omega)
        have h2 : 0 < 2 ^ LL lo hi := Nat.two_pow_pos _
        rw [Nat.mod_eq_of_lt (a := 2 ^ LL lo hi) (by omega)]
        omega
    rw [this]
    have h3 : 2 ^ LL lo hi = 2 * 2 ^ (LL lo hi - 1) := by rw [← Nat.pow_succ']; congr 1; omega
    have h4 : 0 < 2 ^ (LL lo hi - 1) := Nat.two_pow_pos _
    omega
  have e2 : 2 ^ (LL lo hi - 1) ≤ (lo ^^^ hi).toNat := by
    false_or_by_contra
    rename_i hn
    have := Lib.bitLen_le (lo ^^^ hi).toNat (LL lo hi - 1) (by omega) (by omega)
    unfold LL at this hl
    omega
  have h4 : 0 < 2 ^ (LL lo hi - 1) := Nat.two_pow_pos _
  unfold ub
  rw [e1]
  omega
end Go.Proofs.Ytoanbjnhoggpjaa
