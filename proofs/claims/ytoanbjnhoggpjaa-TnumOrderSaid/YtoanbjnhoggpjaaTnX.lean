/-
  Plain numbers: what is moved bit by bit is what is shifted and cut.
-/
import Derived.Test.YtoanbjnhoggpjaaTnV
import Derived.Test.YtoanbjnhoggpjaaTnU
import Derived.Test.YtoanbjnhoggpjaaTnH
namespace Go.Proofs.Ytoanbjnhoggpjaa
set_option linter.unusedSimpArgs false
set_option linter.unusedVariables false
set_option maxRecDepth 100000
open Go.RowKit

theorem kz_ko {a : Tn} (h : tmay a = true) (i : Nat) : (!kz a i && ko a i) = bt a.1 i ∧ (kz a i && ko a i) = bt a.2 i := by
  have := may_bit h i
  unfold kz ko
  revert this
  cases bt a.1 i <;> cases bt a.2 i <;> simp
theorem mov_bits {a : Tn} (h : tmay a = true) (by_ size most : Int) (i : Nat) (hi : i < 64) :
    bt (movT a by_ size most).1 i = (mvOk i by_ size most && bt a.1 (frm i by_ most).toNat) ∧ bt (movT a by_ size most).2 i = (mvOk i by_ size most && bt a.2 (frm i by_ most).toNat) := by
  unfold movT
  rw [madeV_bit _ _ _ hi, madeM_bit _ _ _ hi]
  have k := kz_ko h (frm i by_ most).toNat
  unfold mvZ mvO
  cases mvOk i by_ size most
  · simp
  · simp only [if_true, Bool.true_and]; exact k
theorem low_bit (k i : Nat) (hk : k ≤ 64) (hi : i < 64) : bt (lowB k) i = decide (i < k) := by
  have e : (lowB k).toNat = 2 ^ k - 1 := by
    unfold lowB
    rw [BitVec.toNat_sub, BitVec.toNat_shiftLeft, show (1#64 : B64).toNat = 1 from rfl, Nat.shiftLeft_eq, Nat.one_mul]
    by_cases h : k = 64
    · subst h; decide
    · have h1 : 2 ^ k ≤ 2 ^ 63 := Nat.pow_le_pow_right (by decide) (by omega)
      have h2 : 0 < 2 ^ k := Nat.two_pow_pos k
      rw [Nat.mod_eq_of_lt (a := 2 ^ k) (by omega)]
      omega
  unfold bt
  rw [BitVec.getLsbD, e, Nat.testBit_two_pow_sub_one]
theorem mov_ext {a b : Tn} (h : tmay a = true) (by_ size most : Int) (h1 : ∀ i, i < 64 → (mvOk i by_ size most && bt a.1 (frm i by_ most).toNat) = bt b.1 i) (h2 : ∀ i, i < 64 → (mvOk i by_ size most && bt a.2 (frm i by_ most).toNat) = bt b.2 i) : movT a by_ size most = b :=
  t_ext (fun i hi => by rw [(mov_bits h by_ size most i hi).1, h1 i hi]) (fun i hi => by rw [(mov_bits h by_ size most i hi).2, h2 i hi])
theorem frm_no (i : Nat) (b : Int) : frm i b (-1) = (i : Int) + b := by unfold frm; rw [if_neg (by omega)]
theorem lsh_one (x : B64) (n i : Nat) (hi : i < 64) : (mvOk i (-(n : Int)) 64 (-1) && bt x (frm i (-(n : Int)) (-1)).toNat) = bt (x <<< n) i := by
  rw [bt_shl _ _ _ hi, frm_no]
  unfold mvOk
  rw [frm_no]
  by_cases h : n ≤ i
  · have e : ((i : Int) + -(n : Int)).toNat = i - n := by omega
    have d : decide ((i : Int) < 64 ∧ 0 ≤ (i : Int) + -(n : Int) ∧ (i : Int) + -(n : Int) < 64) = true := decide_eq_true (by omega)
    rw [e, d, decide_eq_true h]
  · have d : decide ((i : Int) < 64 ∧ 0 ≤ (i : Int) + -(n : Int) ∧ (i : Int) + -(n : Int) < 64) = false := decide_eq_false (by omega)
    rw [d, decide_eq_false h]; rfl
theorem rsh_one (x : B64) (n i : Nat) (hi : i < 64) : (mvOk i (n : Int) 64 (-1) && bt x (frm i (n : Int) (-1)).toNat) = bt (x >>> n) i := by
  rw [bt_shr, frm_no]
  unfold mvOk
  rw [frm_no]
  have e : ((i : Int) + (n : Int)).toNat = n + i := by omega
  rw [e]
  by_cases h : n + i < 64
  · rw [decide_eq_true (by omega)]; rfl
  · rw [decide_eq_false (by omega), bt_out _ _ (by omega)]; rfl
theorem cut_one (x : B64) (n i : Nat) (hn : n ≤ 64) (hi : i < 64) : (mvOk i 0 (n : Int) (-1) && bt x (frm i 0 (-1)).toNat) = bt (x &&& lowB n) i := by
  rw [bt_and, low_bit _ _ hn hi, frm_no]
  unfold mvOk
  rw [frm_no]
  have e : ((i : Int) + 0).toNat = i := by omega
  rw [e]
  by_cases h : i < n
  · rw [decide_eq_true (by omega), decide_eq_true h]; simp
  · rw [decide_eq_false (by omega), decide_eq_false h]; simp
theorem ssh_bit (x : B64) (n i : Nat) (hi : i < 64) : bt (x.sshiftRight n) i = if n + i < 64 then bt x (n + i) else bt x 63 := by
  unfold bt
  rw [BitVec.getLsbD_sshiftRight]
  have : ¬ 64 ≤ i := by omega
  simp only [this, decide_false, Bool.not_false, Bool.true_and]
  split
  · rfl
  · rw [BitVec.msb_eq_getLsbD_last]
theorem arsh_one (x : B64) (l n i : Nat) (hl : l = 32 ∨ l = 64) (hn : n < l) (hi : i < 64) : (mvOk i (n : Int) (l : Int) ((l : Int) - 1) && bt x (frm i (n : Int) ((l : Int) - 1)).toNat) = bt (arB (64 - l) n l x) i := by
  unfold arB
  rw [bt_and, low_bit _ _ (by omega) hi, ssh_bit _ _ _ hi]
  have hf : frm i (n : Int) ((l : Int) - 1) = if (l : Int) - 1 < (i : Int) + n then (l : Int) - 1 else (i : Int) + n := by
    unfold frm
    by_cases h : (l : Int) - 1 < (i : Int) + n
    · rw [if_pos ⟨by omega, h⟩, if_pos h]
    · rw [if_neg (by omega), if_neg h]
  unfold mvOk
  rw [hf]
  by_cases hil : i < l
  · rw [decide_eq_true hil, Bool.and_true]
    by_cases h : (l : Int) - 1 < (i : Int) + n
    · rw [if_pos h, decide_eq_true (by omega), Bool.true_and]
      have e : ((l : Int) - 1).toNat = l - 1 := by omega
      rw [e]
      by_cases h2 : n + i < 64
      · rw [if_pos h2, ssh_bit _ _ _ h2, if_neg (by omega), bt_shl _ _ _ (by omega), decide_eq_true (by omega), Bool.true_and]
        congr 1; omega
      · rw [if_neg h2, ssh_bit _ _ _ (by omega)]
        by_cases h3 : 64 - l + 63 < 64
        · rw [if_pos h3, bt_shl _ _ _ (by omega), decide_eq_true (by omega), Bool.true_and]; congr 1; omega
        · rw [if_neg h3, bt_shl _ _ _ (by omega), decide_eq_true (by omega), Bool.true_and]; congr 1; omega
    · rw [if_neg h, decide_eq_true (by omega), Bool.true_and, if_pos (by omega), ssh_bit _ _ _ (by omega), if_pos (by omega), bt_shl _ _ _ (by omega), decide_eq_true (by omega), Bool.true_and]
      congr 1; omega
  · rw [decide_eq_false hil, decide_eq_false (by omega)]; simp
end Go.Proofs.Ytoanbjnhoggpjaa
