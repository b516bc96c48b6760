/-
  Plain numbers: shifted and cut tnums hold the shifted and cut numbers, and no more bits are any.
-/
import Derived.Test.YtbinbjfpjielkaaTnMo
namespace Go.Proofs.Ytbinbjfpjielkaa
set_option linter.unusedSimpArgs false
set_option linter.unusedVariables false
open Go.RowKit

theorem cut_may {t : Tn} (h : tmay t = true) (l : Nat) : tmay (t.1 &&& lowB l, t.2 &&& lowB l) = true := may_of fun i hi => by
  have := may_bit h i
  dsimp only
  rw [bt_and, bt_and]
  revert this
  cases bt t.1 i <;> cases bt t.2 i <;> cases bt (lowB l) i <;> simp
theorem cut_hs {t : Tn} {x : B64} (h : Hs t x) (l : Nat) : Hs (t.1 &&& lowB l, t.2 &&& lowB l) (x &&& lowB l) := b_ext fun i hi => by
  have e := hs_bit h i hi
  dsimp only
  rw [bt_and, bt_not _ _ hi, bt_and, bt_and, bt_and, e]
  cases bt x i <;> cases bt t.2 i <;> cases bt (lowB l) i <;> simp
theorem and_low64 (x : B64) : x &&& lowB 64 = x := by
  apply b_ext
  intro i hi
  rw [bt_and, low_bit _ _ (by decide) hi, decide_eq_true hi]; simp
theorem ar_hs {t : Tn} {x : B64} (h : Hs t x) (l n : Nat) (hl : l = 32 ∨ l = 64) (hn : n < l) : Hs (arB (64 - l) n l t.1, arB (64 - l) n l t.2) (arB (64 - l) n l x) := b_ext fun i hi => by
  dsimp only
  rw [bt_and, bt_not _ _ hi, ← arsh_one x l n i hl hn hi, ← arsh_one t.1 l n i hl hn hi, ← arsh_one t.2 l n i hl hn hi]
  cases hm : mvOk i (n : Int) (l : Int) ((l : Int) - 1)
  · simp
  · have hr : (frm i (n : Int) ((l : Int) - 1)).toNat < 64 := by
      unfold mvOk at hm
      rw [decide_eq_true_eq] at hm
      omega
    rw [hs_bit h _ hr]
    simp
theorem ar_may {t : Tn} (h : tmay t = true) (l n : Nat) (hl : l = 32 ∨ l = 64) (hn : n < l) : tmay (arB (64 - l) n l t.1, arB (64 - l) n l t.2) = true := may_of fun i hi => by
  dsimp only
  rw [← arsh_one t.1 l n i hl hn hi, ← arsh_one t.2 l n i hl hn hi]
  have := may_bit h (frm i (n : Int) ((l : Int) - 1)).toNat
  revert this
  cases mvOk i (n : Int) (l : Int) ((l : Int) - 1) <;> simp
theorem itr_ar (l : Nat) (hl : l = 32 ∨ l = 64) (x : B64) (hx : ∀ i, l ≤ i → bt x i = false) (n : Nat) (hn : n < l) : itr l x n = arB (64 - l) n l x := by
  apply b_ext
  intro i hi
  rw [itr_bit l hl x hx n i hi, ← arsh_one x l n i hl hn hi]
  have hf : frm i (n : Int) ((l : Int) - 1) = ((min (i + n) (l - 1) : Nat) : Int) := by
    unfold frm
    split <;> omega
  unfold mvOk
  rw [hf, Int.toNat_natCast]
  by_cases h : i < l
  · rw [decide_eq_true h, decide_eq_true (by omega)]
  · rw [decide_eq_false h, decide_eq_false (by omega)]
theorem shr_hs {t : Tn} {x : B64} (h : Hs t x) (n : Nat) : Hs (t.1 >>> n, t.2 >>> n) (x >>> n) := b_ext fun i hi => by
  dsimp only
  rw [bt_and, bt_not _ _ hi, bt_shr, bt_shr, bt_shr]
  by_cases h6 : n + i < 64
  · rw [hs_bit h _ h6]
  · rw [bt_out x _ (by omega), bt_out t.2 _ (by omega), bt_out t.1 _ (by omega)]; rfl
theorem shr_may {t : Tn} (h : tmay t = true) (n : Nat) : tmay (t.1 >>> n, t.2 >>> n) = true := may_of fun i hi => by
  dsimp only; rw [bt_shr, bt_shr]; exact may_bit h _
theorem cntU_mono (x : B64) : ∀ k j, cntU x k ≤ cntU x (k + j)
  | k, 0 => Nat.le_refl _
  | k, j + 1 => by
    have := cntU_mono x k j
    rw [show k + (j + 1) = (k + j) + 1 by omega, cntU]
    omega
theorem cntU_top (x : B64) : ∀ j, cntU x (64 + j) = cntU x 64
  | 0 => rfl
  | j + 1 => by
    rw [show 64 + (j + 1) = (64 + j) + 1 by omega, cntU, cntU_top x j, show x.getLsbD (64 + j) = bt x (64 + j) from rfl, bt_out _ _ (by omega)]
    rfl
theorem cntU_shr (x : B64) (n : Nat) : ∀ k, cntU (x >>> n) k + cntU x n = cntU x (n + k)
  | 0 => by simp [cntU]
  | k + 1 => by
    have ih := cntU_shr x n k
    rw [show n + (k + 1) = (n + k) + 1 by omega, cntU, cntU, show (x >>> n).getLsbD k = bt (x >>> n) k from rfl, bt_shr, show x.getLsbD (n + k) = bt x (n + k) from rfl]
    omega
theorem cnt_shr (x : B64) (n : Nat) : cntU (x >>> n) 64 ≤ cntU x 64 := by
  have h := cntU_shr x n 64
  rw [show n + 64 = 64 + n by omega, cntU_top] at h
  omega
theorem cntU_shl (x : B64) (n : Nat) : ∀ k, k ≤ 64 → cntU (x <<< n) k = cntU x (k - n)
  | 0, _ => by simp [cntU]
  | k + 1, hk => by
    have ih := cntU_shl x n k (by omega)
    rw [cntU, ih, show (x <<< n).getLsbD k = bt (x <<< n) k from rfl, bt_shl _ _ _ (by omega)]
    by_cases h : n ≤ k
    · rw [decide_eq_true h, Bool.true_and, show k + 1 - n = (k - n) + 1 by omega, cntU]; rfl
    · rw [decide_eq_false h, show k + 1 - n = 0 by omega, show k - n = 0 by omega]; rfl
theorem cnt_shl (x : B64) (n : Nat) : cntU (x <<< n) 64 ≤ cntU x 64 := by
  rw [cntU_shl x n 64 (Nat.le_refl _)]
  have := cntU_mono x (64 - n) (64 - (64 - n))
  rwa [show 64 - n + (64 - (64 - n)) = 64 by omega] at this
end Go.Proofs.Ytbinbjfpjielkaa
