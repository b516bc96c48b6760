/-
  The document's shift down with the sign, and what shifted tnums hold.
-/
import Derived.Test.YtbinbjfpjielkaaTnHp
import Derived.Test.YtbinbjfpjielkaaTnZa
namespace Go.Proofs.Ytbinbjfpjielkaa
set_option linter.unusedSimpArgs false
set_option linter.unusedVariables false
open Go.ChangeShapes Go.WideShapes Go.ChangeAt Go.RowKit

/-- One step down, the sign again. -/
def stp (l : Nat) (v : B64) : B64 := (v >>> 1) ||| (v &&& (1#64 <<< (l - 1)))
def itr (l : Nat) (x : B64) : Nat → B64
  | 0 => x
  | k + 1 => stp l (itr l x k)
theorem itr_bit (l : Nat) (hl : l = 32 ∨ l = 64) (x : B64) (hx : ∀ i, l ≤ i → bt x i = false) : ∀ k i, i < 64 → bt (itr l x k) i = (decide (i < l) && bt x (min (i + k) (l - 1)))
  | 0, i, hi => by
    show bt x i = _
    by_cases h : i < l
    · rw [decide_eq_true h, Bool.true_and]; congr 1; omega
    · rw [decide_eq_false h, hx i (by omega)]; rfl
  | k + 1, i, hi => by
    show bt (stp l (itr l x k)) i = _
    have ih := itr_bit l hl x hx k
    unfold stp
    rw [bt_or, bt_shr, bt_and, bt_shl _ _ _ hi, one_bit, ih i hi]
    by_cases h63 : 1 + i < 64
    · rw [ih (1 + i) h63]
      by_cases h1 : 1 + i < l
      · have hd : ¬ (l - 1 ≤ i) := by omega
        have hd2 : i < l := by omega
        simp only [h1, hd, hd2, decide_true, decide_false, Bool.true_and, Bool.false_and, Bool.and_false, Bool.or_false]
        congr 1; omega
      · by_cases h2 : i < l
        · have e : i = l - 1 := by omega
          have hd : l - 1 ≤ i := by omega
          have hd3 : i - (l - 1) = 0 := by omega
          simp only [h1, h2, hd, hd3, decide_true, decide_false, Bool.true_and, Bool.false_and, Bool.and_true, Bool.false_or]
          congr 1; omega
        · have hd3 : ¬ (i - (l - 1) = 0) := by omega
          simp only [h1, h2, decide_false, Bool.false_and, Bool.false_or]
    · rw [bt_out _ (1 + i) (by omega)]
      by_cases h2 : i < l
      · have hd : l - 1 ≤ i := by omega
        have hd3 : i - (l - 1) = 0 := by omega
        simp only [h2, hd, hd3, decide_true, Bool.true_and, Bool.and_true, Bool.false_or]
        congr 1; omega
      · simp only [h2, decide_false, Bool.false_and, Bool.false_or]
theorem itr_hi (x : B64) (hx : ∀ i, 32 ≤ i → bt x i = false) (k : Nat) : ∀ i, 32 ≤ i → bt (itr 32 x k) i = false := by
  intro i hi
  by_cases h6 : i < 64
  · rw [itr_bit 32 (Or.inl rfl) x hx _ i h6, decide_eq_false (by omega)]; rfl
  · exact bt_out _ _ (by omega)
theorem fit_bits (x : B64) : ub x % 4294967296 = ub (x &&& lowB 32) ∧ ∀ i, 32 ≤ i → bt (x &&& lowB 32) i = false := by
  constructor
  · unfold ub
    rw [BitVec.toNat_and, show (lowB 32).toNat = 2 ^ 32 - 1 by decide, Nat.and_two_pow_sub_one_eq_mod]
    omega
  · intro i hi
    by_cases h6 : i < 64
    · rw [bt_and, low_bit _ _ (by decide) h6, decide_eq_false (by omega)]; simp
    · exact bt_out _ _ (by omega)
theorem fit_same {x : B64} (h : ∀ i, 32 ≤ i → bt x i = false) : x &&& lowB 32 = x := by
  apply b_ext
  intro i hi
  rw [bt_and, low_bit _ _ (by decide) hi]
  by_cases h2 : i < 32
  · rw [decide_eq_true h2]; simp
  · rw [h i (by omega)]; rfl
theorem rfit_f (x : B64) (w : World) : Calls Try.prog 56 #[.bool false, .int .u64 (ub x)] w fun e w' => e = .returned (.int .u64 (ub (x &&& lowB 32))) ∧ w = w' := by
  have h := hid (fit_bits x).1
  have h0 := ub_ge x
  go_enter Try.func56, Try.ntmps56
  go_wp2
  go_ret
  exact ⟨ret_val (congrArg (Value.int .u64) (by rw [← h.out]; first | done | rfl | exact Int.tmod_eq_emod_of_nonneg h0)), rfl⟩
theorem rsize_f (w : World) : Calls Try.prog 82 #[.bool false] w fun e w' => e = .returned (.int .u64 32) ∧ w = w' := by
  go_enter Try.func82, Try.ntmps82
  go_wp2
  go_ret
  exact ⟨rfl, rfl⟩
set_option maxHeartbeats 4000000 in
theorem ralu12_64 (x : B64) (k : Nat) (hk : k < 64) (w : World) : Calls Try.prog 53 #[.int .i64 12, .bool true, .int .u64 (ub x), .int .u64 (k : Int)] w fun e w' => e = .returned (.tuple #[.int .u64 (ub (itr 64 x k)), .int .i64 0]) ∧ w = w' := by
  have hk' : (k : Int) < 64 := by omega
  have HF := hid fun (y : B64) W => rfit_t y W
  have hkm : (k : Int) % 64 = (k : Int) := by omega
  have hk0 : 0 ≤ (k : Int) := by omega
  have hkk : (k : Int) = ub (BitVec.ofNat 64 k) := ub_ofNat k (by omega)
  have HFk0 := rfit_t (BitVec.ofNat 64 k) w
  have hke : BitVec.ofNat 64 k = BitVec.ofNat 64 k := by rfl
  rw [hke, ← hkk] at HFk0
  have HFk := hid HFk0
  clear HFk0 hkk hke
  have HSt := hid (show ∀ j, itr 64 x (j + 1) = (itr 64 x j >>> 1) ||| (itr 64 x j &&& 9223372036854775808#64) from fun j => rfl)
  go_enter Try.func53, Try.ntmps53
  go_wp2_with fail
  refine (HF.out x _ ).mono ?_
  rintro e w' ⟨rfl, rfl⟩
  go_wp2_with fail
  refine HFk.out.mono ?_
  rintro e w' ⟨rfl, rfl⟩
  go_wp2_with fail
  refine (rsize_t _).mono ?_
  rintro e w' ⟨rfl, rfl⟩
  go_wp2_with fail
  refine (rsize_t _).mono ?_
  rintro e w' ⟨rfl, rfl⟩
  go_wp2_with fail
  go_loop [13, 15, 16] (fun v c t => ∃ j : Nat, j ≤ k ∧ c = .int .u64 j ∧ v = .int .u64 (ub (itr 64 x j))) (fun _ c _ => k - (intOf c).toNat)
  case atStart => exact ⟨0, by omega, rfl, rfl⟩
  case round =>
    obtain ⟨j, hj, rfl, rfl⟩ := hrel
    by_cases hlt : j < k
    · have hlt' : (j : Int) < (k : Int) := by omega
      have hj64 : (j : Int) < 64 := by omega
      have hst := hid (HSt.out j)
      go_wp2
      go_round
      case rel => exact ⟨j + 1, by omega, by go_num, by rw [hst.out, ← ub_or, ← ub_and, show ub 9223372036854775808#64 = 9223372036854775808 by kernel_rfl]⟩
      case measure => simp [intOf]; omega
    · have hjk : j = k := by omega
      subst hjk
      go_wp2_with fail
      refine (HF.out _ _ ).mono ?_
      rintro e w' ⟨rfl, rfl⟩
      go_wp2
      exact bodyPost_ret (v := .tuple #[.int .u64 (ub (itr 64 x j)), .int .i64 0]) (by simp [results, Try.results53, go_sem]; try rfl) rfl ⟨rfl, rfl⟩
set_option maxHeartbeats 4000000 in
theorem ralu12_32 (x : B64) (k : Nat) (hk : k < 32) (hx : ∀ i, 32 ≤ i → bt x i = false) (w : World) : Calls Try.prog 53 #[.int .i64 12, .bool false, .int .u64 (ub x), .int .u64 (k : Int)] w fun e w' => e = .returned (.tuple #[.int .u64 (ub (itr 32 x k)), .int .i64 0]) ∧ w = w' := by
  have hk' : (k : Int) < 32 := by omega
  have HF := hid fun (y : B64) W => (fun (h : ∀ i, 32 ≤ i → bt y i = false) => by have hr := rfit_f y W; rw [fit_same h] at hr; exact hr : (∀ i, 32 ≤ i → bt y i = false) → Calls Try.prog 56 #[.bool false, .int .u64 (ub y)] W fun e w' => e = .returned (.int .u64 (ub y)) ∧ W = w')
  have hkm : (k : Int) % 32 = (k : Int) := by omega
  have hk0 : 0 ≤ (k : Int) := by omega
  have hkk : (k : Int) = ub (BitVec.ofNat 64 k) := ub_ofNat k (by omega)
  have HFk0 := rfit_f (BitVec.ofNat 64 k) w
  have hke : BitVec.ofNat 64 k &&& lowB 32 = BitVec.ofNat 64 k := by apply fit_same; intro i hi; unfold bt; rw [BitVec.getLsbD, BitVec.toNat_ofNat, Nat.mod_eq_of_lt (by omega)]; exact Nat.testBit_lt_two_pow (Nat.lt_of_lt_of_le hk (Nat.le_of_lt (Nat.lt_of_lt_of_le (by decide : 32 < 2 ^ 32) (Nat.pow_le_pow_right (by decide) hi))))
  rw [hke, ← hkk] at HFk0
  have HFk := hid HFk0
  clear HFk0 hkk hke
  have HSt := hid (show ∀ j, itr 32 x (j + 1) = (itr 32 x j >>> 1) ||| (itr 32 x j &&& 2147483648#64) from fun j => rfl)
  go_enter Try.func53, Try.ntmps53
  go_wp2_with fail
  refine (HF.out x _ hx).mono ?_
  rintro e w' ⟨rfl, rfl⟩
  go_wp2_with fail
  refine HFk.out.mono ?_
  rintro e w' ⟨rfl, rfl⟩
  go_wp2_with fail
  refine (rsize_f _).mono ?_
  rintro e w' ⟨rfl, rfl⟩
  go_wp2_with fail
  refine (rsize_f _).mono ?_
  rintro e w' ⟨rfl, rfl⟩
  go_wp2_with fail
  go_loop [13, 15, 16] (fun v c t => ∃ j : Nat, j ≤ k ∧ c = .int .u64 j ∧ v = .int .u64 (ub (itr 32 x j))) (fun _ c _ => k - (intOf c).toNat)
  case atStart => exact ⟨0, by omega, rfl, rfl⟩
  case round =>
    obtain ⟨j, hj, rfl, rfl⟩ := hrel
    by_cases hlt : j < k
    · have hlt' : (j : Int) < (k : Int) := by omega
      have hj64 : (j : Int) < 64 := by omega
      have hst := hid (HSt.out j)
      go_wp2
      go_round
      case rel => exact ⟨j + 1, by omega, by go_num, by rw [hst.out, ← ub_or, ← ub_and, show ub 2147483648#64 = 2147483648 by kernel_rfl]⟩
      case measure => simp [intOf]; omega
    · have hjk : j = k := by omega
      subst hjk
      go_wp2_with fail
      refine (HF.out _ _ (itr_hi x hx _)).mono ?_
      rintro e w' ⟨rfl, rfl⟩
      go_wp2
      exact bodyPost_ret (v := .tuple #[.int .u64 (ub (itr 32 x j)), .int .i64 0]) (by simp [results, Try.results53, go_sem]; try rfl) rfl ⟨rfl, rfl⟩
end Go.Proofs.Ytbinbjfpjielkaa
