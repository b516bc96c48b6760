/-
  Plain numbers: what chapter 1's operations answer, as functions on whole numbers, and lemmas on them.
-/
import Derived.WalkKit
import Derived.Laws.BitsAllLaws
import Derived.Laws.Bits64
namespace Go.Proofs.Ytgemnkaiajdcfaa
open Go.RowKit

/-- How many bits an operation has. -/
def SZ (wide : Bool) : Int := if wide then 64 else 32
/-- 2 to the size. -/
def MD (wide : Bool) : Int := if wide then 18446744073709551616 else 4294967296
/-- The signed value of a number below 2 to the size. -/
def sgnI (wide : Bool) (x : Int) : Int := if 2 * x < MD wide then x else x - MD wide

theorem MD_true : MD true = 18446744073709551616 := rfl
theorem MD_false : MD false = 4294967296 := rfl
theorem SZ_true : SZ true = 64 := rfl
theorem SZ_false : SZ false = 32 := rfl
theorem MD_pos (wide : Bool) : 0 < MD wide := by cases wide <;> decide
theorem MD_le (wide : Bool) : MD wide ≤ 18446744073709551616 := by cases wide <;> decide
theorem SZ_pos (wide : Bool) : 0 < SZ wide := by cases wide <;> decide

/-- What the code's 'answer' works out, of numbers below 2 to the size. -/
def ansI (op : Int) (wide : Bool) (x y : Int) : Int :=
  if op = 0 then (x + y) % 18446744073709551616
  else if op = 1 then (x - y) % 18446744073709551616
  else if op = 2 then (x * y) % 18446744073709551616
  else if op = 3 then (if y = 0 then 0 else x / y)
  else if op = 4 then bits .or .u64 x y
  else if op = 5 then bits .and .u64 x y
  else if op = 6 then (x * 2 ^ (y % SZ wide).toNat) % 18446744073709551616
  else if op = 7 then x / 2 ^ (y % SZ wide).toNat
  else if op = 8 then (-x) % 18446744073709551616
  else if op = 9 then (if y = 0 then x else x % y)
  else if op = 10 then bits .xor .u64 x y
  else if op = 11 then y
  else if op = 12 then (sgnI wide x / 2 ^ (y % SZ wide).toNat) % 18446744073709551616
  else 0
/-- An operation's error. -/
def aluE (op : Int) : Int := if 0 ≤ op ∧ op ≤ 12 then 0 else 20
/-- An operation's answer. -/
def aluI (op : Int) (wide : Bool) (a b : Int) : Int := ansI op wide (a % MD wide) (b % MD wide) % MD wide

theorem wrap_u64 (n : Int) : IntKind.u64.wrap n = n % 18446744073709551616 := IntKind.wrap_u64 n
theorem wrap64_eq (n : Int) : wrap64 n = (n + 9223372036854775808) % 18446744073709551616 - 9223372036854775808 := by
  have := IntKind.wrap_i64 n
  first | exact this | (unfold wrap64; exact this) | (unfold wrap64; omega)
theorem mask_fit (wide : Bool) (n : Int) (h0 : 0 ≤ n) (h1 : n < 18446744073709551616) : bits .and .u64 n (MD wide - 1) = n % MD wide := by
  rw [u64_and n (MD wide - 1) h0 h1 (by have := MD_pos wide; omega) (by have := MD_le wide; omega)]
  cases wide
  · show ((n.toNat &&& (4294967296 - 1) : Nat) : Int) = _
    rw [show (4294967296 - 1 : Nat) = 2 ^ 32 - 1 from rfl, Nat.and_two_pow_sub_one_eq_mod]
    simp only [MD_false]; omega
  · show ((n.toNat &&& (18446744073709551616 - 1) : Nat) : Int) = _
    rw [show (18446744073709551616 - 1 : Nat) = 2 ^ 64 - 1 from rfl, Nat.and_two_pow_sub_one_eq_mod]
    simp only [MD_true]; omega

theorem bits_bd (op : BinOp) (x y : Int) : 0 ≤ bits op .u64 x y ∧ bits op .u64 x y < 18446744073709551616 := by
  unfold bits
  split <;> rw [wrap_u64] <;> omega
theorem pow_pos (n : Nat) : (0 : Int) < 2 ^ n := Int.pow_pos (by decide)
theorem div_bd (x m : Int) (h0 : 0 ≤ x) (h1 : x < 18446744073709551616) (hm : 0 < m) : 0 ≤ x / m ∧ x / m < 18446744073709551616 :=
  ⟨Int.ediv_nonneg h0 (by omega), by
    have := Int.ediv_le_self m h0
    omega⟩

theorem mod_bd (x m : Int) (h0 : 0 ≤ x) (h1 : x < 18446744073709551616) (hm : 0 < m) : 0 ≤ x % m ∧ x % m < 18446744073709551616 := by
  have h := Int.emod_nonneg x (b := m) (by omega)
  have h3 := Int.mul_ediv_add_emod x m
  have h4 := (div_bd x m h0 h1 hm).1
  have h5 : 0 ≤ m * (x / m) := Int.mul_nonneg (by omega) h4
  omega
theorem m64_bd (x : Int) : 0 ≤ x % 18446744073709551616 ∧ x % 18446744073709551616 < 18446744073709551616 := by omega

theorem ite_bd {c : Prop} [Decidable c] {a b : Int} (h1 : c → 0 ≤ a ∧ a < 18446744073709551616) (h2 : ¬ c → 0 ≤ b ∧ b < 18446744073709551616) :
    0 ≤ (if c then a else b) ∧ (if c then a else b) < 18446744073709551616 := by
  split
  · exact h1 ‹_›
  · exact h2 ‹_›
theorem ansI_bd (op : Int) (wide : Bool) (x y : Int) (h0 : 0 ≤ x) (h1 : x < 18446744073709551616) (g0 : 0 ≤ y) (g1 : y < 18446744073709551616) :
    0 ≤ ansI op wide x y ∧ ansI op wide x y < 18446744073709551616 := by
  unfold ansI
  repeat' (first | (refine ite_bd (fun _ => ?_) (fun _ => ?_)))
  · exact m64_bd _
  · exact m64_bd _
  · exact m64_bd _
  · omega
  · exact div_bd _ _ h0 h1 (by omega)
  · exact bits_bd _ _ _
  · exact bits_bd _ _ _
  · exact m64_bd _
  · exact div_bd _ _ h0 h1 (pow_pos _)
  · exact m64_bd _
  · exact ⟨h0, h1⟩
  · exact mod_bd _ _ h0 h1 (by omega)
  · exact bits_bd _ _ _
  · exact ⟨g0, g1⟩
  · exact m64_bd _
  · omega

theorem aluI_bd (op : Int) (wide : Bool) (a b : Int) : 0 ≤ aluI op wide a b ∧ aluI op wide a b < MD wide :=
  ⟨Int.emod_nonneg _ (by have := MD_pos wide; omega), Int.emod_lt_of_pos _ (MD_pos wide)⟩
theorem fit_bd (wide : Bool) (a : Int) : 0 ≤ a % MD wide ∧ a % MD wide < MD wide :=
  ⟨Int.emod_nonneg _ (by have := MD_pos wide; omega), Int.emod_lt_of_pos _ (MD_pos wide)⟩
theorem fit_bd64 (wide : Bool) (a : Int) : 0 ≤ a % MD wide ∧ a % MD wide < 18446744073709551616 :=
  ⟨(fit_bd wide a).1, Int.lt_of_lt_of_le (fit_bd wide a).2 (MD_le wide)⟩

/-- A condition, of numbers below 2 to the size. -/
def cndB (op : Int) (wide : Bool) (x y : Int) : Bool :=
  if op = 1 then x == y
  else if op = 5 then x != y
  else if op = 2 then decide (y < x)
  else if op = 3 then decide (y ≤ x)
  else if op = 10 then decide (x < y)
  else if op = 11 then decide (x ≤ y)
  else if op = 4 then bits .and .u64 x y != 0
  else if op = 6 then decide (sgnI wide y < sgnI wide x)
  else if op = 7 then decide (sgnI wide y ≤ sgnI wide x)
  else if op = 12 then decide (sgnI wide x < sgnI wide y)
  else if op = 13 then decide (sgnI wide x ≤ sgnI wide y)
  else false
def isCond (op : Int) : Bool := op == 1 || op == 5 || op == 2 || op == 3 || op == 10 || op == 11 || op == 4 || op == 6 || op == 7 || op == 12 || op == 13
def condE (op : Int) : Int := if isCond op then 0 else 20
def condI (op : Int) (wide : Bool) (a b : Int) : Bool := cndB op wide (a % MD wide) (b % MD wide)
theorem cnd_at1 {op : Int} (h : (op == 1) = true) (wide : Bool) (x y : Int) : (x == y) = cndB op wide x y := by
  obtain rfl : op = 1 := by simpa using h
  rfl
theorem cnd_at5 {op : Int} (h : (op == 5) = true) (wide : Bool) (x y : Int) : (x != y) = cndB op wide x y := by
  obtain rfl : op = 5 := by simpa using h
  rfl
theorem cnd_at2 {op : Int} (h : (op == 2) = true) (wide : Bool) (x y : Int) : (decide (y < x)) = cndB op wide x y := by
  obtain rfl : op = 2 := by simpa using h
  rfl
theorem cnd_at3 {op : Int} (h : (op == 3) = true) (wide : Bool) (x y : Int) : (decide (y ≤ x)) = cndB op wide x y := by
  obtain rfl : op = 3 := by simpa using h
  rfl
theorem cnd_at10 {op : Int} (h : (op == 10) = true) (wide : Bool) (x y : Int) : (decide (x < y)) = cndB op wide x y := by
  obtain rfl : op = 10 := by simpa using h
  rfl
theorem cnd_at11 {op : Int} (h : (op == 11) = true) (wide : Bool) (x y : Int) : (decide (x ≤ y)) = cndB op wide x y := by
  obtain rfl : op = 11 := by simpa using h
  rfl
theorem cnd_at4 {op : Int} (h : (op == 4) = true) (wide : Bool) (x y : Int) : (bits .and .u64 x y != 0) = cndB op wide x y := by
  obtain rfl : op = 4 := by simpa using h
  rfl
theorem cnd_at6 {op : Int} (h : (op == 6) = true) (wide : Bool) (x y : Int) : (decide (sgnI wide y < sgnI wide x)) = cndB op wide x y := by
  obtain rfl : op = 6 := by simpa using h
  rfl
theorem cnd_at7 {op : Int} (h : (op == 7) = true) (wide : Bool) (x y : Int) : (decide (sgnI wide y ≤ sgnI wide x)) = cndB op wide x y := by
  obtain rfl : op = 7 := by simpa using h
  rfl
theorem cnd_at12 {op : Int} (h : (op == 12) = true) (wide : Bool) (x y : Int) : (decide (sgnI wide x < sgnI wide y)) = cndB op wide x y := by
  obtain rfl : op = 12 := by simpa using h
  rfl
theorem cnd_at13 {op : Int} (h : (op == 13) = true) (wide : Bool) (x y : Int) : (decide (sgnI wide x ≤ sgnI wide y)) = cndB op wide x y := by
  obtain rfl : op = 13 := by simpa using h
  rfl
theorem condE_is {op : Int} {k : Int} (h : (op == k) = true) (hk : isCond k = true) : 0 = condE op := by
  obtain rfl : op = k := by simpa using h
  exact (if_pos hk).symm
theorem cnd_none {op : Int} (h : isCond op = false) (wide : Bool) (x y : Int) : cndB op wide x y = false := by
  simp only [isCond, Bool.or_eq_false_iff, beq_eq_false_iff_ne, ne_eq] at h
  obtain ⟨⟨⟨⟨⟨⟨⟨⟨⟨⟨h1, h2⟩, h3⟩, h4⟩, h5⟩, h6⟩, h7⟩, h8⟩, h9⟩, h10⟩, h11⟩ := h
  unfold cndB
  rw [if_neg h1, if_neg h2, if_neg h3, if_neg h4, if_neg h5, if_neg h6, if_neg h7, if_neg h8, if_neg h9, if_neg h10, if_neg h11]
theorem condE_none {op : Int} (h : isCond op = false) : condE op = 20 := by
  unfold condE
  rw [h]
  rfl

/-- The lowest k bytes of a number in the opposite order. -/
def rev : Nat → Int → Int
  | 0, _ => 0
  | k + 1, a => rev k a * 256 + a / 256 ^ k % 256
theorem rev_bd (a : Int) : ∀ k : Nat, 0 ≤ rev k a ∧ rev k a < 256 ^ k
  | 0 => by simp [rev]
  | k + 1 => by
    have h := rev_bd a k
    have hp : (256 : Int) ^ (k + 1) = 256 ^ k * 256 := by rw [Int.pow_succ]
    rw [hp]
    unfold rev
    omega
theorem div_step (a : Int) (k : Nat) : a / 256 ^ k / 256 = a / 256 ^ (k + 1) := by
  rw [Int.pow_succ, Int.ediv_ediv_of_nonneg]
  exact Int.le_of_lt (Int.pow_pos (by decide))
theorem pow256_le {k : Nat} (h : k < 8) : (256 : Int) ^ k * 256 ≤ 18446744073709551616 := by
  have hk : k = 0 ∨ k = 1 ∨ k = 2 ∨ k = 3 ∨ k = 4 ∨ k = 5 ∨ k = 6 ∨ k = 7 := by omega
  rcases hk with rfl | rfl | rfl | rfl | rfl | rfl | rfl | rfl <;> decide
theorem or_join (x y : Int) (h0 : 0 ≤ x) (h1 : x * 256 < 18446744073709551616) (g0 : 0 ≤ y) (g1 : y < 256) : bits .or .u64 (x * 256) y = x * 256 + y := by
  rw [u64_or _ _ (by omega) h1 g0 (by omega)]
  rw [nat_join 8 (x * 256).toNat y.toNat (by omega) (by omega)]
  omega
theorem and255 (x : Int) (h0 : 0 ≤ x) (h1 : x < 18446744073709551616) : bits .and .u64 x 255 = x % 256 := by
  rw [u64_and _ _ h0 h1 (by decide) (by decide)]
  show ((x.toNat &&& 255 : Nat) : Int) = _
  rw [nat_mask8]
  omega
theorem divp_bd (a : Int) (k : Nat) (h0 : 0 ≤ a) (h1 : a < 18446744073709551616) : 0 ≤ a / 256 ^ k ∧ a / 256 ^ k < 18446744073709551616 :=
  div_bd a _ h0 h1 (Int.pow_pos (by decide))
theorem rev_step (a : Int) (k : Nat) (h0 : 0 ≤ a) (h1 : a < 18446744073709551616) (hk : k < 8) :
    bits .or .u64 (IntKind.u64.wrap (rev k a * 256)) (bits .and .u64 (a / 256 ^ k) 255) = rev (k + 1) a := by
  have h := rev_bd a k
  have hp := pow256_le hk
  have hd := divp_bd a k h0 h1
  rw [and255 _ hd.1 hd.2, wrap_u64, Int.emod_eq_of_lt (by omega) (by omega), or_join _ _ h.1 (by omega) (by omega) (by omega)]
  rfl
theorem rev_step2 (a : Int) (k : Nat) (hk : k < 8) :
    IntKind.u64.wrap (IntKind.u64.wrap (rev k a * 256) + a / 256 ^ k % 256) = rev (k + 1) a := by
  have h := rev_bd a k
  have hp := pow256_le hk
  have hl : rev k a * 256 + 256 ≤ 18446744073709551616 := by omega
  rw [wrap_u64, wrap_u64, Int.emod_eq_of_lt (a := rev k a * 256) (by omega) (by omega), Int.emod_eq_of_lt (by omega) (by omega)]
  rfl

theorem sgnI_false (n : Int) : sgnI false n = if 2 * n < 4294967296 then n else n - 4294967296 := rfl
theorem sgnI_true (n : Int) : sgnI true n = if 2 * n < 18446744073709551616 then n else n - 18446744073709551616 := rfl
/-! ### The sign's bit -/
/-- The highest bit. -/
def TP (wide : Bool) : Int := if wide then 9223372036854775808 else 2147483648
theorem TP_true : TP true = 9223372036854775808 := rfl
theorem TP_false : TP false = 2147483648 := rfl
theorem TP_two (wide : Bool) : 2 * TP wide = MD wide := by cases wide <;> rfl
theorem TP_pow (wide : Bool) : TP wide = 2 ^ (SZ wide - 1).toNat := by cases wide <;> rfl
theorem and_top (wide : Bool) (r : Int) (h0 : 0 ≤ r) (h1 : r < MD wide) : bits .and .u64 r (TP wide) = if r < TP wide then 0 else TP wide := by
  have hm := MD_le wide
  have ht := TP_two wide
  rw [u64_and r (TP wide) h0 (by omega) (by omega) (by omega)]
  cases wide
  · show ((r.toNat &&& 2 ^ 31 : Nat) : Int) = _
    rw [nat_bit]
    split <;> simp only [TP_false, MD_false] at * <;> omega
  · show ((r.toNat &&& 2 ^ 63 : Nat) : Int) = _
    rw [nat_bit]
    split <;> simp only [TP_true, MD_true] at * <;> omega
theorem or_top (wide : Bool) (s r : Int) (hs : s = 0 ∨ s = TP wide) (h0 : 0 ≤ r) (h1 : r < TP wide) : bits .or .u64 r s = r + s := by
  have hm := MD_le wide
  have ht := TP_two wide
  rw [u64_or r s h0 (by omega) (by omega) (by omega), Nat.or_comm]
  cases wide
  · simp only [TP_false, MD_false] at *
    rw [nat_join 31 s.toNat r.toNat (by omega) (by omega)]
    omega
  · simp only [TP_true, MD_true] at *
    rw [nat_join 63 s.toNat r.toNat (by omega) (by omega)]
    omega
theorem sgn_bd (wide : Bool) (x : Int) (h0 : 0 ≤ x) (h1 : x < MD wide) : - TP wide ≤ sgnI wide x ∧ sgnI wide x < TP wide := by
  have ht := TP_two wide
  unfold sgnI
  split <;> omega
theorem sgn_div_bd (wide : Bool) (x : Int) (n : Nat) (h0 : 0 ≤ x) (h1 : x < MD wide) : - TP wide ≤ sgnI wide x / 2 ^ n ∧ sgnI wide x / 2 ^ n < TP wide := by
  have h := sgn_bd wide x h0 h1
  have hp := pow_pos n
  constructor
  · rw [Int.le_ediv_iff_mul_le hp]
    have : TP wide ≤ TP wide * 2 ^ n := by
      have := Int.mul_le_mul_of_nonneg_left (show (1 : Int) ≤ 2 ^ n from hp) (show 0 ≤ TP wide by cases wide <;> decide)
      omega
    rw [Int.neg_mul]
    omega
  · rw [Int.ediv_lt_iff_lt_mul hp]
    have : TP wide ≤ TP wide * 2 ^ n := by
      have := Int.mul_le_mul_of_nonneg_left (show (1 : Int) ≤ 2 ^ n from hp) (show 0 ≤ TP wide by cases wide <;> decide)
      omega
    omega
theorem sign_step (wide : Bool) (x : Int) (n : Nat) (h0 : 0 ≤ x) (h1 : x < MD wide) :
    bits .or .u64 (sgnI wide x / 2 ^ n % MD wide / 2) (bits .and .u64 (sgnI wide x / 2 ^ n % MD wide) (TP wide)) = sgnI wide x / 2 ^ (n + 1) % MD wide := by
  have hq := sgn_div_bd wide x n h0 h1
  have ht := TP_two wide
  have hr := fit_bd wide (sgnI wide x / 2 ^ n)
  have he : sgnI wide x / 2 ^ (n + 1) = sgnI wide x / 2 ^ n / 2 := by
    rw [Int.pow_succ, Int.ediv_ediv_of_nonneg (Int.le_of_lt (pow_pos n))]
  rw [he, and_top wide _ hr.1 hr.2]
  generalize hQ : sgnI wide x / 2 ^ n = q at *
  clear he hQ h0 h1
  have hs : (if q % MD wide < TP wide then 0 else TP wide) = 0 ∨ (if q % MD wide < TP wide then 0 else TP wide) = TP wide := by split <;> simp
  rw [or_top wide _ _ hs (by omega) (by omega)]
  clear hs
  cases wide
  · split <;> simp only [TP_false, MD_false] at * <;> omega
  · split <;> simp only [TP_true, MD_true] at * <;> omega
theorem tb_add (i j d : Nat) (hd : d < 2 ^ i) (hj : i ≠ j) : (2 ^ i + d).testBit j = d.testBit j := by
  rcases Nat.lt_or_gt_of_ne hj with h | h
  · have h1 : 2 ^ (i + 1) ≤ 2 ^ j := Nat.pow_le_pow_right (by decide) h
    have h2 : 2 ^ (i + 1) = 2 ^ i * 2 := Nat.pow_succ _ _
    rw [Nat.testBit_lt_two_pow (show 2 ^ i + d < 2 ^ j by omega), Nat.testBit_lt_two_pow (by omega)]
  · exact Nat.testBit_two_pow_add_gt h d
theorem xor_top (wide : Bool) (x : Int) (h0 : 0 ≤ x) (h1 : x < MD wide) : bits .xor .u64 x (TP wide) = sgnI wide x + TP wide := by
  have hm := MD_le wide
  have ht := TP_two wide
  rw [u64_xor x (TP wide) h0 (by omega) (by omega) (by omega)]
  have key : ∀ (i r : Nat), r < 2 ^ (i + 1) → r ^^^ 2 ^ i = if r < 2 ^ i then r + 2 ^ i else r - 2 ^ i := by
    intro i r hr
    have hp : (2 : Nat) ^ (i + 1) = 2 ^ i * 2 := Nat.pow_succ _ _
    split
    · rename_i hlt
      apply Nat.eq_of_testBit_eq
      intro j
      rw [Nat.testBit_xor, Nat.add_comm, Nat.testBit_two_pow]
      by_cases hj : i = j
      · subst hj
        rw [Nat.testBit_two_pow_add_eq, Nat.testBit_lt_two_pow hlt]
        simp
      · rw [tb_add i j _ (by omega) hj]
        simp [hj]
    · rename_i hge
      apply Nat.eq_of_testBit_eq
      intro j
      obtain ⟨d, rfl⟩ : ∃ d, r = 2 ^ i + d := ⟨r - 2 ^ i, by omega⟩
      rw [Nat.add_sub_cancel_left, Nat.testBit_xor, Nat.testBit_two_pow]
      have hd : d < 2 ^ i := by omega
      by_cases hj : i = j
      · subst hj
        rw [Nat.testBit_two_pow_add_eq, Nat.testBit_lt_two_pow hd]
        simp
      · rw [tb_add i j _ (by omega) hj]
        simp [hj]
  cases wide
  · show ((x.toNat ^^^ 2 ^ 31 : Nat) : Int) = _
    rw [sgnI_false]
    simp only [TP_false, MD_false] at h1 hm ⊢
    rw [key 31 x.toNat (by omega)]
    split <;> split <;> omega
  · show ((x.toNat ^^^ 2 ^ 63 : Nat) : Int) = _
    rw [sgnI_true]
    simp only [TP_true, MD_true] at h1 hm ⊢
    rw [key 63 x.toNat (by omega)]
    split <;> split <;> omega
end Go.Proofs.Ytgemnkaiajdcfaa
