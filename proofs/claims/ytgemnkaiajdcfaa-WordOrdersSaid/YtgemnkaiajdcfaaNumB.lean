/-
  Plain numbers: the operations by arithmetic modulo 2 to the size.
-/
import Derived.Test.YtgemnkaiajdcfaaNum
namespace Go.Proofs.Ytgemnkaiajdcfaa
open Go.RowKit

theorem mul_emod_r (a b M : Int) : (a * (b % M)) % M = (a * b) % M := by
  rw [Int.mul_emod, Int.emod_emod, ← Int.mul_emod]
theorem mul_emod_l (a b M : Int) : ((a % M) * b) % M = (a * b) % M := by
  rw [Int.mul_emod, Int.emod_emod, ← Int.mul_emod]
theorem MD_dvd (wide : Bool) : MD wide ∣ 18446744073709551616 := by cases wide <;> decide
theorem emod_big (wide : Bool) (n : Int) : n % 18446744073709551616 % MD wide = n % MD wide := Int.emod_emod_of_dvd n (MD_dvd wide)
theorem add_is (wide : Bool) (a b : Int) : aluI 0 wide a b = (a + b) % MD wide := by
  show (a % MD wide + b % MD wide) % 18446744073709551616 % MD wide = _
  rw [emod_big, Int.emod_add_emod, Int.add_emod_emod]
theorem sub_is (wide : Bool) (a b : Int) : aluI 1 wide a b = (a - b) % MD wide := by
  show (a % MD wide - b % MD wide) % 18446744073709551616 % MD wide = _
  rw [emod_big, Int.emod_sub_emod, Int.sub_emod_emod]
theorem mul_is (wide : Bool) (a b : Int) : aluI 2 wide a b = (a * b) % MD wide := by
  show (a % MD wide * (b % MD wide)) % 18446744073709551616 % MD wide = _
  rw [emod_big, mul_emod_r, mul_emod_l]
theorem neg_is (wide : Bool) (a b : Int) : aluI 8 wide a b = (-a) % MD wide := by
  show (-(a % MD wide)) % 18446744073709551616 % MD wide = _
  rw [emod_big]
  have := Int.sub_emod_emod 0 a (MD wide)
  simpa using this
theorem mov_is (wide : Bool) (a b : Int) : aluI 11 wide a b = b % MD wide := by
  show b % MD wide % MD wide = _
  rw [Int.emod_emod]
theorem nat_or_and (a b : Nat) : (a ||| b) + (a &&& b) = a + b := by
  induction a using Nat.strongRecOn generalizing b with
  | ind a ih =>
    by_cases ha : a = 0
    · subst ha; simp
    · have h := ih (a / 2) (by omega) (b / 2)
      have h1 : (a ||| b) / 2 = a / 2 ||| b / 2 := Nat.or_div_two
      have h2 : (a &&& b) / 2 = a / 2 &&& b / 2 := Nat.and_div_two
      have h3 : (a ||| b) % 2 = (a % 2) ||| (b % 2) := Nat.or_mod_two_pow (n := 1)
      have h4 : (a &&& b) % 2 = (a % 2) &&& (b % 2) := Nat.and_mod_two_pow (n := 1)
      rw [← h1, ← h2] at h
      have ha2 : a % 2 = 0 ∨ a % 2 = 1 := by omega
      have hb2 : b % 2 = 0 ∨ b % 2 = 1 := by omega
      rcases ha2 with e | e <;> rcases hb2 with f | f <;> simp only [e, f, Nat.zero_or, Nat.or_zero, Nat.or_self, Nat.zero_and, Nat.and_zero, Nat.and_self] at h3 h4 <;> omega
theorem or_lt (wide : Bool) (x y : Int) (h0 : 0 ≤ x) (h1 : x < MD wide) (g0 : 0 ≤ y) (g1 : y < MD wide) : bits .or .u64 x y = ((x.toNat ||| y.toNat : Nat) : Int) ∧ bits .or .u64 x y < MD wide := by
  have hm := MD_le wide
  have e := u64_or x y h0 (by omega) g0 (by omega)
  refine ⟨e, ?_⟩
  rw [e]
  cases wide
  · have := Nat.or_lt_two_pow (x := x.toNat) (y := y.toNat) (n := 32) (by rw [MD_false] at h1; omega) (by rw [MD_false] at g1; omega)
    rw [MD_false]; omega
  · have := Nat.or_lt_two_pow (x := x.toNat) (y := y.toNat) (n := 64) (by rw [MD_true] at h1; omega) (by rw [MD_true] at g1; omega)
    rw [MD_true]; omega
theorem xor_lt (wide : Bool) (x y : Int) (h0 : 0 ≤ x) (h1 : x < MD wide) (g0 : 0 ≤ y) (g1 : y < MD wide) : bits .xor .u64 x y = ((x.toNat ^^^ y.toNat : Nat) : Int) ∧ bits .xor .u64 x y < MD wide := by
  have hm := MD_le wide
  have e := u64_xor x y h0 (by omega) g0 (by omega)
  refine ⟨e, ?_⟩
  rw [e]
  cases wide
  · have := Nat.xor_lt_two_pow (x := x.toNat) (y := y.toNat) (n := 32) (by rw [MD_false] at h1; omega) (by rw [MD_false] at g1; omega)
    rw [MD_false]; omega
  · have := Nat.xor_lt_two_pow (x := x.toNat) (y := y.toNat) (n := 64) (by rw [MD_true] at h1; omega) (by rw [MD_true] at g1; omega)
    rw [MD_true]; omega
theorem and_le_l (x y : Int) (h0 : 0 ≤ x) (h1 : x < 18446744073709551616) (g0 : 0 ≤ y) (g1 : y < 18446744073709551616) : bits .and .u64 x y = ((x.toNat &&& y.toNat : Nat) : Int) ∧ bits .and .u64 x y ≤ x := by
  have e := u64_and x y h0 h1 g0 g1
  refine ⟨e, ?_⟩
  rw [e]
  have := @Nat.and_le_left x.toNat y.toNat
  omega
theorem or_and_add (wide : Bool) (a b : Int) : aluI 0 wide (aluI 4 wide a b) (aluI 5 wide a b) = aluI 0 wide a b := by
  have ha := fit_bd wide a
  have hb := fit_bd wide b
  have hm := MD_le wide
  have ho := or_lt wide _ _ ha.1 ha.2 hb.1 hb.2
  have hn := and_le_l _ _ ha.1 (by omega) hb.1 (by omega : b % MD wide < 18446744073709551616)
  have e4 : aluI 4 wide a b = (((a % MD wide).toNat ||| (b % MD wide).toNat : Nat) : Int) := by
    show bits .or .u64 (a % MD wide) (b % MD wide) % MD wide = _
    rw [Int.emod_eq_of_lt (by rw [ho.1]; omega) ho.2, ho.1]
  have e5 : aluI 5 wide a b = (((a % MD wide).toNat &&& (b % MD wide).toNat : Nat) : Int) := by
    show bits .and .u64 (a % MD wide) (b % MD wide) % MD wide = _
    rw [Int.emod_eq_of_lt (by rw [hn.1]; omega) (by omega), hn.1]
  rw [add_is, add_is, e4, e5, ← Int.natCast_add, nat_or_and, Int.natCast_add, Int.toNat_of_nonneg ha.1, Int.toNat_of_nonneg hb.1, Int.emod_add_emod, Int.add_emod_emod]
theorem xor_xor (wide : Bool) (a b : Int) : aluI 10 wide (aluI 10 wide a b) b = a % MD wide := by
  have ha := fit_bd wide a
  have hb := fit_bd wide b
  have ho := xor_lt wide _ _ ha.1 ha.2 hb.1 hb.2
  have h0 : 0 ≤ bits .xor .u64 (a % MD wide) (b % MD wide) := by rw [ho.1]; omega
  have e1 : aluI 10 wide a b = bits .xor .u64 (a % MD wide) (b % MD wide) := Int.emod_eq_of_lt (a := bits .xor .u64 (a % MD wide) (b % MD wide)) h0 ho.2
  rw [e1]
  show bits .xor .u64 (bits .xor .u64 (a % MD wide) (b % MD wide) % MD wide) (b % MD wide) % MD wide = _
  rw [Int.emod_eq_of_lt h0 ho.2]
  have h2 := xor_lt wide _ _ h0 ho.2 hb.1 hb.2
  rw [Int.emod_eq_of_lt (by rw [h2.1]; omega) h2.2, h2.1, ho.1, Int.toNat_natCast, Nat.xor_assoc, Nat.xor_self, Nat.xor_zero, Int.toNat_of_nonneg ha.1]
end Go.Proofs.Ytgemnkaiajdcfaa
