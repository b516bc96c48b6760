/-
  Plain numbers: how many bits are 1, by halves, quarters and eighths of bytes.
-/
import Derived.Test.YtoanbjnhoggpjaaTnP
namespace Go.Proofs.Ytoanbjnhoggpjaa
set_option linter.unusedSimpArgs false
set_option linter.unusedVariables false
set_option maxRecDepth 100000
open Go.RowKit

def pop1 (x : B64) : B64 := ((x >>> 1) &&& 6148914691236517205#64) + (x &&& 6148914691236517205#64)
def pop2 (x : B64) : B64 := ((x >>> 2) &&& 3689348814741910323#64) + (x &&& 3689348814741910323#64)
def pop4 (x : B64) : B64 := ((x >>> 4) + x) &&& 1085102592571150095#64
def pop8 (x : B64) : B64 := x + (x >>> 8)
def pop16 (x : B64) : B64 := x + (x >>> 16)
def pop32 (x : B64) : B64 := x + (x >>> 32)
def pop (x : B64) : B64 := pop32 (pop16 (pop8 (pop4 (pop2 (pop1 x)))))
/-- How many of the lowest bits, so many, are 1. -/
def cntU (x : B64) : Nat → Nat
  | 0 => 0
  | k + 1 => cntU x k + (if x.getLsbD k then 1 else 0)

theorem and_split (p q r s : Nat) (hp : p < 256) (hr : r < 256) : (p + 256 * q) &&& (r + 256 * s) = (p &&& r) + 256 * (q &&& s) := by
  have h1 : ((p + 256 * q) &&& (r + 256 * s)) % 2 ^ 8 = ((p + 256 * q) % 2 ^ 8) &&& ((r + 256 * s) % 2 ^ 8) := Nat.and_mod_two_pow
  have h2 : ((p + 256 * q) &&& (r + 256 * s)) / 2 ^ 8 = ((p + 256 * q) / 2 ^ 8) &&& ((r + 256 * s) / 2 ^ 8) := Nat.and_div_two_pow
  have a1 : (p + 256 * q) % 2 ^ 8 = p := by omega
  have a2 : (r + 256 * s) % 2 ^ 8 = r := by omega
  have a3 : (p + 256 * q) / 2 ^ 8 = q := by omega
  have a4 : (r + 256 * s) / 2 ^ 8 = s := by omega
  rw [a1, a2] at h1
  rw [a3, a4] at h2
  omega
/-- A byte so many times. -/
def rep (m : Nat) : Nat → Nat
  | 0 => 0
  | n + 1 => m + 256 * rep m n
theorem rep_s (m n : Nat) : rep m (n + 1) = m + 256 * rep m n := rfl
def y1 (n x : Nat) : Nat := ((x / 2) &&& rep 85 n) + (x &&& rep 85 n)
def y2 (n x : Nat) : Nat := ((x / 4) &&& rep 51 n) + (x &&& rep 51 n)
def y4 (n x : Nat) : Nat := (x / 16 + x) &&& rep 15 n
def b1 (a : Nat) : Nat := ((a / 2) &&& 85) + (a &&& 85)
def b2 (a : Nat) : Nat := ((a / 4) &&& 51) + (a &&& 51)
def bitsOf : Nat → Nat → Nat
  | 0, _ => 0
  | n + 1, x => x % 2 + bitsOf n (x / 2)
theorem t1 : ∀ a : Fin 256, ∀ b : Fin 2, ((a.1 / 2 + 128 * b.1) &&& 85) = ((a.1 / 2) &&& 85) ∧ b1 a.1 < 256 := by decide +kernel
theorem t2 : ∀ a : Fin 256, ∀ b : Fin 4, ((a.1 / 4 + 64 * b.1) &&& 51) = ((a.1 / 4) &&& 51) := by decide +kernel
theorem t3 : ∀ a : Fin 256, b2 (b1 a.1) ≤ 68 ∧ b2 (b1 a.1) % 16 ≤ 4 ∧ ∀ b : Fin 5, ((b2 (b1 a.1) / 16 + 16 * b.1 + b2 (b1 a.1)) &&& 15) = bitsOf 8 a.1 := by decide +kernel
theorem t4 : ∀ a : Fin 256, bitsOf 8 a.1 ≤ 8 := by decide +kernel
theorem y1_cons (n a b : Nat) (ha : a < 256) : y1 (n + 1) (a + 256 * b) = b1 a + 256 * y1 n b := by
  have h := (t1 ⟨a, ha⟩ ⟨b % 2, by omega⟩).1
  simp only at h
  unfold y1 b1
  rw [rep_s, show (a + 256 * b) / 2 = (a / 2 + 128 * (b % 2)) + 256 * (b / 2) by omega, and_split _ _ _ _ (by omega) (by omega), and_split _ _ _ _ ha (by omega), h]
  omega
theorem y2_cons (n a b : Nat) (ha : a < 256) : y2 (n + 1) (a + 256 * b) = b2 a + 256 * y2 n b := by
  have h := (t2 ⟨a, ha⟩ ⟨b % 4, by omega⟩)
  simp only at h
  unfold y2 b2
  rw [rep_s, show (a + 256 * b) / 4 = (a / 4 + 64 * (b % 4)) + 256 * (b / 4) by omega, and_split _ _ _ _ (by omega) (by omega), and_split _ _ _ _ ha (by omega), h]
  omega
/-- The bytes of a number, each with how many of its bits are 1. -/
def cs : Nat → Nat → Nat
  | 0, _ => 0
  | n + 1, x => bitsOf 8 (x % 256) + 256 * cs n (x / 256)
theorem y_all : ∀ n x, y4 n (y2 n (y1 n x)) = cs n x ∧ y2 n (y1 n x) % 16 ≤ 4
  | 0, x => by simp [y4, y2, y1, rep, cs]
  | n + 1, x => by
    have ih := y_all n (x / 256)
    have hx : x = x % 256 + 256 * (x / 256) := by omega
    have ha : x % 256 < 256 := by omega
    have h3 := t3 ⟨x % 256, ha⟩
    have h4 := (t1 ⟨x % 256, ha⟩ ⟨0, by omega⟩).2
    simp only at h3 h4
    have e : y2 (n + 1) (y1 (n + 1) x) = b2 (b1 (x % 256)) + 256 * y2 n (y1 n (x / 256)) := by
      conv => lhs; rw [hx]
      rw [y1_cons _ _ _ ha, y2_cons _ _ _ h4]
    refine ⟨?_, by rw [e]; omega⟩
    rw [e]
    have h5 := h3.2.2 ⟨y2 n (y1 n (x / 256)) % 16, by omega⟩
    simp only at h5
    generalize b2 (b1 (x % 256)) = A at *
    unfold y4 cs
    rw [rep_s, show (A + 256 * y2 n (y1 n (x / 256))) / 16 + (A + 256 * y2 n (y1 n (x / 256))) = (A / 16 + 16 * (y2 n (y1 n (x / 256)) % 16) + A) + 256 * (y2 n (y1 n (x / 256)) / 16 + y2 n (y1 n (x / 256))) by omega,
      and_split _ _ _ _ (by omega) (by omega), h5]
    have h6 := ih.1
    unfold y4 at h6
    rw [h6]
theorem cntU_shift (x : B64) : ∀ k, cntU x (k + 1) = x.toNat % 2 + cntU (x >>> 1) k
  | 0 => by
    have h : x.getLsbD 0 = decide (x.toNat % 2 = 1) := by rw [BitVec.getLsbD, Nat.testBit_eq_decide_div_mod_eq]; simp
    unfold cntU cntU
    rw [h]
    by_cases hh : x.toNat % 2 = 1
    · simp [hh]
    · simp [hh]; omega
  | k + 1 => by
    have ih := cntU_shift x k
    rw [cntU, ih, cntU, BitVec.getLsbD_ushiftRight, Nat.add_comm 1 k, Nat.add_assoc]
theorem cntU_bits : ∀ n (x : B64), cntU x n = bitsOf n x.toNat
  | 0, x => rfl
  | n + 1, x => by
    rw [cntU_shift, cntU_bits n, bitsOf, BitVec.toNat_ushiftRight, Nat.shiftRight_eq_div_pow]
theorem bitsOf_le : ∀ n x, bitsOf n x ≤ n
  | 0, _ => Nat.le_refl _
  | n + 1, x => by unfold bitsOf; have := bitsOf_le n (x / 2); omega
theorem bitsOf_add : ∀ m n x, bitsOf (m + n) x = bitsOf m (x % 2 ^ m) + bitsOf n (x / 2 ^ m)
  | 0, n, x => by simp [bitsOf]
  | m + 1, n, x => by
    rw [show m + 1 + n = (m + n) + 1 by omega, bitsOf, bitsOf_add m n (x / 2), bitsOf]
    have e1 : x % 2 ^ (m + 1) % 2 = x % 2 := Nat.mod_mod_of_dvd x ⟨2 ^ m, by rw [Nat.pow_succ]; omega⟩
    have e2 : x % 2 ^ (m + 1) / 2 = x / 2 % 2 ^ m := by
      rw [Nat.pow_succ, Nat.mul_comm, Nat.mod_mul_right_div_self]
    have e3 : x / 2 / 2 ^ m = x / 2 ^ (m + 1) := by rw [Nat.div_div_eq_div_mul, Nat.pow_succ, Nat.mul_comm 2]
    rw [e1, e2, e3]
    omega
theorem toNat_and_le (x : B64) (m : B64) : (x &&& m).toNat ≤ m.toNat := by rw [BitVec.toNat_and]; exact Nat.and_le_right
theorem i64_and127 (n : Nat) (h : n < 9223372036854775808) : bits BinOp.and IntKind.i64 (n : Int) 127 = ((n % 128 : Nat) : Int) := by
  show IntKind.i64.wrap ((BitVec.ofInt 64 (n : Int) &&& BitVec.ofInt 64 (127 : Int)).toNat : Int) = _
  rw [BitVec.toNat_and, BitVec.ofInt_natCast, BitVec.toNat_ofNat, Nat.mod_eq_of_lt (by omega), show (BitVec.ofInt 64 (127 : Int)).toNat = 2 ^ 7 - 1 by decide, Nat.and_two_pow_sub_one_eq_mod, IntKind.wrap_i64]
  omega
theorem dv1 (a Q : Nat) (h : a < 256) : (a + 256 * Q) / 256 = Q := by omega
theorem dv2 (a b Q : Nat) (h : a < 256) (h1 : b < 256) : (a + 256 * (b + 256 * Q)) / 65536 = Q := by omega
theorem dv4 (a b c d Q : Nat) (h : a < 256) (h1 : b < 256) (h2 : c < 256) (h3 : d < 256) : (a + 256 * (b + 256 * (c + 256 * (d + 256 * Q)))) / 4294967296 = Q := by omega
theorem md (a Q : Nat) (h : a < 128) : (a + 256 * Q) % 128 = a := by omega
theorem sm (a b P Q : Nat) : (a + 256 * P) + (b + 256 * Q) = (a + b) + 256 * (P + Q) := by omega
theorem b8 (a0 a1 a2 a3 a4 a5 a6 a7 : Nat) (h0 : a0 < 100) (h1 : a1 < 100) (h2 : a2 < 100) (h3 : a3 < 100) (h4 : a4 < 100) (h5 : a5 < 100) (h6 : a6 < 100) (h7 : a7 < 100) :
    a0 + 256 * (a1 + 256 * (a2 + 256 * (a3 + 256 * (a4 + 256 * (a5 + 256 * (a6 + 256 * a7)))))) < 9223372036854775808 := by omega
set_option linter.unusedSectionVars false
section
variable (c0 c1 c2 c3 c4 c5 c6 c7 : Nat) (h0 : c0 ≤ 8) (h1 : c1 ≤ 8) (h2 : c2 ≤ 8) (h3 : c3 ≤ 8) (h4 : c4 ≤ 8) (h5 : c5 ≤ 8) (h6 : c6 ≤ 8) (h7 : c7 ≤ 8)
include h0 h1 h2 h3 h4 h5 h6 h7
theorem ps_a : (c0 + 256 * (c1 + 256 * (c2 + 256 * (c3 + 256 * (c4 + 256 * (c5 + 256 * (c6 + 256 * c7))))))) + (c0 + 256 * (c1 + 256 * (c2 + 256 * (c3 + 256 * (c4 + 256 * (c5 + 256 * (c6 + 256 * c7))))))) / 256 = ((c0 + c1) + 256 * ((c1 + c2) + 256 * ((c2 + c3) + 256 * ((c3 + c4) + 256 * ((c4 + c5) + 256 * ((c5 + c6) + 256 * ((c6 + c7) + 256 * c7))))))) := by
  rw [dv1 _ _ (by omega), sm, sm, sm, sm, sm, sm, show c6 + 256 * c7 + c7 = (c6 + c7) + 256 * c7 by omega]
theorem ps_b : ((c0 + c1) + 256 * ((c1 + c2) + 256 * ((c2 + c3) + 256 * ((c3 + c4) + 256 * ((c4 + c5) + 256 * ((c5 + c6) + 256 * ((c6 + c7) + 256 * c7))))))) + ((c0 + c1) + 256 * ((c1 + c2) + 256 * ((c2 + c3) + 256 * ((c3 + c4) + 256 * ((c4 + c5) + 256 * ((c5 + c6) + 256 * ((c6 + c7) + 256 * c7))))))) / 65536 = ((c0 + c1 + (c2 + c3)) + 256 * ((c1 + c2 + (c3 + c4)) + 256 * ((c2 + c3 + (c4 + c5)) + 256 * ((c3 + c4 + (c5 + c6)) + 256 * ((c4 + c5 + (c6 + c7)) + 256 * ((c5 + c6 + c7) + 256 * ((c6 + c7) + 256 * c7))))))) := by
  rw [dv2 _ _ _ (by omega) (by omega), sm, sm, sm, sm, sm, show (c5 + c6 + 256 * (c6 + c7 + 256 * c7)) + c7 = (c5 + c6 + c7) + 256 * (c6 + c7 + 256 * c7) by omega]
theorem ps_z : ((c0 + c1 + (c2 + c3)) + 256 * ((c1 + c2 + (c3 + c4)) + 256 * ((c2 + c3 + (c4 + c5)) + 256 * ((c3 + c4 + (c5 + c6)) + 256 * ((c4 + c5 + (c6 + c7)) + 256 * ((c5 + c6 + c7) + 256 * ((c6 + c7) + 256 * c7))))))) + ((c0 + c1 + (c2 + c3)) + 256 * ((c1 + c2 + (c3 + c4)) + 256 * ((c2 + c3 + (c4 + c5)) + 256 * ((c3 + c4 + (c5 + c6)) + 256 * ((c4 + c5 + (c6 + c7)) + 256 * ((c5 + c6 + c7) + 256 * ((c6 + c7) + 256 * c7))))))) / 4294967296 = ((c0 + c1 + (c2 + c3) + (c4 + c5 + (c6 + c7))) + 256 * ((c1 + c2 + (c3 + c4) + (c5 + c6 + c7)) + 256 * ((c2 + c3 + (c4 + c5) + (c6 + c7)) + 256 * ((c3 + c4 + (c5 + c6) + c7) + 256 * ((c4 + c5 + (c6 + c7)) + 256 * ((c5 + c6 + c7) + 256 * ((c6 + c7) + 256 * c7))))))) := by
  rw [dv4 _ _ _ _ _ (by omega) (by omega) (by omega) (by omega), sm, sm, sm, show c3 + c4 + (c5 + c6) + 256 * (c4 + c5 + (c6 + c7) + 256 * (c5 + c6 + c7 + 256 * (c6 + c7 + 256 * c7))) + c7 = c3 + c4 + (c5 + c6) + c7 + 256 * (c4 + c5 + (c6 + c7) + 256 * (c5 + c6 + c7 + 256 * (c6 + c7 + 256 * c7))) by rw [Nat.add_right_comm]]
theorem la : ((c0 + c1) + 256 * ((c1 + c2) + 256 * ((c2 + c3) + 256 * ((c3 + c4) + 256 * ((c4 + c5) + 256 * ((c5 + c6) + 256 * ((c6 + c7) + 256 * c7))))))) < 9223372036854775808 := b8 _ _ _ _ _ _ _ _ (by omega) (by omega) (by omega) (by omega) (by omega) (by omega) (by omega) (by omega)
theorem lb : ((c0 + c1 + (c2 + c3)) + 256 * ((c1 + c2 + (c3 + c4)) + 256 * ((c2 + c3 + (c4 + c5)) + 256 * ((c3 + c4 + (c5 + c6)) + 256 * ((c4 + c5 + (c6 + c7)) + 256 * ((c5 + c6 + c7) + 256 * ((c6 + c7) + 256 * c7))))))) < 9223372036854775808 := b8 _ _ _ _ _ _ _ _ (by omega) (by omega) (by omega) (by omega) (by omega) (by omega) (by omega) (by omega)
theorem lz : ((c0 + c1 + (c2 + c3) + (c4 + c5 + (c6 + c7))) + 256 * ((c1 + c2 + (c3 + c4) + (c5 + c6 + c7)) + 256 * ((c2 + c3 + (c4 + c5) + (c6 + c7)) + 256 * ((c3 + c4 + (c5 + c6) + c7) + 256 * ((c4 + c5 + (c6 + c7)) + 256 * ((c5 + c6 + c7) + 256 * ((c6 + c7) + 256 * c7))))))) < 9223372036854775808 := b8 _ _ _ _ _ _ _ _ (by omega) (by omega) (by omega) (by omega) (by omega) (by omega) (by omega) (by omega)
theorem mz : ((c0 + c1 + (c2 + c3) + (c4 + c5 + (c6 + c7))) + 256 * ((c1 + c2 + (c3 + c4) + (c5 + c6 + c7)) + 256 * ((c2 + c3 + (c4 + c5) + (c6 + c7)) + 256 * ((c3 + c4 + (c5 + c6) + c7) + 256 * ((c4 + c5 + (c6 + c7)) + 256 * ((c5 + c6 + c7) + 256 * ((c6 + c7) + 256 * c7))))))) % 128 = c0 + c1 + c2 + c3 + c4 + c5 + c6 + c7 := by
  rw [md _ _ (by omega)]; omega
theorem pop_sum (P A B Z : Nat) (hP : P = (c0 + 256 * (c1 + 256 * (c2 + 256 * (c3 + 256 * (c4 + 256 * (c5 + 256 * (c6 + 256 * c7)))))))) (hA : A = P + P / 256) (hB : B = A + A / 65536) (hZ : Z = B + B / 4294967296) :
    A < 9223372036854775808 ∧ B < 9223372036854775808 ∧ Z < 9223372036854775808 ∧ Z % 128 = c0 + c1 + c2 + c3 + c4 + c5 + c6 + c7 := by
  rw [hP, ps_a c0 c1 c2 c3 c4 c5 c6 c7 h0 h1 h2 h3 h4 h5 h6 h7] at hA
  rw [hA, ps_b c0 c1 c2 c3 c4 c5 c6 c7 h0 h1 h2 h3 h4 h5 h6 h7] at hB
  rw [hB, ps_z c0 c1 c2 c3 c4 c5 c6 c7 h0 h1 h2 h3 h4 h5 h6 h7] at hZ
  rw [hA, hB, hZ]
  exact ⟨la c0 c1 c2 c3 c4 c5 c6 c7 h0 h1 h2 h3 h4 h5 h6 h7, lb c0 c1 c2 c3 c4 c5 c6 c7 h0 h1 h2 h3 h4 h5 h6 h7, lz c0 c1 c2 c3 c4 c5 c6 c7 h0 h1 h2 h3 h4 h5 h6 h7, mz c0 c1 c2 c3 c4 c5 c6 c7 h0 h1 h2 h3 h4 h5 h6 h7⟩
end
theorem pop_is (x : B64) : bits BinOp.and IntKind.i64 (wrap64 (ub (pop x))) 127 = (cntU x 64 : Int) := by
  have r1 : rep 85 8 = 6148914691236517205 := by decide
  have r2 : rep 51 8 = 3689348814741910323 := by decide
  have r4 : rep 15 8 = 1085102592571150095 := by decide
  have e1 : (pop1 x).toNat = y1 8 x.toNat := by
    have h1 := toNat_and_le (x >>> 1) 6148914691236517205#64
    have h2 := toNat_and_le x 6148914691236517205#64
    have k : (6148914691236517205#64 : B64).toNat = 6148914691236517205 := by kernel_rfl
    rw [k] at h1 h2
    unfold pop1 y1
    rw [BitVec.toNat_add, Nat.mod_eq_of_lt (by omega), BitVec.toNat_and, BitVec.toNat_and, k, BitVec.toNat_ushiftRight, Nat.shiftRight_eq_div_pow, r1]
  have e2 : (pop2 (pop1 x)).toNat = y2 8 (y1 8 x.toNat) := by
    have h1 := toNat_and_le (pop1 x >>> 2) 3689348814741910323#64
    have h2 := toNat_and_le (pop1 x) 3689348814741910323#64
    have k : (3689348814741910323#64 : B64).toNat = 3689348814741910323 := by kernel_rfl
    rw [k] at h1 h2
    unfold pop2 y2
    rw [BitVec.toNat_add, Nat.mod_eq_of_lt (by omega), BitVec.toNat_and, BitVec.toNat_and, k, BitVec.toNat_ushiftRight, Nat.shiftRight_eq_div_pow, r2, e1]
  have hl : y2 8 (y1 8 x.toNat) ≤ 3689348814741910323 + 3689348814741910323 := by
    unfold y2
    rw [r2]
    have h1 : ((y1 8 x.toNat / 4) &&& 3689348814741910323) ≤ 3689348814741910323 := Nat.and_le_right
    have h2 : (y1 8 x.toNat &&& 3689348814741910323) ≤ 3689348814741910323 := Nat.and_le_right
    omega
  have e4 : (pop4 (pop2 (pop1 x))).toNat = cs 8 x.toNat := by
    have k : (1085102592571150095#64 : B64).toNat = 1085102592571150095 := by kernel_rfl
    rw [← (y_all 8 x.toNat).1]
    unfold pop4
    rw [BitVec.toNat_and, BitVec.toNat_add, BitVec.toNat_ushiftRight, Nat.shiftRight_eq_div_pow, e2, k, Nat.mod_eq_of_lt (by omega)]
    unfold y4
    rw [r4]
  have hc : cntU x 64 = bitsOf 64 x.toNat := cntU_bits 64 x
  have hx := x.isLt
  generalize x.toNat = X at *
  have hb : bitsOf 64 X = bitsOf 8 (X % 256) + (bitsOf 8 (X / 256 % 256) + (bitsOf 8 (X / 256 / 256 % 256) + (bitsOf 8 (X / 256 / 256 / 256 % 256) + (bitsOf 8 (X / 256 / 256 / 256 / 256 % 256) + (bitsOf 8 (X / 256 / 256 / 256 / 256 / 256 % 256) + (bitsOf 8 (X / 256 / 256 / 256 / 256 / 256 / 256 % 256) + bitsOf 8 (X / 256 / 256 / 256 / 256 / 256 / 256 / 256))))))) := by
    rw [show 64 = 8 + 56 from rfl, bitsOf_add 8 56, show 56 = 8 + 48 from rfl, bitsOf_add 8 48, show 48 = 8 + 40 from rfl, bitsOf_add 8 40, show 40 = 8 + 32 from rfl, bitsOf_add 8 32, show 32 = 8 + 24 from rfl, bitsOf_add 8 24, show 24 = 8 + 16 from rfl, bitsOf_add 8 16, show 16 = 8 + 8 from rfl, bitsOf_add 8 8]
  have h7 : X / 256 / 256 / 256 / 256 / 256 / 256 / 256 % 256 = X / 256 / 256 / 256 / 256 / 256 / 256 / 256 := by omega
  have ec : cs 8 X = bitsOf 8 (X % 256) + 256 * (bitsOf 8 (X / 256 % 256) + 256 * (bitsOf 8 (X / 256 / 256 % 256) + 256 * (bitsOf 8 (X / 256 / 256 / 256 % 256) + 256 * (bitsOf 8 (X / 256 / 256 / 256 / 256 % 256) + 256 * (bitsOf 8 (X / 256 / 256 / 256 / 256 / 256 % 256) + 256 * (bitsOf 8 (X / 256 / 256 / 256 / 256 / 256 / 256 % 256) + 256 * (bitsOf 8 (X / 256 / 256 / 256 / 256 / 256 / 256 / 256 % 256) + 256 * 0))))))) := rfl
  rw [h7] at ec
  have g0 := bitsOf_le 8 (X % 256)
  have g1 := bitsOf_le 8 (X / 256 % 256)
  have g2 := bitsOf_le 8 (X / 256 / 256 % 256)
  have g3 := bitsOf_le 8 (X / 256 / 256 / 256 % 256)
  have g4 := bitsOf_le 8 (X / 256 / 256 / 256 / 256 % 256)
  have g5 := bitsOf_le 8 (X / 256 / 256 / 256 / 256 / 256 % 256)
  have g6 := bitsOf_le 8 (X / 256 / 256 / 256 / 256 / 256 / 256 % 256)
  have g7 := bitsOf_le 8 (X / 256 / 256 / 256 / 256 / 256 / 256 / 256)
  generalize bitsOf 8 (X % 256) = c0 at *
  generalize bitsOf 8 (X / 256 % 256) = c1 at *
  generalize bitsOf 8 (X / 256 / 256 % 256) = c2 at *
  generalize bitsOf 8 (X / 256 / 256 / 256 % 256) = c3 at *
  generalize bitsOf 8 (X / 256 / 256 / 256 / 256 % 256) = c4 at *
  generalize bitsOf 8 (X / 256 / 256 / 256 / 256 / 256 % 256) = c5 at *
  generalize bitsOf 8 (X / 256 / 256 / 256 / 256 / 256 / 256 % 256) = c6 at *
  generalize bitsOf 8 (X / 256 / 256 / 256 / 256 / 256 / 256 / 256) = c7 at *
  obtain ⟨A, hA⟩ : ∃ A, A = cs 8 X + cs 8 X / 256 := ⟨_, rfl⟩
  obtain ⟨B, hB⟩ : ∃ B, B = A + A / 65536 := ⟨_, rfl⟩
  obtain ⟨Z, hZ⟩ : ∃ Z, Z = B + B / 4294967296 := ⟨_, rfl⟩
  obtain ⟨lA, lB, lZ, hm⟩ := pop_sum c0 c1 c2 c3 c4 c5 c6 c7 g0 g1 g2 g3 g4 g5 g6 g7 (cs 8 X) A B Z ec hA hB hZ
  have f8 : (pop8 (pop4 (pop2 (pop1 x)))).toNat = A := by
    unfold pop8
    rw [BitVec.toNat_add, BitVec.toNat_ushiftRight, Nat.shiftRight_eq_div_pow, e4, show (2 : Nat) ^ 8 = 256 from rfl, ← hA, Nat.mod_eq_of_lt (Nat.lt_of_lt_of_le lA (by decide))]
  have f16 : (pop16 (pop8 (pop4 (pop2 (pop1 x))))).toNat = B := by
    unfold pop16
    rw [BitVec.toNat_add, BitVec.toNat_ushiftRight, Nat.shiftRight_eq_div_pow, f8, show (2 : Nat) ^ 16 = 65536 from rfl, ← hB, Nat.mod_eq_of_lt (Nat.lt_of_lt_of_le lB (by decide))]
  have f32 : (pop x).toNat = Z := by
    unfold pop pop32
    rw [BitVec.toNat_add, BitVec.toNat_ushiftRight, Nat.shiftRight_eq_div_pow, f16, show (2 : Nat) ^ 32 = 4294967296 from rfl, ← hZ, Nat.mod_eq_of_lt (Nat.lt_of_lt_of_le lZ (by decide))]
  rw [← f32] at hm lZ
  have hl := lZ
  have hw : wrap64 (ub (pop x)) = (((pop x).toNat : Nat) : Int) := by
    have h := IntKind.wrap_i64 (ub (pop x))
    have e : wrap64 (ub (pop x)) = IntKind.i64.wrap (ub (pop x)) := by first | rfl | (unfold wrap64; exact h.symm)
    rw [e, h]
    unfold ub
    clear hm hb ec hc hA hB hZ f8 f16 f32 e1 e2 e4 g0 g1 g2 g3 g4 g5 g6 g7 hx h7
    omega
  rw [hw, i64_and127 _ hl, hm, hc, hb]
  clear hm hb ec hc hA hB hZ f8 f16 f32 e1 e2 e4 hl lZ hx h7
  omega
end Go.Proofs.Ytoanbjnhoggpjaa
