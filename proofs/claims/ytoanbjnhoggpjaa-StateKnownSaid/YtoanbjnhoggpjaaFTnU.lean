/-
  Plain numbers of 64 bits, and tnums over them: no program. Plain numbers: how many bits are 1, by halves, quarters and eighths of bytes. Plain numbers: the document's marks, bit by bit. Plain numbers: sums and differences of tnums hold the sums and differences. Plain numbers: products hold the products; what is added and taken away again.
-/
import Derived.WalkKit
import Derived.KernelRfl
import Derived.Laws.BitsAllLaws
import Derived.Laws.Bits64
namespace Go.Proofs.Ytoanbjnhoggpjaa
set_option linter.unusedSimpArgs false
set_option linter.unusedVariables false
set_option maxRecDepth 100000
open Go.RowKit

theorem hid {p : Prop} (h : p) : Hid p := h

abbrev B64 := BitVec 64
/-- A number as the program has it. -/
def ub (x : B64) : Int := (x.toNat : Int)
theorem ub_ge (x : B64) : 0 ≤ ub x := by unfold ub; omega
theorem ub_lt (x : B64) : ub x < 18446744073709551616 := by unfold ub; have := x.isLt; omega
theorem ub_nat (x : B64) : (ub x).toNat = x.toNat := by unfold ub; omega
theorem ub_inj {x y : B64} : ub x = ub y ↔ x = y := by
  constructor
  · intro h; apply BitVec.eq_of_toNat_eq; unfold ub at h; omega
  · rintro rfl; rfl
theorem ub_of (n : Int) (h0 : 0 ≤ n) (h1 : n < 18446744073709551616) : ∃ x : B64, n = ub x :=
  ⟨BitVec.ofNat 64 n.toNat, by unfold ub; rw [BitVec.toNat_ofNat, Nat.mod_eq_of_lt (by omega)]; omega⟩
theorem ub_ofNat (n : Nat) (h : n < 18446744073709551616) : (n : Int) = ub (BitVec.ofNat 64 n) := by
  unfold ub; rw [BitVec.toNat_ofNat, Nat.mod_eq_of_lt (by omega)]
@[go_sem] theorem ub_and (x y : B64) : bits .and .u64 (ub x) (ub y) = ub (x &&& y) := by
  rw [u64_and _ _ (ub_ge x) (ub_lt x) (ub_ge y) (ub_lt y), ub_nat, ub_nat]; unfold ub; rw [BitVec.toNat_and]
@[go_sem] theorem ub_or (x y : B64) : bits .or .u64 (ub x) (ub y) = ub (x ||| y) := by
  rw [u64_or _ _ (ub_ge x) (ub_lt x) (ub_ge y) (ub_lt y), ub_nat, ub_nat]; unfold ub; rw [BitVec.toNat_or]
@[go_sem] theorem ub_xor (x y : B64) : bits .xor .u64 (ub x) (ub y) = ub (x ^^^ y) := by
  rw [u64_xor _ _ (ub_ge x) (ub_lt x) (ub_ge y) (ub_lt y), ub_nat, ub_nat]; unfold ub; rw [BitVec.toNat_xor]
@[go_sem] theorem ub_andNot (x y : B64) : bits .andNot .u64 (ub x) (ub y) = ub (x &&& ~~~y) := by
  rw [u64_andNot _ _ (ub_ge x) (ub_lt x) (ub_ge y) (ub_lt y), ub_nat, ub_nat]; unfold ub
  rw [BitVec.toNat_and, BitVec.toNat_not]
@[go_sem] theorem ub_add (x y : B64) : (ub x + ub y) % 18446744073709551616 = ub (x + y) := by
  unfold ub; rw [BitVec.toNat_add]; omega
@[go_sem] theorem ub_sub (x y : B64) : (ub x - ub y) % 18446744073709551616 = ub (x - y) := by
  unfold ub; rw [BitVec.toNat_sub]; have := x.isLt; have := y.isLt; omega
@[go_sem] theorem ub_mul (x y : B64) : (ub x * ub y) % 18446744073709551616 = ub (x * y) := by
  unfold ub; rw [BitVec.toNat_mul]; omega
@[go_sem] theorem ub_shl (x : B64) (n : Nat) : (ub x * 2 ^ n) % 18446744073709551616 = ub (x <<< n) := by
  unfold ub; rw [BitVec.toNat_shiftLeft, Nat.shiftLeft_eq]
  rw [show ((2 : Int) ^ n) = ((2 ^ n : Nat) : Int) by simp, ← Int.natCast_mul]; omega
@[go_sem] theorem ub_shr (x : B64) (n : Nat) : ub x / 2 ^ n = ub (x >>> n) := by
  unfold ub; rw [BitVec.toNat_ushiftRight, Nat.shiftRight_eq_div_pow]
  rw [show ((2 : Int) ^ n) = ((2 ^ n : Nat) : Int) by simp, ← Int.natCast_ediv]
@[go_sem] theorem ub_wadd (x y : B64) : IntKind.u64.wrap (ub x + ub y) = ub (x + y) := by rw [IntKind.wrap_u64, ub_add]
@[go_sem] theorem ub_wsub (x y : B64) : IntKind.u64.wrap (ub x - ub y) = ub (x - y) := by rw [IntKind.wrap_u64, ub_sub]
@[go_sem] theorem ub_wmul (x y : B64) : IntKind.u64.wrap (ub x * ub y) = ub (x * y) := by rw [IntKind.wrap_u64, ub_mul]
@[go_sem] theorem ub_wrap (x : B64) : IntKind.u64.wrap (ub x) = ub x := by
  rw [IntKind.wrap_u64]; have := ub_ge x; have := ub_lt x; omega
@[go_sem] theorem ub_wshl (x : B64) (n : Nat) : IntKind.u64.wrap (ub x * 2 ^ n) = ub (x <<< n) := by rw [IntKind.wrap_u64, ub_shl]
@[go_sem] theorem ub_pow (n : Nat) : IntKind.u64.wrap (2 ^ n) = ub (1#64 <<< n) := by
  have h := ub_wshl 1#64 n
  rw [show ub 1#64 * 2 ^ n = (2 : Int) ^ n by rw [show ub 1#64 = 1 from rfl, Int.one_mul]] at h
  exact h
@[go_sem] theorem ub_pred (x : B64) : IntKind.u64.wrap (ub x - 1) = ub (x - 1#64) := ub_wsub x 1#64
@[go_sem] theorem ub_half (x : B64) : ub x / (2 : Int) = ub (x >>> 1) := by rw [← ub_shr]; rfl
@[go_sem] theorem ub_half2 (x : B64) : ub x / (4 : Int) = ub (x >>> 2) := by rw [← ub_shr]; rfl
@[go_sem] theorem ub_half4 (x : B64) : ub x / (16 : Int) = ub (x >>> 4) := by rw [← ub_shr]; rfl
@[go_sem] theorem ub_half8 (x : B64) : ub x / (256 : Int) = ub (x >>> 8) := by rw [← ub_shr]; rfl
@[go_sem] theorem ub_half16 (x : B64) : ub x / (65536 : Int) = ub (x >>> 16) := by rw [← ub_shr]; rfl
@[go_sem] theorem ub_half32 (x : B64) : ub x / (4294967296 : Int) = ub (x >>> 32) := by rw [← ub_shr]; rfl
@[go_sem] theorem ub_m1 (x : B64) : bits .and .u64 (ub x) 6148914691236517205 = ub (x &&& 6148914691236517205#64) := by rw [← ub_and, show ub 6148914691236517205#64 = 6148914691236517205 by kernel_rfl]
@[go_sem] theorem ub_m2 (x : B64) : bits .and .u64 (ub x) 3689348814741910323 = ub (x &&& 3689348814741910323#64) := by rw [← ub_and, show ub 3689348814741910323#64 = 3689348814741910323 by kernel_rfl]
@[go_sem] theorem ub_m4 (x : B64) : bits .and .u64 (ub x) 1085102592571150095 = ub (x &&& 1085102592571150095#64) := by rw [← ub_and, show ub 1085102592571150095#64 = 1085102592571150095 by kernel_rfl]
/-- A number's bit. -/
def bt (x : B64) (i : Nat) : Bool := x.getLsbD i
@[go_sem] theorem ub_bit (x : B64) (i : Nat) : (ub (x >>> i) % 2 == 1) = bt x i := by
  unfold bt
  have e : (ub (x >>> i) % 2 == 1) = decide ((x >>> i).toNat % 2 = 1) := by
    unfold ub; rw [Bool.eq_iff_iff, beq_iff_eq, decide_eq_true_eq]; omega
  rw [e, BitVec.getLsbD, BitVec.toNat_ushiftRight, Nat.testBit_eq_decide_div_mod_eq, Nat.shiftRight_eq_div_pow]
@[go_sem] theorem ub_bit1 (x : B64) (i : Nat) : (bits .and .u64 (ub (x >>> i)) 1 == 1) = bt x i := by
  rw [← ub_bit, show bits .and .u64 (ub (x >>> i)) 1 = ub (x >>> i) % 2 by
    rw [show (1 : Int) = ub 1#64 from rfl, ub_and]; unfold ub; rw [BitVec.toNat_and, show (1#64 : B64).toNat = 1 from rfl, Nat.and_one_is_mod]; omega]
/-- A number's signed value. -/
def ib (x : B64) : Int := x.toInt
@[go_sem] theorem ib_of (x : B64) : wrap64 (ub x) = ib x := by
  have h := IntKind.wrap_i64 (ub x)
  have e : wrap64 (ub x) = IntKind.i64.wrap (ub x) := by first | rfl | (unfold wrap64; exact h.symm)
  rw [e, h]
  unfold ub ib
  rw [BitVec.toInt_eq_toNat_cond]
  have := x.isLt
  split <;> omega
@[go_sem] theorem ib_wrap (x : B64) : IntKind.u64.wrap (ib x) = ub x := by
  rw [IntKind.wrap_u64]
  unfold ub ib
  rw [BitVec.toInt_eq_toNat_cond]
  have := x.isLt
  split <;> omega
@[go_sem] theorem ib_shr (x : B64) (n : Nat) : ib x / 2 ^ n = ib (x.sshiftRight n) := by
  unfold ib
  rw [BitVec.toInt_sshiftRight, Int.shiftRight_eq_div_pow]
  simp
theorem ub_one : (1 : Int) = ub 1#64 := rfl
theorem ub_zero : (0 : Int) = ub 0#64 := rfl
@[go_sem] theorem ub_eqz (x : B64) : (ub x == 0) = (x == 0#64) := by
  rw [Bool.eq_iff_iff, beq_iff_eq, beq_iff_eq, ub_zero, ub_inj]
@[go_sem] theorem ub_eqi (x y : B64) : (ub x == ub y) = (x == y) := by
  rw [Bool.eq_iff_iff, beq_iff_eq, beq_iff_eq, ub_inj]

/-- A tnum: what is known, and which bits are any. -/
abbrev Tn := B64 × B64
def tv (t : Tn) : Value := .agg #[.int .u64 (ub t.1), .int .u64 (ub t.2)]
def tc (t : Tn) : List Value := [.int .u64 (ub t.1), .int .u64 (ub t.2)]
def tmay (t : Tn) : Bool := t.1 &&& t.2 == 0#64
def thas (t : Tn) (n : B64) : Bool := tmay t && (n &&& ~~~t.2 == t.1)
def tin (a b : Tn) : Bool := tmay a && tmay b && (a.2 &&& ~~~b.2 == 0#64) && (a.1 &&& ~~~b.2 == b.1)
def butT (n free : B64) : Tn := (n &&& ~~~free, free)
def t0 : Tn := (0#64, 0#64)
def joinT (a b : Tn) : Tn := butT a.1 (a.2 ||| b.2 ||| (a.1 ^^^ b.1))
def meetT (a b : Tn) : Tn := (a.1 ||| b.1, a.2 &&& b.2)
def sumT (a b : Tn) : Tn := butT (a.1 + b.1) (a.2 ||| b.2 ||| ((a.1 + b.1) ^^^ (a.1 + b.1 + a.2 + b.2)))
def subT (a b : Tn) : Tn := butT (a.1 - b.1) (a.2 ||| b.2 ||| ((a.1 - b.1 - b.2) ^^^ (a.1 + a.2 - b.1)))
def andT (a b : Tn) : Tn := butT (a.1 &&& b.1) ((a.1 ||| a.2) &&& (b.1 ||| b.2) &&& (a.2 ||| b.2))
def orT (a b : Tn) : Tn := butT (a.1 ||| b.1) ((a.2 ||| b.2) &&& ~~~(a.1 ||| b.1))
def xorT (a b : Tn) : Tn := butT (a.1 ^^^ b.1) (a.2 ||| b.2)
def upT (b : Tn) (i : Nat) : Tn := (b.1 <<< i, b.2 <<< i)
def mulStep (a b : Tn) (i : Nat) (t : Tn) : Tn :=
  let t1 := if bt a.1 i then sumT t (upT b i) else t
  if bt a.2 i then sumT t1 (butT 0#64 ((upT b i).1 ||| (upT b i).2)) else t1
def mulN (a b : Tn) : Nat → Tn
  | 0 => t0
  | k + 1 => mulStep a b k (mulN a b k)
def mulT (a b : Tn) : Tn := mulN a b 64
/-- An answer where both may be; else none, and the error. -/
def bothT (a b t : Tn) : Tn := if tmay a && tmay b then t else t0
def bothE (a b : Tn) : Int := if tmay a && tmay b then 0 else 1

end Go.Proofs.Ytoanbjnhoggpjaa

namespace Go.Proofs.Ytoanbjnhoggpjaa
set_option linter.unusedSimpArgs false
set_option linter.unusedVariables false
set_option maxRecDepth 100000
open Go.RowKit

def pop1 (x : B64) : B64 := ((x >>> 1) &&& 6148914691236517205#64) + (x &&& 6148914691236517205#64)
def pop2 (x : B64) : B64 := ((x >>> 2) &&& 3689348814741910323#64) + (x &&& 3689348814741910323#64)
def pop4 (x : B64) : B64 := ((x >>> 4) + x) &&& 1085102592571150095#64
def pop8 (x : B64) : B64 := x + (x >>> 8)
def pop16 (x : B64) : B64 := x + (x >>> 16)
def pop32 (x : B64) : B64 := x + (x >>> 32)
def pop (x : B64) : B64 := pop32 (pop16 (pop8 (pop4 (pop2 (pop1 x)))))
/-- How many of the lowest bits, so many, are 1. -/
def cntU (x : B64) : Nat → Nat
  | 0 => 0
  | k + 1 => cntU x k + (if x.getLsbD k then 1 else 0)

theorem and_split (p q r s : Nat) (hp : p < 256) (hr : r < 256) : (p + 256 * q) &&& (r + 256 * s) = (p &&& r) + 256 * (q &&& s) := by
  have h1 : ((p + 256 * q) &&& (r + 256 * s)) % 2 ^ 8 = ((p + 256 * q) % 2 ^ 8) &&& ((r + 256 * s) % 2 ^ 8) := Nat.and_mod_two_pow
  have h2 : ((p + 256 * q) &&& (r + 256 * s)) / 2 ^ 8 = ((p + 256 * q) / 2 ^ 8) &&& ((r + 256 * s) / 2 ^ 8) := Nat.and_div_two_pow
  have a1 : (p + 256 * q) % 2 ^ 8 = p := by omega
  have a2 : (r + 256 * s) % 2 ^ 8 = r := by omega
  have a3 : (p + 256 * q) / 2 ^ 8 = q := by omega
  have a4 : (r + 256 * s) / 2 ^ 8 = s := by omega
  rw [a1, a2] at h1
  rw [a3, a4] at h2
  omega
/-- A byte so many times. -/
def rep (m : Nat) : Nat → Nat
  | 0 => 0
  | n + 1 => m + 256 * rep m n
theorem rep_s (m n : Nat) : rep m (n + 1) = m + 256 * rep m n := rfl
def y1 (n x : Nat) : Nat := ((x / 2) &&& rep 85 n) + (x &&& rep 85 n)
def y2 (n x : Nat) : Nat := ((x / 4) &&& rep 51 n) + (x &&& rep 51 n)
def y4 (n x : Nat) : Nat := (x / 16 + x) &&& rep 15 n
def b1 (a : Nat) : Nat := ((a / 2) &&& 85) + (a &&& 85)
def b2 (a : Nat) : Nat := ((a / 4) &&& 51) + (a &&& 51)
def bitsOf : Nat → Nat → Nat
  | 0, _ => 0
  | n + 1, x => x % 2 + bitsOf n (x / 2)
theorem t1 : ∀ a : Fin 256, ∀ b : Fin 2, ((a.1 / 2 + 128 * b.1) &&& 85) = ((a.1 / 2) &&& 85) ∧ b1 a.1 < 256 := by decide +kernel
theorem t2 : ∀ a : Fin 256, ∀ b : Fin 4, ((a.1 / 4 + 64 * b.1) &&& 51) = ((a.1 / 4) &&& 51) := by decide +kernel
theorem t3 : ∀ a : Fin 256, b2 (b1 a.1) ≤ 68 ∧ b2 (b1 a.1) % 16 ≤ 4 ∧ ∀ b : Fin 5, ((b2 (b1 a.1) / 16 + 16 * b.1 + b2 (b1 a.1)) &&& 15) = bitsOf 8 a.1 := by decide +kernel
theorem t4 : ∀ a : Fin 256, bitsOf 8 a.1 ≤ 8 := by decide +kernel
theorem y1_cons (n a b : Nat) (ha : a < 256) : y1 (n + 1) (a + 256 * b) = b1 a + 256 * y1 n b := by
  have h := (t1 ⟨a, ha⟩ ⟨b % 2, by omega⟩).1
  simp only at h
  unfold y1 b1
  rw [rep_s, show (a + 256 * b) / 2 = (a / 2 + 128 * (b % 2)) + 256 * (b / 2) by omega, and_split _ _ _ _ (by omega) (by omega), and_split _ _ _ _ ha (by omega), h]
  omega
theorem y2_cons (n a b : Nat) (ha : a < 256) : y2 (n + 1) (a + 256 * b) = b2 a + 256 * y2 n b := by
  have h := (t2 ⟨a, ha⟩ ⟨b % 4, by omega⟩)
  simp only at h
  unfold y2 b2
  rw [rep_s, show (a + 256 * b) / 4 = (a / 4 + 64 * (b % 4)) + 256 * (b / 4) by omega, and_split _ _ _ _ (by omega) (by omega), and_split _ _ _ _ ha (by omega), h]
  omega
/-- The bytes of a number, each with how many of its bits are 1. -/
def cs : Nat → Nat → Nat
  | 0, _ => 0
  | n + 1, x => bitsOf 8 (x % 256) + 256 * cs n (x / 256)
theorem y_all : ∀ n x, y4 n (y2 n (y1 n x)) = cs n x ∧ y2 n (y1 n x) % 16 ≤ 4
  | 0, x => by simp [y4, y2, y1, rep, cs]
  | n + 1, x => by
    have ih := y_all n (x / 256)
    have hx : x = x % 256 + 256 * (x / 256) := by omega
    have ha : x % 256 < 256 := by omega
    have h3 := t3 ⟨x % 256, ha⟩
    have h4 := (t1 ⟨x % 256, ha⟩ ⟨0, by omega⟩).2
    simp only at h3 h4
    have e : y2 (n + 1) (y1 (n + 1) x) = b2 (b1 (x % 256)) + 256 * y2 n (y1 n (x / 256)) := by
      conv => lhs; rw [hx]
      rw [y1_cons _ _ _ ha, y2_cons _ _ _ h4]
    refine ⟨?_, by rw [e]; omega⟩
    rw [e]
    have h5 := h3.2.2 ⟨y2 n (y1 n (x / 256)) % 16, by omega⟩
    simp only at h5
    generalize b2 (b1 (x % 256)) = A at *
    unfold y4 cs
    rw [rep_s, show (A + 256 * y2 n (y1 n (x / 256))) / 16 + (A + 256 * y2 n (y1 n (x / 256))) = (A / 16 + 16 * (y2 n (y1 n (x / 256)) % 16) + A) + 256 * (y2 n (y1 n (x / 256)) / 16 + y2 n (y1 n (x / 256))) by omega,
      and_split _ _ _ _ (by omega) (by omega), h5]
    have h6 := ih.1
    unfold y4 at h6
    rw [h6]
theorem cntU_shift (x : B64) : ∀ k, cntU x (k + 1) = x.toNat % 2 + cntU (x >>> 1) k
  | 0 => by
    have h : x.getLsbD 0 = decide (x.toNat % 2 = 1) := by rw [BitVec.getLsbD, Nat.testBit_eq_decide_div_mod_eq]; simp
    unfold cntU cntU
    rw [h]
    by_cases hh : x.toNat % 2 = 1
    · simp [hh]
    · simp [hh]; omega
  | k + 1 => by
    have ih := cntU_shift x k
    rw [cntU, ih, cntU, BitVec.getLsbD_ushiftRight, Nat.add_comm 1 k, Nat.add_assoc]
theorem cntU_bits : ∀ n (x : B64), cntU x n = bitsOf n x.toNat
  | 0, x => rfl
  | n + 1, x => by
    rw [cntU_shift, cntU_bits n, bitsOf, BitVec.toNat_ushiftRight, Nat.shiftRight_eq_div_pow]
theorem bitsOf_le : ∀ n x, bitsOf n x ≤ n
  | 0, _ => Nat.le_refl _
  | n + 1, x => by unfold bitsOf; have := bitsOf_le n (x / 2); omega
theorem bitsOf_add : ∀ m n x, bitsOf (m + n) x = bitsOf m (x % 2 ^ m) + bitsOf n (x / 2 ^ m)
  | 0, n, x => by simp [bitsOf]
  | m + 1, n, x => by
    rw [show m + 1 + n = (m + n) + 1 by omega, bitsOf, bitsOf_add m n (x / 2), bitsOf]
    have e1 : x % 2 ^ (m + 1) % 2 = x % 2 := Nat.mod_mod_of_dvd x ⟨2 ^ m, by rw [Nat.pow_succ]; omega⟩
    have e2 : x % 2 ^ (m + 1) / 2 = x / 2 % 2 ^ m := by
      rw [Nat.pow_succ, Nat.mul_comm, Nat.mod_mul_right_div_self]
    have e3 : x / 2 / 2 ^ m = x / 2 ^ (m + 1) := by rw [Nat.div_div_eq_div_mul, Nat.pow_succ, Nat.mul_comm 2]
    rw [e1, e2, e3]
    omega
theorem toNat_and_le (x : B64) (m : B64) : (x &&& m).toNat ≤ m.toNat := by rw [BitVec.toNat_and]; exact Nat.and_le_right
theorem i64_and127 (n : Nat) (h : n < 9223372036854775808) : bits BinOp.and IntKind.i64 (n : Int) 127 = ((n % 128 : Nat) : Int) := by
  show IntKind.i64.wrap ((BitVec.ofInt 64 (n : Int) &&& BitVec.ofInt 64 (127 : Int)).toNat : Int) = _
  rw [BitVec.toNat_and, BitVec.ofInt_natCast, BitVec.toNat_ofNat, Nat.mod_eq_of_lt (by omega), show (BitVec.ofInt 64 (127 : Int)).toNat = 2 ^ 7 - 1 by decide, Nat.and_two_pow_sub_one_eq_mod, IntKind.wrap_i64]
  omega
theorem dv1 (a Q : Nat) (h : a < 256) : (a + 256 * Q) / 256 = Q := by omega
theorem dv2 (a b Q : Nat) (h : a < 256) (h1 : b < 256) : (a + 256 * (b + 256 * Q)) / 65536 = Q := by omega
theorem dv4 (a b c d Q : Nat) (h : a < 256) (h1 : b < 256) (h2 : c < 256) (h3 : d < 256) : (a + 256 * (b + 256 * (c + 256 * (d + 256 * Q)))) / 4294967296 = Q := by omega
theorem md (a Q : Nat) (h : a < 128) : (a + 256 * Q) % 128 = a := by omega
theorem sm (a b P Q : Nat) : (a + 256 * P) + (b + 256 * Q) = (a + b) + 256 * (P + Q) := by omega
theorem b8 (a0 a1 a2 a3 a4 a5 a6 a7 : Nat) (h0 : a0 < 100) (h1 : a1 < 100) (h2 : a2 < 100) (h3 : a3 < 100) (h4 : a4 < 100) (h5 : a5 < 100) (h6 : a6 < 100) (h7 : a7 < 100) :
    a0 + 256 * (a1 + 256 * (a2 + 256 * (a3 + 256 * (a4 + 256 * (a5 + 256 * (a6 + 256 * a7)))))) < 9223372036854775808 := by omega
set_option linter.unusedSectionVars false
section
variable (c0 c1 c2 c3 c4 c5 c6 c7 : Nat) (h0 : c0 ≤ 8) (h1 : c1 ≤ 8) (h2 : c2 ≤ 8) (h3 : c3 ≤ 8) (h4 : c4 ≤ 8) (h5 : c5 ≤ 8) (h6 : c6 ≤ 8) (h7 : c7 ≤ 8)
include h0 h1 h2 h3 h4 h5 h6 h7
theorem ps_a : (c0 + 256 * (c1 + 256 * (c2 + 256 * (c3 + 256 * (c4 + 256 * (c5 + 256 * (c6 + 256 * c7))))))) + (c0 + 256 * (c1 + 256 * (c2 + 256 * (c3 + 256 * (c4 + 256 * (c5 + 256 * (c6 + 256 * c7))))))) / 256 = ((c0 + c1) + 256 * ((c1 + c2) + 256 * ((c2 + c3) + 256 * ((c3 + c4) + 256 * ((c4 + c5) + 256 * ((c5 + c6) + 256 * ((c6 + c7) + 256 * c7))))))) := by
  rw [dv1 _ _ (by omega), sm, sm, sm, sm, sm, sm, show c6 + 256 * c7 + c7 = (c6 + c7) + 256 * c7 by omega]
theorem ps_b : ((c0 + c1) + 256 * ((c1 + c2) + 256 * ((c2 + c3) + 256 * ((c3 + c4) + 256 * ((c4 + c5) + 256 * ((c5 + c6) + 256 * ((c6 + c7) + 256 * c7))))))) + ((c0 + c1) + 256 * ((c1 + c2) + 256 * ((c2 + c3) + 256 * ((c3 + c4) + 256 * ((c4 + c5) + 256 * ((c5 + c6) + 256 * ((c6 + c7) + 256 * c7))))))) / 65536 = ((c0 + c1 + (c2 + c3)) + 256 * ((c1 + c2 + (c3 + c4)) + 256 * ((c2 + c3 + (c4 + c5)) + 256 * ((c3 + c4 + (c5 + c6)) + 256 * ((c4 + c5 + (c6 + c7)) + 256 * ((c5 + c6 + c7) + 256 * ((c6 + c7) + 256 * c7))))))) := by
  rw [dv2 _ _ _ (by omega) (by omega), sm, sm, sm, sm, sm, show (c5 + c6 + 256 * (c6 + c7 + 256 * c7)) + c7 = (c5 + c6 + c7) + 256 * (c6 + c7 + 256 * c7) by omega]
theorem ps_z : ((c0 + c1 + (c2 + c3)) + 256 * ((c1 + c2 + (c3 + c4)) + 256 * ((c2 + c3 + (c4 + c5)) + 256 * ((c3 + c4 + (c5 + c6)) + 256 * ((c4 + c5 + (c6 + c7)) + 256 * ((c5 + c6 + c7) + 256 * ((c6 + c7) + 256 * c7))))))) + ((c0 + c1 + (c2 + c3)) + 256 * ((c1 + c2 + (c3 + c4)) + 256 * ((c2 + c3 + (c4 + c5)) + 256 * ((c3 + c4 + (c5 + c6)) + 256 * ((c4 + c5 + (c6 + c7)) + 256 * ((c5 + c6 + c7) + 256 * ((c6 + c7) + 256 * c7))))))) / 4294967296 = ((c0 + c1 + (c2 + c3) + (c4 + c5 + (c6 + c7))) + 256 * ((c1 + c2 + (c3 + c4) + (c5 + c6 + c7)) + 256 * ((c2 + c3 + (c4 + c5) + (c6 + c7)) + 256 * ((c3 + c4 + (c5 + c6) + c7) + 256 * ((c4 + c5 + (c6 + c7)) + 256 * ((c5 + c6 + c7) + 256 * ((c6 + c7) + 256 * c7))))))) := by
  rw [dv4 _ _ _ _ _ (by omega) (by omega) (by omega) (by omega), sm, sm, sm, show c3 + c4 + (c5 + c6) + 256 * (c4 + c5 + (c6 + c7) + 256 * (c5 + c6 + c7 + 256 * (c6 + c7 + 256 * c7))) + c7 = c3 + c4 + (c5 + c6) + c7 + 256 * (c4 + c5 + (c6 + c7) + 256 * (c5 + c6 + c7 + 256 * (c6 + c7 + 256 * c7))) by rw [Nat.add_right_comm]]
theorem la : ((c0 + c1) + 256 * ((c1 + c2) + 256 * ((c2 + c3) + 256 * ((c3 + c4) + 256 * ((c4 + c5) + 256 * ((c5 + c6) + 256 * ((c6 + c7) + 256 * c7))))))) < 9223372036854775808 := b8 _ _ _ _ _ _ _ _ (by omega) (by omega) (by omega) (by omega) (by omega) (by omega) (by omega) (by omega)
theorem lb : ((c0 + c1 + (c2 + c3)) + 256 * ((c1 + c2 + (c3 + c4)) + 256 * ((c2 + c3 + (c4 + c5)) + 256 * ((c3 + c4 + (c5 + c6)) + 256 * ((c4 + c5 + (c6 + c7)) + 256 * ((c5 + c6 + c7) + 256 * ((c6 + c7) + 256 * c7))))))) < 9223372036854775808 := b8 _ _ _ _ _ _ _ _ (by omega) (by omega) (by omega) (by omega) (by omega) (by omega) (by omega) (by omega)
theorem lz : ((c0 + c1 + (c2 + c3) + (c4 + c5 + (c6 + c7))) + 256 * ((c1 + c2 + (c3 + c4) + (c5 + c6 + c7)) + 256 * ((c2 + c3 + (c4 + c5) + (c6 + c7)) + 256 * ((c3 + c4 + (c5 + c6) + c7) + 256 * ((c4 + c5 + (c6 + c7)) + 256 * ((c5 + c6 + c7) + 256 * ((c6 + c7) + 256 * c7))))))) < 9223372036854775808 := b8 _ _ _ _ _ _ _ _ (by omega) (by omega) (by omega) (by omega) (by omega) (by omega) (by omega) (by omega)
theorem mz : ((c0 + c1 + (c2 + c3) + (c4 + c5 + (c6 + c7))) + 256 * ((c1 + c2 + (c3 + c4) + (c5 + c6 + c7)) + 256 * ((c2 + c3 + (c4 + c5) + (c6 + c7)) + 256 * ((c3 + c4 + (c5 + c6) + c7) + 256 * ((c4 + c5 + (c6 + c7)) + 256 * ((c5 + c6 + c7) + 256 * ((c6 + c7) + 256 * c7))))))) % 128 = c0 + c1 + c2 + c3 + c4 + c5 + c6 + c7 := by
  rw [md _ _ (by omega)]; omega
theorem pop_sum (P A B Z : Nat) (hP : P = (c0 + 256 * (c1 + 256 * (c2 + 256 * (c3 + 256 * (c4 + 256 * (c5 + 256 * (c6 + 256 * c7)))))))) (hA : A = P + P / 256) (hB : B = A + A / 65536) (hZ : Z = B + B / 4294967296) :
    A < 9223372036854775808 ∧ B < 9223372036854775808 ∧ Z < 9223372036854775808 ∧ Z % 128 = c0 + c1 + c2 + c3 + c4 + c5 + c6 + c7 := by
  rw [hP, ps_a c0 c1 c2 c3 c4 c5 c6 c7 h0 h1 h2 h3 h4 h5 h6 h7] at hA
  rw [hA, ps_b c0 c1 c2 c3 c4 c5 c6 c7 h0 h1 h2 h3 h4 h5 h6 h7] at hB
  rw [hB, ps_z c0 c1 c2 c3 c4 c5 c6 c7 h0 h1 h2 h3 h4 h5 h6 h7] at hZ
  rw [hA, hB, hZ]
  exact ⟨la c0 c1 c2 c3 c4 c5 c6 c7 h0 h1 h2 h3 h4 h5 h6 h7, lb c0 c1 c2 c3 c4 c5 c6 c7 h0 h1 h2 h3 h4 h5 h6 h7, lz c0 c1 c2 c3 c4 c5 c6 c7 h0 h1 h2 h3 h4 h5 h6 h7, mz c0 c1 c2 c3 c4 c5 c6 c7 h0 h1 h2 h3 h4 h5 h6 h7⟩
end
theorem pop_is (x : B64) : bits BinOp.and IntKind.i64 (wrap64 (ub (pop x))) 127 = (cntU x 64 : Int) := by
  have r1 : rep 85 8 = 6148914691236517205 := by decide
  have r2 : rep 51 8 = 3689348814741910323 := by decide
  have r4 : rep 15 8 = 1085102592571150095 := by decide
  have e1 : (pop1 x).toNat = y1 8 x.toNat := by
    have h1 := toNat_and_le (x >>> 1) 6148914691236517205#64
    have h2 := toNat_and_le x 6148914691236517205#64
    have k : (6148914691236517205#64 : B64).toNat = 6148914691236517205 := by kernel_rfl
    rw [k] at h1 h2
    unfold pop1 y1
    rw [BitVec.toNat_add, Nat.mod_eq_of_lt (by omega), BitVec.toNat_and, BitVec.toNat_and, k, BitVec.toNat_ushiftRight, Nat.shiftRight_eq_div_pow, r1]
  have e2 : (pop2 (pop1 x)).toNat = y2 8 (y1 8 x.toNat) := by
    have h1 := toNat_and_le (pop1 x >>> 2) 3689348814741910323#64
    have h2 := toNat_and_le (pop1 x) 3689348814741910323#64
    have k : (3689348814741910323#64 : B64).toNat = 3689348814741910323 := by kernel_rfl
    rw [k] at h1 h2
    unfold pop2 y2
    rw [BitVec.toNat_add, Nat.mod_eq_of_lt (by omega), BitVec.toNat_and, BitVec.toNat_and, k, BitVec.toNat_ushiftRight, Nat.shiftRight_eq_div_pow, r2, e1]
  have hl : y2 8 (y1 8 x.toNat) ≤ 3689348814741910323 + 3689348814741910323 := by
    unfold y2
    rw [r2]
    have h1 : ((y1 8 x.toNat / 4) &&& 3689348814741910323) ≤ 3689348814741910323 := Nat.and_le_right
    have h2 : (y1 8 x.toNat &&& 3689348814741910323) ≤ 3689348814741910323 := Nat.and_le_right
    omega
  have e4 : (pop4 (pop2 (pop1 x))).toNat = cs 8 x.toNat := by
    have k : (1085102592571150095#64 : B64).toNat = 1085102592571150095 := by kernel_rfl
    rw [← (y_all 8 x.toNat).1]
    unfold pop4
    rw [BitVec.toNat_and, BitVec.toNat_add, BitVec.toNat_ushiftRight, Nat.shiftRight_eq_div_pow, e2, k, Nat.mod_eq_of_lt (by omega)]
    unfold y4
    rw [r4]
  have hc : cntU x 64 = bitsOf 64 x.toNat := cntU_bits 64 x
  have hx := x.isLt
  generalize x.toNat = X at *
  have hb : bitsOf 64 X = bitsOf 8 (X % 256) + (bitsOf 8 (X / 256 % 256) + (bitsOf 8 (X / 256 / 256 % 256) + (bitsOf 8 (X / 256 / 256 / 256 % 256) + (bitsOf 8 (X / 256 / 256 / 256 / 256 % 256) + (bitsOf 8 (X / 256 / 256 / 256 / 256 / 256 % 256) + (bitsOf 8 (X / 256 / 256 / 256 / 256 / 256 / 256 % 256) + bitsOf 8 (X / 256 / 256 / 256 / 256 / 256 / 256 / 256))))))) := by
    rw [show 64 = 8 + 56 from rfl, bitsOf_add 8 56, show 56 = 8 + 48 from rfl, bitsOf_add 8 48, show 48 = 8 + 40 from rfl, bitsOf_add 8 40, show 40 = 8 + 32 from rfl, bitsOf_add 8 32, show 32 = 8 + 24 from rfl, bitsOf_add 8 24, show 24 = 8 + 16 from rfl, bitsOf_add 8 16, show 16 = 8 + 8 from rfl, bitsOf_add 8 8]
  have h7 : X / 256 / 256 / 256 / 256 / 256 / 256 / 256 % 256 = X / 256 / 256 / 256 / 256 / 256 / 256 / 256 := by omega
  have ec : cs 8 X = bitsOf 8 (X % 256) + 256 * (bitsOf 8 (X / 256 % 256) + 256 * (bitsOf 8 (X / 256 / 256 % 256) + 256 * (bitsOf 8 (X / 256 / 256 / 256 % 256) + 256 * (bitsOf 8 (X / 256 / 256 / 256 / 256 % 256) + 256 * (bitsOf 8 (X / 256 / 256 / 256 / 256 / 256 % 256) + 256 * (bitsOf 8 (X / 256 / 256 / 256 / 256 / 256 / 256 % 256) + 256 * (bitsOf 8 (X / 256 / 256 / 256 / 256 / 256 / 256 / 256 % 256) + 256 * 0))))))) := rfl
  rw [h7] at ec
  have g0 := bitsOf_le 8 (X % 256)
  have g1 := bitsOf_le 8 (X / 256 % 256)
  have g2 := bitsOf_le 8 (X / 256 / 256 % 256)
  have g3 := bitsOf_le 8 (X / 256 / 256 / 256 % 256)
  have g4 := bitsOf_le 8 (X / 256 / 256 / 256 / 256 % 256)
  have g5 := bitsOf_le 8 (X / 256 / 256 / 256 / 256 / 256 % 256)
  have g6 := bitsOf_le 8 (X / 256 / 256 / 256 / 256 / 256 / 256 % 256)
  have g7 := bitsOf_le 8 (X / 256 / 256 / 256 / 256 / 256 / 256 / 256)
  generalize bitsOf 8 (X % 256) = c0 at *
  generalize bitsOf 8 (X / 256 % 256) = c1 at *
  generalize bitsOf 8 (X / 256 / 256 % 256) = c2 at *
  generalize bitsOf 8 (X / 256 / 256 / 256 % 256) = c3 at *
  generalize bitsOf 8 (X / 256 / 256 / 256 / 256 % 256) = c4 at *
  generalize bitsOf 8 (X / 256 / 256 / 256 / 256 / 256 % 256) = c5 at *
  generalize bitsOf 8 (X / 256 / 256 / 256 / 256 / 256 / 256 % 256) = c6 at *
  generalize bitsOf 8 (X / 256 / 256 / 256 / 256 / 256 / 256 / 256) = c7 at *
  obtain ⟨A, hA⟩ : ∃ A, A = cs 8 X + cs 8 X / 256 := ⟨_, rfl⟩
  obtain ⟨B, hB⟩ : ∃ B, B = A + A / 65536 := ⟨_, rfl⟩
  obtain ⟨Z, hZ⟩ : ∃ Z, Z = B + B / 4294967296 := ⟨_, rfl⟩
  obtain ⟨lA, lB, lZ, hm⟩ := pop_sum c0 c1 c2 c3 c4 c5 c6 c7 g0 g1 g2 g3 g4 g5 g6 g7 (cs 8 X) A B Z ec hA hB hZ
  have f8 : (pop8 (pop4 (pop2 (pop1 x)))).toNat = A := by
    unfold pop8
    rw [BitVec.toNat_add, BitVec.toNat_ushiftRight, Nat.shiftRight_eq_div_pow, e4, show (2 : Nat) ^ 8 = 256 from rfl, ← hA, Nat.mod_eq_of_lt (Nat.lt_of_lt_of_le lA (by decide))]
  have f16 : (pop16 (pop8 (pop4 (pop2 (pop1 x))))).toNat = B := by
    unfold pop16
    rw [BitVec.toNat_add, BitVec.toNat_ushiftRight, Nat.shiftRight_eq_div_pow, f8, show (2 : Nat) ^ 16 = 65536 from rfl, ← hB, Nat.mod_eq_of_lt (Nat.lt_of_lt_of_le lB (by decide))]
  have f32 : (pop x).toNat = Z := by
    unfold pop pop32
    rw [BitVec.toNat_add, BitVec.toNat_ushiftRight, Nat.shiftRight_eq_div_pow, f16, show (2 : Nat) ^ 32 = 4294967296 from rfl, ← hZ, Nat.mod_eq_of_lt (Nat.lt_of_lt_of_le lZ (by decide))]
  rw [← f32] at hm lZ
  have hl := lZ
  have hw : wrap64 (ub (pop x)) = (((pop x).toNat : Nat) : Int) := by
    have h := IntKind.wrap_i64 (ub (pop x))
    have e : wrap64 (ub (pop x)) = IntKind.i64.wrap (ub (pop x)) := by first | rfl | (unfold wrap64; exact h.symm)
    rw [e, h]
    unfold ub
    clear hm hb ec hc hA hB hZ f8 f16 f32 e1 e2 e4 g0 g1 g2 g3 g4 g5 g6 g7 hx h7
    omega
  rw [hw, i64_and127 _ hl, hm, hc, hb]
  clear hm hb ec hc hA hB hZ f8 f16 f32 e1 e2 e4 hl lZ hx h7
  omega
end Go.Proofs.Ytoanbjnhoggpjaa

namespace Go.Proofs.Ytoanbjnhoggpjaa
set_option linter.unusedSimpArgs false
set_option linter.unusedVariables false
set_option maxRecDepth 100000
open Go.RowKit

@[go_sem] theorem ub_bitm (x : B64) (i : Nat) : ((ub (x >>> i)).tmod 2 == 1) = bt x i := by
  rw [Int.tmod_eq_emod_of_nonneg (ub_ge _)]
  exact ub_bit x i
/-- What a bit may be: 0, 1. -/
def mM (z o : Bool) : Int := (if z then 1 else 0) + (if o then 2 else 0)
def kz (t : Tn) (i : Nat) : Bool := bt t.2 i || !bt t.1 i
def ko (t : Tn) (i : Nat) : Bool := bt t.2 i || bt t.1 i
/-- The mark of a tnum's bit. -/
def mk (t : Tn) (i : Nat) : Int := mM (kz t i) (ko t i)
@[go_sem] theorem mM_or (z o z' o' : Bool) : bits .or .i64 (mM z o) (mM z' o') = mM (z || z') (o || o') := by
  cases z <;> cases o <;> cases z' <;> cases o' <;> kernel_rfl
@[go_sem] theorem mM_and (z o z' o' : Bool) : bits .and .i64 (mM z o) (mM z' o') = mM (z && z') (o && o') := by
  cases z <;> cases o <;> cases z' <;> cases o' <;> kernel_rfl
@[go_sem] theorem mM_eqz (z o : Bool) : (mM z o == 0) = (!z && !o) := by cases z <;> cases o <;> kernel_rfl
@[go_sem] theorem mM_eq2 (z o : Bool) : (mM z o == 2) = (!z && o) := by cases z <;> cases o <;> kernel_rfl
@[go_sem] theorem mM_eq3 (z o : Bool) : (mM z o == 3) = (z && o) := by cases z <;> cases o <;> kernel_rfl
@[go_sem] theorem mM_eq1 (z o : Bool) : (mM z o == 1) = (z && !o) := by cases z <;> cases o <;> kernel_rfl
theorem mM_eqM (z o z' o' : Bool) : (mM z o == mM z' o') = ((z == z') && (o == o')) := by cases z <;> cases o <;> cases z' <;> cases o' <;> kernel_rfl
/-- The numbers that the document's Made builds, of the first marks. -/
def madeV (z o : Nat → Bool) : Nat → B64
  | 0 => 0#64
  | k + 1 => if (!z k && o k) then madeV z o k + 1#64 <<< k else madeV z o k
def madeM (z o : Nat → Bool) : Nat → B64
  | 0 => 0#64
  | k + 1 => if (z k && o k) then madeM z o k + 1#64 <<< k else madeM z o k
def madeT (z o : Nat → Bool) : Tn := (madeV z o 64, madeM z o 64)

theorem add_bit (x : B64) (k : Nat) (hk : k < 64) (h : ∀ i, k ≤ i → x.getLsbD i = false) (i : Nat) : (x + 1#64 <<< k).getLsbD i = (x.getLsbD i || decide (i = k)) := by
  have e : x &&& 1#64 <<< k = 0#64 := by
    apply BitVec.eq_of_getLsbD_eq
    intro j hj
    simp only [BitVec.getLsbD_and, BitVec.getLsbD_shiftLeft, BitVec.getLsbD_one]
    by_cases hjk : k ≤ j
    · rw [h j hjk]; simp
    · simp; omega
  rw [BitVec.add_eq_or_of_and_eq_zero _ _ e, BitVec.getLsbD_or, BitVec.getLsbD_shiftLeft, BitVec.getLsbD_one]
  congr 1
  by_cases hik : i = k
  · subst hik; simp [hk]
  · by_cases h2 : i < k
    · simp [h2, hik]
    · have : ¬ (i - k = 0) := by omega
      simp [hik, this]
theorem made_bits (p : Nat → Bool) (g : Nat → B64) (h0 : g 0 = 0#64) (hs : ∀ k, g (k + 1) = if p k then g k + 1#64 <<< k else g k) : ∀ k, k ≤ 64 → ∀ i, (g k).getLsbD i = (decide (i < k) && p i)
  | 0, _, i => by rw [h0]; simp
  | k + 1, hk, i => by
    have ih := made_bits p g h0 hs k (by omega)
    have hh : ∀ j, k ≤ j → (g k).getLsbD j = false := fun j hj => by rw [ih j]; simp; omega
    rw [hs]
    cases hp : p k
    · simp only [Bool.false_eq_true, if_false]
      rw [ih i]
      by_cases hik : i = k
      · subst hik; simp [hp]
      · have : (i < k + 1) ↔ (i < k) := by omega
        simp [this]
    · simp only [if_true]
      rw [add_bit _ k (by omega) hh, ih i]
      by_cases hik : i = k
      · subst hik; simp [hp]
      · have : (i < k + 1) ↔ (i < k) := by omega
        simp [this, hik]
theorem madeV_bit (z o : Nat → Bool) (i : Nat) (hi : i < 64) : bt (madeT z o).1 i = (!z i && o i) := by
  have h := made_bits (fun k => !z k && o k) (madeV z o) rfl (fun k => rfl) 64 (Nat.le_refl _) i
  unfold bt madeT
  rw [h]; simp [hi]
theorem madeM_bit (z o : Nat → Bool) (i : Nat) (hi : i < 64) : bt (madeT z o).2 i = (z i && o i) := by
  have h := made_bits (fun k => z k && o k) (madeM z o) rfl (fun k => rfl) 64 (Nat.le_refl _) i
  unfold bt madeT
  rw [h]; simp [hi]
theorem b_ext {x y : B64} (h : ∀ i, i < 64 → bt x i = bt y i) : x = y := BitVec.eq_of_getLsbD_eq (fun i hi => h i hi)
theorem t_ext {a b : Tn} (h1 : ∀ i, i < 64 → bt a.1 i = bt b.1 i) (h2 : ∀ i, i < 64 → bt a.2 i = bt b.2 i) : a = b := Prod.ext (b_ext h1) (b_ext h2)
theorem bt_and (x y : B64) (i : Nat) : bt (x &&& y) i = (bt x i && bt y i) := by unfold bt; simp
theorem bt_or (x y : B64) (i : Nat) : bt (x ||| y) i = (bt x i || bt y i) := by unfold bt; simp
theorem bt_xor (x y : B64) (i : Nat) : bt (x ^^^ y) i = (bt x i ^^ bt y i) := by unfold bt; simp
theorem bt_not (x : B64) (i : Nat) (hi : i < 64) : bt (~~~x) i = !bt x i := by unfold bt; simp [hi]
theorem bt_zero (i : Nat) : bt 0#64 i = false := by unfold bt; simp
theorem bt_shl (x : B64) (n i : Nat) (hi : i < 64) : bt (x <<< n) i = (decide (n ≤ i) && bt x (i - n)) := by
  unfold bt; rw [BitVec.getLsbD_shiftLeft]
  by_cases h : i < n
  · have : ¬ n ≤ i := by omega
    simp [h, this]
  · have : n ≤ i := by omega
    simp [h, this, hi]
theorem bt_shr (x : B64) (n i : Nat) : bt (x >>> n) i = bt x (n + i) := by unfold bt; rw [BitVec.getLsbD_ushiftRight]
theorem bt_out (x : B64) (i : Nat) (h : 64 ≤ i) : bt x i = false := BitVec.getLsbD_of_ge x i h
theorem may_bit {t : Tn} (h : tmay t = true) (i : Nat) : (bt t.1 i && bt t.2 i) = false := by
  unfold tmay at h
  rw [beq_iff_eq] at h
  rw [← bt_and, h, bt_zero]
end Go.Proofs.Ytoanbjnhoggpjaa

namespace Go.Proofs.Ytoanbjnhoggpjaa
set_option linter.unusedSimpArgs false
set_option linter.unusedVariables false
set_option maxRecDepth 100000
open Go.RowKit

/-- The carry into a bit. -/
def cy (i : Nat) (x y : B64) (c : Bool) : Bool := BitVec.carry i x y c
theorem cy_zero (x y : B64) (c : Bool) : cy 0 x y c = c := BitVec.carry_zero
theorem cy_succ (i : Nat) (x y : B64) (c : Bool) : cy (i + 1) x y c = ((bt x i && bt y i) || (bt x i && cy i x y c) || (bt y i && cy i x y c)) := by
  unfold cy bt
  rw [BitVec.carry_succ, Bool.atLeastTwo]
theorem bt_add (x y : B64) (i : Nat) (hi : i < 64) : bt (x + y) i = (bt x i ^^ (bt y i ^^ cy i x y false)) := by
  unfold bt cy; exact BitVec.getLsbD_add hi x y
theorem bt_sub (x y : B64) (i : Nat) (hi : i < 64) : bt (x - y) i = (bt x i ^^ (!bt y i ^^ cy i x (~~~y) true)) := by
  have h := BitVec.getLsbD_add_add_bool hi x (~~~y) true
  have e : x + ~~~y + BitVec.setWidth 64 (BitVec.ofBool true) = x - y := by
    rw [show BitVec.setWidth 64 (BitVec.ofBool true) = 1#64 by decide, BitVec.sub_eq_add_neg, BitVec.neg_eq_not_add, BitVec.add_assoc]
  rw [e] at h
  unfold bt cy
  rw [h, BitVec.getLsbD_not]
  simp [hi]
theorem cy_mono (x y x' y' : B64) (c : Bool) (hx : ∀ i, bt x i = true → bt x' i = true) (hy : ∀ i, bt y i = true → bt y' i = true) : ∀ i, cy i x y c = true → cy i x' y' c = true
  | 0, h => by rwa [cy_zero] at h ⊢
  | i + 1, h => by
    rw [cy_succ] at h ⊢
    have ih := cy_mono x y x' y' c hx hy i
    have h1 := hx i
    have h2 := hy i
    revert h ih h1 h2
    cases bt x i <;> cases bt y i <;> cases cy i x y c <;> cases bt x' i <;> cases bt y' i <;> cases cy i x' y' c <;> simp
/-- What a tnum holds, bit by bit. -/
def Hs (t : Tn) (x : B64) : Prop := x &&& ~~~t.2 = t.1
theorem has_iff (t : Tn) (x : B64) : thas t x = true ↔ tmay t = true ∧ Hs t x := by
  unfold thas Hs
  rw [Bool.and_eq_true, beq_iff_eq]
theorem hs_bit {t : Tn} {x : B64} (h : Hs t x) (i : Nat) (hi : i < 64) : bt t.1 i = (bt x i && !bt t.2 i) := by
  rw [← h, bt_and, bt_not _ _ hi]
theorem hs_lo {t : Tn} {x : B64} (h : Hs t x) (i : Nat) (hv : bt t.1 i = true) : bt x i = true := by
  by_cases hi : i < 64
  · rw [hs_bit h i hi, Bool.and_eq_true] at hv; exact hv.1
  · rw [bt_out _ _ (by omega)] at hv; cases hv
theorem hs_hi {t : Tn} {x : B64} (h : Hs t x) (i : Nat) (hv : bt x i = true) : bt (t.1 ||| t.2) i = true := by
  by_cases hi : i < 64
  · rw [bt_or, hs_bit h i hi, hv]; cases bt t.2 i <;> rfl
  · rw [bt_out _ _ (by omega)] at hv; cases hv
theorem hs_own {t : Tn} (h : tmay t = true) : Hs t t.1 := by
  apply b_ext
  intro i hi
  rw [bt_and, bt_not _ _ hi]
  have := may_bit h i
  revert this
  cases bt t.1 i <;> cases bt t.2 i <;> simp
theorem hs_top {t : Tn} (h : tmay t = true) : Hs t (t.1 ||| t.2) := by
  apply b_ext
  intro i hi
  rw [bt_and, bt_not _ _ hi, bt_or]
  have := may_bit h i
  revert this
  cases bt t.1 i <;> cases bt t.2 i <;> simp
theorem or_add {t : Tn} (h : tmay t = true) : t.1 ||| t.2 = t.1 + t.2 := by
  unfold tmay at h
  rw [beq_iff_eq] at h
  exact (BitVec.add_eq_or_of_and_eq_zero _ _ h).symm
theorem but_may (n f : B64) : tmay (butT n f) = true := by
  unfold tmay butT
  rw [beq_iff_eq]
  apply b_ext
  intro i hi
  rw [bt_and, bt_and, bt_not _ _ hi, bt_zero]
  cases bt n i <;> cases bt f i <;> rfl
theorem hs_but {n f x : B64} (h : ∀ i, i < 64 → bt f i = false → bt x i = bt n i) : Hs (butT n f) x := by
  apply b_ext
  intro i hi
  unfold butT
  rw [bt_and, bt_and, bt_not _ _ hi]
  have := h i hi
  revert this
  cases bt f i <;> simp
theorem top_sum {a b : Tn} (ha : tmay a = true) (hb : tmay b = true) : a.1 + b.1 + a.2 + b.2 = (a.1 ||| a.2) + (b.1 ||| b.2) := by
  rw [or_add ha, or_add hb]
  rw [BitVec.add_assoc a.1, BitVec.add_comm b.1, ← BitVec.add_assoc, BitVec.add_assoc]
theorem sub_low {a b : Tn} (hb : tmay b = true) : a.1 - b.1 - b.2 = a.1 - (b.1 ||| b.2) := by
  rw [or_add hb, BitVec.sub_eq_add_neg, BitVec.sub_eq_add_neg, BitVec.sub_eq_add_neg, BitVec.neg_add, BitVec.sub_eq_add_neg, BitVec.add_assoc]
theorem sub_top {a b : Tn} (ha : tmay a = true) : a.1 + a.2 - b.1 = (a.1 ||| a.2) - b.1 := by rw [or_add ha]
theorem sum_free (a b : Tn) (ha : tmay a = true) (hb : tmay b = true) (i : Nat) (hi : i < 64) :
    bt (sumT a b).2 i = (bt a.2 i || bt b.2 i || (cy i a.1 b.1 false ^^ cy i (a.1 ||| a.2) (b.1 ||| b.2) false)) := by
  unfold sumT butT
  rw [top_sum ha hb, bt_or, bt_or, bt_xor, bt_add _ _ i hi, bt_add _ _ i hi, bt_or, bt_or]
  have h1 := may_bit ha i
  have h2 := may_bit hb i
  revert h1 h2
  cases bt a.1 i <;> cases bt a.2 i <;> cases bt b.1 i <;> cases bt b.2 i <;> simp
theorem sub_free (a b : Tn) (ha : tmay a = true) (hb : tmay b = true) (i : Nat) (hi : i < 64) :
    bt (subT a b).2 i = (bt a.2 i || bt b.2 i || (cy i a.1 (~~~(b.1 ||| b.2)) true ^^ cy i (a.1 ||| a.2) (~~~b.1) true)) := by
  unfold subT butT
  rw [sub_low hb, sub_top ha, bt_or, bt_or, bt_xor, bt_sub _ _ i hi, bt_sub _ _ i hi, bt_or, bt_or]
  have h1 := may_bit ha i
  have h2 := may_bit hb i
  revert h1 h2
  cases bt a.1 i <;> cases bt a.2 i <;> cases bt b.1 i <;> cases bt b.2 i <;> simp
theorem mid (p q r : Bool) (h1 : p = true → q = true) (h2 : q = true → r = true) (h3 : (p ^^ r) = false) : q = p ∧ q = r := by
  revert h1 h2 h3; cases p <;> cases q <;> cases r <;> simp
theorem sum_sound {a b : Tn} (ha : tmay a = true) (hb : tmay b = true) {x y : B64} (hx : Hs a x) (hy : Hs b y) : Hs (sumT a b) (x + y) := by
  apply hs_but
  intro i hi hf
  have hf' : bt (sumT a b).2 i = false := hf
  rw [sum_free a b ha hb i hi] at hf'
  simp only [Bool.or_eq_false_iff] at hf'
  obtain ⟨⟨f1, f2⟩, f3⟩ := hf'
  have m := mid _ (cy i x y false) _ (cy_mono _ _ _ _ false (hs_lo hx) (hs_lo hy) i) (cy_mono _ _ _ _ false (hs_hi hx) (hs_hi hy) i) f3
  rw [bt_add _ _ i hi, bt_add _ _ i hi, hs_bit hx i hi, hs_bit hy i hi, f1, f2, m.1]
  simp
theorem not_bit {x y : B64} (h : ∀ i, bt x i = true → bt y i = true) (i : Nat) (hi : bt (~~~y) i = true) : bt (~~~x) i = true := by
  by_cases h6 : i < 64
  · rw [bt_not _ _ h6] at hi ⊢
    have := h i
    revert hi this
    cases bt x i <;> cases bt y i <;> simp
  · rw [bt_out _ _ (by omega)] at hi; cases hi
theorem sub_sound {a b : Tn} (ha : tmay a = true) (hb : tmay b = true) {x y : B64} (hx : Hs a x) (hy : Hs b y) : Hs (subT a b) (x - y) := by
  apply hs_but
  intro i hi hf
  have hf' : bt (subT a b).2 i = false := hf
  rw [sub_free a b ha hb i hi] at hf'
  simp only [Bool.or_eq_false_iff] at hf'
  obtain ⟨⟨f1, f2⟩, f3⟩ := hf'
  have m := mid _ (cy i x (~~~y) true) _ (cy_mono _ _ _ _ true (hs_lo hx) (not_bit (hs_hi hy)) i) (cy_mono _ _ _ _ true (hs_hi hx) (not_bit (hs_lo hy)) i) f3
  have e1 : cy i a.1 (~~~b.1) true = cy i x (~~~y) true := by
    have p1 := cy_mono a.1 (~~~(b.1 ||| b.2)) a.1 (~~~b.1) true (fun _ h => h) (not_bit (fun j h => by rw [bt_or, h]; rfl)) i
    have p2 := cy_mono a.1 (~~~b.1) (a.1 ||| a.2) (~~~b.1) true (fun j h => by rw [bt_or, h]; rfl) (fun _ h => h) i
    exact ((mid _ (cy i a.1 (~~~b.1) true) _ p1 p2 f3).1).trans m.1.symm
  rw [bt_sub _ _ i hi, bt_sub _ _ i hi, hs_bit hx i hi, hs_bit hy i hi, f1, f2, e1]
  simp
theorem and_sound {a b : Tn} (ha : tmay a = true) (hb : tmay b = true) {x y : B64} (hx : Hs a x) (hy : Hs b y) : Hs (andT a b) (x &&& y) := by
  apply hs_but
  intro i hi hf
  simp only [bt_and, bt_or] at hf ⊢
  have h1 := hs_bit hx i hi
  have h2 := hs_bit hy i hi
  revert hf
  rw [h1, h2]
  cases bt x i <;> cases bt y i <;> cases bt a.2 i <;> cases bt b.2 i <;> simp
theorem or_sound {a b : Tn} (ha : tmay a = true) (hb : tmay b = true) {x y : B64} (hx : Hs a x) (hy : Hs b y) : Hs (orT a b) (x ||| y) := by
  apply hs_but
  intro i hi hf
  simp only [bt_and, bt_or, bt_not _ _ hi] at hf ⊢
  have h1 := hs_bit hx i hi
  have h2 := hs_bit hy i hi
  revert hf
  rw [h1, h2]
  cases bt x i <;> cases bt y i <;> cases bt a.2 i <;> cases bt b.2 i <;> simp
theorem xor_sound {a b : Tn} (ha : tmay a = true) (hb : tmay b = true) {x y : B64} (hx : Hs a x) (hy : Hs b y) : Hs (xorT a b) (x ^^^ y) := by
  apply hs_but
  intro i hi hf
  simp only [bt_and, bt_or, bt_xor] at hf ⊢
  have h1 := hs_bit hx i hi
  have h2 := hs_bit hy i hi
  revert hf
  rw [h1, h2]
  cases bt x i <;> cases bt y i <;> cases bt a.2 i <;> cases bt b.2 i <;> simp
end Go.Proofs.Ytoanbjnhoggpjaa

namespace Go.Proofs.Ytoanbjnhoggpjaa
set_option linter.unusedSimpArgs false
set_option linter.unusedVariables false
set_option maxRecDepth 100000
open Go.RowKit

theorem sum_may (a b : Tn) : tmay (sumT a b) = true := but_may _ _
theorem sub_may (a b : Tn) : tmay (subT a b) = true := but_may _ _
theorem t0_may : tmay t0 = true := by decide
theorem of_may (n : B64) : tmay (n, 0#64) = true := by unfold tmay; simp
theorem and_ones (n : B64) : n &&& ~~~0#64 = n := by
  apply b_ext
  intro i hi
  rw [bt_and, bt_not _ _ hi, bt_zero]
  simp
theorem hs_of (n : B64) : Hs (n, 0#64) n := and_ones n
theorem mulStep_may {a b t : Tn} {i : Nat} (h : tmay t = true) : tmay (mulStep a b i t) = true := by
  unfold mulStep
  dsimp only
  split <;> split <;> first | exact sum_may _ _ | exact h
theorem mulN_may (a b : Tn) : ∀ k, tmay (mulN a b k) = true
  | 0 => t0_may
  | k + 1 => mulStep_may (mulN_may a b k)
theorem mul_may (a b : Tn) : tmay (mulT a b) = true := mulN_may a b 64
theorem up_may {b : Tn} (h : tmay b = true) (k : Nat) : tmay (upT b k) = true := by
  unfold tmay upT
  rw [beq_iff_eq]
  apply b_ext
  intro i hi
  dsimp only
  rw [bt_and, bt_shl _ _ _ hi, bt_shl _ _ _ hi, bt_zero]
  have := may_bit h (i - k)
  revert this
  cases decide (k ≤ i) <;> cases bt b.1 (i - k) <;> cases bt b.2 (i - k) <;> simp
theorem up_hs {b : Tn} {y : B64} (h : Hs b y) (k : Nat) : Hs (upT b k) (y <<< k) := by
  apply b_ext
  intro i hi
  unfold upT
  dsimp only
  rw [bt_and, bt_not _ _ hi, bt_shl _ _ _ hi, bt_shl _ _ _ hi, bt_shl _ _ _ hi]
  by_cases hk : k ≤ i
  · have := hs_bit h (i - k) (by omega)
    rw [this]
    simp [hk]
  · simp [hk]
theorem may_hs {b : Tn} {y : B64} (h : Hs b y) (hb : tmay b = true) (i : Nat) (hi : i < 64) (hv : bt y i = true) : (bt b.1 i || bt b.2 i) = true := by
  rw [hs_bit h i hi, hv]; cases bt b.2 i <;> rfl
/-- A product as a sum. -/
def pm (x y : B64) : Nat → B64
  | 0 => 0#64
  | k + 1 => pm x y k + (if bt x k then y <<< k else 0#64)
theorem pm_is (x y : B64) : ∀ k, pm x y k = BitVec.ofNat 64 (x.toNat % 2 ^ k) * y
  | 0 => by simp [pm, Nat.mod_one]
  | k + 1 => by
    rw [pm, pm_is x y k]
    have hb : bt x k = decide (x.toNat / 2 ^ k % 2 = 1) := by unfold bt; rw [BitVec.getLsbD, Nat.testBit_eq_decide_div_mod_eq]
    have hm : x.toNat % 2 ^ (k + 1) = x.toNat % 2 ^ k + 2 ^ k * (x.toNat / 2 ^ k % 2) := by
      rw [Nat.pow_succ, Nat.mod_mul]
    by_cases h : x.toNat / 2 ^ k % 2 = 1
    · rw [hb, hm, h]
      simp only [decide_true, if_true, Nat.mul_one]
      rw [BitVec.ofNat_add, BitVec.add_mul, BitVec.shiftLeft_eq_mul_twoPow, BitVec.mul_comm y, show BitVec.twoPow 64 k = BitVec.ofNat 64 (2 ^ k) by apply BitVec.eq_of_toNat_eq; rw [BitVec.toNat_twoPow, BitVec.toNat_ofNat]]
    · have h0 : x.toNat / 2 ^ k % 2 = 0 := by omega
      rw [hb, hm, h0]
      simp
theorem pm_mul (x y : B64) : pm x y 64 = x * y := by
  rw [pm_is, Nat.mod_eq_of_lt x.isLt]
  simp
theorem mulN_sound {a b : Tn} (ha : tmay a = true) (hb : tmay b = true) {x y : B64} (hx : Hs a x) (hy : Hs b y) : ∀ k, k ≤ 64 → Hs (mulN a b k) (pm x y k)
  | 0, _ => hs_of 0#64
  | k + 1, hk => by
    have ih := mulN_sound ha hb hx hy k (by omega)
    have im := mulN_may a b k
    show Hs (mulStep a b k (mulN a b k)) (pm x y k + (if bt x k then y <<< k else 0#64))
    have h1 := hs_bit hx k (by omega)
    have h2 := may_bit ha k
    unfold mulStep
    dsimp only
    cases e2 : bt a.2 k
    · rw [e2] at h1 h2
      cases e1 : bt a.1 k
      · rw [e1] at h1
        have : bt x k = false := by revert h1; cases bt x k <;> simp
        rw [this]
        simpa using ih
      · rw [e1] at h1
        have : bt x k = true := by revert h1; cases bt x k <;> simp
        rw [this]
        simp only [if_true, Bool.false_eq_true, if_false]
        exact sum_sound im (up_may hb k) ih (up_hs hy k)
    · rw [e2] at h1 h2
      have e1 : bt a.1 k = false := by revert h2; cases bt a.1 k <;> simp
      rw [e1]
      simp only [if_true, Bool.false_eq_true, if_false]
      refine sum_sound im (but_may _ _) ih (hs_but ?_)
      intro i hi hf
      rw [bt_zero]
      cases bt x k
      · simp [bt_zero]
      · simp only [if_true]
        cases hv : bt (y <<< k) i
        · rfl
        · have := may_hs (up_hs hy k) (up_may hb k) i hi hv
          rw [bt_or] at hf
          rw [hf] at this
          cases this
theorem mul_sound {a b : Tn} (ha : tmay a = true) (hb : tmay b = true) {x y : B64} (hx : Hs a x) (hy : Hs b y) : Hs (mulT a b) (x * y) := by
  rw [← pm_mul]; exact mulN_sound ha hb hx hy 64 (Nat.le_refl _)

theorem but_zero (n : B64) : butT n 0#64 = (n, 0#64) := by unfold butT; rw [and_ones]
theorem sum_of (n v : B64) : sumT (n, 0#64) (v, 0#64) = (n + v, 0#64) := by unfold sumT; simp [but_zero]
theorem sum_zero {a : Tn} (h : tmay a = true) : sumT a t0 = a := by
  have e : a.1 ^^^ (a.1 + a.2) = a.2 := by
    rw [← or_add h]
    apply b_ext
    intro i hi
    rw [bt_xor, bt_or]
    have := may_bit h i
    revert this
    cases bt a.1 i <;> cases bt a.2 i <;> simp
  unfold sumT t0
  simp only [BitVec.add_zero, BitVec.or_zero, e, BitVec.or_self]
  exact Prod.ext (hs_own h) rfl
theorem sum_comm (a b : Tn) : sumT a b = sumT b a := by
  unfold sumT
  have e : a.1 + b.1 + a.2 + b.2 = b.1 + a.1 + b.2 + a.2 := by
    rw [BitVec.add_comm b.1 a.1, BitVec.add_assoc (a.1 + b.1), BitVec.add_comm a.2 b.2, ← BitVec.add_assoc]
  rw [e, BitVec.add_comm a.1 b.1, BitVec.or_comm a.2 b.2]
theorem mulN_zero (a : Tn) : ∀ k, mulN a t0 k = t0
  | 0 => rfl
  | k + 1 => by
    show mulStep a t0 k (mulN a t0 k) = t0
    rw [mulN_zero a k]
    have u : upT t0 k = t0 := by unfold upT t0; simp
    have s : sumT t0 t0 = t0 := by decide
    have b : butT 0#64 (t0.1 ||| t0.2) = t0 := by decide
    unfold mulStep
    rw [u, b]
    simp only [s]
    split <;> split <;> first | rfl | exact s
theorem mul_zero (a : Tn) : mulT a (0#64, 0#64) = t0 := mulN_zero a 64
theorem one_bit (k : Nat) : bt 1#64 k = decide (k = 0) := by unfold bt; simp
theorem mulN_one {a : Tn} (h : tmay a = true) : ∀ k, mulN (1#64, 0#64) a (k + 1) = a
  | 0 => by
    show mulStep (1#64, 0#64) a 0 t0 = a
    unfold mulStep
    simp only [one_bit, bt_zero, decide_true, if_true, Bool.false_eq_true, if_false]
    rw [sum_comm]
    have u : upT a 0 = a := by unfold upT; simp
    rw [u]
    exact sum_zero h
  | k + 1 => by
    show mulStep (1#64, 0#64) a (k + 1) (mulN (1#64, 0#64) a (k + 1)) = a
    rw [mulN_one h k]
    unfold mulStep
    simp [one_bit, bt_zero]
theorem mul_one {a : Tn} (h : tmay a = true) : mulT (1#64, 0#64) a = a := mulN_one h 63
theorem tin_iff (a b : Tn) : tin a b = true ↔ tmay a = true ∧ tmay b = true ∧ (∀ i, i < 64 → bt a.2 i = true → bt b.2 i = true) ∧ Hs b a.1 := by
  unfold tin Hs
  rw [Bool.and_eq_true, Bool.and_eq_true, Bool.and_eq_true, beq_iff_eq, beq_iff_eq]
  constructor
  · rintro ⟨⟨⟨h1, h2⟩, h3⟩, h4⟩
    refine ⟨h1, h2, fun i hi h => ?_, h4⟩
    have e : bt (a.2 &&& ~~~b.2) i = false := by rw [h3, bt_zero]
    rw [bt_and, bt_not _ _ hi, h] at e
    revert e; cases bt b.2 i <;> simp
  · rintro ⟨h1, h2, h3, h4⟩
    refine ⟨⟨⟨h1, h2⟩, b_ext fun i hi => ?_⟩, h4⟩
    rw [bt_and, bt_not _ _ hi, bt_zero]
    have := h3 i hi
    revert this
    cases bt a.2 i <;> cases bt b.2 i <;> simp
theorem undo {a b : Tn} (ha : tmay a = true) (hb : tmay b = true) : tin a (subT (sumT a b) b) = true := by
  rw [tin_iff]
  refine ⟨ha, sub_may _ _, fun i hi h => ?_, ?_⟩
  · rw [sub_free _ _ (sum_may a b) hb i hi, sum_free a b ha hb i hi, h]
    rfl
  · have h := sub_sound (sum_may a b) hb (sum_sound ha hb (hs_own ha) (hs_own hb)) (hs_own hb)
    rwa [show a.1 + b.1 - b.1 = a.1 by rw [BitVec.add_sub_cancel]] at h
end Go.Proofs.Ytoanbjnhoggpjaa
