/-
  Plain numbers of 64 bits, and tnums over them: no program.
-/
import Derived.WalkKit
import Derived.KernelRfl
import Derived.Laws.BitsAllLaws
import Derived.Laws.Bits64
namespace Go.Proofs.Ytoanbjnhoggpjaa
set_option linter.unusedSimpArgs false
set_option linter.unusedVariables false
set_option maxRecDepth 100000
open Go.RowKit

theorem hid {p : Prop} (h : p) : Hid p := h

abbrev B64 := BitVec 64
/-- A number as the program has it. -/
def ub (x : B64) : Int := (x.toNat : Int)
theorem ub_ge (x : B64) : 0 ≤ ub x := by unfold ub; omega
theorem ub_lt (x : B64) : ub x < 18446744073709551616 := by unfold ub; have := x.isLt; omega
theorem ub_nat (x : B64) : (ub x).toNat = x.toNat := by unfold ub; omega
theorem ub_inj {x y : B64} : ub x = ub y ↔ x = y := by
  constructor
  · intro h; apply BitVec.eq_of_toNat_eq; unfold ub at h; omega
  · rintro rfl; rfl
theorem ub_of (n : Int) (h0 : 0 ≤ n) (h1 : n < 18446744073709551616) : ∃ x : B64, n = ub x :=
  ⟨BitVec.ofNat 64 n.toNat, by unfold ub; rw [BitVec.toNat_ofNat, Nat.mod_eq_of_lt (by omega)]; omega⟩
theorem ub_ofNat (n : Nat) (h : n < 18446744073709551616) : (n : Int) = ub (BitVec.ofNat 64 n) := by
  unfold ub; rw [BitVec.toNat_ofNat, Nat.mod_eq_of_lt (by omega)]
@[go_sem] theorem ub_and (x y : B64) : bits .and .u64 (ub x) (ub y) = ub (x &&& y) := by
  rw [u64_and _ _ (ub_ge x) (ub_lt x) (ub_ge y) (ub_lt y), ub_nat, ub_nat]; unfold ub; rw [BitVec.toNat_and]
@[go_sem] theorem ub_or (x y : B64) : bits .or .u64 (ub x) (ub y) = ub (x ||| y) := by
  rw [u64_or _ _ (ub_ge x) (ub_lt x) (ub_ge y) (ub_lt y), ub_nat, ub_nat]; unfold ub; rw [BitVec.toNat_or]
@[go_sem] theorem ub_xor (x y : B64) : bits .xor .u64 (ub x) (ub y) = ub (x ^^^ y) := by
  rw [u64_xor _ _ (ub_ge x) (ub_lt x) (ub_ge y) (ub_lt y), ub_nat, ub_nat]; unfold ub; rw [BitVec.toNat_xor]
@[go_sem] theorem ub_andNot (x y : B64) : bits .andNot .u64 (ub x) (ub y) = ub (x &&& ~~~y) := by
  rw [u64_andNot _ _ (ub_ge x) (ub_lt x) (ub_ge y) (ub_lt y), ub_nat, ub_nat]; unfold ub
  rw [BitVec.toNat_and, BitVec.toNat_not]
@[go_sem] theorem ub_add (x y : B64) : (ub x + ub y) % 18446744073709551616 = ub (x + y) := by
  unfold ub; rw [BitVec.toNat_add]; omega
@[go_sem] theorem ub_sub (x y : B64) : (ub x - ub y) % 18446744073709551616 = ub (x - y) := by
  unfold ub; rw [BitVec.toNat_sub]; have := x.isLt; have := y.isLt; omega
@[go_sem] theorem ub_mul (x y : B64) : (ub x * ub y) % 18446744073709551616 = ub (x * y) := by
  unfold ub; rw [BitVec.toNat_mul]; omega
@[go_sem] theorem ub_shl (x : B64) (n : Nat) : (ub x * 2 ^ n) % 18446744073709551616 = ub (x <<< n) := by
  unfold ub; rw [BitVec.toNat_shiftLeft, Nat.shiftLeft_eq]
  rw [show ((2 : Int) ^ n) = ((2 ^ n : Nat) : Int) by simp, ← Int.natCast_mul]; omega
@[go_sem] theorem ub_shr (x : B64) (n : Nat) : ub x / 2 ^ n = ub (x >>> n) := by
  unfold ub; rw [BitVec.toNat_ushiftRight, Nat.shiftRight_eq_div_pow]
  rw [show ((2 : Int) ^ n) = ((2 ^ n : Nat) : Int) by simp, ← Int.natCast_ediv]
@[go_sem] theorem ub_wadd (x y : B64) : IntKind.u64.wrap (ub x + ub y) = ub (x + y) := by rw [IntKind.wrap_u64, ub_add]
@[go_sem] theorem ub_wsub (x y : B64) : IntKind.u64.wrap (ub x - ub y) = ub (x - y) := by rw [IntKind.wrap_u64, ub_sub]
@[go_sem] theorem ub_wmul (x y : B64) : IntKind.u64.wrap (ub x * ub y) = ub (x * y) := by rw [IntKind.wrap_u64, ub_mul]
@[go_sem] theorem ub_wrap (x : B64) : IntKind.u64.wrap (ub x) = ub x := by
  rw [IntKind.wrap_u64]; have := ub_ge x; have := ub_lt x; omega
@[go_sem] theorem ub_wshl (x : B64) (n : Nat) : IntKind.u64.wrap (ub x * 2 ^ n) = ub (x <<< n) := by rw [IntKind.wrap_u64, ub_shl]
@[go_sem] theorem ub_pow (n : Nat) : IntKind.u64.wrap (2 ^ n) = ub (1#64 <<< n) := by
  have h := ub_wshl 1#64 n
  rw [show ub 1#64 * 2 ^ n = (2 : Int) ^ n by rw [show ub 1#64 = 1 from rfl, Int.one_mul]] at h
  exact h
@[go_sem] theorem ub_pred (x : B64) : IntKind.u64.wrap (ub x - 1) = ub (x - 1#64) := ub_wsub x 1#64
@[go_sem] theorem ub_half (x : B64) : ub x / (2 : Int) = ub (x >>> 1) := by rw [← ub_shr]; rfl
@[go_sem] theorem ub_half2 (x : B64) : ub x / (4 : Int) = ub (x >>> 2) := by rw [← ub_shr]; rfl
@[go_sem] theorem ub_half4 (x : B64) : ub x / (16 : Int) = ub (x >>> 4) := by rw [← ub_shr]; rfl
@[go_sem] theorem ub_half8 (x : B64) : ub x / (256 : Int) = ub (x >>> 8) := by rw [← ub_shr]; rfl
@[go_sem] theorem ub_half16 (x : B64) : ub x / (65536 : Int) = ub (x >>> 16) := by rw [← ub_shr]; rfl
@[go_sem] theorem ub_half32 (x : B64) : ub x / (4294967296 : Int) = ub (x >>> 32) := by rw [← ub_shr]; rfl
@[go_sem] theorem ub_m1 (x : B64) : bits .and .u64 (ub x) 6148914691236517205 = ub (x &&& 6148914691236517205#64) := by rw [← ub_and, show ub 6148914691236517205#64 = 6148914691236517205 by kernel_rfl]
@[go_sem] theorem ub_m2 (x : B64) : bits .and .u64 (ub x) 3689348814741910323 = ub (x &&& 3689348814741910323#64) := by rw [← ub_and, show ub 3689348814741910323#64 = 3689348814741910323 by kernel_rfl]
@[go_sem] theorem ub_m4 (x : B64) : bits .and .u64 (ub x) 1085102592571150095 = ub (x &&& 1085102592571150095#64) := by rw [← ub_and, show ub 1085102592571150095#64 = 1085102592571150095 by kernel_rfl]
/-- A number's bit. -/
def bt (x : B64) (i : Nat) : Bool := x.getLsbD i
@[go_sem] theorem ub_bit (x : B64) (i : Nat) : (ub (x >>> i) % 2 == 1) = bt x i := by
  unfold bt
  have e : (ub (x >>> i) % 2 == 1) = decide ((x >>> i).toNat % 2 = 1) := by
    unfold ub; rw [Bool.eq_iff_iff, beq_iff_eq, decide_eq_true_eq]; omega
  rw [e, BitVec.getLsbD, BitVec.toNat_ushiftRight, Nat.testBit_eq_decide_div_mod_eq, Nat.shiftRight_eq_div_pow]
@[go_sem] theorem ub_bit1 (x : B64) (i : Nat) : (bits .and .u64 (ub (x >>> i)) 1 == 1) = bt x i := by
  rw [← ub_bit, show bits .and .u64 (ub (x >>> i)) 1 = ub (x >>> i) % 2 by
    rw [show (1 : Int) = ub 1#64 from rfl, ub_and]; unfold ub; rw [BitVec.toNat_and, show (1#64 : B64).toNat = 1 from rfl, Nat.and_one_is_mod]; omega]
/-- A number's signed value. -/
def ib (x : B64) : Int := x.toInt
@[go_sem] theorem ib_of (x : B64) : wrap64 (ub x) = ib x := by
  have h := IntKind.wrap_i64 (ub x)
  have e : wrap64 (ub x) = IntKind.i64.wrap (ub x) := by first | rfl | (unfold wrap64; exact h.symm)
  rw [e, h]
  unfold ub ib
  rw [BitVec.toInt_eq_toNat_cond]
  have := x.isLt
  split <;> omega
@[go_sem] theorem ib_wrap (x : B64) : IntKind.u64.wrap (ib x) = ub x := by
  rw [IntKind.wrap_u64]
  unfold ub ib
  rw [BitVec.toInt_eq_toNat_cond]
  have := x.isLt
  split <;> omega
@[go_sem] theorem ib_shr (x : B64) (n : Nat) : ib x / 2 ^ n = ib (x.sshiftRight n) := by
  unfold ib
  rw [BitVec.toInt_sshiftRight, Int.shiftRight_eq_div_pow]
  simp
theorem ub_one : (1 : Int) = ub 1#64 := rfl
theorem ub_zero : (0 : Int) = ub 0#64 := rfl
@[go_sem] theorem ub_eqz (x : B64) : (ub x == 0) = (x == 0#64) := by
  rw [Bool.eq_iff_iff, beq_iff_eq, beq_iff_eq, ub_zero, ub_inj]
@[go_sem] theorem ub_eqi (x y : B64) : (ub x == ub y) = (x == y) := by
  rw [Bool.eq_iff_iff, beq_iff_eq, beq_iff_eq, ub_inj]

/-- A tnum: what is known, and which bits are any. -/
abbrev Tn := B64 × B64
def tv (t : Tn) : Value := .agg #[.int .u64 (ub t.1), .int .u64 (ub t.2)]
def tc (t : Tn) : List Value := [.int .u64 (ub t.1), .int .u64 (ub t.2)]
def tmay (t : Tn) : Bool := t.1 &&& t.2 == 0#64
def thas (t : Tn) (n : B64) : Bool := tmay t && (n &&& ~~~t.2 == t.1)
def tin (a b : Tn) : Bool := tmay a && tmay b && (a.2 &&& ~~~b.2 == 0#64) && (a.1 &&& ~~~b.2 == b.1)
def butT (n free : B64) : Tn := (n &&& ~~~free, free)
def t0 : Tn := (0#64, 0#64)
def joinT (a b : Tn) : Tn := butT a.1 (a.2 ||| b.2 ||| (a.1 ^^^ b.1))
def meetT (a b : Tn) : Tn := (a.1 ||| b.1, a.2 &&& b.2)
def sumT (a b : Tn) : Tn := butT (a.1 + b.1) (a.2 ||| b.2 ||| ((a.1 + b.1) ^^^ (a.1 + b.1 + a.2 + b.2)))
def subT (a b : Tn) : Tn := butT (a.1 - b.1) (a.2 ||| b.2 ||| ((a.1 - b.1 - b.2) ^^^ (a.1 + a.2 - b.1)))
def andT (a b : Tn) : Tn := butT (a.1 &&& b.1) ((a.1 ||| a.2) &&& (b.1 ||| b.2) &&& (a.2 ||| b.2))
def orT (a b : Tn) : Tn := butT (a.1 ||| b.1) ((a.2 ||| b.2) &&& ~~~(a.1 ||| b.1))
def xorT (a b : Tn) : Tn := butT (a.1 ^^^ b.1) (a.2 ||| b.2)
def upT (b : Tn) (i : Nat) : Tn := (b.1 <<< i, b.2 <<< i)
def mulStep (a b : Tn) (i : Nat) (t : Tn) : Tn :=
  let t1 := if bt a.1 i then sumT t (upT b i) else t
  if bt a.2 i then sumT t1 (butT 0#64 ((upT b i).1 ||| (upT b i).2)) else t1
def mulN (a b : Tn) : Nat → Tn
  | 0 => t0
  | k + 1 => mulStep a b k (mulN a b k)
def mulT (a b : Tn) : Tn := mulN a b 64
/-- An answer where both may be; else none, and the error. -/
def bothT (a b t : Tn) : Tn := if tmay a && tmay b then t else t0
def bothE (a b : Tn) : Int := if tmay a && tmay b then 0 else 1

end Go.Proofs.Ytoanbjnhoggpjaa
