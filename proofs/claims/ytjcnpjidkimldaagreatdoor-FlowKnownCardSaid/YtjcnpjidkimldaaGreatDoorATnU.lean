/-
  Plain numbers of 64 bits, and tnums over them: no program. Plain numbers: how many bits are 1, by halves, quarters and eighths of bytes. Plain numbers: the document's marks, bit by bit. Plain numbers: sums and differences of tnums hold the sums and differences. Plain numbers: products hold the products; what is added and taken away again.
-/
import Derived.WalkKit
import Derived.KernelRfl
import Derived.Laws.BitsAllLaws
import Derived.Laws.Bits64
namespace Go.Proofs.YtjcnpjidkimldaaGreatDoor
set_option linter.unusedSimpArgs false
set_option linter.unusedVariables false
set_option maxRecDepth 100000
open Go.RowKit

theorem hid {p : Prop} (h : p) : Hid p := h

abbrev B64 := BitVec 64
/-- A number as the program has it. -/
def ub (x : B64) : Int := (x.toNat : Int)
theorem ub_ge (x : B64) : 0 ≤ ub x := by unfold ub; omega
theorem ub_lt (x : B64) : ub x < 18446744073709551616 := by unfold ub; have := x.isLt; omega
theorem ub_nat (x : B64) : (ub x).toNat = x.toNat := by unfold ub; omega
theorem ub_inj {x y : B64} : ub x = ub y ↔ x = y := by
  constructor
  · intro h; apply BitVec.eq_of_toNat_eq; unfold ub at h; omega
  · rintro rfl; rfl
@[go_sem] theorem ub_and (x y : B64) : bits .and .u64 (ub x) (ub y) = ub (x &&& y) := by
  rw [u64_and _ _ (ub_ge x) (ub_lt x) (ub_ge y) (ub_lt y), ub_nat, ub_nat]; unfold ub; rw [BitVec.toNat_and]
@[go_sem] theorem ub_or (x y : B64) : bits .or .u64 (ub x) (ub y) = ub (x ||| y) := by
  rw [u64_or _ _ (ub_ge x) (ub_lt x) (ub_ge y) (ub_lt y), ub_nat, ub_nat]; unfold ub; rw [BitVec.toNat_or]
@[go_sem] theorem ub_xor (x y : B64) : bits .xor .u64 (ub x) (ub y) = ub (x ^^^ y) := by
  rw [u64_xor _ _ (ub_ge x) (ub_lt x) (ub_ge y) (ub_lt y), ub_nat, ub_nat]; unfold ub; rw [BitVec.toNat_xor]
@[go_sem] theorem ub_andNot (x y : B64) : bits .andNot .u64 (ub x) (ub y) = ub (x &&& ~~~y) := by
  rw [u64_andNot _ _ (ub_ge x) (ub_lt x) (ub_ge y) (ub_lt y), ub_nat, ub_nat]; unfold ub
  rw [BitVec.toNat_and, BitVec.toNat_not]
@[go_sem] theorem ub_add (x y : B64) : (ub x + ub y) % 18446744073709551616 = ub (x + y) := by
  unfold ub; rw [BitVec.toNat_add]; omega
@[go_sem] theorem ub_sub (x y : B64) : (ub x - ub y) % 18446744073709551616 = ub (x - y) := by
  unfold ub; rw [BitVec.toNat_sub]; have := x.isLt; have := y.isLt; omega
@[go_sem] theorem ub_mul (x y : B64) : (ub x * ub y) % 18446744073709551616 = ub (x * y) := by
  unfold ub; rw [BitVec.toNat_mul]; omega
@[go_sem] theorem ub_shl (x : B64) (n : Nat) : (ub x * 2 ^ n) % 18446744073709551616 = ub (x <<< n) := by
  unfold ub; rw [BitVec.toNat_shiftLeft, Nat.shiftLeft_eq]
  rw [show ((2 : Int) ^ n) = ((2 ^ n : Nat) : Int) by simp, ← Int.natCast_mul]; omega
@[go_sem] theorem ub_shr (x : B64) (n : Nat) : ub x / 2 ^ n = ub (x >>> n) := by
  unfold ub; rw [BitVec.toNat_ushiftRight, Nat.shiftRight_eq_div_pow]
  rw [show ((2 : Int) ^ n) = ((2 ^ n : Nat) : Int) by simp, ← Int.natCast_ediv]
@[go_sem] theorem ub_wadd (x y : B64) : IntKind.u64.wrap (ub x + ub y) = ub (x + y) := by rw [IntKind.wrap_u64, ub_add]
@[go_sem] theorem ub_wsub (x y : B64) : IntKind.u64.wrap (ub x - ub y) = ub (x - y) := by rw [IntKind.wrap_u64, ub_sub]
@[go_sem] theorem ub_wmul (x y : B64) : IntKind.u64.wrap (ub x * ub y) = ub (x * y) := by rw [IntKind.wrap_u64, ub_mul]
@[go_sem] theorem ub_wrap (x : B64) : IntKind.u64.wrap (ub x) = ub x := by
  rw [IntKind.wrap_u64]; have := ub_ge x; have := ub_lt x; omega
@[go_sem] theorem ub_wshl (x : B64) (n : Nat) : IntKind.u64.wrap (ub x * 2 ^ n) = ub (x <<< n) := by rw [IntKind.wrap_u64, ub_shl]
@[go_sem] theorem ub_pow (n : Nat) : IntKind.u64.wrap (2 ^ n) = ub (1#64 <<< n) := by
  have h := ub_wshl 1#64 n
  rw [show ub 1#64 * 2 ^ n = (2 : Int) ^ n by rw [show ub 1#64 = 1 from rfl, Int.one_mul]] at h
  exact h
@[go_sem] theorem ub_pred (x : B64) : IntKind.u64.wrap (ub x - 1) = ub (x - 1#64) := ub_wsub x 1#64
@[go_sem] theorem ub_half (x : B64) : ub x / (2 : Int) = ub (x >>> 1) := by rw [← ub_shr]; rfl
@[go_sem] theorem ub_half2 (x : B64) : ub x / (4 : Int) = ub (x >>> 2) := by rw [← ub_shr]; rfl
@[go_sem] theorem ub_half4 (x : B64) : ub x / (16 : Int) = ub (x >>> 4) := by rw [← ub_shr]; rfl
@[go_sem] theorem ub_half8 (x : B64) : ub x / (256 : Int) = ub (x >>> 8) := by rw [← ub_shr]; rfl
@[go_sem] theorem ub_half16 (x : B64) : ub x / (65536 : Int) = ub (x >>> 16) := by rw [← ub_shr]; rfl
@[go_sem] theorem ub_half32 (x : B64) : ub x / (4294967296 : Int) = ub (x >>> 32) := by rw [← ub_shr]; rfl
@[go_sem] theorem ub_m1 (x : B64) : bits .and .u64 (ub x) 6148914691236517205 = ub (x &&& 6148914691236517205#64) := by rw [← ub_and, show ub 6148914691236517205#64 = 6148914691236517205 by kernel_rfl]
@[go_sem] theorem ub_m2 (x : B64) : bits .and .u64 (ub x) 3689348814741910323 = ub (x &&& 3689348814741910323#64) := by rw [← ub_and, show ub 3689348814741910323#64 = 3689348814741910323 by kernel_rfl]
@[go_sem] theorem ub_m4 (x : B64) : bits .and .u64 (ub x) 1085102592571150095 = ub (x &&& 1085102592571150095#64) := by rw [← ub_and, show ub 1085102592571150095#64 = 1085102592571150095 by kernel_rfl]
/-- A number's bit. -/
def bt (x : B64) (i : Nat) : Bool := x.getLsbD i
@[go_sem] theorem ub_bit (x : B64) (i : Nat) : (ub (x >>> i) % 2 == 1) = bt x i := by
  unfold bt
  have e : (ub (x >>> i) % 2 == 1) = decide ((x >>> i).toNat % 2 = 1) := by
    unfold ub; rw [Bool.eq_iff_iff, beq_iff_eq, decide_eq_true_eq]; omega
  rw [e, BitVec.getLsbD, BitVec.toNat_ushiftRight, Nat.testBit_eq_decide_div_mod_eq, Nat.shiftRight_eq_div_pow]
@[go_sem] theorem ub_bit1 (x : B64) (i : Nat) : (bits .and .u64 (ub (x >>> i)) 1 == 1) = bt x i := by
  rw [← ub_bit, show bits .and .u64 (ub (x >>> i)) 1 = ub (x >>> i) % 2 by
    rw [show (1 : Int) = ub 1#64 from rfl, ub_and]; unfold ub; rw [BitVec.toNat_and, show (1#64 : B64).toNat = 1 from rfl, Nat.and_one_is_mod]; omega]
/-- A number's signed value. -/
def ib (x : B64) : Int := x.toInt
@[go_sem] theorem ib_of (x : B64) : wrap64 (ub x) = ib x := by
  have h := IntKind.wrap_i64 (ub x)
  have e : wrap64 (ub x) = IntKind.i64.wrap (ub x) := by first | rfl | (unfold wrap64; exact h.symm)
  rw [e, h]
  unfold ub ib
  rw [BitVec.toInt_eq_toNat_cond]
  have := x.isLt
  split <;> omega
@[go_sem] theorem ib_wrap (x : B64) : IntKind.u64.wrap (ib x) = ub x := by
  rw [IntKind.wrap_u64]
  unfold ub ib
  rw [BitVec.toInt_eq_toNat_cond]
  have := x.isLt
  split <;> omega
@[go_sem] theorem ib_shr (x : B64) (n : Nat) : ib x / 2 ^ n = ib (x.sshiftRight n) := by
  unfold ib
  rw [BitVec.toInt_sshiftRight, Int.shiftRight_eq_div_pow]
  simp
theorem ub_zero : (0 : Int) = ub 0#64 := rfl
@[go_sem] theorem ub_eqz (x : B64) : (ub x == 0) = (x == 0#64) := by
  rw [Bool.eq_iff_iff, beq_iff_eq, beq_iff_eq, ub_zero, ub_inj]
@[go_sem] theorem ub_eqi (x y : B64) : (ub x == ub y) = (x == y) := by
  rw [Bool.eq_iff_iff, beq_iff_eq, beq_iff_eq, ub_inj]

/-- A tnum: what is known, and which bits are any. -/
abbrev Tn := B64 × B64
def tv (t : Tn) : Value := .agg #[.int .u64 (ub t.1), .int .u64 (ub t.2)]
def tmay (t : Tn) : Bool := t.1 &&& t.2 == 0#64
def thas (t : Tn) (n : B64) : Bool := tmay t && (n &&& ~~~t.2 == t.1)
def tin (a b : Tn) : Bool := tmay a && tmay b && (a.2 &&& ~~~b.2 == 0#64) && (a.1 &&& ~~~b.2 == b.1)
def butT (n free : B64) : Tn := (n &&& ~~~free, free)
def t0 : Tn := (0#64, 0#64)
def meetT (a b : Tn) : Tn := (a.1 ||| b.1, a.2 &&& b.2)
/-- An answer where both may be; else none, and the error. -/
def bothT (a b t : Tn) : Tn := if tmay a && tmay b then t else t0
def bothE (a b : Tn) : Int := if tmay a && tmay b then 0 else 1

end Go.Proofs.YtjcnpjidkimldaaGreatDoor

namespace Go.Proofs.YtjcnpjidkimldaaGreatDoor
set_option linter.unusedSimpArgs false
set_option linter.unusedVariables false
set_option maxRecDepth 100000
open Go.RowKit

/-- A byte so many times. -/
def rep (m : Nat) : Nat → Nat
  | 0 => 0
  | n + 1 => m + 256 * rep m n
def y1 (n x : Nat) : Nat := ((x / 2) &&& rep 85 n) + (x &&& rep 85 n)
def y2 (n x : Nat) : Nat := ((x / 4) &&& rep 51 n) + (x &&& rep 51 n)
def y4 (n x : Nat) : Nat := (x / 16 + x) &&& rep 15 n
def b1 (a : Nat) : Nat := ((a / 2) &&& 85) + (a &&& 85)
def b2 (a : Nat) : Nat := ((a / 4) &&& 51) + (a &&& 51)
def bitsOf : Nat → Nat → Nat
  | 0, _ => 0
  | n + 1, x => x % 2 + bitsOf n (x / 2)
theorem t1 : ∀ a : Fin 256, ∀ b : Fin 2, ((a.1 / 2 + 128 * b.1) &&& 85) = ((a.1 / 2) &&& 85) ∧ b1 a.1 < 256 := by decide +kernel
theorem t2 : ∀ a : Fin 256, ∀ b : Fin 4, ((a.1 / 4 + 64 * b.1) &&& 51) = ((a.1 / 4) &&& 51) := by decide +kernel
theorem t3 : ∀ a : Fin 256, b2 (b1 a.1) ≤ 68 ∧ b2 (b1 a.1) % 16 ≤ 4 ∧ ∀ b : Fin 5, ((b2 (b1 a.1) / 16 + 16 * b.1 + b2 (b1 a.1)) &&& 15) = bitsOf 8 a.1 := by decide +kernel
theorem t4 : ∀ a : Fin 256, bitsOf 8 a.1 ≤ 8 := by decide +kernel
/-- The bytes of a number, each with how many of its bits are 1. -/
def cs : Nat → Nat → Nat
  | 0, _ => 0
  | n + 1, x => bitsOf 8 (x % 256) + 256 * cs n (x / 256)
theorem md (a Q : Nat) (h : a < 128) : (a + 256 * Q) % 128 = a := by omega
theorem b8 (a0 a1 a2 a3 a4 a5 a6 a7 : Nat) (h0 : a0 < 100) (h1 : a1 < 100) (h2 : a2 < 100) (h3 : a3 < 100) (h4 : a4 < 100) (h5 : a5 < 100) (h6 : a6 < 100) (h7 : a7 < 100) :
    a0 + 256 * (a1 + 256 * (a2 + 256 * (a3 + 256 * (a4 + 256 * (a5 + 256 * (a6 + 256 * a7)))))) < 9223372036854775808 := by omega
set_option linter.unusedSectionVars false
section
variable (c0 c1 c2 c3 c4 c5 c6 c7 : Nat) (h0 : c0 ≤ 8) (h1 : c1 ≤ 8) (h2 : c2 ≤ 8) (h3 : c3 ≤ 8) (h4 : c4 ≤ 8) (h5 : c5 ≤ 8) (h6 : c6 ≤ 8) (h7 : c7 ≤ 8)
include h0 h1 h2 h3 h4 h5 h6 h7
theorem lb : ((c0 + c1 + (c2 + c3)) + 256 * ((c1 + c2 + (c3 + c4)) + 256 * ((c2 + c3 + (c4 + c5)) + 256 * ((c3 + c4 + (c5 + c6)) + 256 * ((c4 + c5 + (c6 + c7)) + 256 * ((c5 + c6 + c7) + 256 * ((c6 + c7) + 256 * c7))))))) < 9223372036854775808 := b8 _ _ _ _ _ _ _ _ (by omega) (by omega) (by omega) (by omega) (by omega) (by omega) (by omega) (by omega)
end
end Go.Proofs.YtjcnpjidkimldaaGreatDoor

namespace Go.Proofs.YtjcnpjidkimldaaGreatDoor
set_option linter.unusedSimpArgs false
set_option linter.unusedVariables false
set_option maxRecDepth 100000
open Go.RowKit

@[go_sem] theorem ub_bitm (x : B64) (i : Nat) : ((ub (x >>> i)).tmod 2 == 1) = bt x i := by
  rw [Int.tmod_eq_emod_of_nonneg (ub_ge _)]
  exact ub_bit x i
/-- What a bit may be: 0, 1. -/
def mM (z o : Bool) : Int := (if z then 1 else 0) + (if o then 2 else 0)
def kz (t : Tn) (i : Nat) : Bool := bt t.2 i || !bt t.1 i
def ko (t : Tn) (i : Nat) : Bool := bt t.2 i || bt t.1 i
/-- The mark of a tnum's bit. -/
def mk (t : Tn) (i : Nat) : Int := mM (kz t i) (ko t i)
@[go_sem] theorem mM_or (z o z' o' : Bool) : bits .or .i64 (mM z o) (mM z' o') = mM (z || z') (o || o') := by
  cases z <;> cases o <;> cases z' <;> cases o' <;> kernel_rfl
@[go_sem] theorem mM_and (z o z' o' : Bool) : bits .and .i64 (mM z o) (mM z' o') = mM (z && z') (o && o') := by
  cases z <;> cases o <;> cases z' <;> cases o' <;> kernel_rfl
@[go_sem] theorem mM_eqz (z o : Bool) : (mM z o == 0) = (!z && !o) := by cases z <;> cases o <;> kernel_rfl
@[go_sem] theorem mM_eq2 (z o : Bool) : (mM z o == 2) = (!z && o) := by cases z <;> cases o <;> kernel_rfl
@[go_sem] theorem mM_eq3 (z o : Bool) : (mM z o == 3) = (z && o) := by cases z <;> cases o <;> kernel_rfl
@[go_sem] theorem mM_eq1 (z o : Bool) : (mM z o == 1) = (z && !o) := by cases z <;> cases o <;> kernel_rfl
/-- The numbers that the document's Made builds, of the first marks. -/
def madeV (z o : Nat → Bool) : Nat → B64
  | 0 => 0#64
  | k + 1 => if (!z k && o k) then madeV z o k + 1#64 <<< k else madeV z o k
def madeM (z o : Nat → Bool) : Nat → B64
  | 0 => 0#64
  | k + 1 => if (z k && o k) then madeM z o k + 1#64 <<< k else madeM z o k
theorem b_ext {x y : B64} (h : ∀ i, i < 64 → bt x i = bt y i) : x = y := BitVec.eq_of_getLsbD_eq (fun i hi => h i hi)
theorem bt_and (x y : B64) (i : Nat) : bt (x &&& y) i = (bt x i && bt y i) := by unfold bt; simp
theorem bt_or (x y : B64) (i : Nat) : bt (x ||| y) i = (bt x i || bt y i) := by unfold bt; simp
theorem bt_not (x : B64) (i : Nat) (hi : i < 64) : bt (~~~x) i = !bt x i := by unfold bt; simp [hi]
theorem bt_zero (i : Nat) : bt 0#64 i = false := by unfold bt; simp
theorem may_bit {t : Tn} (h : tmay t = true) (i : Nat) : (bt t.1 i && bt t.2 i) = false := by
  unfold tmay at h
  rw [beq_iff_eq] at h
  rw [← bt_and, h, bt_zero]
end Go.Proofs.YtjcnpjidkimldaaGreatDoor

namespace Go.Proofs.YtjcnpjidkimldaaGreatDoor
set_option linter.unusedSimpArgs false
set_option linter.unusedVariables false
set_option maxRecDepth 100000
open Go.RowKit

/-- What a tnum holds, bit by bit. -/
def Hs (t : Tn) (x : B64) : Prop := x &&& ~~~t.2 = t.1
theorem hs_bit {t : Tn} {x : B64} (h : Hs t x) (i : Nat) (hi : i < 64) : bt t.1 i = (bt x i && !bt t.2 i) := by
  rw [← h, bt_and, bt_not _ _ hi]
theorem but_may (n f : B64) : tmay (butT n f) = true := by
  unfold tmay butT
  rw [beq_iff_eq]
  apply b_ext
  intro i hi
  rw [bt_and, bt_and, bt_not _ _ hi, bt_zero]
  cases bt n i <;> cases bt f i <;> rfl
end Go.Proofs.YtjcnpjidkimldaaGreatDoor

namespace Go.Proofs.YtjcnpjidkimldaaGreatDoor
set_option linter.unusedSimpArgs false
set_option linter.unusedVariables false
set_option maxRecDepth 100000
open Go.RowKit

/-- A product as a sum. -/
def pm (x y : B64) : Nat → B64
  | 0 => 0#64
  | k + 1 => pm x y k + (if bt x k then y <<< k else 0#64)
theorem tin_iff (a b : Tn) : tin a b = true ↔ tmay a = true ∧ tmay b = true ∧ (∀ i, i < 64 → bt a.2 i = true → bt b.2 i = true) ∧ Hs b a.1 := by
  unfold tin Hs
  rw [Bool.and_eq_true, Bool.and_eq_true, Bool.and_eq_true, beq_iff_eq, beq_iff_eq]
  constructor
  · rintro ⟨⟨⟨h1, h2⟩, h3⟩, h4⟩
    refine ⟨h1, h2, fun i hi h => ?_, h4⟩
    have e : bt (a.2 &&& ~~~b.2) i = false := by rw [h3, bt_zero]
    rw [bt_and, bt_not _ _ hi, h] at e
    revert e; cases bt b.2 i <;> simp
  · rintro ⟨h1, h2, h3, h4⟩
    refine ⟨⟨⟨h1, h2⟩, b_ext fun i hi => ?_⟩, h4⟩
    rw [bt_and, bt_not _ _ hi, bt_zero]
    have := h3 i hi
    revert this
    cases bt a.2 i <;> cases bt b.2 i <;> simp
end Go.Proofs.YtjcnpjidkimldaaGreatDoor
