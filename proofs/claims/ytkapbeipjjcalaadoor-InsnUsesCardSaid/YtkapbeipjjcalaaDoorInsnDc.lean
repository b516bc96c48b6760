/-
  Contracts of Decode, the code's and the document's own.
-/
import Derived.Test.YtkapbeipjjcalaaDoorInsnT
import Derived.BigRegion
import Derived.ChangeAlike
namespace Go.Proofs.YtkapbeipjjcalaaDoor
set_option linter.unusedSimpArgs false
set_option linter.unusedVariables false
open Go.ChangeShapes Go.WideShapes Go.ChangeAt Go.RowKit

theorem below_drewN_w {B : Nat} {a w : World} (h : Below B a w) (n : Nat) : Below B a (w.drewN n) := ⟨h.os, h.tape, h.output, h.size, h.block⟩
theorem or_sum_nat (x y n : Nat) (h : x < 2 ^ n) : x ||| (y * 2 ^ n) = x + y * 2 ^ n := by
  have := Nat.two_pow_add_eq_or_of_lt h y
  rw [Nat.or_comm, Nat.mul_comm y, ← this, Nat.add_comm]
theorem u16_or (x y : Int) (h0 : 0 ≤ x) (h1 : x < 256) (g0 : 0 ≤ y) (g1 : y < 256) : bits .or .u16 x (y * 256) = x + y * 256 := by
  obtain ⟨n, rfl⟩ : ∃ n : Nat, x = n := ⟨x.toNat, by omega⟩
  obtain ⟨m, rfl⟩ : ∃ n : Nat, y = n := ⟨y.toNat, by omega⟩
  show IntKind.u16.wrap ((BitVec.ofInt 16 (n : Int) ||| BitVec.ofInt 16 ((m : Int) * 256)).toNat : Int) = _
  rw [show ((m : Int) * 256) = ((m * 2 ^ 8 : Nat) : Int) by omega, BitVec.toNat_or, BitVec.ofInt_natCast, BitVec.ofInt_natCast, BitVec.toNat_ofNat, BitVec.toNat_ofNat, Nat.mod_eq_of_lt (by omega), Nat.mod_eq_of_lt (by omega), or_sum_nat _ _ _ (by omega), IntKind.wrap_u16]
  omega
theorem u32_or (k : Nat) (x y : Int) (h0 : 0 ≤ x) (h1 : x < 2 ^ k) (g0 : 0 ≤ y) (g1 : y < 256) (hk : k ≤ 24) (h2 : x + y * 2 ^ k < 4294967296) : bits .or .u32 x (y * 2 ^ k) = x + y * 2 ^ k := by
  obtain ⟨n, rfl⟩ : ∃ n : Nat, x = n := ⟨x.toNat, by omega⟩
  obtain ⟨m, rfl⟩ : ∃ n : Nat, y = n := ⟨y.toNat, by omega⟩
  have hp : ((m : Int) * 2 ^ k) = ((m * 2 ^ k : Nat) : Int) := by push_cast; rfl
  have hn : n < 2 ^ k := by
    have : ((n : Int)) < ((2 ^ k : Nat) : Int) := by push_cast; exact h1
    omega
  rw [hp] at h2
  show IntKind.u32.wrap ((BitVec.ofInt 32 (n : Int) ||| BitVec.ofInt 32 ((m : Int) * 2 ^ k)).toNat : Int) = _
  rw [hp, BitVec.toNat_or, BitVec.ofInt_natCast, BitVec.ofInt_natCast, BitVec.toNat_ofNat, BitVec.toNat_ofNat, Nat.mod_eq_of_lt (by omega), Nat.mod_eq_of_lt (by omega), or_sum_nat _ _ _ hn, IntKind.wrap_u32]
  omega
theorem u32_a (x y : Int) (h0 : 0 ≤ x) (h1 : x < 256) (g0 : 0 ≤ y) (g1 : y < 256) : bits .or .u32 x (y * 256) = x + y * 256 := u32_or 8 x y h0 (by omega) g0 g1 (by omega) (by omega)
theorem u32_b (x y : Int) (h0 : 0 ≤ x) (h1 : x < 65536) (g0 : 0 ≤ y) (g1 : y < 256) : bits .or .u32 x (y * 65536) = x + y * 65536 := u32_or 16 x y h0 (by omega) g0 g1 (by omega) (by omega)
theorem u32_c (x y : Int) (h0 : 0 ≤ x) (h1 : x < 16777216) (g0 : 0 ≤ y) (g1 : y < 256) : bits .or .u32 x (y * 16777216) = x + y * 16777216 := u32_or 24 x y h0 (by omega) g0 g1 (by omega) (by omega)

def s16 (x : Int) : Int := if x < 32768 then x else x - 65536
def s32 (x : Int) : Int := if x < 2147483648 then x else x - 4294967296
theorem s16_wrap (x : Int) (h0 : 0 ≤ x) (h1 : x < 65536) : IntKind.i16.wrap x = s16 x := by
  unfold s16
  simp [IntKind.wrap, IntKind.bits, IntKind.signed]
  split <;> split <;> omega
theorem s32_wrap (x : Int) (h0 : 0 ≤ x) (h1 : x < 4294967296) : IntKind.i32.wrap x = s32 x := by
  rw [IntKind.wrap_i32]
  unfold s32
  split <;> omega
def offB (b2 b3 : Int) : Int := s16 (b2 + b3 * 256)
def immB (b4 b5 b6 b7 : Int) : Int := s32 (b4 + b5 * 256 + b6 * 65536 + b7 * 16777216)

set_option maxRecDepth 100000 in
set_option maxHeartbeats 1000000 in
theorem decode_8 (b off cap : Nat) (b0 b1 b2 b3 b4 b5 b6 b7 : Int) (w : World) (hb : b < w.heap.size) (l0 : 0 ≤ b0) (u0 : b0 < 256) (l1 : 0 ≤ b1) (u1 : b1 < 256) (l2 : 0 ≤ b2) (u2 : b2 < 256) (l3 : 0 ≤ b3) (u3 : b3 < 256) (l4 : 0 ≤ b4) (u4 : b4 < 256) (l5 : 0 ≤ b5) (u5 : b5 < 256) (l6 : 0 ≤ b6) (u6 : b6 < 256) (l7 : 0 ≤ b7) (u7 : b7 < 256) (c0 : w.cell? ⟨b, off, none⟩ = some (.int .u8 b0)) (c1 : w.cell? ⟨b, off + 1, none⟩ = some (.int .u8 b1)) (c2 : w.cell? ⟨b, off + 2, none⟩ = some (.int .u8 b2)) (c3 : w.cell? ⟨b, off + 3, none⟩ = some (.int .u8 b3)) (c4 : w.cell? ⟨b, off + 4, none⟩ = some (.int .u8 b4)) (c5 : w.cell? ⟨b, off + 5, none⟩ = some (.int .u8 b5)) (c6 : w.cell? ⟨b, off + 6, none⟩ = some (.int .u8 b6)) (c7 : w.cell? ⟨b, off + 7, none⟩ = some (.int .u8 b7)) :
    Calls Tryd.prog 15 #[.slice (some ⟨b, off, none⟩) 8 cap] w fun e w' => e = .returned (.tuple #[insV b0 (b1 % 16) (b1 / 16) (offB b2 b3) (immB b4 b5 b6 b7), .int .i64 0]) ∧ Below w.heap.size w w' := by
  have g15 := u8_and15 b1 l1 u1
  have g16 := u16_or b2 b3 l2 u2 l3 u3
  have ga := u32_a b4 b5 l4 u4 l5 u5
  have gb := u32_b (b4 + b5 * 256) b6 (by omega) (by omega) l6 u6
  have gc := u32_c (b4 + b5 * 256 + b6 * 65536) b7 (by omega) (by omega) l7 u7
  have w16 : IntKind.i16.wrap (b2 + b3 * 256) = offB b2 b3 := s16_wrap _ (by omega) (by omega)
  have w32 : IntKind.i32.wrap (b4 + b5 * 256 + b6 * 65536 + b7 * 16777216) = immB b4 b5 b6 b7 := s32_wrap _ (by omega) (by omega)
  go_enter Tryd.func15, Tryd.ntmps15
  go_wp2
  go_quiet (fail)
  go_wp2
  go_quiet (fail)
  go_wp2
  go_region
  go_wp2
  exact bodyPost_ret (v := .tuple #[insV b0 (b1 % 16) (b1 / 16) (offB b2 b3) (immB b4 b5 b6 b7), .int .i64 0]) (by simp [results, Tryd.results15, go_sem]; rfl) rfl ⟨rfl, (((((below_drewN_w ((Below.refl _ _).alloc (Nat.le_refl _) _) _).setCell (by simp) _).setCell (by simp) _).setCell (by simp) _).setCell (by simp) _).setCell (by simp) _⟩

theorem decode_s (p : Option Addr) (n cap : Nat) (w : World) (hn : n < 8) :
    Calls Tryd.prog 15 #[.slice p n cap] w fun e w' => e = .returned (.tuple #[insV 0 0 0 0 0, .int .i64 4]) ∧ Below w.heap.size w w' := by
  have h1 : decide ((n : Int) < 8) = true := by simp; omega
  clear hn
  go_enter Tryd.func15, Tryd.ntmps15
  go_wp2
  exact bodyPost_ret (v := .tuple #[insV 0 0 0 0 0, .int .i64 4]) (by simp [results, Tryd.results15, go_sem]; rfl) rfl ⟨rfl, (Below.refl _ _).alloc (Nat.le_refl _) _⟩

theorem decode_l (p : Option Addr) (n cap : Nat) (w : World) (hn : 8 < n) :
    Calls Tryd.prog 15 #[.slice p n cap] w fun e w' => e = .returned (.tuple #[insV 0 0 0 0 0, .int .i64 3]) ∧ Below w.heap.size w w' := by
  have h1 : decide ((n : Int) < 8) = false := by simp; omega
  have h2 : decide (8 < (n : Int)) = true := by simp; omega
  clear hn
  go_enter Tryd.func15, Tryd.ntmps15
  go_wp2
  exact bodyPost_ret (v := .tuple #[insV 0 0 0 0 0, .int .i64 3]) (by simp [results, Tryd.results15, go_sem]; rfl) rfl ⟨rfl, (Below.refl _ _).alloc (Nat.le_refl _) _⟩

end Go.Proofs.YtkapbeipjjcalaaDoor
