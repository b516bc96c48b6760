/-
  Images as bytes: instructions and maps in memory, bytes in memory, lists of the call's own; contracts of insn's Encode and Decode, the code's and the document's.
-/
import Derived.Test.YtolpgcoebmboeaaChecked
import Derived.WalkKit
import Derived.Laws.BitsAllLaws
import Derived.Laws.Bits64
import Derived.ProofKit
import Derived.Below
import Derived.Outline
import Derived.OneCell
import Derived.Deep.QuietTactic
import Derived.BigQuiet
import Derived.BigRegion
import Derived.ChangeAlike
import Derived.Laws.AppendOwn
import Derived.Laws.AppendOwnNone
import Derived.Laws.OwnMore
import Derived.OwnWalk
import Derived.Maps.AppendAt
import Derived.Deep.AppendLies
import Derived.Deep.RegionHeld3
import Derived.Deep.RegionLaw
import Derived.Deep.MidRow
import Derived.Deep.WholeRow
namespace Go.Proofs.Ytolpgcoebmboeaa
set_option linter.unusedSimpArgs false
set_option linter.unusedVariables false
open Go.ChangeShapes Go.WideShapes Go.ChangeAt Go.RowKit
theorem hid {p : Prop} (h : p) : Hid p := h
theorem below_next {a b c : World} (h : Below a.heap.size a b) (k : Below b.heap.size b c) : Below a.heap.size a c := h.trans (k.mono h.size)
theorem below_drewN (B : Nat) (w : World) (n : Nat) : Below B w (w.drewN n) := ⟨rfl, rfl, rfl, Nat.le_refl _, fun _ _ => rfl⟩
theorem ret_val {a b : Value} (h : a = b) : Ending.returned a = .returned b := by rw [h]
theorem u8_and15 (x : Int) (h0 : 0 ≤ x) (h1 : x < 256) : bits .and .u8 x 15 = x % 16 := by
  obtain ⟨n, rfl⟩ : ∃ n : Nat, x = n := ⟨x.toNat, by omega⟩
  have hn : n < 256 := by omega
  show IntKind.u8.wrap ((BitVec.ofInt 8 (n : Int) &&& BitVec.ofInt 8 (15 : Int)).toNat : Int) = _
  rw [BitVec.toNat_and, BitVec.ofInt_natCast, BitVec.toNat_ofNat, Nat.mod_eq_of_lt (by omega), show (BitVec.ofInt 8 (15 : Int)).toNat = 2 ^ 4 - 1 by decide, Nat.and_two_pow_sub_one_eq_mod, IntKind.wrap_u8]
  omega
theorem bcell {W w1 : World} (hb : Below W.heap.size W w1) : (∀ b o, b < W.heap.size → w1.cell? ⟨b, o, none⟩ = W.cell? ⟨b, o, none⟩) ∧ (∀ b o, b < W.heap.size → w1.frozen? ⟨b, o, none⟩ = W.frozen? ⟨b, o, none⟩) :=
  ⟨fun b o h => hb.cell (p := ⟨b, o, none⟩) h, fun b o h => hb.frozen (p := ⟨b, o, none⟩) h⟩
def insV (op dst src off imm : Int) : Value := .agg #[.int .u8 op, .int .u8 dst, .int .u8 src, .int .i16 off, .int .i32 imm]
theorem below_drewN_w {B : Nat} {a w : World} (h : Below B a w) (n : Nat) : Below B a (w.drewN n) := ⟨h.os, h.tape, h.output, h.size, h.block⟩
theorem or_sum_nat (x y n : Nat) (h : x < 2 ^ n) : x ||| (y * 2 ^ n) = x + y * 2 ^ n := by
  have := Nat.two_pow_add_eq_or_of_lt h y
  rw [Nat.or_comm, Nat.mul_comm y, ← this, Nat.add_comm]
theorem u16_or (x y : Int) (h0 : 0 ≤ x) (h1 : x < 256) (g0 : 0 ≤ y) (g1 : y < 256) : bits .or .u16 x (y * 256) = x + y * 256 := by
  obtain ⟨n, rfl⟩ : ∃ n : Nat, x = n := ⟨x.toNat, by omega⟩
  obtain ⟨m, rfl⟩ : ∃ n : Nat, y = n := ⟨y.toNat, by omega⟩
  show IntKind.u16.wrap ((BitVec.ofInt 16 (n : Int) ||| BitVec.ofInt 16 ((m : Int) * 256)).toNat : Int) = _
  rw [show ((m : Int) * 256) = ((m * 2 ^ 8 : Nat) : Int) by omega, BitVec.toNat_or, BitVec.ofInt_natCast, BitVec.ofInt_natCast, BitVec.toNat_ofNat, BitVec.toNat_ofNat, Nat.mod_eq_of_lt (by omega), Nat.mod_eq_of_lt (by omega), or_sum_nat _ _ _ (by omega), IntKind.wrap_u16]
  omega
theorem u32_or (k : Nat) (x y : Int) (h0 : 0 ≤ x) (h1 : x < 2 ^ k) (g0 : 0 ≤ y) (g1 : y < 256) (hk : k ≤ 24) (h2 : x + y * 2 ^ k < 4294967296) : bits .or .u32 x (y * 2 ^ k) = x + y * 2 ^ k := by
  obtain ⟨n, rfl⟩ : ∃ n : Nat, x = n := ⟨x.toNat, by omega⟩
  obtain ⟨m, rfl⟩ : ∃ n : Nat, y = n := ⟨y.toNat, by omega⟩
  have hp : ((m : Int) * 2 ^ k) = ((m * 2 ^ k : Nat) : Int) := by push_cast; rfl
  have hn : n < 2 ^ k := by
    have : ((n : Int)) < ((2 ^ k : Nat) : Int) := by push_cast; exact h1
    omega
  rw [hp] at h2
  show IntKind.u32.wrap ((BitVec.ofInt 32 (n : Int) ||| BitVec.ofInt 32 ((m : Int) * 2 ^ k)).toNat : Int) = _
  rw [hp, BitVec.toNat_or, BitVec.ofInt_natCast, BitVec.ofInt_natCast, BitVec.toNat_ofNat, BitVec.toNat_ofNat, Nat.mod_eq_of_lt (by omega), Nat.mod_eq_of_lt (by omega), or_sum_nat _ _ _ hn, IntKind.wrap_u32]
  omega
theorem u32_a (x y : Int) (h0 : 0 ≤ x) (h1 : x < 256) (g0 : 0 ≤ y) (g1 : y < 256) : bits .or .u32 x (y * 256) = x + y * 256 := u32_or 8 x y h0 (by omega) g0 g1 (by omega) (by omega)
theorem u32_b (x y : Int) (h0 : 0 ≤ x) (h1 : x < 65536) (g0 : 0 ≤ y) (g1 : y < 256) : bits .or .u32 x (y * 65536) = x + y * 65536 := u32_or 16 x y h0 (by omega) g0 g1 (by omega) (by omega)
theorem u32_c (x y : Int) (h0 : 0 ≤ x) (h1 : x < 16777216) (g0 : 0 ≤ y) (g1 : y < 256) : bits .or .u32 x (y * 16777216) = x + y * 16777216 := u32_or 24 x y h0 (by omega) g0 g1 (by omega) (by omega)
def s16 (x : Int) : Int := if x < 32768 then x else x - 65536
def s32 (x : Int) : Int := if x < 2147483648 then x else x - 4294967296
theorem s16_wrap (x : Int) (h0 : 0 ≤ x) (h1 : x < 65536) : IntKind.i16.wrap x = s16 x := by
  unfold s16
  simp [IntKind.wrap, IntKind.bits, IntKind.signed]
  split <;> split <;> omega
theorem s32_wrap (x : Int) (h0 : 0 ≤ x) (h1 : x < 4294967296) : IntKind.i32.wrap x = s32 x := by
  rw [IntKind.wrap_i32]
  unfold s32
  split <;> omega
def offB (b2 b3 : Int) : Int := s16 (b2 + b3 * 256)
def immB (b4 b5 b6 b7 : Int) : Int := s32 (b4 + b5 * 256 + b6 * 65536 + b7 * 16777216)
set_option maxRecDepth 100000 in
set_option maxHeartbeats 1000000 in
theorem decode_8 (b off cap : Nat) (b0 b1 b2 b3 b4 b5 b6 b7 : Int) (w : World) (hb : b < w.heap.size) (l0 : 0 ≤ b0) (u0 : b0 < 256) (l1 : 0 ≤ b1) (u1 : b1 < 256) (l2 : 0 ≤ b2) (u2 : b2 < 256) (l3 : 0 ≤ b3) (u3 : b3 < 256) (l4 : 0 ≤ b4) (u4 : b4 < 256) (l5 : 0 ≤ b5) (u5 : b5 < 256) (l6 : 0 ≤ b6) (u6 : b6 < 256) (l7 : 0 ≤ b7) (u7 : b7 < 256) (c0 : w.cell? ⟨b, off, none⟩ = some (.int .u8 b0)) (c1 : w.cell? ⟨b, off + 1, none⟩ = some (.int .u8 b1)) (c2 : w.cell? ⟨b, off + 2, none⟩ = some (.int .u8 b2)) (c3 : w.cell? ⟨b, off + 3, none⟩ = some (.int .u8 b3)) (c4 : w.cell? ⟨b, off + 4, none⟩ = some (.int .u8 b4)) (c5 : w.cell? ⟨b, off + 5, none⟩ = some (.int .u8 b5)) (c6 : w.cell? ⟨b, off + 6, none⟩ = some (.int .u8 b6)) (c7 : w.cell? ⟨b, off + 7, none⟩ = some (.int .u8 b7)) :
    Calls Try.prog 31 #[.slice (some ⟨b, off, none⟩) 8 cap] w fun e w' => e = .returned (.tuple #[insV b0 (b1 % 16) (b1 / 16) (offB b2 b3) (immB b4 b5 b6 b7), .int .i64 0]) ∧ Below w.heap.size w w' := by
  have g15 := u8_and15 b1 l1 u1
  have g16 := u16_or b2 b3 l2 u2 l3 u3
  have ga := u32_a b4 b5 l4 u4 l5 u5
  have gb := u32_b (b4 + b5 * 256) b6 (by omega) (by omega) l6 u6
  have gc := u32_c (b4 + b5 * 256 + b6 * 65536) b7 (by omega) (by omega) l7 u7
  have w16 : IntKind.i16.wrap (b2 + b3 * 256) = offB b2 b3 := s16_wrap _ (by omega) (by omega)
  have w32 : IntKind.i32.wrap (b4 + b5 * 256 + b6 * 65536 + b7 * 16777216) = immB b4 b5 b6 b7 := s32_wrap _ (by omega) (by omega)
  go_enter Try.func31, Try.ntmps31
  go_wp2
  go_quiet (fail)
  go_wp2
  go_quiet (fail)
  go_wp2
  go_region
  go_wp2
  exact bodyPost_ret (v := .tuple #[insV b0 (b1 % 16) (b1 / 16) (offB b2 b3) (immB b4 b5 b6 b7), .int .i64 0]) (by simp [results, Try.results31, go_sem]; rfl) rfl ⟨rfl, (((((below_drewN_w ((Below.refl _ _).alloc (Nat.le_refl _) _) _).setCell (by simp) _).setCell (by simp) _).setCell (by simp) _).setCell (by simp) _).setCell (by simp) _⟩
set_option maxRecDepth 100000 in
set_option maxHeartbeats 1000000 in
theorem rdecode_00 (b off cap : Nat) (b0 b1 b2 b3 b4 b5 b6 b7 : Int) (w : World) (hb : b < w.heap.size) (l0 : 0 ≤ b0) (u0 : b0 < 256) (l1 : 0 ≤ b1) (u1 : b1 < 256) (l2 : 0 ≤ b2) (u2 : b2 < 256) (l3 : 0 ≤ b3) (u3 : b3 < 256) (l4 : 0 ≤ b4) (u4 : b4 < 256) (l5 : 0 ≤ b5) (u5 : b5 < 256) (l6 : 0 ≤ b6) (u6 : b6 < 256) (l7 : 0 ≤ b7) (u7 : b7 < 256) (c0 : w.cell? ⟨b, off, none⟩ = some (.int .u8 b0)) (c1 : w.cell? ⟨b, off + 1, none⟩ = some (.int .u8 b1)) (c2 : w.cell? ⟨b, off + 2, none⟩ = some (.int .u8 b2)) (c3 : w.cell? ⟨b, off + 3, none⟩ = some (.int .u8 b3)) (c4 : w.cell? ⟨b, off + 4, none⟩ = some (.int .u8 b4)) (c5 : w.cell? ⟨b, off + 5, none⟩ = some (.int .u8 b5)) (c6 : w.cell? ⟨b, off + 6, none⟩ = some (.int .u8 b6)) (c7 : w.cell? ⟨b, off + 7, none⟩ = some (.int .u8 b7)) (ha : b2 + 256 * b3 < 32768) (hc : b4 + 256 * b5 + 65536 * b6 + 16777216 * b7 < 2147483648) :
    Calls Try.prog 24 #[.slice (some ⟨b, off, none⟩) 8 cap] w fun e w' => e = .returned (.tuple #[insV b0 (b1 % 16) (b1 / 16) (offB b2 b3) (immB b4 b5 b6 b7), .int .i64 0]) ∧ Below w.heap.size w w' := by
  rw [show offB b2 b3 = b2 + 256 * b3 by unfold offB s16; rw [if_pos (by omega)]; omega, show immB b4 b5 b6 b7 = b4 + 256 * b5 + 65536 * b6 + 16777216 * b7 by unfold immB s32; rw [if_pos (by omega)]; omega]
  go_enter Try.func24, Try.ntmps24
  go_wp2
  go_quiet (fail)
  go_wp2
  go_quiet (fail)
  go_wp2
  go_region
  go_wp2
  exact bodyPost_ret (v := .tuple #[insV b0 (b1 % 16) (b1 / 16) (b2 + 256 * b3) (b4 + 256 * b5 + 65536 * b6 + 16777216 * b7), .int .i64 0]) (by simp [results, Try.results24, go_sem]; rfl) rfl ⟨rfl, (((((below_drewN_w ((Below.refl _ _).alloc (Nat.le_refl _) _) _).setCell (by simp) _).setCell (by simp) _).setCell (by simp) _).setCell (by simp) _).setCell (by simp) _⟩
set_option maxRecDepth 100000 in
set_option maxHeartbeats 1000000 in
theorem rdecode_01 (b off cap : Nat) (b0 b1 b2 b3 b4 b5 b6 b7 : Int) (w : World) (hb : b < w.heap.size) (l0 : 0 ≤ b0) (u0 : b0 < 256) (l1 : 0 ≤ b1) (u1 : b1 < 256) (l2 : 0 ≤ b2) (u2 : b2 < 256) (l3 : 0 ≤ b3) (u3 : b3 < 256) (l4 : 0 ≤ b4) (u4 : b4 < 256) (l5 : 0 ≤ b5) (u5 : b5 < 256) (l6 : 0 ≤ b6) (u6 : b6 < 256) (l7 : 0 ≤ b7) (u7 : b7 < 256) (c0 : w.cell? ⟨b, off, none⟩ = some (.int .u8 b0)) (c1 : w.cell? ⟨b, off + 1, none⟩ = some (.int .u8 b1)) (c2 : w.cell? ⟨b, off + 2, none⟩ = some (.int .u8 b2)) (c3 : w.cell? ⟨b, off + 3, none⟩ = some (.int .u8 b3)) (c4 : w.cell? ⟨b, off + 4, none⟩ = some (.int .u8 b4)) (c5 : w.cell? ⟨b, off + 5, none⟩ = some (.int .u8 b5)) (c6 : w.cell? ⟨b, off + 6, none⟩ = some (.int .u8 b6)) (c7 : w.cell? ⟨b, off + 7, none⟩ = some (.int .u8 b7)) (ha : b2 + 256 * b3 < 32768) (hc : 2147483648 ≤ b4 + 256 * b5 + 65536 * b6 + 16777216 * b7) :
    Calls Try.prog 24 #[.slice (some ⟨b, off, none⟩) 8 cap] w fun e w' => e = .returned (.tuple #[insV b0 (b1 % 16) (b1 / 16) (offB b2 b3) (immB b4 b5 b6 b7), .int .i64 0]) ∧ Below w.heap.size w w' := by
  rw [show offB b2 b3 = b2 + 256 * b3 by unfold offB s16; rw [if_pos (by omega)]; omega, show immB b4 b5 b6 b7 = b4 + 256 * b5 + 65536 * b6 + 16777216 * b7 - 4294967296 by unfold immB s32; rw [if_neg (by omega)]; omega]
  go_enter Try.func24, Try.ntmps24
  go_wp2
  go_quiet (fail)
  go_wp2
  go_quiet (fail)
  go_wp2
  go_region
  go_wp2
  exact bodyPost_ret (v := .tuple #[insV b0 (b1 % 16) (b1 / 16) (b2 + 256 * b3) (b4 + 256 * b5 + 65536 * b6 + 16777216 * b7 - 4294967296), .int .i64 0]) (by simp [results, Try.results24, go_sem]; rfl) rfl ⟨rfl, (((((below_drewN_w ((Below.refl _ _).alloc (Nat.le_refl _) _) _).setCell (by simp) _).setCell (by simp) _).setCell (by simp) _).setCell (by simp) _).setCell (by simp) _⟩
set_option maxRecDepth 100000 in
set_option maxHeartbeats 1000000 in
theorem rdecode_10 (b off cap : Nat) (b0 b1 b2 b3 b4 b5 b6 b7 : Int) (w : World) (hb : b < w.heap.size) (l0 : 0 ≤ b0) (u0 : b0 < 256) (l1 : 0 ≤ b1) (u1 : b1 < 256) (l2 : 0 ≤ b2) (u2 : b2 < 256) (l3 : 0 ≤ b3) (u3 : b3 < 256) (l4 : 0 ≤ b4) (u4 : b4 < 256) (l5 : 0 ≤ b5) (u5 : b5 < 256) (l6 : 0 ≤ b6) (u6 : b6 < 256) (l7 : 0 ≤ b7) (u7 : b7 < 256) (c0 : w.cell? ⟨b, off, none⟩ = some (.int .u8 b0)) (c1 : w.cell? ⟨b, off + 1, none⟩ = some (.int .u8 b1)) (c2 : w.cell? ⟨b, off + 2, none⟩ = some (.int .u8 b2)) (c3 : w.cell? ⟨b, off + 3, none⟩ = some (.int .u8 b3)) (c4 : w.cell? ⟨b, off + 4, none⟩ = some (.int .u8 b4)) (c5 : w.cell? ⟨b, off + 5, none⟩ = some (.int .u8 b5)) (c6 : w.cell? ⟨b, off + 6, none⟩ = some (.int .u8 b6)) (c7 : w.cell? ⟨b, off + 7, none⟩ = some (.int .u8 b7)) (ha : 32768 ≤ b2 + 256 * b3) (hc : b4 + 256 * b5 + 65536 * b6 + 16777216 * b7 < 2147483648) :
    Calls Try.prog 24 #[.slice (some ⟨b, off, none⟩) 8 cap] w fun e w' => e = .returned (.tuple #[insV b0 (b1 % 16) (b1 / 16) (offB b2 b3) (immB b4 b5 b6 b7), .int .i64 0]) ∧ Below w.heap.size w w' := by
  rw [show offB b2 b3 = b2 + 256 * b3 - 65536 by unfold offB s16; rw [if_neg (by omega)]; omega, show immB b4 b5 b6 b7 = b4 + 256 * b5 + 65536 * b6 + 16777216 * b7 by unfold immB s32; rw [if_pos (by omega)]; omega]
  go_enter Try.func24, Try.ntmps24
  go_wp2
  go_quiet (fail)
  go_wp2
  go_quiet (fail)
  go_wp2
  go_region
  go_wp2
  exact bodyPost_ret (v := .tuple #[insV b0 (b1 % 16) (b1 / 16) (b2 + 256 * b3 - 65536) (b4 + 256 * b5 + 65536 * b6 + 16777216 * b7), .int .i64 0]) (by simp [results, Try.results24, go_sem]; rfl) rfl ⟨rfl, (((((below_drewN_w ((Below.refl _ _).alloc (Nat.le_refl _) _) _).setCell (by simp) _).setCell (by simp) _).setCell (by simp) _).setCell (by simp) _).setCell (by simp) _⟩
set_option maxRecDepth 100000 in
set_option maxHeartbeats 1000000 in
theorem rdecode_11 (b off cap : Nat) (b0 b1 b2 b3 b4 b5 b6 b7 : Int) (w : World) (hb : b < w.heap.size) (l0 : 0 ≤ b0) (u0 : b0 < 256) (l1 : 0 ≤ b1) (u1 : b1 < 256) (l2 : 0 ≤ b2) (u2 : b2 < 256) (l3 : 0 ≤ b3) (u3 : b3 < 256) (l4 : 0 ≤ b4) (u4 : b4 < 256) (l5 : 0 ≤ b5) (u5 : b5 < 256) (l6 : 0 ≤ b6) (u6 : b6 < 256) (l7 : 0 ≤ b7) (u7 : b7 < 256) (c0 : w.cell? ⟨b, off, none⟩ = some (.int .u8 b0)) (c1 : w.cell? ⟨b, off + 1, none⟩ = some (.int .u8 b1)) (c2 : w.cell? ⟨b, off + 2, none⟩ = some (.int .u8 b2)) (c3 : w.cell? ⟨b, off + 3, none⟩ = some (.int .u8 b3)) (c4 : w.cell? ⟨b, off + 4, none⟩ = some (.int .u8 b4)) (c5 : w.cell? ⟨b, off + 5, none⟩ = some (.int .u8 b5)) (c6 : w.cell? ⟨b, off + 6, none⟩ = some (.int .u8 b6)) (c7 : w.cell? ⟨b, off + 7, none⟩ = some (.int .u8 b7)) (ha : 32768 ≤ b2 + 256 * b3) (hc : 2147483648 ≤ b4 + 256 * b5 + 65536 * b6 + 16777216 * b7) :
    Calls Try.prog 24 #[.slice (some ⟨b, off, none⟩) 8 cap] w fun e w' => e = .returned (.tuple #[insV b0 (b1 % 16) (b1 / 16) (offB b2 b3) (immB b4 b5 b6 b7), .int .i64 0]) ∧ Below w.heap.size w w' := by
  rw [show offB b2 b3 = b2 + 256 * b3 - 65536 by unfold offB s16; rw [if_neg (by omega)]; omega, show immB b4 b5 b6 b7 = b4 + 256 * b5 + 65536 * b6 + 16777216 * b7 - 4294967296 by unfold immB s32; rw [if_neg (by omega)]; omega]
  go_enter Try.func24, Try.ntmps24
  go_wp2
  go_quiet (fail)
  go_wp2
  go_quiet (fail)
  go_wp2
  go_region
  go_wp2
  exact bodyPost_ret (v := .tuple #[insV b0 (b1 % 16) (b1 / 16) (b2 + 256 * b3 - 65536) (b4 + 256 * b5 + 65536 * b6 + 16777216 * b7 - 4294967296), .int .i64 0]) (by simp [results, Try.results24, go_sem]; rfl) rfl ⟨rfl, (((((below_drewN_w ((Below.refl _ _).alloc (Nat.le_refl _) _) _).setCell (by simp) _).setCell (by simp) _).setCell (by simp) _).setCell (by simp) _).setCell (by simp) _⟩
theorem rdecode_8 (b off cap : Nat) (b0 b1 b2 b3 b4 b5 b6 b7 : Int) (w : World) (hb : b < w.heap.size) (l0 : 0 ≤ b0) (u0 : b0 < 256) (l1 : 0 ≤ b1) (u1 : b1 < 256) (l2 : 0 ≤ b2) (u2 : b2 < 256) (l3 : 0 ≤ b3) (u3 : b3 < 256) (l4 : 0 ≤ b4) (u4 : b4 < 256) (l5 : 0 ≤ b5) (u5 : b5 < 256) (l6 : 0 ≤ b6) (u6 : b6 < 256) (l7 : 0 ≤ b7) (u7 : b7 < 256) (c0 : w.cell? ⟨b, off, none⟩ = some (.int .u8 b0)) (c1 : w.cell? ⟨b, off + 1, none⟩ = some (.int .u8 b1)) (c2 : w.cell? ⟨b, off + 2, none⟩ = some (.int .u8 b2)) (c3 : w.cell? ⟨b, off + 3, none⟩ = some (.int .u8 b3)) (c4 : w.cell? ⟨b, off + 4, none⟩ = some (.int .u8 b4)) (c5 : w.cell? ⟨b, off + 5, none⟩ = some (.int .u8 b5)) (c6 : w.cell? ⟨b, off + 6, none⟩ = some (.int .u8 b6)) (c7 : w.cell? ⟨b, off + 7, none⟩ = some (.int .u8 b7)) :
    Calls Try.prog 24 #[.slice (some ⟨b, off, none⟩) 8 cap] w fun e w' => e = .returned (.tuple #[insV b0 (b1 % 16) (b1 / 16) (offB b2 b3) (immB b4 b5 b6 b7), .int .i64 0]) ∧ Below w.heap.size w w' := by
  by_cases ha : b2 + 256 * b3 < 32768
  · by_cases hc : b4 + 256 * b5 + 65536 * b6 + 16777216 * b7 < 2147483648
    · exact rdecode_00 b off cap b0 b1 b2 b3 b4 b5 b6 b7 w hb l0 u0 l1 u1 l2 u2 l3 u3 l4 u4 l5 u5 l6 u6 l7 u7 c0 c1 c2 c3 c4 c5 c6 c7 ha hc
    · exact rdecode_01 b off cap b0 b1 b2 b3 b4 b5 b6 b7 w hb l0 u0 l1 u1 l2 u2 l3 u3 l4 u4 l5 u5 l6 u6 l7 u7 c0 c1 c2 c3 c4 c5 c6 c7 ha (by omega)
  · by_cases hc : b4 + 256 * b5 + 65536 * b6 + 16777216 * b7 < 2147483648
    · exact rdecode_10 b off cap b0 b1 b2 b3 b4 b5 b6 b7 w hb l0 u0 l1 u1 l2 u2 l3 u3 l4 u4 l5 u5 l6 u6 l7 u7 c0 c1 c2 c3 c4 c5 c6 c7 (by omega) hc
    · exact rdecode_11 b off cap b0 b1 b2 b3 b4 b5 b6 b7 w hb l0 u0 l1 u1 l2 u2 l3 u3 l4 u4 l5 u5 l6 u6 l7 u7 c0 c1 c2 c3 c4 c5 c6 c7 (by omega) (by omega)
theorem below_dn {B : Nat} {a w : World} (h : Below B a w) (n : Nat) : Below B a (w.drewN n) := ⟨h.os, h.tape, h.output, h.size, h.block⟩
def encB (op dst src off imm : Int) : List Int :=
  [op, src * 16 + dst, off % 65536 % 256, off % 65536 / 256, imm % 4294967296 % 256, imm % 4294967296 / 256 % 256, imm % 4294967296 / 65536 % 256, imm % 4294967296 / 16777216]
def bytesV (l : List Int) : Array Value := (l.map (Value.int .u8)).toArray
/-- What Encode leaves: eight bytes in a block of the call's own. -/
def EncPost (w : World) (l : List Int) (e : Ending) (w' : World) : Prop :=
  ∃ g, e = .returned (.tuple #[.slice (some ⟨g, 0, none⟩) 8 8, .int .i64 0]) ∧ Below w.heap.size w w' ∧ w.heap.size ≤ g ∧ g < w'.heap.size ∧ w'.heap[g]? = some (.cells (bytesV l) 5 (0, 0))
theorem u16_wrap (x : Int) : IntKind.u16.wrap x = x % 65536 := IntKind.wrap_u16 x
theorem u8_or16_t : ((List.range 16).all fun s => (List.range 16).all fun d => decide (bits .or .u8 ((s : Int) * 16) (d : Int) = (s : Int) * 16 + d)) = true := by kernel_rfl
theorem u8_or16 (s d : Int) (s0 : 0 ≤ s) (s1 : s ≤ 15) (d0 : 0 ≤ d) (d1 : d ≤ 15) : bits .or .u8 (s * 16) d = s * 16 + d := by
  have h := u8_or16_t
  rw [List.all_eq_true] at h
  have hs := h s.toNat (List.mem_range.2 (by omega))
  rw [List.all_eq_true] at hs
  have hd := hs d.toNat (List.mem_range.2 (by omega))
  rwa [decide_eq_true_eq, show ((s.toNat : Nat) : Int) = s by omega, show ((d.toNat : Nat) : Int) = d by omega] at hd
theorem heap_new {X : World} {O : Obj} {n : Nat} (h : X.heap.size = n) : (X.alloc O).heap[n]? = some O := h ▸ heap_alloc_new X O
theorem bytes8 {a0 a1 a2 a3 a4 a5 a6 a7 b0 b1 b2 b3 b4 b5 b6 b7 : Int} {t : TypeId} (h0 : a0 = b0) (h1 : a1 = b1) (h2 : a2 = b2) (h3 : a3 = b3) (h4 : a4 = b4) (h5 : a5 = b5) (h6 : a6 = b6) (h7 : a7 = b7) :
    some (Obj.cells #[.int .u8 a0, .int .u8 a1, .int .u8 a2, .int .u8 a3, .int .u8 a4, .int .u8 a5, .int .u8 a6, .int .u8 a7] t (0, 0)) = some (Obj.cells (bytesV [b0, b1, b2, b3, b4, b5, b6, b7]) t (0, 0)) := by
  subst h0 h1 h2 h3 h4 h5 h6 h7
  rfl
set_option maxRecDepth 100000 in
theorem encode_yes (op dst src off imm : Int) (w : World) (h0 : 0 ≤ op) (h1 : op < 256) (d0 : 0 ≤ dst) (d1 : dst ≤ 15) (s0 : 0 ≤ src) (s1 : src ≤ 15) (o0 : -32768 ≤ off) (o1 : off < 32768) (m0 : -2147483648 ≤ imm) (m1 : imm < 2147483648) : Calls Try.prog 27 #[.agg #[.int .u8 op, .int .u8 dst, .int .u8 src, .int .i16 off, .int .i32 imm]] w (EncPost w (encB op dst src off imm)) := by
  have g1 : decide (15 < dst) = false := by simp; omega
  have g2 : decide (15 < src) = false := by simp; omega
  have g3 := u8_or16 src dst s0 s1 d0 d1
  have g4 := u16_wrap off
  have g5 : off % 65536 / 256 % 256 = off % 65536 / 256 := by omega
  go_enter Try.func27, Try.ntmps27
  go_wp2
  go_quiet (fail)
  go_wp2
  go_ret2
  refine ⟨w.heap.size + 1, rfl, (below_dn ((Below.refl _ _).alloc (Nat.le_refl _) _) _).alloc (by simp) _, by omega, by simp, ?_⟩
  exact (heap_new (by simp)).trans (bytes8 rfl rfl (by omega) rfl (by omega) rfl rfl rfl)
set_option maxRecDepth 100000 in
theorem rencode_00 (op dst src off imm : Int) (w : World) (h0 : 0 ≤ op) (h1 : op < 256) (d0 : 0 ≤ dst) (d1 : dst ≤ 15) (s0 : 0 ≤ src) (s1 : src ≤ 15) (o0 : -32768 ≤ off) (o1 : off < 32768) (m0 : -2147483648 ≤ imm) (m1 : imm < 2147483648) (ho : 0 ≤ off) (hm : 0 ≤ imm) : Calls Try.prog 21 #[.agg #[.int .u8 op, .int .u8 dst, .int .u8 src, .int .i16 off, .int .i32 imm]] w (EncPost w (encB op dst src off imm)) := by
  have g1 : decide (15 < dst) = false := by simp; omega
  have g2 : decide (15 < src) = false := by simp; omega
  go_enter Try.func21, Try.ntmps21
  go_wp2
  go_ret2
  refine ⟨w.heap.size + 1, rfl, ((Below.refl _ _).alloc (Nat.le_refl _) _).alloc (by simp) _, by omega, by simp, ?_⟩
  exact (heap_new (by simp)).trans (bytes8 rfl (by omega) (by omega) (by omega) (by omega) (by omega) (by omega) (by omega))
set_option maxRecDepth 100000 in
theorem rencode_01 (op dst src off imm : Int) (w : World) (h0 : 0 ≤ op) (h1 : op < 256) (d0 : 0 ≤ dst) (d1 : dst ≤ 15) (s0 : 0 ≤ src) (s1 : src ≤ 15) (o0 : -32768 ≤ off) (o1 : off < 32768) (m0 : -2147483648 ≤ imm) (m1 : imm < 2147483648) (ho : 0 ≤ off) (hm : imm < 0) : Calls Try.prog 21 #[.agg #[.int .u8 op, .int .u8 dst, .int .u8 src, .int .i16 off, .int .i32 imm]] w (EncPost w (encB op dst src off imm)) := by
  have g1 : decide (15 < dst) = false := by simp; omega
  have g2 : decide (15 < src) = false := by simp; omega
  go_enter Try.func21, Try.ntmps21
  go_wp2
  go_ret2
  refine ⟨w.heap.size + 1, rfl, ((Below.refl _ _).alloc (Nat.le_refl _) _).alloc (by simp) _, by omega, by simp, ?_⟩
  exact (heap_new (by simp)).trans (bytes8 rfl (by omega) (by omega) (by omega) (by omega) (by omega) (by omega) (by omega))
set_option maxRecDepth 100000 in
theorem rencode_10 (op dst src off imm : Int) (w : World) (h0 : 0 ≤ op) (h1 : op < 256) (d0 : 0 ≤ dst) (d1 : dst ≤ 15) (s0 : 0 ≤ src) (s1 : src ≤ 15) (o0 : -32768 ≤ off) (o1 : off < 32768) (m0 : -2147483648 ≤ imm) (m1 : imm < 2147483648) (ho : off < 0) (hm : 0 ≤ imm) : Calls Try.prog 21 #[.agg #[.int .u8 op, .int .u8 dst, .int .u8 src, .int .i16 off, .int .i32 imm]] w (EncPost w (encB op dst src off imm)) := by
  have g1 : decide (15 < dst) = false := by simp; omega
  have g2 : decide (15 < src) = false := by simp; omega
  go_enter Try.func21, Try.ntmps21
  go_wp2
  go_ret2
  refine ⟨w.heap.size + 1, rfl, ((Below.refl _ _).alloc (Nat.le_refl _) _).alloc (by simp) _, by omega, by simp, ?_⟩
  exact (heap_new (by simp)).trans (bytes8 rfl (by omega) (by omega) (by omega) (by omega) (by omega) (by omega) (by omega))
set_option maxRecDepth 100000 in
theorem rencode_11 (op dst src off imm : Int) (w : World) (h0 : 0 ≤ op) (h1 : op < 256) (d0 : 0 ≤ dst) (d1 : dst ≤ 15) (s0 : 0 ≤ src) (s1 : src ≤ 15) (o0 : -32768 ≤ off) (o1 : off < 32768) (m0 : -2147483648 ≤ imm) (m1 : imm < 2147483648) (ho : off < 0) (hm : imm < 0) : Calls Try.prog 21 #[.agg #[.int .u8 op, .int .u8 dst, .int .u8 src, .int .i16 off, .int .i32 imm]] w (EncPost w (encB op dst src off imm)) := by
  have g1 : decide (15 < dst) = false := by simp; omega
  have g2 : decide (15 < src) = false := by simp; omega
  go_enter Try.func21, Try.ntmps21
  go_wp2
  go_ret2
  refine ⟨w.heap.size + 1, rfl, ((Below.refl _ _).alloc (Nat.le_refl _) _).alloc (by simp) _, by omega, by simp, ?_⟩
  exact (heap_new (by simp)).trans (bytes8 rfl (by omega) (by omega) (by omega) (by omega) (by omega) (by omega) (by omega))
theorem rencode_yes (op dst src off imm : Int) (w : World) (h0 : 0 ≤ op) (h1 : op < 256) (d0 : 0 ≤ dst) (d1 : dst ≤ 15) (s0 : 0 ≤ src) (s1 : src ≤ 15) (o0 : -32768 ≤ off) (o1 : off < 32768) (m0 : -2147483648 ≤ imm) (m1 : imm < 2147483648) : Calls Try.prog 21 #[.agg #[.int .u8 op, .int .u8 dst, .int .u8 src, .int .i16 off, .int .i32 imm]] w (EncPost w (encB op dst src off imm)) := by
  by_cases ho : off < 0
  · by_cases hm : imm < 0
    · exact rencode_11 op dst src off imm w h0 h1 d0 d1 s0 s1 o0 o1 m0 m1 ho hm
    · exact rencode_10 op dst src off imm w h0 h1 d0 d1 s0 s1 o0 o1 m0 m1 ho (by omega)
  · by_cases hm : imm < 0
    · exact rencode_01 op dst src off imm w h0 h1 d0 d1 s0 s1 o0 o1 m0 m1 (by omega) hm
    · exact rencode_00 op dst src off imm w h0 h1 d0 d1 s0 s1 o0 o1 m0 m1 (by omega) (by omega)
theorem encode_no (op dst src off imm : Int) (w : World) (h0 : 0 ≤ op) (h1 : op < 256) (d0 : 0 ≤ dst) (d1 : dst < 256) (s0 : 0 ≤ src) (s1 : src < 256) (o0 : -32768 ≤ off) (o1 : off < 32768) (m0 : -2147483648 ≤ imm) (m1 : imm < 2147483648) (hx : 15 < dst ∨ 15 < src) : Calls Try.prog 27 #[.agg #[.int .u8 op, .int .u8 dst, .int .u8 src, .int .i16 off, .int .i32 imm]] w fun e w' => e = .returned (.tuple #[.slice none 0 0, .int .i64 21]) ∧ Below w.heap.size w w' := by
  by_cases hd : 15 < dst
  · have g1 : decide (15 < dst) = true := by simpa using hd
    clear hx hd
    go_enter Try.func27, Try.ntmps27
    go_wp2
    go_ret2
    exact ⟨rfl, (Below.refl _ _).alloc (Nat.le_refl _) _⟩
  · have g1 : decide (15 < dst) = false := by simpa using hd
    have g2 : decide (15 < src) = true := by simp; omega
    clear hx hd
    go_enter Try.func27, Try.ntmps27
    go_wp2
    go_ret2
    exact ⟨rfl, (Below.refl _ _).alloc (Nat.le_refl _) _⟩
theorem rencode_no (op dst src off imm : Int) (w : World) (h0 : 0 ≤ op) (h1 : op < 256) (d0 : 0 ≤ dst) (d1 : dst < 256) (s0 : 0 ≤ src) (s1 : src < 256) (o0 : -32768 ≤ off) (o1 : off < 32768) (m0 : -2147483648 ≤ imm) (m1 : imm < 2147483648) (hx : 15 < dst ∨ 15 < src) : Calls Try.prog 21 #[.agg #[.int .u8 op, .int .u8 dst, .int .u8 src, .int .i16 off, .int .i32 imm]] w fun e w' => e = .returned (.tuple #[.slice none 0 0, .int .i64 21]) ∧ Below w.heap.size w w' := by
  by_cases hd : 15 < dst
  · have g1 : decide (15 < dst) = true := by simpa using hd
    clear hx hd
    go_enter Try.func21, Try.ntmps21
    go_wp2
    go_ret2
    exact ⟨rfl, (Below.refl _ _).alloc (Nat.le_refl _) _⟩
  · have g1 : decide (15 < dst) = false := by simpa using hd
    have g2 : decide (15 < src) = true := by simp; omega
    clear hx hd
    go_enter Try.func21, Try.ntmps21
    go_wp2
    go_ret2
    exact ⟨rfl, (Below.refl _ _).alloc (Nat.le_refl _) _⟩
theorem cn {w w' : World} (hb : Below w.heap.size w w') {p : Addr} {c : Value} (h : w.cell? p = some c) : w'.cell? p = some c :=
  (hb.cell (World.block_lt_of_cell? w _ h)).trans h
theorem cna {w : World} (o : Obj) {p : Addr} {c : Value} (h : w.cell? p = some c) : (w.alloc o).cell? p = some c := cn ((Below.refl w.heap.size w).alloc (Nat.le_refl _) o) h
theorem below_dr (w : World) : Below w.heap.size w w.drew := ⟨rfl, rfl, rfl, Nat.le_refl _, fun _ _ => rfl⟩
structure I5 where
  op : Int
  dst : Int
  src : Int
  off : Int
  imm : Int
deriving DecidableEq
def I5.V (x : I5) : Value := .agg #[.int .u8 x.op, .int .u8 x.dst, .int .u8 x.src, .int .i16 x.off, .int .i32 x.imm]
def I5.ok (x : I5) : Prop := 0 ≤ x.op ∧ x.op < 256 ∧ 0 ≤ x.dst ∧ x.dst < 256 ∧ 0 ≤ x.src ∧ x.src < 256 ∧ -32768 ≤ x.off ∧ x.off < 32768 ∧ -2147483648 ≤ x.imm ∧ x.imm < 2147483648
def zI : I5 := ⟨0, 0, 0, 0, 0⟩
theorem zI_ok : zI.ok := by unfold I5.ok zI; decide
def at5 (c : List I5) (k : Nat) : I5 := c.getD k zI
def CdOk (c : List I5) : Prop := ∀ x ∈ c, x.ok
theorem at5_ok {c : List I5} (h : CdOk c) (k : Nat) : (at5 c k).ok := by
  unfold at5
  rw [List.getD_eq_getElem?_getD]
  cases hk : c[k]? with
  | none => exact zI_ok
  | some x => exact h x (List.mem_of_getElem? hk)
/-- The cells of an instruction, from the place o of block b on. -/
def InsAt (w : World) (b o : Nat) (x : I5) : Prop :=
  w.cell? ⟨b, o, none⟩ = some (.int .u8 x.op) ∧ w.cell? ⟨b, o + 1, none⟩ = some (.int .u8 x.dst) ∧ w.cell? ⟨b, o + 2, none⟩ = some (.int .u8 x.src) ∧ w.cell? ⟨b, o + 3, none⟩ = some (.int .i16 x.off) ∧ w.cell? ⟨b, o + 4, none⟩ = some (.int .i32 x.imm)
theorem InsAt.kept {w w' : World} {n b o : Nat} {x : I5} (h : InsAt w b o x) (hb : Below n w w') (hl : b < n) : InsAt w' b o x := by
  obtain ⟨a0, a1, a2, a3, a4⟩ := h
  exact ⟨(hb.cell (p := ⟨b, o, none⟩) hl).trans a0, (hb.cell (p := ⟨b, o + 1, none⟩) hl).trans a1, (hb.cell (p := ⟨b, o + 2, none⟩) hl).trans a2, (hb.cell (p := ⟨b, o + 3, none⟩) hl).trans a3, (hb.cell (p := ⟨b, o + 4, none⟩) hl).trans a4⟩
/-- A slice that reads as this code, in memory below n₀. -/
def CdSl (n₀ : Nat) (w : World) (p : Option Addr) (n : Nat) (c : List I5) : Prop :=
  c.length = n ∧ CdOk c ∧ n < 11728124029440 ∧ (n = 0 ∨ ∃ b off, p = some ⟨b, off, none⟩ ∧ b < n₀ ∧ ∀ j, j < n → InsAt w b (off + j * 5) (at5 c j))
theorem CdSl.kept {n₀ m : Nat} {w w' : World} {p : Option Addr} {n : Nat} {c : List I5} (h : CdSl n₀ w p n c) (hb : Below m w w') (hm : n₀ ≤ m) : CdSl n₀ w' p n c := by
  obtain ⟨h1, h2, h3, h4⟩ := h
  refine ⟨h1, h2, h3, h4.imp id ?_⟩
  rintro ⟨b, off, e, hl, hc⟩
  exact ⟨b, off, e, hl, fun j hj => (hc j hj).kept hb (by omega)⟩
theorem CdSl.wide {n₀ m : Nat} {w : World} {p : Option Addr} {n : Nat} {c : List I5} (h : CdSl n₀ w p n c) (hm : n₀ ≤ m) : CdSl m w p n c := by
  obtain ⟨h1, h2, h3, h4⟩ := h
  refine ⟨h1, h2, h3, h4.imp id ?_⟩
  rintro ⟨b, off, e, hl, hc⟩
  exact ⟨b, off, e, by omega, hc⟩
structure M4 where
  kind : Int
  key : Int
  value : Int
  cap : Int
deriving DecidableEq
def M4.V (m : M4) : Value := .agg #[.int .i64 m.kind, .int .i64 m.key, .int .i64 m.value, .int .i64 m.cap]
def zM : M4 := ⟨0, 0, 0, 0⟩
def mpA (l : List M4) (k : Nat) : M4 := l.getD k zM
def MapAt (w : World) (b o : Nat) (m : M4) : Prop :=
  w.cell? ⟨b, o, none⟩ = some (.int .i64 m.kind) ∧ w.cell? ⟨b, o + 1, none⟩ = some (.int .i64 m.key) ∧ w.cell? ⟨b, o + 2, none⟩ = some (.int .i64 m.value) ∧ w.cell? ⟨b, o + 3, none⟩ = some (.int .i64 m.cap)
theorem MapAt.kept {w w' : World} {n b o : Nat} {m : M4} (h : MapAt w b o m) (hb : Below n w w') (hl : b < n) : MapAt w' b o m := by
  obtain ⟨a0, a1, a2, a3⟩ := h
  exact ⟨(hb.cell (p := ⟨b, o, none⟩) hl).trans a0, (hb.cell (p := ⟨b, o + 1, none⟩) hl).trans a1, (hb.cell (p := ⟨b, o + 2, none⟩) hl).trans a2, (hb.cell (p := ⟨b, o + 3, none⟩) hl).trans a3⟩
/-- A slice that reads as these maps, in memory below n₀. -/
def MpSl (n₀ : Nat) (w : World) (p : Option Addr) (n : Nat) (l : List M4) : Prop :=
  l.length = n ∧ n < 4398046511104 ∧ (n = 0 ∨ ∃ b off, p = some ⟨b, off, none⟩ ∧ b < n₀ ∧ ∀ j, j < n → MapAt w b (off + j * 4) (mpA l j))
theorem MpSl.kept {n₀ m : Nat} {w w' : World} {p : Option Addr} {n : Nat} {l : List M4} (h : MpSl n₀ w p n l) (hb : Below m w w') (hm : n₀ ≤ m) : MpSl n₀ w' p n l := by
  obtain ⟨h1, h3, h4⟩ := h
  refine ⟨h1, h3, h4.imp id ?_⟩
  rintro ⟨b, off, e, hl, hc⟩
  exact ⟨b, off, e, hl, fun j hj => (hc j hj).kept hb (by omega)⟩
theorem MpSl.wide {n₀ m : Nat} {w : World} {p : Option Addr} {n : Nat} {l : List M4} (h : MpSl n₀ w p n l) (hm : n₀ ≤ m) : MpSl m w p n l := by
  obtain ⟨h1, h3, h4⟩ := h
  refine ⟨h1, h3, h4.imp id ?_⟩
  rintro ⟨b, off, e, hl, hc⟩
  exact ⟨b, off, e, by omega, hc⟩
def cellsI (x : I5) : List Value := [.int .u8 x.op, .int .u8 x.dst, .int .u8 x.src, .int .i16 x.off, .int .i32 x.imm]
theorem flat5_get (c : List I5) (j : Nat) (hj : j < c.length) (i : Nat) (hi : i < 5) : (c.flatMap cellsI)[j * 5 + i]? = (cellsI (at5 c j))[i]? := by
  induction c generalizing j with
  | nil => exact absurd hj (by simp)
  | cons x c ih =>
    rw [List.flatMap_cons]
    cases j with
    | zero =>
      rw [List.getElem?_append_left (by simp [cellsI]; omega)]
      simp [at5]
    | succ j =>
      rw [List.getElem?_append_right (by simp [cellsI]; omega)]
      rw [show (j + 1) * 5 + i - (cellsI x).length = j * 5 + i by simp [cellsI]; omega, ih j (by simpa using hj)]
      simp [at5]
/-- A slot's cells. -/
def bC (l : List Int) : List Value := l.map (Value.int .u8)
end Go.Proofs.Ytolpgcoebmboeaa
