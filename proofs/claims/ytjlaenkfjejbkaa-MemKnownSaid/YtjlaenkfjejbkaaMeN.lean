/-
  The laws' own num and cut.
-/
import Derived.Test.YtjlaenkfjejbkaaMeV
namespace Go.Proofs.Ytjlaenkfjejbkaa
set_option linter.unusedSimpArgs false
set_option linter.unusedVariables false
open Go.ChangeShapes Go.WideShapes Go.ChangeAt Go.RowKit

theorem bld_num (n : Int) (W : World) : (Instr.build 25 #[(0, .int .u8 1), (2, .int .u64 n)]).run Try.prog W = .ok (.agg #[.int .u8 1, .int .i64 0, .int .u64 n, .int .i64 0]) W := by kernel_rfl
theorem num_any (n : Int) (w : World) : Calls Try.prog 28 #[.int .u64 n] w fun e w' => e = .returned (.agg #[.int .u8 1, .int .i64 0, .int .u64 n, .int .i64 0]) ∧ Below w.heap.size w w' := by
  have BN := bld_num n
  go_enter Try.func28, Try.ntmps28
  go_wp2
  exact bodyPost_ret (v := .agg #[.int .u8 1, .int .i64 0, .int .u64 n, .int .i64 0]) (by simp [results, Try.results28, go_sem]; try rfl) rfl ⟨rfl, (Below.refl _ _).alloc (Nat.le_refl _) _⟩

theorem and_mask (n : Int) (k : Nat) (h0 : 0 ≤ n) (h1 : n < 18446744073709551616) (m : Nat) (hm : m = 2 ^ k - 1) (hk : m < 18446744073709551616) : bits .and .u64 n (m : Int) = n % ((2 ^ k : Nat) : Int) := by
  rw [u64_and n m h0 h1 (by omega) (by omega), Int.toNat_natCast, hm, Nat.and_two_pow_sub_one_eq_mod, Int.natCast_emod, Int.toNat_of_nonneg h0]
theorem cut_any (n size : Int) (w : World) (h0 : 0 ≤ n) (h1 : n < 18446744073709551616) (hs : sizeB size = true) : Calls Try.prog 27 #[.int .u64 n, .int .i64 size] w fun e w' => e = .returned (.int .u64 (n % 256 ^ size.toNat)) ∧ w = w' := by
  have m1 := hid (and_mask n 8 h0 h1 255 (by decide) (by decide))
  have m2 := hid (and_mask n 16 h0 h1 65535 (by decide) (by decide))
  have m4 := hid (and_mask n 32 h0 h1 4294967295 (by decide) (by decide))
  have m8 := hid (show n % 256 ^ 8 = n by omega)
  rcases size_cases hs with rfl | rfl | rfl | rfl <;> clear hs
  · go_enter Try.func27, Try.ntmps27
    go_wp2
    go_ret
    exact ⟨ret_val (congrArg (Value.int .u64) m1.out), rfl⟩
  · go_enter Try.func27, Try.ntmps27
    go_wp2
    go_ret
    exact ⟨ret_val (congrArg (Value.int .u64) m2.out), rfl⟩
  · go_enter Try.func27, Try.ntmps27
    go_wp2
    go_ret
    exact ⟨ret_val (congrArg (Value.int .u64) m4.out), rfl⟩
  · go_enter Try.func27, Try.ntmps27
    go_wp2
    go_ret
    exact ⟨ret_val (congrArg (Value.int .u64) m8.out.symm), rfl⟩

end Go.Proofs.Ytjlaenkfjejbkaa
