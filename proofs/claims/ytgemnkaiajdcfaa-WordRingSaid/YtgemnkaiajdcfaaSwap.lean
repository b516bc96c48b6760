/-
  Contracts of package word's Swap and Ext, and of the document's own answers (the reference).
-/
import Derived.Test.YtgemnkaiajdcfaaAlu
namespace Go.Proofs.Ytgemnkaiajdcfaa
open Go.ChangeShapes Go.WideShapes Go.ChangeAt Go.RowKit

theorem swap_some (k : Nat) (hk : k = 2 ∨ k = 4 ∨ k = 8) (a : Int) (w : World) (h0 : 0 ≤ a) (h1 : a < 18446744073709551616) :
    Calls Try.prog 18 #[.int .i64 (8 * k : Nat), .int .u64 a] w fun e w' => e = .returned (.tuple #[.int .u64 (rev k a), .int .i64 0]) ∧ w = w' := by
  rcases hk with rfl | rfl | rfl
  · go_enter Try.func18, Try.ntmps18
    go_wp2
    go_loop [1, 6, 14] (fun va vn vi => ∃ j : Nat, j ≤ 2 ∧ vi = .int .i64 j ∧ va = .int .u64 (a / 256 ^ j) ∧ vn = .int .u64 (rev j a)) (fun _ _ vi => 2 - (intOf vi).toNat)
    case atStart => exact ⟨0, Nat.zero_le _, rfl, by simp, rfl⟩
    case round =>
      obtain ⟨j, hj, rfl, rfl, rfl⟩ := hrel
      by_cases hlt : j < 2
      · have hd := divp_bd a j h0 h1
        go_wp2
        go_round
        case rel => exact ⟨j + 1, by omega, by go_num, by rw [div_step], by rw [rev_step a j h0 h1 (by omega)]⟩
        case measure => simp [intOf]; omega
      · go_wp2
        go_ret2
        obtain rfl : j = 2 := by omega
        exact ⟨rfl, rfl⟩
  · go_enter Try.func18, Try.ntmps18
    go_wp2
    go_loop [1, 6, 14] (fun va vn vi => ∃ j : Nat, j ≤ 4 ∧ vi = .int .i64 j ∧ va = .int .u64 (a / 256 ^ j) ∧ vn = .int .u64 (rev j a)) (fun _ _ vi => 4 - (intOf vi).toNat)
    case atStart => exact ⟨0, Nat.zero_le _, rfl, by simp, rfl⟩
    case round =>
      obtain ⟨j, hj, rfl, rfl, rfl⟩ := hrel
      by_cases hlt : j < 4
      · have hd := divp_bd a j h0 h1
        go_wp2
        go_round
        case rel => exact ⟨j + 1, by omega, by go_num, by rw [div_step], by rw [rev_step a j h0 h1 (by omega)]⟩
        case measure => simp [intOf]; omega
      · go_wp2
        go_ret2
        obtain rfl : j = 4 := by omega
        exact ⟨rfl, rfl⟩
  · go_enter Try.func18, Try.ntmps18
    go_wp2
    go_loop [1, 6, 14] (fun va vn vi => ∃ j : Nat, j ≤ 8 ∧ vi = .int .i64 j ∧ va = .int .u64 (a / 256 ^ j) ∧ vn = .int .u64 (rev j a)) (fun _ _ vi => 8 - (intOf vi).toNat)
    case atStart => exact ⟨0, Nat.zero_le _, rfl, by simp, rfl⟩
    case round =>
      obtain ⟨j, hj, rfl, rfl, rfl⟩ := hrel
      by_cases hlt : j < 8
      · have hd := divp_bd a j h0 h1
        go_wp2
        go_round
        case rel => exact ⟨j + 1, by omega, by go_num, by rw [div_step], by rw [rev_step a j h0 h1 (by omega)]⟩
        case measure => simp [intOf]; omega
      · go_wp2
        go_ret2
        obtain rfl : j = 8 := by omega
        exact ⟨rfl, rfl⟩
theorem rswap_some (k : Nat) (hk : k = 2 ∨ k = 4 ∨ k = 8) (a : Int) (w : World) (h0 : 0 ≤ a) (h1 : a < 18446744073709551616) :
    Calls Try.prog 19 #[.int .i64 (8 * k : Nat), .int .u64 a] w fun e w' => e = .returned (.tuple #[.int .u64 (rev k a), .int .i64 0]) ∧ w = w' := by
  rcases hk with rfl | rfl | rfl
  · go_enter Try.func19, Try.ntmps19
    go_wp2
    go_loop [1, 6, 7] (fun va vn vi => ∃ j : Nat, j ≤ 2 ∧ vi = .int .i64 j ∧ va = .int .u64 (a / 256 ^ j) ∧ vn = .int .u64 (rev j a)) (fun _ _ vi => 2 - (intOf vi).toNat)
    case atStart => exact ⟨0, Nat.zero_le _, rfl, by simp, rfl⟩
    case round =>
      obtain ⟨j, hj, rfl, rfl, rfl⟩ := hrel
      by_cases hlt : j < 2
      · have hd := divp_bd a j h0 h1
        go_wp2
        go_round
        case rel => exact ⟨j + 1, by omega, by go_num, by rw [div_step], by rw [rev_step2 a j (by omega)]⟩
        case measure => simp [intOf]; omega
      · go_wp2
        go_ret2
        obtain rfl : j = 2 := by omega
        exact ⟨rfl, rfl⟩
  · go_enter Try.func19, Try.ntmps19
    go_wp2
    go_loop [1, 6, 7] (fun va vn vi => ∃ j : Nat, j ≤ 4 ∧ vi = .int .i64 j ∧ va = .int .u64 (a / 256 ^ j) ∧ vn = .int .u64 (rev j a)) (fun _ _ vi => 4 - (intOf vi).toNat)
    case atStart => exact ⟨0, Nat.zero_le _, rfl, by simp, rfl⟩
    case round =>
      obtain ⟨j, hj, rfl, rfl, rfl⟩ := hrel
      by_cases hlt : j < 4
      · have hd := divp_bd a j h0 h1
        go_wp2
        go_round
        case rel => exact ⟨j + 1, by omega, by go_num, by rw [div_step], by rw [rev_step2 a j (by omega)]⟩
        case measure => simp [intOf]; omega
      · go_wp2
        go_ret2
        obtain rfl : j = 4 := by omega
        exact ⟨rfl, rfl⟩
  · go_enter Try.func19, Try.ntmps19
    go_wp2
    go_loop [1, 6, 7] (fun va vn vi => ∃ j : Nat, j ≤ 8 ∧ vi = .int .i64 j ∧ va = .int .u64 (a / 256 ^ j) ∧ vn = .int .u64 (rev j a)) (fun _ _ vi => 8 - (intOf vi).toNat)
    case atStart => exact ⟨0, Nat.zero_le _, rfl, by simp, rfl⟩
    case round =>
      obtain ⟨j, hj, rfl, rfl, rfl⟩ := hrel
      by_cases hlt : j < 8
      · have hd := divp_bd a j h0 h1
        go_wp2
        go_round
        case rel => exact ⟨j + 1, by omega, by go_num, by rw [div_step], by rw [rev_step2 a j (by omega)]⟩
        case measure => simp [intOf]; omega
      · go_wp2
        go_ret2
        obtain rfl : j = 8 := by omega
        exact ⟨rfl, rfl⟩

theorem ext_any (n : Int) (w : World) (h0 : -2147483648 ≤ n) (h1 : n < 2147483648) :
    Calls Try.prog 20 #[.int .i32 n] w fun e w' => e = .returned (.int .u64 (n % 18446744073709551616)) ∧ w = w' := by
  go_enter Try.func20, Try.ntmps20
  go_wp2
  go_ret
  exact ⟨ret_int (by rw [wrap_u64]), rfl⟩
theorem rext_any (n : Int) (w : World) (h0 : -2147483648 ≤ n) (h1 : n < 2147483648) :
    Calls Try.prog 21 #[.int .i32 n] w fun e w' => e = .returned (.int .u64 (n % 18446744073709551616)) ∧ w = w' := by
  go_enter Try.func21, Try.ntmps21
  go_wp2
  all_goals go_ret
  all_goals refine ⟨ret_int ?_, rfl⟩
  all_goals try rw [wrap_u64]
  all_goals omega
end Go.Proofs.Ytgemnkaiajdcfaa
