/-
  The laws' own small functions of layer 1: awake, alu, half, size, fit, holds.
-/
import Derived.Test.YtgemnkaiajdcfaaSign
namespace Go.Proofs.Ytgemnkaiajdcfaa
open Go.ChangeShapes Go.WideShapes Go.ChangeAt Go.RowKit

/-- Alu's contract at numerals. -/
theorem alu_is (op : Int) (wide : Bool) (a b r : Int) (hr : aluI op wide a b = r) (k : Int) (hk : aluE op = k) (w : World) (h0 : 0 ≤ a) (h1 : a < 18446744073709551616) (g0 : 0 ≤ b) (g1 : b < 18446744073709551616) :
    Calls Try.prog 13 #[.int .i64 op, .bool wide, .int .u64 a, .int .u64 b] w fun e w' => e = .returned (.tuple #[.int .u64 r, .int .i64 k]) ∧ Below w.heap.size w w' :=
  hr ▸ hk ▸ alu_any op wide a b w h0 h1 g0 g1
theorem cond_is (op : Int) (wide : Bool) (a b : Int) (r : Bool) (hr : condI op wide a b = r) (k : Int) (hk : condE op = k) (w : World) (h0 : 0 ≤ a) (h1 : a < 18446744073709551616) (g0 : 0 ≤ b) (g1 : b < 18446744073709551616) :
    Calls Try.prog 16 #[.int .i64 op, .bool wide, .int .u64 a, .int .u64 b] w fun e w' => e = .returned (.tuple #[.bool r, .int .i64 k]) ∧ Below w.heap.size w w' :=
  hr ▸ hk ▸ cond_any op wide a b w h0 h1 g0 g1
theorem swap_is (bits : Int) (k : Nat) (hb : ((8 * k : Nat) : Int) = bits) (hk : k = 2 ∨ k = 4 ∨ k = 8) (a r : Int) (hr : rev k a = r) (w : World) (h0 : 0 ≤ a) (h1 : a < 18446744073709551616) :
    Calls Try.prog 18 #[.int .i64 bits, .int .u64 a] w fun e w' => e = .returned (.tuple #[.int .u64 r, .int .i64 0]) ∧ w = w' :=
  hb ▸ hr ▸ swap_some k hk a w h0 h1

theorem ext_is (n r : Int) (hr : n % 18446744073709551616 = r) (w : World) (h0 : -2147483648 ≤ n) (h1 : n < 2147483648) :
    Calls Try.prog 20 #[.int .i32 n] w fun e w' => e = .returned (.int .u64 r) ∧ w = w' := hr ▸ ext_any n w h0 h1

theorem awake_any (w : World) : Calls Try.prog 15 #[] w fun e w' => e = .returned (.bool true) ∧ Below w.heap.size w w' := by
  have n1 := hid (show aluI 9 false 4294967303 0 = 7 by decide)
  have n2 := hid (show aluI 12 true 9223372036854775808 63 = 18446744073709551615 by decide)
  have n3 := hid (show condI 6 true 1 18446744073709551615 = true by decide)
  have n4 := hid (show rev 2 4660 = 13330 by decide)
  have n6 := hid (show (-1 : Int) % 18446744073709551616 = 18446744073709551615 by decide)
  have n5 := hid (show aluI 13 true 1 1 = 0 by decide)
  go_enter Try.func15, Try.ntmps15
  go_wp2_with fail
  refine (alu_is _ _ _ _ _ n1.out 0 rfl _ (by decide) (by decide) (by decide) (by decide)).mono ?_
  rintro e w1 ⟨rfl, b1⟩
  go_wp2_with fail
  refine (alu_is _ _ _ _ _ n2.out 0 rfl _ (by decide) (by decide) (by decide) (by decide)).mono ?_
  rintro e w2 ⟨rfl, b2⟩
  go_wp2_with fail
  refine (cond_is _ _ _ _ _ n3.out 0 rfl _ (by decide) (by decide) (by decide) (by decide)).mono ?_
  rintro e w3 ⟨rfl, b3⟩
  go_wp2_with fail
  refine (swap_is _ 2 rfl (by decide) _ _ n4.out _ (by decide) (by decide)).mono ?_
  rintro e w4 ⟨rfl, rfl⟩
  go_wp2_with fail
  refine (alu_is _ _ _ _ _ n5.out 20 rfl _ (by decide) (by decide) (by decide) (by decide)).mono ?_
  rintro e w5 ⟨rfl, b5⟩
  go_wp2_with fail
  refine (ext_is (-1) _ n6.out _ (by decide) (by decide)).mono ?_
  rintro e w6 ⟨rfl, rfl⟩
  go_wp2
  go_ret
  exact ⟨rfl, below_next (below_next (below_next b1 b2) b3) b5⟩

theorem half_any (a : Int) (w : World) (h0 : 0 ≤ a) (h1 : a < 18446744073709551616) :
    Calls Try.prog 25 #[.int .u64 a] w fun e w' => e = .returned (.int .u64 (a % 4294967296)) ∧ w = w' := by
  have H := hid (mask_fit false a h0 h1)
  go_enter Try.func25, Try.ntmps25
  go_wp2
  go_ret
  exact ⟨ret_int H.out, rfl⟩
theorem lsize_any (wide : Bool) (w : World) : Calls Try.prog 24 #[.bool wide] w fun e w' => e = .returned (.int .u64 (SZ wide)) ∧ w = w' := by
  cases wide
  all_goals
    go_enter Try.func24, Try.ntmps24
    go_wp2
    go_ret
    exact ⟨rfl, rfl⟩
theorem lfit_any (wide : Bool) (a : Int) (w : World) (h0 : 0 ≤ a) (h1 : a < 18446744073709551616) :
    Calls Try.prog 23 #[.bool wide, .int .u64 a] w fun e w' => e = .returned (.int .u64 (a % MD wide)) ∧ w = w' := by
  cases wide
  · go_enter Try.func23, Try.ntmps23
    go_wp2_with fail
    refine (half_any a _ h0 h1).mono ?_
    rintro e w1 ⟨rfl, rfl⟩
    go_wp2
    go_ret
    exact ⟨rfl, rfl⟩
  · have H := hid (show a = a % MD true from (Int.emod_eq_of_lt h0 h1).symm)
    go_enter Try.func23, Try.ntmps23
    go_wp2
    go_ret
    exact ⟨ret_int H.out, rfl⟩
theorem lalu_any (op : Int) (wide : Bool) (a b : Int) (w : World) (h0 : 0 ≤ a) (h1 : a < 18446744073709551616) (g0 : 0 ≤ b) (g1 : b < 18446744073709551616) (ho : 0 ≤ op ∧ op ≤ 12) :
    Calls Try.prog 22 #[.int .i64 op, .bool wide, .int .u64 a, .int .u64 b] w fun e w' => e = .returned (.int .u64 (aluI op wide a b)) ∧ Below w.heap.size w w' := by
  go_enter Try.func22, Try.ntmps22
  go_wp2_with fail
  refine (alu_is op wide a b _ rfl 0 (if_pos ho) _ h0 h1 g0 g1).mono ?_
  rintro e w1 ⟨rfl, b1⟩
  go_wp2
  go_ret
  exact ⟨rfl, b1⟩
theorem holds_any (op : Int) (wide : Bool) (a b : Int) (w : World) (h0 : 0 ≤ a) (h1 : a < 18446744073709551616) (g0 : 0 ≤ b) (g1 : b < 18446744073709551616) (ho : isCond op = true) :
    Calls Try.prog 26 #[.int .i64 op, .bool wide, .int .u64 a, .int .u64 b] w fun e w' => e = .returned (.tuple #[.bool (condI op wide a b), .bool true]) ∧ Below w.heap.size w w' := by
  go_enter Try.func26, Try.ntmps26
  go_wp2_with fail
  refine (cond_is op wide a b _ rfl 0 (if_pos ho) _ h0 h1 g0 g1).mono ?_
  rintro e w1 ⟨rfl, b1⟩
  go_wp2
  go_ret2
  exact ⟨rfl, b1⟩
end Go.Proofs.Ytgemnkaiajdcfaa
