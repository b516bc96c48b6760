/-
  Contracts of the document's own answers for layer 1 (the reference package).
-/
import Derived.Test.YtgemnkaiajdcfaaSwap
namespace Go.Proofs.Ytgemnkaiajdcfaa
open Go.ChangeShapes Go.WideShapes Go.ChangeAt Go.RowKit

theorem rfit_any (wide : Bool) (a : Int) (w : World) (h0 : 0 ≤ a) (h1 : a < 18446744073709551616) :
    Calls Try.prog 30 #[.bool wide, .int .u64 a] w fun e w' => e = .returned (.int .u64 (a % MD wide)) ∧ w = w' := by
  cases wide
  · go_enter Try.func30, Try.ntmps30
    go_wp2
    go_ret
    exact ⟨rfl, rfl⟩
  · have H := hid (show a = a % MD true from (Int.emod_eq_of_lt h0 h1).symm)
    go_enter Try.func30, Try.ntmps30
    go_wp2
    go_ret
    exact ⟨ret_int H.out, rfl⟩
theorem rfit_as (wide : Bool) (v n : Int) (hv : v = n) (w : World) (h0 : 0 ≤ n) (h1 : n < 18446744073709551616) :
    Calls Try.prog 30 #[.bool wide, .int .u64 v] w fun e w' => e = .returned (.int .u64 (n % MD wide)) ∧ w = w' := hv ▸ rfit_any wide n w h0 h1
theorem rsize_any (wide : Bool) (w : World) : Calls Try.prog 31 #[.bool wide] w fun e w' => e = .returned (.int .u64 (SZ wide)) ∧ w = w' := by
  cases wide
  all_goals
    go_enter Try.func31, Try.ntmps31
    go_wp2
    go_ret
    exact ⟨rfl, rfl⟩
theorem rturned_any (wide : Bool) (a : Int) (w : World) (h0 : 0 ≤ a) (h1 : a < 18446744073709551616) :
    Calls Try.prog 33 #[.bool wide, .int .u64 a] w fun e w' => e = .returned (.int .u64 (sgnI wide (a % MD wide) + TP wide)) ∧ w = w' := by
  have H := hid (xor_top wide (a % MD wide) (fit_bd wide a).1 (fit_bd wide a).2)
  cases wide
  all_goals
    go_enter Try.func33, Try.ntmps33
    go_wp2_with fail
    refine (rfit_any _ a _ h0 h1).mono ?_
    rintro e w' ⟨rfl, rfl⟩
    go_wp2_with fail
    refine (rsize_any _ _).mono ?_
    rintro e w' ⟨rfl, rfl⟩
    simp only [SZ_true, SZ_false]
    go_wp2
    go_ret
    exact ⟨ret_int H.out, rfl⟩

/-- The operations of the reference that do not loop. -/
theorem ralu_plain_k (k op : Int) (hk : Hid (k = op)) (wide : Bool) (a b : Int) (w : World) (h0 : 0 ≤ a) (h1 : a < 18446744073709551616) (g0 : 0 ≤ b) (g1 : b < 18446744073709551616) (hp : plainOp op = true) :
    Calls Try.prog 14 #[.int .i64 op, .bool wide, .int .u64 a, .int .u64 b] w fun e w' => e = .returned (.tuple #[.int .u64 (aluI k wide a b), .int .i64 0]) ∧ w = w' := by
  have hc : op = 0 ∨ op = 1 ∨ op = 2 ∨ op = 4 ∨ op = 5 ∨ op = 6 ∨ op = 7 ∨ op = 8 ∨ op = 10 ∨ op = 11 := by
    simp only [plainOp, Bool.or_eq_true, beq_iff_eq] at hp
    omega
  clear hp
  have hx := fit_bd64 wide a
  have hy := fit_bd64 wide b
  have hbd := hid (ansI_bd k wide _ _ hx.1 hx.2 hy.1 hy.2)
  generalize hX : a % MD wide = x at *
  generalize hY : b % MD wide = y at *
  have HX := hid hX
  have HY := hid hY
  clear hX hY
  obtain ⟨x0, x1⟩ := hx
  obtain ⟨y0, y1⟩ := hy
  rcases hc with rfl | rfl | rfl | rfl | rfl | rfl | rfl | rfl | rfl | rfl
  all_goals
    cases wide
    all_goals
      go_enter Try.func14, Try.ntmps14
      go_wp2_with fail
      refine (rfit_any _ a _ h0 h1).mono ?_
      rintro e w' ⟨rfl, rfl⟩
      rw [HX.out]
      go_wp2_with fail
      refine (rfit_any _ b _ g0 g1).mono ?_
      rintro e w' ⟨rfl, rfl⟩
      rw [HY.out]
      go_wp2_with fail
      refine (rsize_any _ _).mono ?_
      rintro e w' ⟨rfl, rfl⟩
      simp only [SZ_true, SZ_false]
      go_wp2_with fail
      refine (rfit_as _ _ (ansI k _ x y) (by rw [hk.out]; first | rfl | (unfold ansI; simp [wrap_u64, SZ])) _ hbd.out.1 hbd.out.2).mono ?_
      rintro e w' ⟨rfl, rfl⟩
      go_wp2
      go_ret2
      exact ⟨ret_two (by unfold aluI; rw [HX.out, HY.out]) rfl, rfl⟩
theorem ralu_plain (op : Int) (wide : Bool) (a b : Int) (w : World) (h0 : 0 ≤ a) (h1 : a < 18446744073709551616) (g0 : 0 ≤ b) (g1 : b < 18446744073709551616) (hp : plainOp op = true) :
    Calls Try.prog 14 #[.int .i64 op, .bool wide, .int .u64 a, .int .u64 b] w fun e w' => e = .returned (.tuple #[.int .u64 (aluI op wide a b), .int .i64 0]) ∧ w = w' :=
  ralu_plain_k op op (hid rfl) wide a b w h0 h1 g0 g1 hp

theorem ralu_none (op : Int) (wide : Bool) (a b : Int) (w : World) (ho : ¬ (0 ≤ op ∧ op ≤ 12)) :
    Calls Try.prog 14 #[.int .i64 op, .bool wide, .int .u64 a, .int .u64 b] w fun e w' => e = .returned (.tuple #[.int .u64 0, .int .i64 20]) ∧ w = w' := by
  by_cases hn : op < 0
  · clear ho
    go_enter Try.func14, Try.ntmps14
    go_wp2
    go_ret2
    exact ⟨rfl, rfl⟩
  · have hm : 12 < op := by omega
    clear ho
    go_enter Try.func14, Try.ntmps14
    go_wp2
    go_ret2
    exact ⟨rfl, rfl⟩

theorem ansI_3p (wide : Bool) (x y : Int) (h : 0 < y) : ansI 3 wide x y = x / y := by
  show (if y = 0 then 0 else x / y) = _
  rw [if_neg (by omega)]
theorem ansI_9p (wide : Bool) (x y : Int) (h : 0 < y) : ansI 9 wide x y = x % y := by
  show (if y = 0 then x else x % y) = _
  rw [if_neg (by omega)]
theorem ansI_3z (wide : Bool) (x y : Int) (h : y = 0) : ansI 3 wide x y = 0 := by
  show (if y = 0 then 0 else x / y) = _
  rw [if_pos h]
theorem ansI_9z (wide : Bool) (x y : Int) (h : y = 0) : ansI 9 wide x y = x := by
  show (if y = 0 then x else x % y) = _
  rw [if_pos h]
theorem ralu_div (wide : Bool) (a b : Int) (w : World) (h0 : 0 ≤ a) (h1 : a < 18446744073709551616) (g0 : 0 ≤ b) (g1 : b < 18446744073709551616) (op : Int) (hop : op = 3 ∨ op = 9) (k : Int) (hk : Hid (k = op)) :
    Calls Try.prog 14 #[.int .i64 op, .bool wide, .int .u64 a, .int .u64 b] w fun e w' => e = .returned (.tuple #[.int .u64 (aluI k wide a b), .int .i64 0]) ∧ w = w' := by
  have hx := fit_bd64 wide a
  have hy := fit_bd64 wide b
  have hbd := hid (ansI_bd k wide _ _ hx.1 hx.2 hy.1 hy.2)
  generalize hX : a % MD wide = x at *
  generalize hY : b % MD wide = y at *
  have HX := hid hX
  have HY := hid hY
  clear hX hY
  obtain ⟨x0, x1⟩ := hx
  obtain ⟨y0, y1⟩ := hy
  rcases hop with rfl | rfl
  all_goals
    cases wide
    all_goals
      go_enter Try.func14, Try.ntmps14
      go_wp2_with fail
      refine (rfit_any _ a _ h0 h1).mono ?_
      rintro e w' ⟨rfl, rfl⟩
      rw [HX.out]
      go_wp2_with fail
      refine (rfit_any _ b _ g0 g1).mono ?_
      rintro e w' ⟨rfl, rfl⟩
      rw [HY.out]
      go_wp2_with fail
      refine (rsize_any _ _).mono ?_
      rintro e w' ⟨rfl, rfl⟩
      simp only [SZ_true, SZ_false]
      by_cases hp : 0 < y
      all_goals
        go_wp2_with fail
        refine (rfit_as _ _ (ansI k _ x y) (by rw [hk.out]; first | exact (ansI_3p _ x y hp).symm | exact (ansI_9p _ x y hp).symm | exact (ansI_3z _ x y (by omega)).symm | exact (ansI_9z _ x y (by omega)).symm) _ hbd.out.1 hbd.out.2).mono ?_
        rintro e w' ⟨rfl, rfl⟩
        go_wp2
        go_ret2
        exact ⟨ret_two (by unfold aluI; rw [HX.out, HY.out]) rfl, rfl⟩
end Go.Proofs.Ytgemnkaiajdcfaa
