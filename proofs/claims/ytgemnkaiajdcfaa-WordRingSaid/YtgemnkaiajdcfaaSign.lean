/-
  Contracts of the document's own answers: the shift with the sign, and conditions.
-/
import Derived.Test.YtgemnkaiajdcfaaRef
namespace Go.Proofs.Ytgemnkaiajdcfaa
open Go.ChangeShapes Go.WideShapes Go.ChangeAt Go.RowKit

theorem arsh_end (wide : Bool) (x y : Int) (n : Nat) (hn : (n : Int) = y % SZ wide) : sgnI wide x / 2 ^ n % MD wide = ansI 12 wide x y % MD wide := by
  show _ = (sgnI wide x / 2 ^ (y % SZ wide).toNat) % 18446744073709551616 % MD wide
  rw [← hn, Int.toNat_natCast]
  generalize sgnI wide x / 2 ^ n = q
  cases wide
  · rw [MD_false]; omega
  · rw [MD_true]; omega
theorem arsh_end_f (x y : Int) (n : Nat) (h1 : (n : Int) ≤ y % 32) (h2 : y % 32 ≤ n) : sgnI false x / 2 ^ n % MD false = ansI 12 false x y % MD false :=
  arsh_end false x y n (Int.le_antisymm h1 h2)
theorem arsh_end_t (x y : Int) (n : Nat) (h1 : (n : Int) ≤ y % 64) (h2 : y % 64 ≤ n) : sgnI true x / 2 ^ n % MD true = ansI 12 true x y % MD true :=
  arsh_end true x y n (Int.le_antisymm h1 h2)
theorem ralu_arsh (wide : Bool) (a b : Int) (w : World) (h0 : 0 ≤ a) (h1 : a < 18446744073709551616) (g0 : 0 ≤ b) (g1 : b < 18446744073709551616) :
    Calls Try.prog 14 #[.int .i64 12, .bool wide, .int .u64 a, .int .u64 b] w fun e w' => e = .returned (.tuple #[.int .u64 (aluI 12 wide a b), .int .i64 0]) ∧ w = w' := by
  have hx := fit_bd wide a
  have hx64 := fit_bd64 wide a
  have hy := fit_bd64 wide b
  have hbd := hid (ansI_bd 12 wide _ _ hx64.1 hx64.2 hy.1 hy.2)
  generalize hX : a % MD wide = x at *
  generalize hY : b % MD wide = y at *
  have HX := hid hX
  have HY := hid hY
  clear hX hY hx64
  obtain ⟨x0, x1⟩ := hx
  obtain ⟨y0, y1⟩ := hy
  have Hst := hid (fun n : Nat => sign_step wide x n x0 x1)
  have Hb := hid (fun n : Nat => fit_bd64 wide (sgnI wide x / 2 ^ n))
  have Hs := hid (show sgnI wide x / 2 ^ 0 % MD wide = x by
    unfold sgnI
    rw [Int.pow_zero, Int.ediv_one]
    split
    · exact Int.emod_eq_of_lt x0 x1
    · rw [Int.sub_emod_right]; exact Int.emod_eq_of_lt x0 x1)
  cases wide
  · go_enter Try.func14, Try.ntmps14
    go_wp2_with fail
    refine (rfit_any _ a _ h0 h1).mono ?_
    rintro e w' ⟨rfl, rfl⟩
    rw [HX.out]
    go_wp2_with fail
    refine (rfit_any _ b _ g0 g1).mono ?_
    rintro e w' ⟨rfl, rfl⟩
    rw [HY.out]
    go_wp2_with fail
    refine (rsize_any _ _).mono ?_
    rintro e w' ⟨rfl, rfl⟩
    simp only [SZ_false]
    go_wp2_with fail
    refine (rsize_any _ _).mono ?_
    rintro e w' ⟨rfl, rfl⟩
    simp only [SZ_false]
    go_wp2_with fail
    go_loop [13, 15] (fun vr vi => ∃ n : Nat, (n : Int) ≤ y % 32 ∧ vi = .int .u64 n ∧ vr = .int .u64 (sgnI false x / 2 ^ n % MD false)) (fun _ vi => (y % 32 - intOf vi).toNat)
    case atStart => exact ⟨0, by omega, rfl, by rw [Hs.out]⟩
    case round =>
      obtain ⟨n, hn, rfl, rfl⟩ := hrel
      by_cases hlt : (n : Int) < y % 32
      · have hb := Hb.out n
        go_wp2
        go_round
        case rel => exact ⟨n + 1, by omega, by go_num, by rw [← Hst.out n]; rfl⟩
        case measure => simp [intOf]; omega
      · have hb := Hb.out n
        go_wp2_with fail
        refine (rfit_any _ _ _ hb.1 hb.2).mono ?_
        rintro e w' ⟨rfl, rfl⟩
        go_wp2
        go_ret2
        exact ⟨ret_two (by unfold aluI; rw [HX.out, HY.out]; exact arsh_end_f x y n hn (by omega)) rfl, rfl⟩
  · go_enter Try.func14, Try.ntmps14
    go_wp2_with fail
    refine (rfit_any _ a _ h0 h1).mono ?_
    rintro e w' ⟨rfl, rfl⟩
    rw [HX.out]
    go_wp2_with fail
    refine (rfit_any _ b _ g0 g1).mono ?_
    rintro e w' ⟨rfl, rfl⟩
    rw [HY.out]
    go_wp2_with fail
    refine (rsize_any _ _).mono ?_
    rintro e w' ⟨rfl, rfl⟩
    simp only [SZ_true]
    go_wp2_with fail
    refine (rsize_any _ _).mono ?_
    rintro e w' ⟨rfl, rfl⟩
    simp only [SZ_true]
    go_wp2_with fail
    go_loop [13, 15] (fun vr vi => ∃ n : Nat, (n : Int) ≤ y % 64 ∧ vi = .int .u64 n ∧ vr = .int .u64 (sgnI true x / 2 ^ n % MD true)) (fun _ vi => (y % 64 - intOf vi).toNat)
    case atStart => exact ⟨0, by omega, rfl, by rw [Hs.out]⟩
    case round =>
      obtain ⟨n, hn, rfl, rfl⟩ := hrel
      by_cases hlt : (n : Int) < y % 64
      · have hb := Hb.out n
        go_wp2
        go_round
        case rel => exact ⟨n + 1, by omega, by go_num, by rw [← Hst.out n]; rfl⟩
        case measure => simp [intOf]; omega
      · have hb := Hb.out n
        go_wp2_with fail
        refine (rfit_any _ _ _ hb.1 hb.2).mono ?_
        rintro e w' ⟨rfl, rfl⟩
        go_wp2
        go_ret2
        exact ⟨ret_two (by unfold aluI; rw [HX.out, HY.out]; exact arsh_end_t x y n hn (by omega)) rfl, rfl⟩

theorem ralu_any (op : Int) (wide : Bool) (a b : Int) (w : World) (h0 : 0 ≤ a) (h1 : a < 18446744073709551616) (g0 : 0 ≤ b) (g1 : b < 18446744073709551616) :
    Calls Try.prog 14 #[.int .i64 op, .bool wide, .int .u64 a, .int .u64 b] w fun e w' => e = .returned (.tuple #[.int .u64 (aluI op wide a b), .int .i64 (aluE op)]) ∧ w = w' := by
  by_cases ho : 0 ≤ op ∧ op ≤ 12
  · have he : aluE op = 0 := if_pos ho
    rw [he]
    have hc : plainOp op = true ∨ (op = 3 ∨ op = 9) ∨ op = 12 := by
      simp only [plainOp, Bool.or_eq_true, beq_iff_eq]
      omega
    rcases hc with hc | hc | rfl
    · exact ralu_plain op wide a b w h0 h1 g0 g1 hc
    · exact ralu_div wide a b w h0 h1 g0 g1 op hc op (hid rfl)
    · exact ralu_arsh wide a b w h0 h1 g0 g1
  · have he : aluE op = 20 := if_neg ho
    have ha : aluI op wide a b = 0 := by
      unfold aluI ansI
      rw [if_neg (by omega), if_neg (by omega), if_neg (by omega), if_neg (by omega), if_neg (by omega), if_neg (by omega), if_neg (by omega), if_neg (by omega), if_neg (by omega), if_neg (by omega), if_neg (by omega), if_neg (by omega), if_neg (by omega)]
      rfl
    rw [he, ha]
    exact ralu_none op wide a b w ho

theorem dec_add_lt (p q c : Int) : decide (p + c < q + c) = decide (p < q) := by simp
theorem dec_add_le (p q c : Int) : decide (p + c ≤ q + c) = decide (p ≤ q) := by simp
theorem and_pos (x y : Int) : decide (0 < bits .and .u64 x y) = (bits .and .u64 x y != 0) := by
  have h := (bits_bd .and x y).1
  generalize bits .and .u64 x y = z at *
  rw [Bool.eq_iff_iff]
  simp
  omega
set_option maxHeartbeats 1000000 in
theorem rcond_any (op : Int) (wide : Bool) (a b : Int) (w : World) (h0 : 0 ≤ a) (h1 : a < 18446744073709551616) (g0 : 0 ≤ b) (g1 : b < 18446744073709551616) :
    Calls Try.prog 17 #[.int .i64 op, .bool wide, .int .u64 a, .int .u64 b] w fun e w' => e = .returned (.tuple #[.bool (condI op wide a b), .int .i64 (condE op)]) ∧ w = w' := by
  have hx := fit_bd64 wide a
  have hy := fit_bd64 wide b
  have sx := hid (sgn_bd wide _ (fit_bd wide a).1 (fit_bd wide a).2)
  have sy := hid (sgn_bd wide _ (fit_bd wide b).1 (fit_bd wide b).2)
  have hz := hid (show condI op wide a b = cndB op wide (a % MD wide) (b % MD wide) from rfl)
  generalize hX : a % MD wide = x at *
  generalize hY : b % MD wide = y at *
  have HX := hid hX
  have HY := hid hY
  clear hX hY
  obtain ⟨x0, x1⟩ := hx
  obtain ⟨y0, y1⟩ := hy
  go_enter Try.func17, Try.ntmps17
  go_wp2_with fail
  refine (rfit_any _ a _ h0 h1).mono ?_
  rintro e w' ⟨rfl, rfl⟩
  rw [HX.out]
  go_wp2_with fail
  refine (rfit_any _ b _ g0 g1).mono ?_
  rintro e w' ⟨rfl, rfl⟩
  rw [HY.out]
  go_wp2_with fail
  refine (rturned_any _ a _ h0 h1).mono ?_
  rintro e w' ⟨rfl, rfl⟩
  rw [HX.out]
  go_wp2_with fail
  refine (rturned_any _ b _ g0 g1).mono ?_
  rintro e w' ⟨rfl, rfl⟩
  rw [HY.out]
  go_wp2
  all_goals go_ret2
  all_goals refine ⟨?_, rfl⟩
  all_goals rw [hz.out]
  all_goals first
    | exact ret_bi (cnd_at1 (by assumption) wide _ _) (condE_is (k := 1) (by assumption) rfl)
    | exact ret_bi (cnd_at5 (by assumption) wide _ _) (condE_is (k := 5) (by assumption) rfl)
    | exact ret_bi (cnd_at2 (by assumption) wide _ _) (condE_is (k := 2) (by assumption) rfl)
    | exact ret_bi (cnd_at3 (by assumption) wide _ _) (condE_is (k := 3) (by assumption) rfl)
    | exact ret_bi (cnd_at10 (by assumption) wide _ _) (condE_is (k := 10) (by assumption) rfl)
    | exact ret_bi (cnd_at11 (by assumption) wide _ _) (condE_is (k := 11) (by assumption) rfl)
    | exact ret_bi (cnd_at4 (by assumption) wide _ _) (condE_is (k := 4) (by assumption) rfl)
    | exact ret_bi (cnd_at6 (by assumption) wide _ _) (condE_is (k := 6) (by assumption) rfl)
    | exact ret_bi (cnd_at7 (by assumption) wide _ _) (condE_is (k := 7) (by assumption) rfl)
    | exact ret_bi (cnd_at12 (by assumption) wide _ _) (condE_is (k := 12) (by assumption) rfl)
    | exact ret_bi (cnd_at13 (by assumption) wide _ _) (condE_is (k := 13) (by assumption) rfl)
    | exact ret_bi ((dec_add_lt _ _ _).trans (cnd_at6 (by assumption) wide _ _)) (condE_is (k := 6) (by assumption) rfl)
    | exact ret_bi ((dec_add_le _ _ _).trans (cnd_at7 (by assumption) wide _ _)) (condE_is (k := 7) (by assumption) rfl)
    | exact ret_bi ((dec_add_lt _ _ _).trans (cnd_at12 (by assumption) wide _ _)) (condE_is (k := 12) (by assumption) rfl)
    | exact ret_bi ((dec_add_le _ _ _).trans (cnd_at13 (by assumption) wide _ _)) (condE_is (k := 13) (by assumption) rfl)
    | exact ret_bi ((and_pos x y).trans (cnd_at4 (by assumption) wide _ _)) (condE_is (k := 4) (by assumption) rfl)
    | exact ret_bi (cnd_none (by simp only [isCond, *]; rfl) wide _ _).symm (condE_none (by simp only [isCond, *]; rfl)).symm
end Go.Proofs.Ytgemnkaiajdcfaa
