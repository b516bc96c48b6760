/-
  Law WordShifts (the stage's theorem): shifting up multiplies by a power of 2, down divides, with the sign it divides as a floor does. No condition.
-/
import Derived.Test.YtgemnkaiajdcfaaDivides
namespace Go.Proofs.Ytgemnkaiajdcfaa
open Go.ChangeShapes Go.WideShapes Go.ChangeAt Go.RowKit

theorem lalu_v (op : Int) (wide : Bool) (a v b r : Int) (hv : Hid (v = b)) (hr : Hid (aluI op wide a b = r)) (w : World) (h0 : 0 ≤ a) (h1 : a < 18446744073709551616) (g0 : 0 ≤ b) (g1 : b < 18446744073709551616) (ho : 0 ≤ op ∧ op ≤ 12) :
    Calls Try.prog 22 #[.int .i64 op, .bool wide, .int .u64 a, .int .u64 v] w fun e w' => e = .returned (.int .u64 r) ∧ Below w.heap.size w w' := hv.out ▸ lalu_as op wide a b r hr w h0 h1 g0 g1 ho

/-- What a shift counts. -/
def SH (wide : Bool) (b : Int) : Nat := (b % MD wide % SZ wide).toNat
theorem SH_lt (wide : Bool) (b : Int) : SH wide b ≤ (SZ wide - 1).toNat := by
  have h1 := Int.emod_nonneg (b % MD wide) (b := SZ wide) (by have := SZ_pos wide; omega)
  have h2 := Int.emod_lt_of_pos (b % MD wide) (SZ_pos wide)
  unfold SH
  omega
theorem pow_le {n m : Nat} (h : n ≤ m) : (2 : Int) ^ n ≤ 2 ^ m := by
  have := Nat.pow_le_pow_right (n := 2) (by decide) h
  exact_mod_cast this
theorem power_bd (wide : Bool) (b : Int) : 0 < (2 : Int) ^ SH wide b ∧ (2 : Int) ^ SH wide b ≤ TP wide := ⟨pow_pos _, by rw [TP_pow]; exact pow_le (SH_lt wide b)⟩
theorem power_is (wide : Bool) (b : Int) : IntKind.u64.wrap (2 ^ SH wide b) = 2 ^ SH wide b := by
  have h := power_bd wide b
  have h2 := TP_two wide
  have h3 := MD_le wide
  rw [wrap_u64, Int.emod_eq_of_lt (by omega) (by omega)]
theorem power_fit (wide : Bool) (b : Int) : (2 : Int) ^ SH wide b % MD wide = 2 ^ SH wide b := by
  have h := power_bd wide b
  have h2 := TP_two wide
  rw [Int.emod_eq_of_lt (by omega) (by omega)]
theorem lsh_is (wide : Bool) (a b : Int) : aluI 2 wide a (2 ^ SH wide b) = aluI 6 wide a b := by
  rw [mul_is]
  show _ = (a % MD wide * 2 ^ SH wide b) % 18446744073709551616 % MD wide
  rw [emod_big, mul_emod_l]
theorem rsh_is (wide : Bool) (a b : Int) : aluI 3 wide a (2 ^ SH wide b) = aluI 7 wide a b := by
  have ha := fit_bd wide a
  have hm := MD_le wide
  have hp := pow_pos (SH wide b)
  have hd := div_bd _ _ ha.1 (by omega : a % MD wide < 18446744073709551616) hp
  have hl := Int.ediv_le_self (2 ^ SH wide b) ha.1
  rw [div_is wide a _ (by rw [power_fit]; exact hp), power_fit]
  show _ = (a % MD wide / 2 ^ SH wide b) % MD wide
  rw [Int.emod_eq_of_lt hd.1 (by omega)]
theorem rsh_val (wide : Bool) (a b : Int) : aluI 7 wide a b = a % MD wide / 2 ^ SH wide b := by
  have ha := fit_bd wide a
  have hm := MD_le wide
  have hp := pow_pos (SH wide b)
  have hd := div_bd _ _ ha.1 (by omega : a % MD wide < 18446744073709551616) hp
  have hl := Int.ediv_le_self (2 ^ SH wide b) ha.1
  show (a % MD wide / 2 ^ SH wide b) % MD wide = _
  rw [Int.emod_eq_of_lt hd.1 (by omega)]
theorem arsh_val (wide : Bool) (a b : Int) : aluI 12 wide a b = sgnI wide (a % MD wide) / 2 ^ SH wide b % MD wide := by
  show (sgnI wide (a % MD wide) / 2 ^ SH wide b) % 18446744073709551616 % MD wide = _
  rw [emod_big]
theorem arsh_low (wide : Bool) (a b : Int) (h : a % MD wide < TP wide) : aluI 12 wide a b = aluI 7 wide a b := by
  have h2 := TP_two wide
  rw [arsh_val]
  unfold sgnI
  rw [if_pos (by omega)]
  rfl
theorem floor_turn (m d : Int) (hd : 0 < d) : (-m - 1) / d = -(m / d) - 1 := by
  have h1 := Int.mul_ediv_add_emod m d
  have h2 := Int.emod_nonneg m (b := d) (by omega)
  have h3 := Int.emod_lt_of_pos m hd
  have e : -m - 1 = (d - 1 - m % d) + d * (-(m / d) - 1) := by
    rw [Int.mul_sub, Int.mul_neg]; omega
  rw [e, Int.add_mul_ediv_left _ _ (by omega), Int.ediv_eq_zero_of_lt (by omega) (by omega)]
  omega
theorem arsh_high (wide : Bool) (a b : Int) (h : ¬ a % MD wide < TP wide) : aluI 12 wide a b = (18446744073709551615 - (MD wide - 1 - a % MD wide) / 2 ^ SH wide b) % MD wide := by
  have h2 := TP_two wide
  have hp := pow_pos (SH wide b)
  rw [arsh_val]
  unfold sgnI
  rw [if_neg (by omega)]
  have e : a % MD wide - MD wide = -(MD wide - 1 - a % MD wide) - 1 := by omega
  rw [e, floor_turn _ _ hp]
  generalize (MD wide - 1 - a % MD wide) / 2 ^ SH wide b = q
  cases wide
  · rw [MD_false]; omega
  · rw [MD_true]; omega
theorem not_fit (wide : Bool) (a : Int) : (18446744073709551615 - a) % MD wide = MD wide - 1 - a % MD wide := by
  cases wide
  · rw [MD_false]; omega
  · rw [MD_true]; omega

theorem nat_not (n : Nat) (h : n < 2 ^ 64) : (2 ^ 64 - 1) ^^^ n = 2 ^ 64 - 1 - n := by
  apply Nat.eq_of_testBit_eq
  intro i
  have e : 2 ^ 64 - 1 - n = 2 ^ 64 - (n + 1) := by omega
  rw [e, Nat.testBit_two_pow_sub_succ h, Nat.testBit_xor, Nat.testBit_two_pow_sub_one]
  by_cases hi : i < 64
  · simp [hi]
  · rw [Nat.testBit_lt_two_pow (Nat.lt_of_lt_of_le h (Nat.pow_le_pow_right (by decide) (by omega)))]
    simp [hi]
theorem not_is (a : Int) (h0 : 0 ≤ a) (h1 : a < 18446744073709551616) : bits .xor .u64 IntKind.u64.max a = 18446744073709551615 - a := by
  have e : IntKind.u64.max = 18446744073709551615 := rfl
  rw [e, u64_xor _ _ (by decide) (by decide) h0 h1]
  show (((2 ^ 64 - 1) ^^^ a.toNat : Nat) : Int) = _
  rw [nat_not _ (by omega)]
  omega
theorem lfit_v (wide : Bool) (v a r : Int) (hv : Hid (v = a)) (hr : Hid (a % MD wide = r)) (w : World) (h0 : 0 ≤ a) (h1 : a < 18446744073709551616) :
    Calls Try.prog 23 #[.bool wide, .int .u64 v] w fun e w' => e = .returned (.int .u64 r) ∧ w = w' := hv.out ▸ lfit_as wide a r hr w h0 h1
set_option maxRecDepth 100000 in
set_option maxHeartbeats 2000000 in
theorem wordShifts_walk (wide : Bool) (a b : Int) (h0 : 0 ≤ a) (h1 : a < 18446744073709551616) (g0 : 0 ≤ b) (g1 : b < 18446744073709551616) (w : World) :
    Calls Try.prog 8 #[.bool wide, .int .u64 a, .int .u64 b] w fun e w' => e = .returned (.bool true) ∧ Below w.heap.size w w' := by
  have hX := fit_bd64 wide a
  have hXM := fit_bd wide a
  have hY := fit_bd64 wide b
  have hL := hid (lsh_is wide a b)
  have hR := hid (rsh_is wide a b)
  have hPi := hid (power_is wide b)
  have hPb := power_bd wide b
  have hTP := TP_two wide
  have hMD := MD_le wide
  have hlow := hid (arsh_low wide a b)
  have hhigh := hid (arsh_high wide a b)
  have hnf := hid (not_fit wide a)
  obtain ⟨Y, eY⟩ := named (b % MD wide)
  rw [eY.out] at hY
  obtain ⟨y0, y1⟩ := hY
  obtain ⟨X, eX⟩ := named (a % MD wide)
  rw [eX.out] at hX hXM hlow hhigh hnf
  obtain ⟨x0, x1⟩ := hX
  obtain ⟨_, xM⟩ := hXM
  have p0 : (0 : Int) ≤ 2 ^ SH wide b := by omega
  have p1 : (2 : Int) ^ SH wide b < 18446744073709551616 := by omega
  have hq := fun (z0 : 0 ≤ MD wide - 1 - X) => div_bd (MD wide - 1 - X) (2 ^ SH wide b) z0 (by omega) hPb.1
  have eS := hid (show (Y % SZ wide).toNat = SH wide b by rw [← eY.out]; rfl)
  have HB := hid hPb
  clear hPb hTP
  obtain ⟨P, eP⟩ := named ((2 : Int) ^ SH wide b)
  rw [eP.out] at p0 p1 hL hR hPi hhigh
  have hPi2 := hid (show IntKind.u64.wrap (2 ^ (Y % SZ wide).toNat) = P by rw [eS.out, eP.out]; exact hPi.out)
  obtain ⟨U, eU⟩ := named (aluI 6 wide a b)
  obtain ⟨D, eD⟩ := named (aluI 7 wide a b)
  obtain ⟨A, eA⟩ := named (aluI 12 wide a b)
  rw [eU.out] at hL
  rw [eD.out] at hR hlow
  rw [eA.out] at hlow hhigh
  cases wide
  · have hPi3 := hid (show IntKind.u64.wrap (2 ^ (Y % 32).toNat) = P from hPi2.out)
    have eS3 := hid (show (Y % 32).toNat = SH false b from eS.out)
    by_cases hlo : X < 2147483648
    · obtain rfl : A = D := hlow.out hlo
      have ht : (X / 2147483648 == 0) = true := by simp; omega
      go_enter Try.func8, Try.ntmps8
      go_wp2_with fail
      refine (awake_any _).mono ?_
      rintro e w0 ⟨rfl, b0⟩
      go_wp2_with fail
      refine (lfit_as _ b _ eY _ g0 g1).mono ?_
      rintro e w' ⟨rfl, rfl⟩
      go_wp2_with fail
      refine (lsize_any _ _).mono ?_
      rintro e w' ⟨rfl, rfl⟩
      simp only [SZ_false]
      go_wp2_with fail
      refine (lalu_as _ _ _ _ _ eU _ h0 h1 g0 g1 (by decide)).mono ?_
      rintro e w1 ⟨rfl, b1⟩
      go_wp2_with fail
      refine (lalu_as _ _ _ _ _ eD _ h0 h1 g0 g1 (by decide)).mono ?_
      rintro e w2 ⟨rfl, b2⟩
      go_wp2_with fail
      refine (lalu_as _ _ _ _ _ eA _ h0 h1 g0 g1 (by decide)).mono ?_
      rintro e w3 ⟨rfl, b3⟩
      go_wp2_with fail
      refine (lalu_v _ _ _ _ P _ hPi3 hL _ h0 h1 p0 p1 (by decide)).mono ?_
      rintro e w4 ⟨rfl, b4⟩
      go_wp2_with fail
      refine (lalu_v _ _ _ _ P _ hPi3 hR _ h0 h1 p0 p1 (by decide)).mono ?_
      rintro e w5 ⟨rfl, b5⟩
      go_wp2_with fail
      refine (lfit_as _ a _ eX _ h0 h1).mono ?_
      rintro e w' ⟨rfl, rfl⟩
      go_wp2_with fail
      refine (lsize_any _ _).mono ?_
      rintro e w' ⟨rfl, rfl⟩
      simp only [SZ_false]
      go_wp2
      go_ret
      exact ⟨rfl, below_next (below_next (below_next (below_next (below_next b0 b1) b2) b3) b4) b5⟩
    · have ht : (X / 2147483648 == 0) = false := by simp; omega
      have hn1 := hid (not_is a h0 h1)
      have zb : 0 ≤ MD false - 1 - X ∧ MD false - 1 - X < 18446744073709551616 := by omega
      have eZ := hid hnf.out
      have hA := hid (hhigh.out hlo).symm
      have tb := hq zb.1
      rw [eP.out] at tb
      obtain ⟨Z, eZ2⟩ := named (MD false - 1 - X)
      rw [eZ2.out] at eZ hA tb zb
      obtain ⟨T, eT⟩ := named (Z / P)
      rw [eT.out] at hA tb
      have hn2 := hid (show bits .xor .u64 IntKind.u64.max (Z / 2 ^ (Y % 32).toNat) = 18446744073709551615 - T by rw [eS3.out, eP.out, eT.out]; exact not_is T tb.1 tb.2)
      clear hq
      obtain ⟨z0, z1⟩ := zb
      obtain ⟨t0, t1⟩ := tb
      go_enter Try.func8, Try.ntmps8
      go_wp2_with fail
      refine (awake_any _).mono ?_
      rintro e w0 ⟨rfl, b0⟩
      go_wp2_with fail
      refine (lfit_as _ b _ eY _ g0 g1).mono ?_
      rintro e w' ⟨rfl, rfl⟩
      go_wp2_with fail
      refine (lsize_any _ _).mono ?_
      rintro e w' ⟨rfl, rfl⟩
      simp only [SZ_false]
      go_wp2_with fail
      refine (lalu_as _ _ _ _ _ eU _ h0 h1 g0 g1 (by decide)).mono ?_
      rintro e w1 ⟨rfl, b1⟩
      go_wp2_with fail
      refine (lalu_as _ _ _ _ _ eD _ h0 h1 g0 g1 (by decide)).mono ?_
      rintro e w2 ⟨rfl, b2⟩
      go_wp2_with fail
      refine (lalu_as _ _ _ _ _ eA _ h0 h1 g0 g1 (by decide)).mono ?_
      rintro e w3 ⟨rfl, b3⟩
      go_wp2_with fail
      refine (lalu_v _ _ _ _ P _ hPi3 hL _ h0 h1 p0 p1 (by decide)).mono ?_
      rintro e w4 ⟨rfl, b4⟩
      go_wp2_with fail
      refine (lalu_v _ _ _ _ P _ hPi3 hR _ h0 h1 p0 p1 (by decide)).mono ?_
      rintro e w5 ⟨rfl, b5⟩
      go_wp2_with fail
      refine (lfit_as _ a _ eX _ h0 h1).mono ?_
      rintro e w' ⟨rfl, rfl⟩
      go_wp2_with fail
      refine (lsize_any _ _).mono ?_
      rintro e w' ⟨rfl, rfl⟩
      simp only [SZ_false]
      go_wp2_with fail
      refine (lfit_v _ _ (18446744073709551615 - a) Z hn1 eZ _ (by omega) (by omega)).mono ?_
      rintro e w' ⟨rfl, rfl⟩
      go_wp2_with fail
      refine (lfit_v _ _ (18446744073709551615 - T) A hn2 hA _ (by omega) (by omega)).mono ?_
      rintro e w' ⟨rfl, rfl⟩
      go_wp2
      go_ret
      exact ⟨rfl, below_next (below_next (below_next (below_next (below_next b0 b1) b2) b3) b4) b5⟩
  · have hPi3 := hid (show IntKind.u64.wrap (2 ^ (Y % 64).toNat) = P from hPi2.out)
    have eS3 := hid (show (Y % 64).toNat = SH true b from eS.out)
    by_cases hlo : X < 9223372036854775808
    · obtain rfl : A = D := hlow.out hlo
      have ht : (X / 9223372036854775808 == 0) = true := by simp; omega
      go_enter Try.func8, Try.ntmps8
      go_wp2_with fail
      refine (awake_any _).mono ?_
      rintro e w0 ⟨rfl, b0⟩
      go_wp2_with fail
      refine (lfit_as _ b _ eY _ g0 g1).mono ?_
      rintro e w' ⟨rfl, rfl⟩
      go_wp2_with fail
      refine (lsize_any _ _).mono ?_
      rintro e w' ⟨rfl, rfl⟩
      simp only [SZ_true]
      go_wp2_with fail
      refine (lalu_as _ _ _ _ _ eU _ h0 h1 g0 g1 (by decide)).mono ?_
      rintro e w1 ⟨rfl, b1⟩
      go_wp2_with fail
      refine (lalu_as _ _ _ _ _ eD _ h0 h1 g0 g1 (by decide)).mono ?_
      rintro e w2 ⟨rfl, b2⟩
      go_wp2_with fail
      refine (lalu_as _ _ _ _ _ eA _ h0 h1 g0 g1 (by decide)).mono ?_
      rintro e w3 ⟨rfl, b3⟩
      go_wp2_with fail
      refine (lalu_v _ _ _ _ P _ hPi3 hL _ h0 h1 p0 p1 (by decide)).mono ?_
      rintro e w4 ⟨rfl, b4⟩
      go_wp2_with fail
      refine (lalu_v _ _ _ _ P _ hPi3 hR _ h0 h1 p0 p1 (by decide)).mono ?_
      rintro e w5 ⟨rfl, b5⟩
      go_wp2_with fail
      refine (lfit_as _ a _ eX _ h0 h1).mono ?_
      rintro e w' ⟨rfl, rfl⟩
      go_wp2_with fail
      refine (lsize_any _ _).mono ?_
      rintro e w' ⟨rfl, rfl⟩
      simp only [SZ_true]
      go_wp2
      go_ret
      exact ⟨rfl, below_next (below_next (below_next (below_next (below_next b0 b1) b2) b3) b4) b5⟩
    · have ht : (X / 9223372036854775808 == 0) = false := by simp; omega
      have hn1 := hid (not_is a h0 h1)
      have zb : 0 ≤ MD true - 1 - X ∧ MD true - 1 - X < 18446744073709551616 := by omega
      have eZ := hid hnf.out
      have hA := hid (hhigh.out hlo).symm
      have tb := hq zb.1
      rw [eP.out] at tb
      obtain ⟨Z, eZ2⟩ := named (MD true - 1 - X)
      rw [eZ2.out] at eZ hA tb zb
      obtain ⟨T, eT⟩ := named (Z / P)
      rw [eT.out] at hA tb
      have hn2 := hid (show bits .xor .u64 IntKind.u64.max (Z / 2 ^ (Y % 64).toNat) = 18446744073709551615 - T by rw [eS3.out, eP.out, eT.out]; exact not_is T tb.1 tb.2)
      clear hq
      obtain ⟨z0, z1⟩ := zb
      obtain ⟨t0, t1⟩ := tb
      go_enter Try.func8, Try.ntmps8
      go_wp2_with fail
      refine (awake_any _).mono ?_
      rintro e w0 ⟨rfl, b0⟩
      go_wp2_with fail
      refine (lfit_as _ b _ eY _ g0 g1).mono ?_
      rintro e w' ⟨rfl, rfl⟩
      go_wp2_with fail
      refine (lsize_any _ _).mono ?_
      rintro e w' ⟨rfl, rfl⟩
      simp only [SZ_true]
      go_wp2_with fail
      refine (lalu_as _ _ _ _ _ eU _ h0 h1 g0 g1 (by decide)).mono ?_
      rintro e w1 ⟨rfl, b1⟩
      go_wp2_with fail
      refine (lalu_as _ _ _ _ _ eD _ h0 h1 g0 g1 (by decide)).mono ?_
      rintro e w2 ⟨rfl, b2⟩
      go_wp2_with fail
      refine (lalu_as _ _ _ _ _ eA _ h0 h1 g0 g1 (by decide)).mono ?_
      rintro e w3 ⟨rfl, b3⟩
      go_wp2_with fail
      refine (lalu_v _ _ _ _ P _ hPi3 hL _ h0 h1 p0 p1 (by decide)).mono ?_
      rintro e w4 ⟨rfl, b4⟩
      go_wp2_with fail
      refine (lalu_v _ _ _ _ P _ hPi3 hR _ h0 h1 p0 p1 (by decide)).mono ?_
      rintro e w5 ⟨rfl, b5⟩
      go_wp2_with fail
      refine (lfit_as _ a _ eX _ h0 h1).mono ?_
      rintro e w' ⟨rfl, rfl⟩
      go_wp2_with fail
      refine (lsize_any _ _).mono ?_
      rintro e w' ⟨rfl, rfl⟩
      simp only [SZ_true]
      go_wp2_with fail
      refine (lfit_v _ _ (18446744073709551615 - a) Z hn1 eZ _ (by omega) (by omega)).mono ?_
      rintro e w' ⟨rfl, rfl⟩
      go_wp2_with fail
      refine (lfit_v _ _ (18446744073709551615 - T) A hn2 hA _ (by omega) (by omega)).mono ?_
      rintro e w' ⟨rfl, rfl⟩
      go_wp2
      go_ret
      exact ⟨rfl, below_next (below_next (below_next (below_next (below_next b0 b1) b2) b3) b4) b5⟩

/-! ### WordShifts -/
namespace wordShifts
set_option maxRecDepth 100000 in
theorem lifted (os : Os) (started : os.Started) (H : Type) (enc : TypeId × Value → H) :
    ReturnsInHanded {} Try.checked os 8 .any (Rows.wordShiftsSpec.pre6 enc Try.prog Try.f8 Rows.wordShiftsRow.domain false) (Rows.wordShiftsSpec.post enc Try.prog Try.f8 false true false false) := by
  refine returnsInHanded_of_change (C := Try.checked) own started (by kernel_rfl) Try.func8
    (ChangeSpec.witness6 (enc := enc) (C := Try.checked) false ⟨#[], #[.bool false, .int .u64 0, .int .u64 0], []⟩ 8 (by kernel_rfl) (by kernel_rfl) (by kernel_rfl) (by kernel_rfl)) ?_
  intro W base args ds gs before hval0 hW _ _
  have hval : ∀ (j : Nat) t v, Try.f8.params[j]? = some t → args[j]? = some v → Value.okWide Try.prog W .any base t v := hval0
  have hW' := hW
  obtain ⟨p, q, hA0, hV, rfl, _, _⟩ := hW
  have hA : DataW.TrodAll enc Try.prog W 0 (fun _ => true) true Try.f8.params.toList args.toList ds p := hA0
  rw [Try.params8] at hA hval
  obtain ⟨v0, vs0, d0, ds0, p0, q0, hargs, rfl, rfl, h0, r0⟩ := trodAll_cons hA
  obtain ⟨v1, vs1, d1, ds1, p1, q1, rfl, rfl, rfl, h1, r1⟩ := trodAll_cons r0
  obtain ⟨v2, vs2, d2, ds2, p2, q2, rfl, rfl, rfl, h2, r2⟩ := trodAll_cons r1
  obtain ⟨rfl, rfl, rfl⟩ := trodAll_nil r2
  obtain rfl : args = #[v0, v1, v2] := by cases args; simp_all
  obtain ⟨rfl, rfl⟩ := trodVars_none hV
  obtain ⟨wide, rfl, rfl, rfl⟩ := open_bool Try.underlying4 (hval 0 4 v0 rfl rfl) h0
  obtain ⟨a, rfl, rfl, rfl, wa⟩ := open_int Try.underlying22 (hval 1 22 v1 rfl rfl) h1
  obtain ⟨b, rfl, rfl, rfl, wb⟩ := open_int Try.underlying22 (hval 2 22 v2 rfl rfl) h2
  obtain ⟨lo_a, hi_a⟩ := bounds_u64 wa
  obtain ⟨lo_b, hi_b⟩ := bounds_u64 wb
  clear hA0 hval0
  refine (wordShifts_walk wide a b lo_a (by omega) lo_b (by omega) W).mono fun e W' ⟨he, hb⟩ => ?_
  subst he
  exact ⟨_, rfl, law_shut laid hW' rfl rfl Try.underlying4 (by kernel_rfl) rfl rfl rfl hb⟩

theorem over : Rows.wordShiftsRow.holds Try.pinned (OpenSpec.ofChange Rows.wordShiftsSpec) :=
  OpenClaim.holds_of_wide 8 Try.f8 rfl rfl rfl rfl rfl rfl rfl ⟨rfl, rfl, rfl, rfl, rfl⟩ rfl rfl rfl rfl rfl (by kernel_rfl) Try.func8 (by kernel_rfl)
    (of_decide_eq_true (by kernel_rfl)) (by unfold Func.isWrapper; first | (rw [if_pos (by decide +kernel)]; kernel_rfl) | (rw [if_neg (by decide +kernel)]; exact ⟨rfl, rfl⟩))
    (fun os started H enc _ => lifted os started H enc)

theorem proved : Rows.WordShiftsSaid :=
  over
end wordShifts

end Go.Proofs.Ytgemnkaiajdcfaa
