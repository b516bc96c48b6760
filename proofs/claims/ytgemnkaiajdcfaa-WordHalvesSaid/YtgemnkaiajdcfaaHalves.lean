/-
  Law WordHalves: what is not wide hangs on the halves alone and is below 2^32; sums, products and bits are the halves of the wide ones. No condition.
-/
import Derived.Test.YtgemnkaiajdcfaaShifts
import Derived.Lib.SmallJoins
namespace Go.Proofs.Ytgemnkaiajdcfaa
open Go.ChangeShapes Go.WideShapes Go.ChangeAt Go.RowKit

theorem or_high (a c : Int) : bits .or .u64 (a % 4294967296) (IntKind.u64.wrap (c * 4294967296)) % 4294967296 = a % 4294967296 := by
  rw [wrap_u64, u64_or _ _ (by omega) (by omega) (by omega) (by omega), Nat.or_comm, nat_join 32 _ _ (by omega) (by omega)]
  omega
theorem half_or (a b : Int) : aluI 4 true a b % 4294967296 = aluI 4 false a b := by
  have ha := fit_bd true a
  have hb := fit_bd true b
  have ka := fit_bd false a
  have kb := fit_bd false b
  have h1 := or_lt true _ _ ha.1 ha.2 hb.1 hb.2
  have h2 := or_lt false _ _ ka.1 ka.2 kb.1 kb.2
  show bits .or .u64 (a % MD true) (b % MD true) % MD true % 4294967296 = bits .or .u64 (a % MD false) (b % MD false) % MD false
  rw [Int.emod_eq_of_lt (by rw [h1.1]; omega) h1.2, Int.emod_eq_of_lt (by rw [h2.1]; omega) h2.2, h1.1, h2.1]
  rw [show ((4294967296 : Int)) = ((2 ^ 32 : Nat) : Int) from rfl, ← Int.natCast_emod, Nat.or_mod_two_pow]
  simp only [MD_true, MD_false] at *
  congr 2 <;> omega
theorem half_xor (a b : Int) : aluI 10 true a b % 4294967296 = aluI 10 false a b := by
  have ha := fit_bd true a
  have hb := fit_bd true b
  have ka := fit_bd false a
  have kb := fit_bd false b
  have h1 := xor_lt true _ _ ha.1 ha.2 hb.1 hb.2
  have h2 := xor_lt false _ _ ka.1 ka.2 kb.1 kb.2
  show bits .xor .u64 (a % MD true) (b % MD true) % MD true % 4294967296 = bits .xor .u64 (a % MD false) (b % MD false) % MD false
  rw [Int.emod_eq_of_lt (by rw [h1.1]; omega) h1.2, Int.emod_eq_of_lt (by rw [h2.1]; omega) h2.2, h1.1, h2.1]
  rw [show ((4294967296 : Int)) = ((2 ^ 32 : Nat) : Int) from rfl, ← Int.natCast_emod, Nat.xor_mod_two_pow]
  simp only [MD_true, MD_false] at *
  congr 2 <;> omega
theorem half_and (a b : Int) : aluI 5 true a b % 4294967296 = aluI 5 false a b := by
  have ha := fit_bd true a
  have hb := fit_bd true b
  have ka := fit_bd false a
  have kb := fit_bd false b
  simp only [MD_true, MD_false] at ha hb ka kb
  have h1 := and_le_l (a % 18446744073709551616) (b % 18446744073709551616) ha.1 ha.2 hb.1 hb.2
  have h2 := and_le_l (a % 4294967296) (b % 4294967296) ka.1 (by omega) kb.1 (by omega)
  show bits .and .u64 (a % 18446744073709551616) (b % 18446744073709551616) % 18446744073709551616 % 4294967296 = bits .and .u64 (a % 4294967296) (b % 4294967296) % 4294967296
  rw [Int.emod_eq_of_lt (a := bits .and .u64 (a % 18446744073709551616) (b % 18446744073709551616)) (by rw [h1.1]; omega) (by omega), Int.emod_eq_of_lt (a := bits .and .u64 (a % 4294967296) (b % 4294967296)) (by rw [h2.1]; omega) (by omega), h1.1, h2.1]
  rw [show ((4294967296 : Int)) = ((2 ^ 32 : Nat) : Int) from rfl, ← Int.natCast_emod, Nat.and_mod_two_pow]
  congr 2 <;> omega
theorem big_half (n : Int) : n % MD true % 4294967296 = n % MD false := by rw [MD_true, MD_false]; omega
theorem half_wide (op : Int) (a b : Int) (h : plainOp op = true) (h6 : ¬ op = 6) (h7 : ¬ op = 7) : aluI op true a b % 4294967296 = aluI op false a b := by
  have hc : op = 0 ∨ op = 1 ∨ op = 2 ∨ op = 4 ∨ op = 5 ∨ op = 8 ∨ op = 10 ∨ op = 11 := by
    simp only [plainOp, Bool.or_eq_true, beq_iff_eq] at h
    omega
  rcases hc with rfl | rfl | rfl | rfl | rfl | rfl | rfl | rfl
  · rw [add_is, add_is, big_half]
  · rw [sub_is, sub_is, big_half]
  · rw [mul_is, mul_is, big_half]
  · exact half_or a b
  · exact half_and a b
  · rw [neg_is, neg_is, big_half]
  · exact half_xor a b
  · rw [mov_is, mov_is, big_half]
theorem alu_as (op : Int) (wide : Bool) (a b r k : Int) (hr : Hid (aluI op wide a b = r)) (hk : Hid (aluE op = k)) (w : World) (h0 : 0 ≤ a) (h1 : a < 18446744073709551616) (g0 : 0 ≤ b) (g1 : b < 18446744073709551616) :
    Calls Try.prog 13 #[.int .i64 op, .bool wide, .int .u64 a, .int .u64 b] w fun e w' => e = .returned (.tuple #[.int .u64 r, .int .i64 k]) ∧ Below w.heap.size w w' :=
  alu_is op wide a b r hr.out k hk.out w h0 h1 g0 g1
theorem half_v (a r : Int) (hr : Hid (a % 4294967296 = r)) (w : World) (h0 : 0 ≤ a) (h1 : a < 18446744073709551616) :
    Calls Try.prog 25 #[.int .u64 a] w fun e w' => e = .returned (.int .u64 r) ∧ w = w' := hr.out ▸ half_any a w h0 h1
theorem fit_f (op a b v u : Int) (hv : v % 4294967296 = a % 4294967296) (hu : u % 4294967296 = b % 4294967296) : aluI op false v u = aluI op false a b := by
  unfold aluI
  rw [MD_false, hv, hu]


set_option maxRecDepth 100000 in
set_option maxHeartbeats 4000000 in
theorem wordHalves_walk (op : Int) (wide : Bool) (a b c d : Int) (_o0 : -9223372036854775808 ≤ op) (_o1 : op < 9223372036854775808) (h0 : 0 ≤ a) (h1 : a < 18446744073709551616) (g0 : 0 ≤ b) (g1 : b < 18446744073709551616) (_c0 : 0 ≤ c) (_c1 : c < 18446744073709551616) (_d0 : 0 ≤ d) (_d1 : d < 18446744073709551616) (w : World) :
    Calls Try.prog 9 #[.agg #[.int .i64 op, .bool wide, .int .u64 a, .int .u64 b], .int .u64 c, .int .u64 d] w fun e w' => e = .returned (.bool true) ∧ Below w.heap.size w w' := by
  obtain ⟨R, hR⟩ := named (aluI op false a b)
  have hRb := aluI_bd op false a b
  rw [hR.out, MD_false] at hRb
  obtain ⟨r0, r1⟩ := hRb
  have hR2 : Hid (aluI op false (bits .or .u64 (a % 4294967296) (IntKind.u64.wrap (c * 4294967296))) (bits .or .u64 (b % 4294967296) (IntKind.u64.wrap (d * 4294967296))) = R) :=
    hid ((fit_f op a b _ _ (or_high a c) (or_high b d)).trans hR.out)
  by_cases ho : 0 ≤ op ∧ op ≤ 12
  · have hE := hid (show aluE op = 0 from if_pos ho)
    obtain ⟨T, hT⟩ := named (aluI op true a b)
    have hTb := alu_lt op true a b
    rw [hT.out] at hTb
    obtain ⟨t0, t1⟩ := hTb
    have hc : (op = 3 ∨ op = 6 ∨ op = 7 ∨ op = 9 ∨ op = 12) ∨ (op = 0 ∨ op = 1 ∨ op = 2 ∨ op = 4 ∨ op = 5 ∨ op = 8 ∨ op = 10 ∨ op = 11) := by omega
    clear ho _o0 _o1
    rcases hc with hc | hc
    · rcases hc with rfl | rfl | rfl | rfl | rfl
      all_goals
        go_enter Try.func9, Try.ntmps9
        go_wp2_with fail
        go_quiet (fail)
        go_wp2_with fail
        refine (awake_any _).mono ?_
        rintro e w0 ⟨rfl, b0⟩
        go_wp2_with fail
        refine (alu_as _ _ _ _ R _ hR hE _ h0 h1 g0 g1).mono ?_
        rintro e w1 ⟨rfl, b1⟩
        go_wp2_with fail
        refine (half_any _ _ h0 h1).mono ?_
        rintro e w' ⟨rfl, rfl⟩
        go_wp2_with fail
        refine (half_any _ _ g0 g1).mono ?_
        rintro e w' ⟨rfl, rfl⟩
        go_wp2_with fail
        refine (alu_as _ _ _ _ R _ hR2 hE _ (bits_bd _ _ _).1 (bits_bd _ _ _).2 (bits_bd _ _ _).1 (bits_bd _ _ _).2).mono ?_
        rintro e w2 ⟨rfl, b2⟩
        clear hT t0 t1 hR hR2 hE
        go_wp2
        go_ret
        exact ⟨rfl, below_box (below_next (below_drewN _ _ _) (below_next (below_next b0 b1) b2))⟩
    · have hH := hid (show T % 4294967296 = R by
        rw [← hT.out, ← hR.out]
        rcases hc with h | h | h | h | h | h | h | h <;> subst h <;> exact half_wide _ a b rfl (by decide) (by decide))
      rcases hc with rfl | rfl | rfl | rfl | rfl | rfl | rfl | rfl
      all_goals
        go_enter Try.func9, Try.ntmps9
        go_wp2_with fail
        go_quiet (fail)
        go_wp2_with fail
        refine (awake_any _).mono ?_
        rintro e w0 ⟨rfl, b0⟩
        go_wp2_with fail
        refine (alu_as _ _ _ _ R _ hR hE _ h0 h1 g0 g1).mono ?_
        rintro e w1 ⟨rfl, b1⟩
        go_wp2_with fail
        refine (half_any _ _ h0 h1).mono ?_
        rintro e w' ⟨rfl, rfl⟩
        go_wp2_with fail
        refine (half_any _ _ g0 g1).mono ?_
        rintro e w' ⟨rfl, rfl⟩
        go_wp2_with fail
        refine (alu_as _ _ _ _ R _ hR2 hE _ (bits_bd _ _ _).1 (bits_bd _ _ _).2 (bits_bd _ _ _).1 (bits_bd _ _ _).2).mono ?_
        rintro e w2 ⟨rfl, b2⟩
        go_wp2_with fail
        refine (lalu_as _ _ _ _ T hT _ h0 h1 g0 g1 (by decide)).mono ?_
        rintro e w3 ⟨rfl, b3⟩
        go_wp2_with fail
        refine (half_v _ _ hH _ t0 t1).mono ?_
        rintro e w' ⟨rfl, rfl⟩
        go_wp2
        go_ret
        exact ⟨rfl, below_box (below_next (below_drewN _ _ _) (below_next (below_next (below_next b0 b1) b2) b3))⟩
  · have hE := hid (show aluE op = 20 from if_neg ho)
    have hz : aluI op false a b = 0 := by
      unfold aluI ansI
      rw [if_neg (by omega), if_neg (by omega), if_neg (by omega), if_neg (by omega), if_neg (by omega), if_neg (by omega), if_neg (by omega), if_neg (by omega), if_neg (by omega), if_neg (by omega), if_neg (by omega), if_neg (by omega), if_neg (by omega)]
      rfl
    obtain rfl : R = 0 := hR.out.symm.trans hz
    clear hz ho
    go_enter Try.func9, Try.ntmps9
    go_wp2_with fail
    go_quiet (fail)
    go_wp2_with fail
    refine (awake_any _).mono ?_
    rintro e w0 ⟨rfl, b0⟩
    go_wp2_with fail
    refine (alu_as _ _ _ _ 0 _ hR hE _ h0 h1 g0 g1).mono ?_
    rintro e w1 ⟨rfl, b1⟩
    go_wp2_with fail
    refine (half_any _ _ h0 h1).mono ?_
    rintro e w' ⟨rfl, rfl⟩
    go_wp2_with fail
    refine (half_any _ _ g0 g1).mono ?_
    rintro e w' ⟨rfl, rfl⟩
    go_wp2_with fail
    refine (alu_as _ _ _ _ 0 _ hR2 hE _ (bits_bd _ _ _).1 (bits_bd _ _ _).2 (bits_bd _ _ _).1 (bits_bd _ _ _).2).mono ?_
    rintro e w2 ⟨rfl, b2⟩
    go_wp2
    go_ret
    exact ⟨rfl, below_box (below_next (below_drewN _ _ _) (below_next (below_next b0 b1) b2))⟩

/-! ### WordHalves -/
namespace wordHalves
set_option maxRecDepth 100000 in
theorem lifted (os : Os) (started : os.Started) (H : Type) (enc : TypeId × Value → H) :
    ReturnsInHanded {} Try.checked os 9 .any (Rows.wordHalvesSpec.pre6 enc Try.prog Try.f9 Rows.wordHalvesRow.domain false) (Rows.wordHalvesSpec.post enc Try.prog Try.f9 false true false false) := by
  refine returnsInHanded_of_change (C := Try.checked) own started (by kernel_rfl) Try.func9
    (ChangeSpec.witness6 (enc := enc) (C := Try.checked) false ⟨#[], #[.agg #[.int .i64 0, .bool false, .int .u64 0, .int .u64 0], .int .u64 0, .int .u64 0], []⟩ 9 (by kernel_rfl) (by kernel_rfl) (by kernel_rfl) (by kernel_rfl)) ?_
  intro W base args ds gs before hval0 hW _ _
  have hval : ∀ (j : Nat) t v, Try.f9.params[j]? = some t → args[j]? = some v → Value.okWide Try.prog W .any base t v := hval0
  have hW' := hW
  obtain ⟨p, q, hA0, hV, rfl, _, _⟩ := hW
  have hA : DataW.TrodAll enc Try.prog W 0 (fun _ => true) true Try.f9.params.toList args.toList ds p := hA0
  rw [Try.params9] at hA hval
  obtain ⟨v0, vs0, d0, ds0, p0, q0, hargs, rfl, rfl, h0, r0⟩ := trodAll_cons hA
  obtain ⟨v1, vs1, d1, ds1, p1, q1, rfl, rfl, rfl, h1, r1⟩ := trodAll_cons r0
  obtain ⟨v2, vs2, d2, ds2, p2, q2, rfl, rfl, rfl, h2, r2⟩ := trodAll_cons r1
  obtain ⟨rfl, rfl, rfl⟩ := trodAll_nil r2
  obtain rfl : args = #[v0, v1, v2] := by cases args; simp_all
  obtain ⟨rfl, rfl⟩ := trodVars_none hV
  obtain ⟨x0_0, x0_1, x0_2, x0_3, y0_0, y0_1, y0_2, y0_3, n0, rfl, rfl, rfl, t0_0, t0_1, t0_2, t0_3⟩ := Go.Joins.open_agg4 Try.underlying24 (by kernel_rfl) (by kernel_rfl) (hval 0 24 v0 rfl rfl) h0
  obtain ⟨op, e0_0, _, wop⟩ := DataW.trod_int (k := .i64) Try.underlying3 t0_0
  obtain rfl := (List.cons.inj e0_0).1
  obtain ⟨wide, e0_1, _⟩ := DataW.trod_bool Try.underlying4 t0_1
  obtain rfl := (List.cons.inj e0_1).1
  obtain ⟨a, e0_2, _, wa⟩ := DataW.trod_int (k := .u64) Try.underlying22 t0_2
  obtain rfl := (List.cons.inj e0_2).1
  obtain ⟨b, e0_3, _, wb⟩ := DataW.trod_int (k := .u64) Try.underlying22 t0_3
  obtain rfl := (List.cons.inj e0_3).1
  obtain ⟨c, rfl, rfl, rfl, wc⟩ := open_int Try.underlying22 (hval 1 22 v1 rfl rfl) h1
  obtain ⟨d, rfl, rfl, rfl, wd⟩ := open_int Try.underlying22 (hval 2 22 v2 rfl rfl) h2
  obtain ⟨lo_op, hi_op⟩ := bounds_i64 wop
  obtain ⟨lo_a, hi_a⟩ := bounds_u64 wa
  obtain ⟨lo_b, hi_b⟩ := bounds_u64 wb
  obtain ⟨lo_c, hi_c⟩ := bounds_u64 wc
  obtain ⟨lo_d, hi_d⟩ := bounds_u64 wd
  clear hA0 hval0
  refine (wordHalves_walk op wide a b c d lo_op (by omega) lo_a (by omega) lo_b (by omega) lo_c (by omega) lo_d (by omega) W).mono fun e W' ⟨he, hb⟩ => ?_
  subst he
  exact ⟨_, rfl, law_shut laid hW' rfl rfl Try.underlying4 (by kernel_rfl) rfl rfl rfl hb⟩

theorem over : Rows.wordHalvesRow.holds Try.pinned (OpenSpec.ofChange Rows.wordHalvesSpec) :=
  OpenClaim.holds_of_wide 9 Try.f9 rfl rfl rfl rfl rfl rfl rfl ⟨rfl, rfl, rfl, rfl, rfl⟩ rfl rfl rfl rfl rfl (by kernel_rfl) Try.func9 (by kernel_rfl)
    (of_decide_eq_true (by kernel_rfl)) (by unfold Func.isWrapper; first | (rw [if_pos (by decide +kernel)]; kernel_rfl) | (rw [if_neg (by decide +kernel)]; exact ⟨rfl, rfl⟩))
    (fun os started H enc _ => lifted os started H enc)

theorem proved : Rows.WordHalvesSaid :=
  over
end wordHalves

end Go.Proofs.Ytgemnkaiajdcfaa
