/-
  Contracts of slotMay, anyNumber, isMaybe, regIn. Contracts of regIn, regHolds. Contract of regJoin.
-/
import Derived.Test.YtodmikjpmcabiaaJStA
import Derived.Deep.RegionHeld3
import Derived.Deep.RegionLaw
import Derived.Lib.MinMax
namespace Go.Proofs.Ytodmikjpmcabiaa
set_option linter.unusedSimpArgs false
set_option linter.unusedVariables false
set_option maxRecDepth 100000
set_option maxRecDepth 100000
open Go.ChangeShapes Go.WideShapes Go.ChangeAt Go.RowKit Me

theorem vb_eqi (x y : B8) : (vb x == vb y) = (x == y) := by rw [Bool.eq_iff_iff, beq_iff_eq, beq_iff_eq, vb_inj]
theorem sc_beq (x y : Sc) : (x == y) = decide (x = y) := by rw [Bool.eq_iff_iff, beq_iff_eq, decide_eq_true_eq]
set_option maxHeartbeats 4000000 in
theorem slotMay_any (x : Sk) (hx : ROk x.r) (w : World) : Calls Try.prog 76 #[kV x] w fun e w' => e = .returned (.bool (kMay x)) ∧ Below w.heap.size w w' := by
  have E := fun W => eq_r x.r r0 hx r0_ok W
  have M := fun W => regMay_any x.r hx W
  have BL := bld_r0
  have hc : (vb x.h == 255) = (x.h == 255#8) := vb_eqi x.h 255#8
  unfold kMay
  generalize rB x.r r0 = q at *
  generalize rMay x.r = mm at *
  generalize (x.h == 255#8) = hh at *
  obtain ⟨h, r⟩ := x
  dsimp only at *
  unfold rV at E M BL
  simp only [r0, sc0, t0, ub00] at E BL
  unfold kV
  dsimp only
  replace M := hid M
  cases q
  · rw [Bool.false_or]
    cases mm
    · go_enter Try.func76, Try.ntmps76
      go_wp2_with fail
      refine (M.out _).mono ?_
      rintro e w1 ⟨rfl, z⟩
      have B := below_next (bel_alloc (Below.refl w.heap.size w)) z
      clear z
      go_wp2
      go_ret
      exact ⟨rfl, B⟩
    · rw [Bool.true_and]
      go_enter Try.func76, Try.ntmps76
      go_wp2_with fail
      refine (M.out _).mono ?_
      rintro e w1 ⟨rfl, z⟩
      have JX : KC w1 w.heap.size ⟨h, r⟩ := (KC.new rfl).below z
      have B := below_next (bel_alloc (Below.refl w.heap.size w)) z
      clear z
      have JX0 := JX.c0
      have JXl := JX.lt
      dsimp only at JX0
      go_wp2
      go_ret
      exact ⟨rfl, B⟩
  · rw [Bool.true_or]
    go_enter Try.func76, Try.ntmps76
    go_wp2
    go_ret
    exact ⟨rfl, bel_alloc (Below.refl _ _)⟩
theorem anyNum_any (w : World) : Calls Try.prog 125 #[] w fun e w' => e = .returned (rV anyR) ∧ Below w.heap.size w w' := by
  have X := fun W => cAll_any W
  unfold sv at X
  replace X := hid X
  have BL : ∀ (a b c d : Int) (W : World), (Instr.build 30 #[(0, .int .u8 1), (3, .agg #[.int .u64 a, .int .u64 b, .int .u64 c, .int .u64 d])]).run Try.prog W = .ok (.agg #[.int .u8 1, .bool false, .int .i64 0, .int .u64 a, .int .u64 b, .int .u64 c, .int .u64 d, .int .i64 0, .int .i64 0]) W := by intro a b c d W; kernel_rfl
  go_enter Try.func125, Try.ntmps125
  go_wp2_with fail
  refine (X.out _).mono ?_
  rintro e w1 ⟨rfl, z⟩
  have JR : RC w1 w.heap.size r0 := (RC.new rfl).below z
  have B := below_next (bel_alloc (Below.refl w.heap.size w)) z
  clear z
  have JR0 := JR.c0
  have JRf0 := JR.f0
  have JR1 := JR.c1
  have JRf1 := JR.f1
  have JR2 := JR.c2
  have JRf2 := JR.f2
  have JR3 := JR.c3
  have JRf3 := JR.f3
  have JR4 := JR.c4
  have JRf4 := JR.f4
  have JR5 := JR.c5
  have JRf5 := JR.f5
  have JR6 := JR.c6
  have JRf6 := JR.f6
  have JR7 := JR.c7
  have JRf7 := JR.f7
  have JR8 := JR.c8
  have JRf8 := JR.f8
  have JRl := JR.lt
  have lb := B.size
  go_wp2
  exact bodyPost_ret (v := rV anyR) (by simp [results, Try.results125, go_sem, JR0, JR1, JR2, JR3, JR4, JR5, JR6, JR7, JR8, JRl]; try first | rfl | exact ⟨rfl, rfl⟩) rfl ⟨rfl, putR_below anyR B (by omega)⟩
set_option maxHeartbeats 4000000 in
theorem isM_any (r : Rg) (hr : ROk r) (m : Int) (hm : -9223372036854775808 ≤ m ∧ m < 9223372036854775808) (w : World) : Calls Try.prog 79 #[rV r, .int .i64 m] w fun e w' => e = .returned (.bool (isM r m)) ∧ Below w.heap.size w w' := by
  have E := fun W => eq_r r ⟨r.k, false, m, sc0, 0, 0⟩ hr (by unfold ROk at hr ⊢; dsimp only; omega) W
  have ES := fun W => eq_sc r.s (ofX 0#64) W
  have OF := fun W => cOf_any 0#64 W
  rw [ub00] at OF
  unfold isM
  by_cases h1 : r.k = 1
  · rw [if_pos h1]
    rw [← sc_beq]
    generalize (r.s == ofX 0#64) = q at *
    obtain ⟨k, l, m', s, lo, hi⟩ := r
    dsimp only at *
    subst h1
    unfold sv at ES OF
    replace OF := hid OF
    clear E hr
    unfold rV
    dsimp only
    go_enter Try.func79, Try.ntmps79
    go_wp2_with fail
    have JX : RC (w.alloc (.cells #[.int .u8 1, .bool l, .int .i64 m', .int .u64 (ub s.1.1), .int .u64 (ub s.1.2), .int .u64 (ub s.2.1), .int .u64 (ub s.2.2), .int .i64 lo, .int .i64 hi] 30)) w.heap.size ⟨1, l, m', s, lo, hi⟩ := RC.new (x := ⟨1, l, m', s, lo, hi⟩) rfl
    have B : Below w.heap.size w (w.alloc (.cells #[.int .u8 1, .bool l, .int .i64 m', .int .u64 (ub s.1.1), .int .u64 (ub s.1.2), .int .u64 (ub s.2.1), .int .u64 (ub s.2.2), .int .i64 lo, .int .i64 hi] 30)) := bel_alloc (Below.refl _ _)
    generalize w.alloc (.cells #[.int .u8 1, .bool l, .int .i64 m', .int .u64 (ub s.1.1), .int .u64 (ub s.1.2), .int .u64 (ub s.2.1), .int .u64 (ub s.2.2), .int .i64 lo, .int .i64 hi] 30) = w0 at *
    have q0 := JX.c3
    have q1 := JX.c4
    have q2 := JX.c5
    have q3 := JX.c6
    try dsimp only at q0 q1 q2 q3
    go_region_held3 (fun w' => w'.cell? ⟨w.heap.size, 3, none⟩ = some (.int .u64 (ub s.1.1)) ∧ w'.cell? ⟨w.heap.size, 4, none⟩ = some (.int .u64 (ub s.1.2)) ∧ w'.cell? ⟨w.heap.size, 5, none⟩ = some (.int .u64 (ub s.2.1)) ∧ w'.cell? ⟨w.heap.size, 6, none⟩ = some (.int .u64 (ub s.2.2)) ∧ Below w0.heap.size w0 w')
      (first | (go_split_ands; with_reducible exact ⟨by with_reducible assumption, by with_reducible assumption, by with_reducible assumption, by with_reducible assumption, by with_reducible assumption⟩) | (with_reducible exact ⟨cn bq (by with_reducible assumption), cn bq (by with_reducible assumption), cn bq (by with_reducible assumption), cn bq (by with_reducible assumption), below_next (by with_reducible assumption) bq⟩) | (with_reducible exact ⟨cn (below_dr w0) q0, cn (below_dr w0) q1, cn (below_dr w0) q2, cn (below_dr w0) q3, below_dr w0⟩))
      (first | (go_at_call 114; go_split_ands; (with_reducible refine (OF.out _).mono ?_); rintro e wq ⟨rfl, bq⟩))
    go_split_ands
    have zq : Below w0.heap.size w0 wq := by with_reducible assumption
    replace B := below_next B zq
    go_wp2
    go_ret
    exact ⟨rfl, B⟩
  rw [if_neg h1]
  clear ES OF
  have e1 : (r.k == 1) = false := by simpa using h1
  by_cases h6 : r.k = 6 ∨ r.k = 7
  · rw [if_pos h6]
    generalize rB r ⟨r.k, false, m, sc0, 0, 0⟩ = q at *
    have BL := fun a => bld_r_m a
    unfold rV at E ⊢
    simp only [sc0, t0, ub00] at E
    clear hr
    rcases h6 with h6 | h6
    all_goals
      rw [h6] at E ⊢
      go_enter Try.func79, Try.ntmps79
      go_wp2
      go_ret
      exact ⟨rfl, bel_alloc (Below.refl _ _)⟩
  · rw [if_neg h6]
    have e6 : (r.k == 6) = false := by simp; omega
    have e7 : (r.k == 7) = false := by simp; omega
    clear E hr h1 h6
    unfold rV
    go_enter Try.func79, Try.ntmps79
    go_wp2
    go_ret
    exact ⟨rfl, bel_alloc (Below.refl _ _)⟩
end Go.Proofs.Ytodmikjpmcabiaa

namespace Go.Proofs.Ytodmikjpmcabiaa
set_option linter.unusedSimpArgs false
set_option linter.unusedVariables false
set_option maxRecDepth 100000
set_option maxRecDepth 100000
open Go.ChangeShapes Go.WideShapes Go.ChangeAt Go.RowKit Me

set_option maxHeartbeats 4000000 in
theorem regIn_any (a b : Rg) (ha : ROk a) (hb : ROk b) (w : World) : Calls Try.prog 89 #[rV a, rV b] w fun e w' => e = .returned (.bool (rIn a b)) ∧ Below w.heap.size w w' := by
  have IM := fun W => isM_any a ha b.m hb.2.1 W
  have IN := fun W => cIn_any a.s b.s W
  unfold rIn
  obtain ⟨k, l, m, s, lo, hi⟩ := a
  obtain ⟨k', l', m', s', lo', hi'⟩ := b
  dsimp only at *
  clear ha hb
  by_cases b0 : k' = 0
  · rw [if_pos b0]
    subst b0
    clear IM IN
    unfold rV
    dsimp only
    go_enter Try.func89, Try.ntmps89
    go_wp2
    go_ret
    exact ⟨rfl, bel_alloc (bel_alloc (Below.refl _ _))⟩
  rw [if_neg b0]
  have e0 : (k' == 0) = false := by simpa using b0
  by_cases b7 : k' = 7
  · rw [if_pos b7]
    subst b7
    clear IN e0
    generalize isM ⟨k, l, m, s, lo, hi⟩ m' = q at *
    unfold rV at IM ⊢
    dsimp only at IM ⊢
    replace IM := hid IM
    go_enter Try.func89, Try.ntmps89
    go_wp2_with fail
    refine (IM.out _).mono ?_
    rintro e w1 ⟨rfl, z⟩
    have JX : RC w1 (w.heap.size) (⟨k, l, m, s, lo, hi⟩) := ((RC.new rfl).alloc _).below z
    have JY : RC w1 (w.heap.size + 1) (⟨7, l', m', s', lo', hi'⟩) := (RC.new (by simp)).below z
    have B := below_next (bel_alloc (bel_alloc (Below.refl w.heap.size w))) z
    clear z
    have JX0 := JX.c0
    have JX1 := JX.c1
    have JX2 := JX.c2
    have JX3 := JX.c3
    have JX4 := JX.c4
    have JX5 := JX.c5
    have JX6 := JX.c6
    have JX7 := JX.c7
    have JX8 := JX.c8
    have JXl := JX.lt
    have JY0 := JY.c0
    have JY1 := JY.c1
    have JY2 := JY.c2
    have JY3 := JY.c3
    have JY4 := JY.c4
    have JY5 := JY.c5
    have JY6 := JY.c6
    have JY7 := JY.c7
    have JY8 := JY.c8
    have JYl := JY.lt
    have lb := B.size
    go_wp2
    go_ret
    exact ⟨rfl, B⟩
  rw [if_neg b7]
  have e7 : (k' == 7) = false := by simpa using b7
  by_cases ab : k ≠ k'
  · rw [if_pos ab]
    have eab : (k == k') = false := by simpa using ab
    have ebn : (k != k') = true := by simpa using ab
    clear IM IN ab b0 b7
    unfold rV
    dsimp only
    go_enter Try.func89, Try.ntmps89
    go_wp2
    go_ret
    exact ⟨rfl, bel_alloc (bel_alloc (Below.refl _ _))⟩
  rw [if_neg ab]
  have ek : k = k' := Decidable.not_not.1 ab
  subst ek
  clear ab IM
  by_cases a1 : k = 1
  · rw [if_pos a1]
    subst a1
    clear e0 e7 b0 b7
    generalize inX s s' = q at *
    unfold sv at IN
    replace IN := hid IN
    unfold rV
    dsimp only
    cases q
    · rw [Bool.false_and]
      go_enter Try.func89, Try.ntmps89
      go_wp2_with fail
      refine (IN.out _).mono ?_
      rintro e w1 ⟨rfl, z⟩
      have JX : RC w1 (w.heap.size) (⟨1, l, m, s, lo, hi⟩) := ((RC.new rfl).alloc _).below z
      have JY : RC w1 (w.heap.size + 1) (⟨1, l', m', s', lo', hi'⟩) := (RC.new (by simp)).below z
      have B := below_next (bel_alloc (bel_alloc (Below.refl w.heap.size w))) z
      clear z
      have JX0 := JX.c0
      have JX1 := JX.c1
      have JX2 := JX.c2
      have JX3 := JX.c3
      have JX4 := JX.c4
      have JX5 := JX.c5
      have JX6 := JX.c6
      have JX7 := JX.c7
      have JX8 := JX.c8
      have JXl := JX.lt
      have JY0 := JY.c0
      have JY1 := JY.c1
      have JY2 := JY.c2
      have JY3 := JY.c3
      have JY4 := JY.c4
      have JY5 := JY.c5
      have JY6 := JY.c6
      have JY7 := JY.c7
      have JY8 := JY.c8
      have JYl := JY.lt
      have lb := B.size
      go_wp2
      go_ret
      exact ⟨rfl, B⟩
    · rw [Bool.true_and]
      cases l
      · rw [Bool.false_or]
        go_enter Try.func89, Try.ntmps89
        go_wp2_with fail
        refine (IN.out _).mono ?_
        rintro e w1 ⟨rfl, z⟩
        have JX : RC w1 (w.heap.size) (⟨1, false, m, s, lo, hi⟩) := ((RC.new rfl).alloc _).below z
        have JY : RC w1 (w.heap.size + 1) (⟨1, l', m', s', lo', hi'⟩) := (RC.new (by simp)).below z
        have B := below_next (bel_alloc (bel_alloc (Below.refl w.heap.size w))) z
        clear z
        have JX0 := JX.c0
        have JX1 := JX.c1
        have JX2 := JX.c2
        have JX3 := JX.c3
        have JX4 := JX.c4
        have JX5 := JX.c5
        have JX6 := JX.c6
        have JX7 := JX.c7
        have JX8 := JX.c8
        have JXl := JX.lt
        have JY0 := JY.c0
        have JY1 := JY.c1
        have JY2 := JY.c2
        have JY3 := JY.c3
        have JY4 := JY.c4
        have JY5 := JY.c5
        have JY6 := JY.c6
        have JY7 := JY.c7
        have JY8 := JY.c8
        have JYl := JY.lt
        have lb := B.size
        go_wp2
        go_ret
        exact ⟨rfl, B⟩
      · rw [Bool.true_or]
        go_enter Try.func89, Try.ntmps89
        go_wp2_with fail
        refine (IN.out _).mono ?_
        rintro e w1 ⟨rfl, z⟩
        have JX : RC w1 (w.heap.size) (⟨1, true, m, s, lo, hi⟩) := ((RC.new rfl).alloc _).below z
        have JY : RC w1 (w.heap.size + 1) (⟨1, l', m', s', lo', hi'⟩) := (RC.new (by simp)).below z
        have B := below_next (bel_alloc (bel_alloc (Below.refl w.heap.size w))) z
        clear z
        have JX0 := JX.c0
        have JX1 := JX.c1
        have JX2 := JX.c2
        have JX3 := JX.c3
        have JX4 := JX.c4
        have JX5 := JX.c5
        have JX6 := JX.c6
        have JX7 := JX.c7
        have JX8 := JX.c8
        have JXl := JX.lt
        have JY0 := JY.c0
        have JY1 := JY.c1
        have JY2 := JY.c2
        have JY3 := JY.c3
        have JY4 := JY.c4
        have JY5 := JY.c5
        have JY6 := JY.c6
        have JY7 := JY.c7
        have JY8 := JY.c8
        have JYl := JY.lt
        have lb := B.size
        go_wp2
        go_ret
        exact ⟨rfl, B⟩
  rw [if_neg a1]
  have e1 : (k == 1) = false := by simpa using a1
  clear IN b0 b7 a1
  unfold rV
  dsimp only
  cases em : (m == m')
  · rw [Bool.false_and]
    go_enter Try.func89, Try.ntmps89
    go_wp2
    go_ret
    exact ⟨rfl, bel_alloc (bel_alloc (Below.refl _ _))⟩
  rw [Bool.true_and]
  cases el : decide (lo' ≤ lo)
  · rw [Bool.false_and]
    go_enter Try.func89, Try.ntmps89
    go_wp2
    go_ret
    exact ⟨rfl, bel_alloc (bel_alloc (Below.refl _ _))⟩
  · rw [Bool.true_and]
    go_enter Try.func89, Try.ntmps89
    go_wp2
    go_ret
    exact ⟨rfl, bel_alloc (bel_alloc (Below.refl _ _))⟩
theorem bld_v_1 (W : World) : (Instr.build 66 #[(0, .int .u8 1)]).run Try.prog W = .ok (.agg #[.int .u8 1, .int .i64 0, .int .u64 0, .int .i64 0]) W := by kernel_rfl
theorem bld_v_6 (m n : Int) (W : World) : (Instr.build 66 #[(0, .int .u8 6), (1, .int .i64 m), (2, .int .u64 n)]).run Try.prog W = .ok (.agg #[.int .u8 6, .int .i64 m, .int .u64 n, .int .i64 0]) W := by kernel_rfl
theorem vB_dec (a b : Vl) : vB a b = decide (a = b) := by rw [Bool.eq_iff_iff, vB_iff, decide_eq_true_eq]
set_option maxHeartbeats 4000000 in
theorem rHolds_any (r : Rg) (v : Vl) (hv : VOk v) (p : Int) (hp : 0 ≤ p ∧ p ≤ 65535) (w : World) : Calls Try.prog 87 #[rV r, vV v, .int .i64 p] w fun e w' => e = .returned (.bool (rHolds r v p)) ∧ Below w.heap.size w w' := by
  obtain ⟨nn, hn⟩ := ub_of v.n hv.2.2.1.1 hv.2.2.1.2
  have hnb : nb v.n = nn := by rw [hn, nb_ub]
  have HS := fun W => cHas_any r.s nn W
  have EZ := fun W => eq_v v ⟨1, 0, 0, 0⟩ W
  have EC := fun W => eq_v v ⟨6, r.m, v.n, 0⟩ W
  unfold rHolds
  rw [hnb, ← vB_dec, ← vB_dec]
  clear hnb
  have hw : IntKind.u64.wrap p = p := by rw [IntKind.wrap_u64]; omega
  obtain ⟨k, l, m, s, lo, hi⟩ := r
  obtain ⟨vk, vm, vn, vo⟩ := v
  dsimp only at *
  subst hn
  clear hv
  by_cases k0 : k = 0
  · rw [if_pos k0]
    subst k0
    clear HS EZ EC
    unfold rV vV
    dsimp only
    go_enter Try.func87, Try.ntmps87
    go_wp2
    go_ret
    exact ⟨rfl, bel_alloc (bel_alloc (Below.refl _ _))⟩
  rw [if_neg k0]
  have e0 : (k == 0) = false := by simpa using k0
  by_cases k1 : k = 1
  · rw [if_pos k1]
    subst k1
    clear EZ EC e0 k0
    generalize hasX s nn = q at *
    unfold sv at HS
    replace HS := hid HS
    unfold rV vV
    dsimp only
    cases ev : (vk == 1)
    · rw [Bool.false_and]
      go_enter Try.func87, Try.ntmps87
      go_wp2
      go_ret
      exact ⟨rfl, bel_alloc (bel_alloc (Below.refl _ _))⟩
    have ev1 : vk = 1 := by simpa using ev
    subst ev1
    clear ev
    rw [Bool.true_and]
    cases q
    · rw [Bool.false_and]
      go_enter Try.func87, Try.ntmps87
      go_wp2_with fail
      refine (HS.out _).mono ?_
      rintro e w1 ⟨rfl, z⟩
      have JX : RC w1 (w.heap.size) (⟨1, l, m, s, lo, hi⟩) := ((RC.new rfl).alloc _).below z
      have JV : VC w1 (w.heap.size + 1) (⟨1, vm, ub nn, vo⟩) := (VC.new (by simp)).below z
      have B := below_next (bel_alloc (bel_alloc (Below.refl w.heap.size w))) z
      clear z
      have JX0 := JX.c0
      have JX1 := JX.c1
      have JX2 := JX.c2
      have JX3 := JX.c3
      have JX4 := JX.c4
      have JX5 := JX.c5
      have JX6 := JX.c6
      have JX7 := JX.c7
      have JX8 := JX.c8
      have JXl := JX.lt
      have JV0 := JV.c0
      have JV1 := JV.c1
      have JV2 := JV.c2
      have JV3 := JV.c3
      have JVl := JV.lt
      have lb := B.size
      go_wp2
      go_ret
      exact ⟨rfl, B⟩
    · rw [Bool.true_and]
      cases l
      · rw [Bool.not_false, Bool.true_or]
        go_enter Try.func87, Try.ntmps87
        go_wp2_with fail
        refine (HS.out _).mono ?_
        rintro e w1 ⟨rfl, z⟩
        have JX : RC w1 (w.heap.size) (⟨1, false, m, s, lo, hi⟩) := ((RC.new rfl).alloc _).below z
        have JV : VC w1 (w.heap.size + 1) (⟨1, vm, ub nn, vo⟩) := (VC.new (by simp)).below z
        have B := below_next (bel_alloc (bel_alloc (Below.refl w.heap.size w))) z
        clear z
        have JX0 := JX.c0
        have JX1 := JX.c1
        have JX2 := JX.c2
        have JX3 := JX.c3
        have JX4 := JX.c4
        have JX5 := JX.c5
        have JX6 := JX.c6
        have JX7 := JX.c7
        have JX8 := JX.c8
        have JXl := JX.lt
        have JV0 := JV.c0
        have JV1 := JV.c1
        have JV2 := JV.c2
        have JV3 := JV.c3
        have JVl := JV.lt
        have lb := B.size
        go_wp2
        go_ret
        exact ⟨rfl, B⟩
      · rw [Bool.not_true, Bool.false_or]
        go_enter Try.func87, Try.ntmps87
        go_wp2_with fail
        refine (HS.out _).mono ?_
        rintro e w1 ⟨rfl, z⟩
        have JX : RC w1 (w.heap.size) (⟨1, true, m, s, lo, hi⟩) := ((RC.new rfl).alloc _).below z
        have JV : VC w1 (w.heap.size + 1) (⟨1, vm, ub nn, vo⟩) := (VC.new (by simp)).below z
        have B := below_next (bel_alloc (bel_alloc (Below.refl w.heap.size w))) z
        clear z
        have JX0 := JX.c0
        have JX1 := JX.c1
        have JX2 := JX.c2
        have JX3 := JX.c3
        have JX4 := JX.c4
        have JX5 := JX.c5
        have JX6 := JX.c6
        have JX7 := JX.c7
        have JX8 := JX.c8
        have JXl := JX.lt
        have JV0 := JV.c0
        have JV1 := JV.c1
        have JV2 := JV.c2
        have JV3 := JV.c3
        have JVl := JV.lt
        have lb := B.size
        go_wp2
        go_ret
        exact ⟨rfl, B⟩
  rw [if_neg k1]
  have e1 : (k == 1) = false := by simpa using k1
  clear HS
  by_cases k7 : k = 7
  · rw [if_pos k7]
    subst k7
    clear e0 e1 k0 k1
    generalize vB ⟨vk, vm, ub nn, vo⟩ ⟨1, 0, 0, 0⟩ = q1 at *
    generalize vB ⟨vk, vm, ub nn, vo⟩ ⟨6, m, ub nn, 0⟩ = q2 at *
    have BL1 := bld_v_1
    have BL6 := bld_v_6
    unfold vV at EZ EC
    unfold rV vV
    dsimp only at EZ EC ⊢
    cases q1
    · rw [Bool.false_or]
      go_enter Try.func87, Try.ntmps87
      go_wp2
      go_ret
      exact ⟨rfl, bel_alloc (bel_alloc (Below.refl _ _))⟩
    · rw [Bool.true_or]
      go_enter Try.func87, Try.ntmps87
      go_wp2
      go_ret
      exact ⟨rfl, bel_alloc (bel_alloc (Below.refl _ _))⟩
  rw [if_neg k7]
  have e7 : (k == 7) = false := by simpa using k7
  clear EZ EC k0 k1 k7
  unfold rV vV
  dsimp only
  cases ek : (vk == k)
  · rw [Bool.false_and]
    go_enter Try.func87, Try.ntmps87
    go_wp2
    go_ret
    exact ⟨rfl, bel_alloc (bel_alloc (Below.refl _ _))⟩
  rw [Bool.true_and]
  cases em : (vm == m)
  · rw [Bool.false_and]
    go_enter Try.func87, Try.ntmps87
    go_wp2
    go_ret
    exact ⟨rfl, bel_alloc (bel_alloc (Below.refl _ _))⟩
  rw [Bool.true_and]
  cases el : decide (lo ≤ vo)
  · rw [Bool.false_and]
    go_enter Try.func87, Try.ntmps87
    go_wp2
    go_ret
    exact ⟨rfl, bel_alloc (bel_alloc (Below.refl _ _))⟩
  · rw [Bool.true_and]
    go_enter Try.func87, Try.ntmps87
    go_wp2
    go_ret
    exact ⟨rfl, bel_alloc (bel_alloc (Below.refl _ _))⟩
end Go.Proofs.Ytodmikjpmcabiaa

namespace Go.Proofs.Ytodmikjpmcabiaa
set_option linter.unusedSimpArgs false
set_option linter.unusedVariables false
set_option maxRecDepth 100000
set_option maxRecDepth 100000
open Go.ChangeShapes Go.WideShapes Go.ChangeAt Go.RowKit Me

theorem rJoin_ROk {a b : Rg} (ha : ROk a) (hb : ROk b) : ROk (rJoin a b) := by
  unfold rJoin
  unfold ROk at ha hb
  split
  · unfold ROk; dsimp only; omega
  · split
    · unfold ROk zm; dsimp only; omega
    · exact r0_ok
theorem bld_r_all (k : Int) (l : Bool) (m a b c d lo hi : Int) (W : World) : (Instr.build 30 #[(0, .int .u8 k), (1, .bool l), (2, .int .i64 m), (3, .agg #[.int .u64 a, .int .u64 b, .int .u64 c, .int .u64 d]), (4, .int .i64 lo), (5, .int .i64 hi)]).run Try.prog W = .ok (.agg #[.int .u8 k, .bool l, .int .i64 m, .int .u64 a, .int .u64 b, .int .u64 c, .int .u64 d, .int .i64 lo, .int .i64 hi]) W := by kernel_rfl
set_option maxHeartbeats 8000000 in
theorem regJoin_any (a b : Rg) (ha : ROk a) (hb : ROk b) (w : World) : Calls Try.prog 32 #[rV a, rV b] w fun e w' => e = .returned (rV (rJoin a b)) ∧ Below w.heap.size w w' := by
  have IA := fun W => isM_any a ha (max a.m b.m) (by unfold ROk at ha hb; omega) W
  have IB := fun W => isM_any b hb (max a.m b.m) (by unfold ROk at ha hb; omega) W
  have JN := fun W => cJoinX_any a.s b.s W
  obtain ⟨R, hR⟩ : ∃ R, R = rJoin a b := ⟨_, rfl⟩
  rw [← hR]
  unfold rJoin at hR
  obtain ⟨k, l, m, s, lo, hi⟩ := a
  obtain ⟨k', l', m', s', lo', hi'⟩ := b
  dsimp only at *
  clear ha hb
  by_cases hs : k = k' ∧ m = m'
  · rw [if_pos hs] at hR
    obtain ⟨h1, h2⟩ := hs
    subst h1 h2
    clear IA IB
    subst hR
    generalize joinX s s' = J at *
    generalize joinXE s s' = JE at *
    unfold sv at JN
    replace JN := hid JN
    have BL := bld_r_all
    unfold rV
    dsimp only
    cases l
    · skip
      go_enter Try.func32, Try.ntmps32
      go_wp2_with fail
      refine (JN.out _).mono ?_
      rintro e w1 ⟨rfl, z⟩
      have JX : RC w1 (w.heap.size) (⟨k, false, m, s, lo, hi⟩) := (((RC.new rfl).alloc _).alloc _).below z
      have JY : RC w1 (w.heap.size + 1) (⟨k, l', m, s', lo', hi'⟩) := ((RC.new (by simp)).alloc _).below z
      have JR : RC w1 (w.heap.size + 1 + 1) (r0) := (RC.new (by simp)).below z
      have B := below_next (bel_alloc (bel_alloc (bel_alloc (Below.refl w.heap.size w)))) z
      clear z
      have JX0 := JX.c0
      have JX1 := JX.c1
      have JX2 := JX.c2
      have JX3 := JX.c3
      have JX4 := JX.c4
      have JX5 := JX.c5
      have JX6 := JX.c6
      have JX7 := JX.c7
      have JX8 := JX.c8
      have JXl := JX.lt
      have JY0 := JY.c0
      have JY1 := JY.c1
      have JY2 := JY.c2
      have JY3 := JY.c3
      have JY4 := JY.c4
      have JY5 := JY.c5
      have JY6 := JY.c6
      have JY7 := JY.c7
      have JY8 := JY.c8
      have JYl := JY.lt
      have JR0 := JR.c0
      have JR1 := JR.c1
      have JR2 := JR.c2
      have JR3 := JR.c3
      have JR4 := JR.c4
      have JR5 := JR.c5
      have JR6 := JR.c6
      have JR7 := JR.c7
      have JR8 := JR.c8
      have JRl := JR.lt
      have JRf0 := JR.f0
      have JRf1 := JR.f1
      have JRf2 := JR.f2
      have JRf3 := JR.f3
      have JRf4 := JR.f4
      have JRf5 := JR.f5
      have JRf6 := JR.f6
      have JRf7 := JR.f7
      have JRf8 := JR.f8
      have lb := B.size
      go_wp2
      exact bodyPost_ret (v := rV ⟨k, false && l', m, J, min lo lo', max hi hi'⟩) (by simp [results, Try.results32, go_sem, JX0, JX1, JX2, JX3, JX4, JX5, JX6, JX7, JX8, JXl, JY0, JY1, JY2, JY3, JY4, JY5, JY6, JY7, JY8, JYl, JR0, JR1, JR2, JR3, JR4, JR5, JR6, JR7, JR8, JRl]; try first | rfl | exact ⟨rfl, rfl⟩) rfl ⟨rfl, bel_alloc (putR_below ⟨k, false && l', m, J, min lo lo', max hi hi'⟩ B (by omega))⟩
    · skip
      go_enter Try.func32, Try.ntmps32
      go_wp2_with fail
      refine (JN.out _).mono ?_
      rintro e w1 ⟨rfl, z⟩
      have JX : RC w1 (w.heap.size) (⟨k, true, m, s, lo, hi⟩) := (((RC.new rfl).alloc _).alloc _).below z
      have JY : RC w1 (w.heap.size + 1) (⟨k, l', m, s', lo', hi'⟩) := ((RC.new (by simp)).alloc _).below z
      have JR : RC w1 (w.heap.size + 1 + 1) (r0) := (RC.new (by simp)).below z
      have B := below_next (bel_alloc (bel_alloc (bel_alloc (Below.refl w.heap.size w)))) z
      clear z
      have JX0 := JX.c0
      have JX1 := JX.c1
      have JX2 := JX.c2
      have JX3 := JX.c3
      have JX4 := JX.c4
      have JX5 := JX.c5
      have JX6 := JX.c6
      have JX7 := JX.c7
      have JX8 := JX.c8
      have JXl := JX.lt
      have JY0 := JY.c0
      have JY1 := JY.c1
      have JY2 := JY.c2
      have JY3 := JY.c3
      have JY4 := JY.c4
      have JY5 := JY.c5
      have JY6 := JY.c6
      have JY7 := JY.c7
      have JY8 := JY.c8
      have JYl := JY.lt
      have JR0 := JR.c0
      have JR1 := JR.c1
      have JR2 := JR.c2
      have JR3 := JR.c3
      have JR4 := JR.c4
      have JR5 := JR.c5
      have JR6 := JR.c6
      have JR7 := JR.c7
      have JR8 := JR.c8
      have JRl := JR.lt
      have JRf0 := JR.f0
      have JRf1 := JR.f1
      have JRf2 := JR.f2
      have JRf3 := JR.f3
      have JRf4 := JR.f4
      have JRf5 := JR.f5
      have JRf6 := JR.f6
      have JRf7 := JR.f7
      have JRf8 := JR.f8
      have lb := B.size
      go_wp2
      exact bodyPost_ret (v := rV ⟨k, true && l', m, J, min lo lo', max hi hi'⟩) (by simp [results, Try.results32, go_sem, JX0, JX1, JX2, JX3, JX4, JX5, JX6, JX7, JX8, JXl, JY0, JY1, JY2, JY3, JY4, JY5, JY6, JY7, JY8, JYl, JR0, JR1, JR2, JR3, JR4, JR5, JR6, JR7, JR8, JRl]; try first | rfl | exact ⟨rfl, rfl⟩) rfl ⟨rfl, bel_alloc (putR_below ⟨k, true && l', m, J, min lo lo', max hi hi'⟩ B (by omega))⟩
  rw [if_neg hs] at hR
  clear JN
  have hkm : ((k == k') && (m == m')) = false := by
    rw [Bool.and_eq_false_iff, beq_eq_false_iff_ne, beq_eq_false_iff_ne]
    by_cases h : k = k'
    · exact .inr fun q => hs ⟨h, q⟩
    · exact .inl h
  clear hs
  generalize isM ⟨k, l, m, s, lo, hi⟩ (max m m') = qa at *
  generalize isM ⟨k', l', m', s', lo', hi'⟩ (max m m') = qb at *
  have BM := fun a => bld_r_m 7 a
  have B0 := bld_r0
  unfold rV r0 at B0
  simp only [sc0, t0, ub00] at B0
  unfold rV at IA IB
  dsimp only at IA IB
  replace IA := hid IA
  replace IB := hid IB
  cases hk : (k == k')
  · clear hkm
    cases qa
    · rw [Bool.false_and, if_neg (by decide)] at hR
      subst hR
      unfold rV
      dsimp only
      go_enter Try.func32, Try.ntmps32
      go_wp2_with fail
      refine (IA.out _).mono ?_
      rintro e w1 ⟨rfl, z⟩
      have JX : RC w1 (w.heap.size) (⟨k, l, m, s, lo, hi⟩) := (((RC.new rfl).alloc _).alloc _).below z
      have JY : RC w1 (w.heap.size + 1) (⟨k', l', m', s', lo', hi'⟩) := ((RC.new (by simp)).alloc _).below z
      have JR : RC w1 (w.heap.size + 1 + 1) (r0) := (RC.new (by simp)).below z
      have B := below_next (bel_alloc (bel_alloc (bel_alloc (Below.refl w.heap.size w)))) z
      clear z
      have JX0 := JX.c0
      have JX1 := JX.c1
      have JX2 := JX.c2
      have JX3 := JX.c3
      have JX4 := JX.c4
      have JX5 := JX.c5
      have JX6 := JX.c6
      have JX7 := JX.c7
      have JX8 := JX.c8
      have JXl := JX.lt
      have JY0 := JY.c0
      have JY1 := JY.c1
      have JY2 := JY.c2
      have JY3 := JY.c3
      have JY4 := JY.c4
      have JY5 := JY.c5
      have JY6 := JY.c6
      have JY7 := JY.c7
      have JY8 := JY.c8
      have JYl := JY.lt
      have JR0 := JR.c0
      have JR1 := JR.c1
      have JR2 := JR.c2
      have JR3 := JR.c3
      have JR4 := JR.c4
      have JR5 := JR.c5
      have JR6 := JR.c6
      have JR7 := JR.c7
      have JR8 := JR.c8
      have JRl := JR.lt
      have JRf0 := JR.f0
      have JRf1 := JR.f1
      have JRf2 := JR.f2
      have JRf3 := JR.f3
      have JRf4 := JR.f4
      have JRf5 := JR.f5
      have JRf6 := JR.f6
      have JRf7 := JR.f7
      have JRf8 := JR.f8
      have lb := B.size
      go_wp2
      exact bodyPost_ret (v := rV r0) (by simp [results, Try.results32, go_sem, JX0, JX1, JX2, JX3, JX4, JX5, JX6, JX7, JX8, JXl, JY0, JY1, JY2, JY3, JY4, JY5, JY6, JY7, JY8, JYl, JR0, JR1, JR2, JR3, JR4, JR5, JR6, JR7, JR8, JRl]; try first | rfl | exact ⟨rfl, rfl⟩) rfl ⟨rfl, putR_below r0 B (by omega)⟩
    · cases qb
      · rw [Bool.and_false, if_neg (by decide)] at hR
        subst hR
        unfold rV
        dsimp only
        go_enter Try.func32, Try.ntmps32
        go_wp2_with fail
        refine (IA.out _).mono ?_
        rintro e w1 ⟨rfl, z⟩
        have JX : RC w1 (w.heap.size) (⟨k, l, m, s, lo, hi⟩) := (((RC.new rfl).alloc _).alloc _).below z
        have JY : RC w1 (w.heap.size + 1) (⟨k', l', m', s', lo', hi'⟩) := ((RC.new (by simp)).alloc _).below z
        have JR : RC w1 (w.heap.size + 1 + 1) (r0) := (RC.new (by simp)).below z
        have B := below_next (bel_alloc (bel_alloc (bel_alloc (Below.refl w.heap.size w)))) z
        clear z
        have JX0 := JX.c0
        have JX1 := JX.c1
        have JX2 := JX.c2
        have JX3 := JX.c3
        have JX4 := JX.c4
        have JX5 := JX.c5
        have JX6 := JX.c6
        have JX7 := JX.c7
        have JX8 := JX.c8
        have JXl := JX.lt
        have JY0 := JY.c0
        have JY1 := JY.c1
        have JY2 := JY.c2
        have JY3 := JY.c3
        have JY4 := JY.c4
        have JY5 := JY.c5
        have JY6 := JY.c6
        have JY7 := JY.c7
        have JY8 := JY.c8
        have JYl := JY.lt
        have JR0 := JR.c0
        have JR1 := JR.c1
        have JR2 := JR.c2
        have JR3 := JR.c3
        have JR4 := JR.c4
        have JR5 := JR.c5
        have JR6 := JR.c6
        have JR7 := JR.c7
        have JR8 := JR.c8
        have JRl := JR.lt
        have JRf0 := JR.f0
        have JRf1 := JR.f1
        have JRf2 := JR.f2
        have JRf3 := JR.f3
        have JRf4 := JR.f4
        have JRf5 := JR.f5
        have JRf6 := JR.f6
        have JRf7 := JR.f7
        have JRf8 := JR.f8
        have lb := B.size
        go_wp2_with fail
        refine (IB.out _).mono ?_
        rintro e w2 ⟨rfl, z⟩
        clear JX0 JX1 JX2 JX3 JX4 JX5 JX6 JX7 JX8 JXl JY0 JY1 JY2 JY3 JY4 JY5 JY6 JY7 JY8 JYl JR0 JR1 JR2 JR3 JR4 JR5 JR6 JR7 JR8 JRl JRf0 JRf1 JRf2 JRf3 JRf4 JRf5 JRf6 JRf7 JRf8 lb
        replace JX := JX.below z
        replace JY := JY.below z
        replace JR := JR.below z
        replace B := below_next B z
        clear z
        have JX0 := JX.c0
        have JX1 := JX.c1
        have JX2 := JX.c2
        have JX3 := JX.c3
        have JX4 := JX.c4
        have JX5 := JX.c5
        have JX6 := JX.c6
        have JX7 := JX.c7
        have JX8 := JX.c8
        have JXl := JX.lt
        have JY0 := JY.c0
        have JY1 := JY.c1
        have JY2 := JY.c2
        have JY3 := JY.c3
        have JY4 := JY.c4
        have JY5 := JY.c5
        have JY6 := JY.c6
        have JY7 := JY.c7
        have JY8 := JY.c8
        have JYl := JY.lt
        have JR0 := JR.c0
        have JR1 := JR.c1
        have JR2 := JR.c2
        have JR3 := JR.c3
        have JR4 := JR.c4
        have JR5 := JR.c5
        have JR6 := JR.c6
        have JR7 := JR.c7
        have JR8 := JR.c8
        have JRl := JR.lt
        have JRf0 := JR.f0
        have JRf1 := JR.f1
        have JRf2 := JR.f2
        have JRf3 := JR.f3
        have JRf4 := JR.f4
        have JRf5 := JR.f5
        have JRf6 := JR.f6
        have JRf7 := JR.f7
        have JRf8 := JR.f8
        have lb := B.size
        go_wp2
        exact bodyPost_ret (v := rV r0) (by simp [results, Try.results32, go_sem, JX0, JX1, JX2, JX3, JX4, JX5, JX6, JX7, JX8, JXl, JY0, JY1, JY2, JY3, JY4, JY5, JY6, JY7, JY8, JYl, JR0, JR1, JR2, JR3, JR4, JR5, JR6, JR7, JR8, JRl]; try first | rfl | exact ⟨rfl, rfl⟩) rfl ⟨rfl, putR_below r0 B (by omega)⟩
      · rw [Bool.and_self, if_pos rfl] at hR
        subst hR
        unfold rV
        dsimp only
        go_enter Try.func32, Try.ntmps32
        go_wp2_with fail
        refine (IA.out _).mono ?_
        rintro e w1 ⟨rfl, z⟩
        have JX : RC w1 (w.heap.size) (⟨k, l, m, s, lo, hi⟩) := (((RC.new rfl).alloc _).alloc _).below z
        have JY : RC w1 (w.heap.size + 1) (⟨k', l', m', s', lo', hi'⟩) := ((RC.new (by simp)).alloc _).below z
        have JR : RC w1 (w.heap.size + 1 + 1) (r0) := (RC.new (by simp)).below z
        have B := below_next (bel_alloc (bel_alloc (bel_alloc (Below.refl w.heap.size w)))) z
        clear z
        have JX0 := JX.c0
        have JX1 := JX.c1
        have JX2 := JX.c2
        have JX3 := JX.c3
        have JX4 := JX.c4
        have JX5 := JX.c5
        have JX6 := JX.c6
        have JX7 := JX.c7
        have JX8 := JX.c8
        have JXl := JX.lt
        have JY0 := JY.c0
        have JY1 := JY.c1
        have JY2 := JY.c2
        have JY3 := JY.c3
        have JY4 := JY.c4
        have JY5 := JY.c5
        have JY6 := JY.c6
        have JY7 := JY.c7
        have JY8 := JY.c8
        have JYl := JY.lt
        have JR0 := JR.c0
        have JR1 := JR.c1
        have JR2 := JR.c2
        have JR3 := JR.c3
        have JR4 := JR.c4
        have JR5 := JR.c5
        have JR6 := JR.c6
        have JR7 := JR.c7
        have JR8 := JR.c8
        have JRl := JR.lt
        have JRf0 := JR.f0
        have JRf1 := JR.f1
        have JRf2 := JR.f2
        have JRf3 := JR.f3
        have JRf4 := JR.f4
        have JRf5 := JR.f5
        have JRf6 := JR.f6
        have JRf7 := JR.f7
        have JRf8 := JR.f8
        have lb := B.size
        go_wp2_with fail
        refine (IB.out _).mono ?_
        rintro e w2 ⟨rfl, z⟩
        clear JX0 JX1 JX2 JX3 JX4 JX5 JX6 JX7 JX8 JXl JY0 JY1 JY2 JY3 JY4 JY5 JY6 JY7 JY8 JYl JR0 JR1 JR2 JR3 JR4 JR5 JR6 JR7 JR8 JRl JRf0 JRf1 JRf2 JRf3 JRf4 JRf5 JRf6 JRf7 JRf8 lb
        replace JX := JX.below z
        replace JY := JY.below z
        replace JR := JR.below z
        replace B := below_next B z
        clear z
        have JX0 := JX.c0
        have JX1 := JX.c1
        have JX2 := JX.c2
        have JX3 := JX.c3
        have JX4 := JX.c4
        have JX5 := JX.c5
        have JX6 := JX.c6
        have JX7 := JX.c7
        have JX8 := JX.c8
        have JXl := JX.lt
        have JY0 := JY.c0
        have JY1 := JY.c1
        have JY2 := JY.c2
        have JY3 := JY.c3
        have JY4 := JY.c4
        have JY5 := JY.c5
        have JY6 := JY.c6
        have JY7 := JY.c7
        have JY8 := JY.c8
        have JYl := JY.lt
        have JR0 := JR.c0
        have JR1 := JR.c1
        have JR2 := JR.c2
        have JR3 := JR.c3
        have JR4 := JR.c4
        have JR5 := JR.c5
        have JR6 := JR.c6
        have JR7 := JR.c7
        have JR8 := JR.c8
        have JRl := JR.lt
        have JRf0 := JR.f0
        have JRf1 := JR.f1
        have JRf2 := JR.f2
        have JRf3 := JR.f3
        have JRf4 := JR.f4
        have JRf5 := JR.f5
        have JRf6 := JR.f6
        have JRf7 := JR.f7
        have JRf8 := JR.f8
        have lb := B.size
        go_wp2
        exact bodyPost_ret (v := rV (zm (max m m'))) (by simp [results, Try.results32, go_sem, JX0, JX1, JX2, JX3, JX4, JX5, JX6, JX7, JX8, JXl, JY0, JY1, JY2, JY3, JY4, JY5, JY6, JY7, JY8, JYl, JR0, JR1, JR2, JR3, JR4, JR5, JR6, JR7, JR8, JRl]; try first | rfl | exact ⟨rfl, rfl⟩) rfl ⟨rfl, putR_below (zm (max m m')) B (by omega)⟩
  · have hm : (m == m') = false := by simpa [hk] using hkm
    clear hkm
    cases qa
    · rw [Bool.false_and, if_neg (by decide)] at hR
      subst hR
      unfold rV
      dsimp only
      go_enter Try.func32, Try.ntmps32
      go_wp2_with fail
      refine (IA.out _).mono ?_
      rintro e w1 ⟨rfl, z⟩
      have JX : RC w1 (w.heap.size) (⟨k, l, m, s, lo, hi⟩) := (((RC.new rfl).alloc _).alloc _).below z
      have JY : RC w1 (w.heap.size + 1) (⟨k', l', m', s', lo', hi'⟩) := ((RC.new (by simp)).alloc _).below z
      have JR : RC w1 (w.heap.size + 1 + 1) (r0) := (RC.new (by simp)).below z
      have B := below_next (bel_alloc (bel_alloc (bel_alloc (Below.refl w.heap.size w)))) z
      clear z
      have JX0 := JX.c0
      have JX1 := JX.c1
      have JX2 := JX.c2
      have JX3 := JX.c3
      have JX4 := JX.c4
      have JX5 := JX.c5
      have JX6 := JX.c6
      have JX7 := JX.c7
      have JX8 := JX.c8
      have JXl := JX.lt
      have JY0 := JY.c0
      have JY1 := JY.c1
      have JY2 := JY.c2
      have JY3 := JY.c3
      have JY4 := JY.c4
      have JY5 := JY.c5
      have JY6 := JY.c6
      have JY7 := JY.c7
      have JY8 := JY.c8
      have JYl := JY.lt
      have JR0 := JR.c0
      have JR1 := JR.c1
      have JR2 := JR.c2
      have JR3 := JR.c3
      have JR4 := JR.c4
      have JR5 := JR.c5
      have JR6 := JR.c6
      have JR7 := JR.c7
      have JR8 := JR.c8
      have JRl := JR.lt
      have JRf0 := JR.f0
      have JRf1 := JR.f1
      have JRf2 := JR.f2
      have JRf3 := JR.f3
      have JRf4 := JR.f4
      have JRf5 := JR.f5
      have JRf6 := JR.f6
      have JRf7 := JR.f7
      have JRf8 := JR.f8
      have lb := B.size
      go_wp2
      exact bodyPost_ret (v := rV r0) (by simp [results, Try.results32, go_sem, JX0, JX1, JX2, JX3, JX4, JX5, JX6, JX7, JX8, JXl, JY0, JY1, JY2, JY3, JY4, JY5, JY6, JY7, JY8, JYl, JR0, JR1, JR2, JR3, JR4, JR5, JR6, JR7, JR8, JRl]; try first | rfl | exact ⟨rfl, rfl⟩) rfl ⟨rfl, putR_below r0 B (by omega)⟩
    · cases qb
      · rw [Bool.and_false, if_neg (by decide)] at hR
        subst hR
        unfold rV
        dsimp only
        go_enter Try.func32, Try.ntmps32
        go_wp2_with fail
        refine (IA.out _).mono ?_
        rintro e w1 ⟨rfl, z⟩
        have JX : RC w1 (w.heap.size) (⟨k, l, m, s, lo, hi⟩) := (((RC.new rfl).alloc _).alloc _).below z
        have JY : RC w1 (w.heap.size + 1) (⟨k', l', m', s', lo', hi'⟩) := ((RC.new (by simp)).alloc _).below z
        have JR : RC w1 (w.heap.size + 1 + 1) (r0) := (RC.new (by simp)).below z
        have B := below_next (bel_alloc (bel_alloc (bel_alloc (Below.refl w.heap.size w)))) z
        clear z
        have JX0 := JX.c0
        have JX1 := JX.c1
        have JX2 := JX.c2
        have JX3 := JX.c3
        have JX4 := JX.c4
        have JX5 := JX.c5
        have JX6 := JX.c6
        have JX7 := JX.c7
        have JX8 := JX.c8
        have JXl := JX.lt
        have JY0 := JY.c0
        have JY1 := JY.c1
        have JY2 := JY.c2
        have JY3 := JY.c3
        have JY4 := JY.c4
        have JY5 := JY.c5
        have JY6 := JY.c6
        have JY7 := JY.c7
        have JY8 := JY.c8
        have JYl := JY.lt
        have JR0 := JR.c0
        have JR1 := JR.c1
        have JR2 := JR.c2
        have JR3 := JR.c3
        have JR4 := JR.c4
        have JR5 := JR.c5
        have JR6 := JR.c6
        have JR7 := JR.c7
        have JR8 := JR.c8
        have JRl := JR.lt
        have JRf0 := JR.f0
        have JRf1 := JR.f1
        have JRf2 := JR.f2
        have JRf3 := JR.f3
        have JRf4 := JR.f4
        have JRf5 := JR.f5
        have JRf6 := JR.f6
        have JRf7 := JR.f7
        have JRf8 := JR.f8
        have lb := B.size
        go_wp2_with fail
        refine (IB.out _).mono ?_
        rintro e w2 ⟨rfl, z⟩
        clear JX0 JX1 JX2 JX3 JX4 JX5 JX6 JX7 JX8 JXl JY0 JY1 JY2 JY3 JY4 JY5 JY6 JY7 JY8 JYl JR0 JR1 JR2 JR3 JR4 JR5 JR6 JR7 JR8 JRl JRf0 JRf1 JRf2 JRf3 JRf4 JRf5 JRf6 JRf7 JRf8 lb
        replace JX := JX.below z
        replace JY := JY.below z
        replace JR := JR.below z
        replace B := below_next B z
        clear z
        have JX0 := JX.c0
        have JX1 := JX.c1
        have JX2 := JX.c2
        have JX3 := JX.c3
        have JX4 := JX.c4
        have JX5 := JX.c5
        have JX6 := JX.c6
        have JX7 := JX.c7
        have JX8 := JX.c8
        have JXl := JX.lt
        have JY0 := JY.c0
        have JY1 := JY.c1
        have JY2 := JY.c2
        have JY3 := JY.c3
        have JY4 := JY.c4
        have JY5 := JY.c5
        have JY6 := JY.c6
        have JY7 := JY.c7
        have JY8 := JY.c8
        have JYl := JY.lt
        have JR0 := JR.c0
        have JR1 := JR.c1
        have JR2 := JR.c2
        have JR3 := JR.c3
        have JR4 := JR.c4
        have JR5 := JR.c5
        have JR6 := JR.c6
        have JR7 := JR.c7
        have JR8 := JR.c8
        have JRl := JR.lt
        have JRf0 := JR.f0
        have JRf1 := JR.f1
        have JRf2 := JR.f2
        have JRf3 := JR.f3
        have JRf4 := JR.f4
        have JRf5 := JR.f5
        have JRf6 := JR.f6
        have JRf7 := JR.f7
        have JRf8 := JR.f8
        have lb := B.size
        go_wp2
        exact bodyPost_ret (v := rV r0) (by simp [results, Try.results32, go_sem, JX0, JX1, JX2, JX3, JX4, JX5, JX6, JX7, JX8, JXl, JY0, JY1, JY2, JY3, JY4, JY5, JY6, JY7, JY8, JYl, JR0, JR1, JR2, JR3, JR4, JR5, JR6, JR7, JR8, JRl]; try first | rfl | exact ⟨rfl, rfl⟩) rfl ⟨rfl, putR_below r0 B (by omega)⟩
      · rw [Bool.and_self, if_pos rfl] at hR
        subst hR
        unfold rV
        dsimp only
        go_enter Try.func32, Try.ntmps32
        go_wp2_with fail
        refine (IA.out _).mono ?_
        rintro e w1 ⟨rfl, z⟩
        have JX : RC w1 (w.heap.size) (⟨k, l, m, s, lo, hi⟩) := (((RC.new rfl).alloc _).alloc _).below z
        have JY : RC w1 (w.heap.size + 1) (⟨k', l', m', s', lo', hi'⟩) := ((RC.new (by simp)).alloc _).below z
        have JR : RC w1 (w.heap.size + 1 + 1) (r0) := (RC.new (by simp)).below z
        have B := below_next (bel_alloc (bel_alloc (bel_alloc (Below.refl w.heap.size w)))) z
        clear z
        have JX0 := JX.c0
        have JX1 := JX.c1
        have JX2 := JX.c2
        have JX3 := JX.c3
        have JX4 := JX.c4
        have JX5 := JX.c5
        have JX6 := JX.c6
        have JX7 := JX.c7
        have JX8 := JX.c8
        have JXl := JX.lt
        have JY0 := JY.c0
        have JY1 := JY.c1
        have JY2 := JY.c2
        have JY3 := JY.c3
        have JY4 := JY.c4
        have JY5 := JY.c5
        have JY6 := JY.c6
        have JY7 := JY.c7
        have JY8 := JY.c8
        have JYl := JY.lt
        have JR0 := JR.c0
        have JR1 := JR.c1
        have JR2 := JR.c2
        have JR3 := JR.c3
        have JR4 := JR.c4
        have JR5 := JR.c5
        have JR6 := JR.c6
        have JR7 := JR.c7
        have JR8 := JR.c8
        have JRl := JR.lt
        have JRf0 := JR.f0
        have JRf1 := JR.f1
        have JRf2 := JR.f2
        have JRf3 := JR.f3
        have JRf4 := JR.f4
        have JRf5 := JR.f5
        have JRf6 := JR.f6
        have JRf7 := JR.f7
        have JRf8 := JR.f8
        have lb := B.size
        go_wp2_with fail
        refine (IB.out _).mono ?_
        rintro e w2 ⟨rfl, z⟩
        clear JX0 JX1 JX2 JX3 JX4 JX5 JX6 JX7 JX8 JXl JY0 JY1 JY2 JY3 JY4 JY5 JY6 JY7 JY8 JYl JR0 JR1 JR2 JR3 JR4 JR5 JR6 JR7 JR8 JRl JRf0 JRf1 JRf2 JRf3 JRf4 JRf5 JRf6 JRf7 JRf8 lb
        replace JX := JX.below z
        replace JY := JY.below z
        replace JR := JR.below z
        replace B := below_next B z
        clear z
        have JX0 := JX.c0
        have JX1 := JX.c1
        have JX2 := JX.c2
        have JX3 := JX.c3
        have JX4 := JX.c4
        have JX5 := JX.c5
        have JX6 := JX.c6
        have JX7 := JX.c7
        have JX8 := JX.c8
        have JXl := JX.lt
        have JY0 := JY.c0
        have JY1 := JY.c1
        have JY2 := JY.c2
        have JY3 := JY.c3
        have JY4 := JY.c4
        have JY5 := JY.c5
        have JY6 := JY.c6
        have JY7 := JY.c7
        have JY8 := JY.c8
        have JYl := JY.lt
        have JR0 := JR.c0
        have JR1 := JR.c1
        have JR2 := JR.c2
        have JR3 := JR.c3
        have JR4 := JR.c4
        have JR5 := JR.c5
        have JR6 := JR.c6
        have JR7 := JR.c7
        have JR8 := JR.c8
        have JRl := JR.lt
        have JRf0 := JR.f0
        have JRf1 := JR.f1
        have JRf2 := JR.f2
        have JRf3 := JR.f3
        have JRf4 := JR.f4
        have JRf5 := JR.f5
        have JRf6 := JR.f6
        have JRf7 := JR.f7
        have JRf8 := JR.f8
        have lb := B.size
        go_wp2
        exact bodyPost_ret (v := rV (zm (max m m'))) (by simp [results, Try.results32, go_sem, JX0, JX1, JX2, JX3, JX4, JX5, JX6, JX7, JX8, JXl, JY0, JY1, JY2, JY3, JY4, JY5, JY6, JY7, JY8, JYl, JR0, JR1, JR2, JR3, JR4, JR5, JR6, JR7, JR8, JRl]; try first | rfl | exact ⟨rfl, rfl⟩) rfl ⟨rfl, putR_below (zm (max m m')) B (by omega)⟩
end Go.Proofs.Ytodmikjpmcabiaa
