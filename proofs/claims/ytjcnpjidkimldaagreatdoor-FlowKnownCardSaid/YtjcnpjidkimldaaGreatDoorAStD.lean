/-
  Contracts of slotMay, anyNumber, isMaybe, regIn. Contract of regJoin. Contracts of regIn, regHolds.
-/
import Derived.Test.YtjcnpjidkimldaaGreatDoorAStA
import Derived.Deep.RegionHeld3
import Derived.Deep.RegionLaw
import Derived.Lib.MinMax
namespace Go.Proofs.YtjcnpjidkimldaaGreatDoor
set_option linter.unusedSimpArgs false
set_option linter.unusedVariables false
set_option maxRecDepth 100000
set_option maxRecDepth 100000
open Go.ChangeShapes Go.WideShapes Go.ChangeAt Go.RowKit Me

theorem vb_eqi (x y : B8) : (vb x == vb y) = (x == y) := by rw [Bool.eq_iff_iff, beq_iff_eq, beq_iff_eq, vb_inj]
theorem sc_beq (x y : Sc) : (x == y) = decide (x = y) := by rw [Bool.eq_iff_iff, beq_iff_eq, decide_eq_true_eq]
set_option maxHeartbeats 4000000 in
theorem slotMay_any (x : Sk) (hx : ROk x.r) (w : World) : Calls Tryz.prog 78 #[kV x] w fun e w' => e = .returned (.bool (kMay x)) ∧ Below w.heap.size w w' := by
  have E := fun W => eq_r x.r r0 hx r0_ok W
  have M := fun W => regMay_any x.r hx W
  have BL := bld_r0
  have hc : (vb x.h == 255) = (x.h == 255#8) := vb_eqi x.h 255#8
  unfold kMay
  generalize rB x.r r0 = q at *
  generalize rMay x.r = mm at *
  generalize (x.h == 255#8) = hh at *
  obtain ⟨h, r⟩ := x
  dsimp only at *
  unfold rV at E M BL
  simp only [r0, sc0, t0, ub00] at E BL
  unfold kV
  dsimp only
  replace M := hid M
  cases q
  · rw [Bool.false_or]
    cases mm
    · go_enter Tryz.func78, Tryz.ntmps78
      go_wp2_with fail
      refine (M.out _).mono ?_
      rintro e w1 ⟨rfl, z⟩
      have B := below_next (bel_alloc (Below.refl w.heap.size w)) z
      clear z
      go_wp2
      go_ret
      exact ⟨rfl, B⟩
    · rw [Bool.true_and]
      go_enter Tryz.func78, Tryz.ntmps78
      go_wp2_with fail
      refine (M.out _).mono ?_
      rintro e w1 ⟨rfl, z⟩
      have JX : KC w1 w.heap.size ⟨h, r⟩ := (KC.new rfl).below z
      have B := below_next (bel_alloc (Below.refl w.heap.size w)) z
      clear z
      have JX0 := JX.c0
      have JXl := JX.lt
      dsimp only at JX0
      go_wp2
      go_ret
      exact ⟨rfl, B⟩
  · rw [Bool.true_or]
    go_enter Tryz.func78, Tryz.ntmps78
    go_wp2
    go_ret
    exact ⟨rfl, bel_alloc (Below.refl _ _)⟩
theorem anyNum_any (w : World) : Calls Tryz.prog 250 #[] w fun e w' => e = .returned (rV anyR) ∧ Below w.heap.size w w' := by
  have X := fun W => cAll_any W
  unfold sv at X
  replace X := hid X
  have BL : ∀ (a b c d : Int) (W : World), (Instr.build 41 #[(0, .int .u8 1), (3, .agg #[.int .u64 a, .int .u64 b, .int .u64 c, .int .u64 d])]).run Tryz.prog W = .ok (.agg #[.int .u8 1, .bool false, .int .i64 0, .int .u64 a, .int .u64 b, .int .u64 c, .int .u64 d, .int .i64 0, .int .i64 0]) W := by intro a b c d W; kernel_rfl
  go_enter Tryz.func250, Tryz.ntmps250
  go_wp2_with fail
  refine (X.out _).mono ?_
  rintro e w1 ⟨rfl, z⟩
  have JR : RC w1 w.heap.size r0 := (RC.new rfl).below z
  have B := below_next (bel_alloc (Below.refl w.heap.size w)) z
  clear z
  have JR0 := JR.c0
  have JRf0 := JR.f0
  have JR1 := JR.c1
  have JRf1 := JR.f1
  have JR2 := JR.c2
  have JRf2 := JR.f2
  have JR3 := JR.c3
  have JRf3 := JR.f3
  have JR4 := JR.c4
  have JRf4 := JR.f4
  have JR5 := JR.c5
  have JRf5 := JR.f5
  have JR6 := JR.c6
  have JRf6 := JR.f6
  have JR7 := JR.c7
  have JRf7 := JR.f7
  have JR8 := JR.c8
  have JRf8 := JR.f8
  have JRl := JR.lt
  have lb := B.size
  go_wp2
  exact bodyPost_ret (v := rV anyR) (by simp [results, Tryz.results250, go_sem, JR0, JR1, JR2, JR3, JR4, JR5, JR6, JR7, JR8, JRl]; try first | rfl | exact ⟨rfl, rfl⟩) rfl ⟨rfl, putR_below anyR B (by omega)⟩
set_option maxHeartbeats 4000000 in
theorem isM_any (r : Rg) (hr : ROk r) (m : Int) (hm : -9223372036854775808 ≤ m ∧ m < 9223372036854775808) (w : World) : Calls Tryz.prog 247 #[rV r, .int .i64 m] w fun e w' => e = .returned (.bool (isM r m)) ∧ Below w.heap.size w w' := by
  have E := fun W => eq_r r ⟨r.k, false, m, sc0, 0, 0⟩ hr (by unfold ROk at hr ⊢; dsimp only; omega) W
  have ES := fun W => eq_sc r.s (ofX 0#64) W
  have OF := fun W => cOf_any 0#64 W
  rw [ub00] at OF
  unfold isM
  by_cases h1 : r.k = 1
  · rw [if_pos h1]
    rw [← sc_beq]
    generalize (r.s == ofX 0#64) = q at *
    obtain ⟨k, l, m', s, lo, hi⟩ := r
    dsimp only at *
    subst h1
    unfold sv at ES OF
    replace OF := hid OF
    clear E hr
    unfold rV
    dsimp only
    go_enter Tryz.func247, Tryz.ntmps247
    go_wp2_with fail
    have JX : RC (w.alloc (.cells #[.int .u8 1, .bool l, .int .i64 m', .int .u64 (ub s.1.1), .int .u64 (ub s.1.2), .int .u64 (ub s.2.1), .int .u64 (ub s.2.2), .int .i64 lo, .int .i64 hi] 41)) w.heap.size ⟨1, l, m', s, lo, hi⟩ := RC.new (x := ⟨1, l, m', s, lo, hi⟩) rfl
    have B : Below w.heap.size w (w.alloc (.cells #[.int .u8 1, .bool l, .int .i64 m', .int .u64 (ub s.1.1), .int .u64 (ub s.1.2), .int .u64 (ub s.2.1), .int .u64 (ub s.2.2), .int .i64 lo, .int .i64 hi] 41)) := bel_alloc (Below.refl _ _)
    generalize w.alloc (.cells #[.int .u8 1, .bool l, .int .i64 m', .int .u64 (ub s.1.1), .int .u64 (ub s.1.2), .int .u64 (ub s.2.1), .int .u64 (ub s.2.2), .int .i64 lo, .int .i64 hi] 41) = w0 at *
    have q0 := JX.c3
    have q1 := JX.c4
    have q2 := JX.c5
    have q3 := JX.c6
    try dsimp only at q0 q1 q2 q3
    go_region_held3 (fun w' => w'.cell? ⟨w.heap.size, 3, none⟩ = some (.int .u64 (ub s.1.1)) ∧ w'.cell? ⟨w.heap.size, 4, none⟩ = some (.int .u64 (ub s.1.2)) ∧ w'.cell? ⟨w.heap.size, 5, none⟩ = some (.int .u64 (ub s.2.1)) ∧ w'.cell? ⟨w.heap.size, 6, none⟩ = some (.int .u64 (ub s.2.2)) ∧ Below w0.heap.size w0 w')
      (first | (go_split_ands; with_reducible exact ⟨by with_reducible assumption, by with_reducible assumption, by with_reducible assumption, by with_reducible assumption, by with_reducible assumption⟩) | (with_reducible exact ⟨cn bq (by with_reducible assumption), cn bq (by with_reducible assumption), cn bq (by with_reducible assumption), cn bq (by with_reducible assumption), below_next (by with_reducible assumption) bq⟩) | (with_reducible exact ⟨cn (below_dr w0) q0, cn (below_dr w0) q1, cn (below_dr w0) q2, cn (below_dr w0) q3, below_dr w0⟩))
      (first | (go_at_call 11; go_split_ands; (with_reducible refine (OF.out _).mono ?_); rintro e wq ⟨rfl, bq⟩))
    go_split_ands
    have zq : Below w0.heap.size w0 wq := by with_reducible assumption
    replace B := below_next B zq
    go_wp2
    go_ret
    exact ⟨rfl, B⟩
  rw [if_neg h1]
  clear ES OF
  have e1 : (r.k == 1) = false := by simpa using h1
  by_cases h6 : r.k = 6 ∨ r.k = 7
  · rw [if_pos h6]
    generalize rB r ⟨r.k, false, m, sc0, 0, 0⟩ = q at *
    have BL := fun a => bld_r_m a
    unfold rV at E ⊢
    simp only [sc0, t0, ub00] at E
    clear hr
    rcases h6 with h6 | h6
    all_goals
      rw [h6] at E ⊢
      go_enter Tryz.func247, Tryz.ntmps247
      go_wp2
      go_ret
      exact ⟨rfl, bel_alloc (Below.refl _ _)⟩
  · rw [if_neg h6]
    have e6 : (r.k == 6) = false := by simp; omega
    have e7 : (r.k == 7) = false := by simp; omega
    clear E hr h1 h6
    unfold rV
    go_enter Tryz.func247, Tryz.ntmps247
    go_wp2
    go_ret
    exact ⟨rfl, bel_alloc (Below.refl _ _)⟩
end Go.Proofs.YtjcnpjidkimldaaGreatDoor

namespace Go.Proofs.YtjcnpjidkimldaaGreatDoor
set_option linter.unusedSimpArgs false
set_option linter.unusedVariables false
set_option maxRecDepth 100000
set_option maxRecDepth 100000
open Go.ChangeShapes Go.WideShapes Go.ChangeAt Go.RowKit Me

end Go.Proofs.YtjcnpjidkimldaaGreatDoor

namespace Go.Proofs.YtjcnpjidkimldaaGreatDoor
set_option linter.unusedSimpArgs false
set_option linter.unusedVariables false
set_option maxRecDepth 100000
set_option maxRecDepth 100000
open Go.ChangeShapes Go.WideShapes Go.ChangeAt Go.RowKit Me

set_option maxHeartbeats 4000000 in
theorem regIn_any (a b : Rg) (ha : ROk a) (hb : ROk b) (w : World) : Calls Tryz.prog 191 #[rV a, rV b] w fun e w' => e = .returned (.bool (rIn a b)) ∧ Below w.heap.size w w' := by
  have IM := fun W => isM_any a ha b.m hb.2.1 W
  have IN := fun W => cIn_any a.s b.s W
  unfold rIn
  obtain ⟨k, l, m, s, lo, hi⟩ := a
  obtain ⟨k', l', m', s', lo', hi'⟩ := b
  dsimp only at *
  clear ha hb
  by_cases b0 : k' = 0
  · rw [if_pos b0]
    subst b0
    clear IM IN
    unfold rV
    dsimp only
    go_enter Tryz.func191, Tryz.ntmps191
    go_wp2
    go_ret
    exact ⟨rfl, bel_alloc (bel_alloc (Below.refl _ _))⟩
  rw [if_neg b0]
  have e0 : (k' == 0) = false := by simpa using b0
  by_cases b7 : k' = 7
  · rw [if_pos b7]
    subst b7
    clear IN e0
    generalize isM ⟨k, l, m, s, lo, hi⟩ m' = q at *
    unfold rV at IM ⊢
    dsimp only at IM ⊢
    replace IM := hid IM
    go_enter Tryz.func191, Tryz.ntmps191
    go_wp2_with fail
    refine (IM.out _).mono ?_
    rintro e w1 ⟨rfl, z⟩
    have JX : RC w1 (w.heap.size) (⟨k, l, m, s, lo, hi⟩) := ((RC.new rfl).alloc _).below z
    have JY : RC w1 (w.heap.size + 1) (⟨7, l', m', s', lo', hi'⟩) := (RC.new (by simp)).below z
    have B := below_next (bel_alloc (bel_alloc (Below.refl w.heap.size w))) z
    clear z
    have JX0 := JX.c0
    have JX1 := JX.c1
    have JX2 := JX.c2
    have JX3 := JX.c3
    have JX4 := JX.c4
    have JX5 := JX.c5
    have JX6 := JX.c6
    have JX7 := JX.c7
    have JX8 := JX.c8
    have JXl := JX.lt
    have JY0 := JY.c0
    have JY1 := JY.c1
    have JY2 := JY.c2
    have JY3 := JY.c3
    have JY4 := JY.c4
    have JY5 := JY.c5
    have JY6 := JY.c6
    have JY7 := JY.c7
    have JY8 := JY.c8
    have JYl := JY.lt
    have lb := B.size
    go_wp2
    go_ret
    exact ⟨rfl, B⟩
  rw [if_neg b7]
  have e7 : (k' == 7) = false := by simpa using b7
  by_cases ab : k ≠ k'
  · rw [if_pos ab]
    have eab : (k == k') = false := by simpa using ab
    have ebn : (k != k') = true := by simpa using ab
    clear IM IN ab b0 b7
    unfold rV
    dsimp only
    go_enter Tryz.func191, Tryz.ntmps191
    go_wp2
    go_ret
    exact ⟨rfl, bel_alloc (bel_alloc (Below.refl _ _))⟩
  rw [if_neg ab]
  have ek : k = k' := Decidable.not_not.1 ab
  subst ek
  clear ab IM
  by_cases a1 : k = 1
  · rw [if_pos a1]
    subst a1
    clear e0 e7 b0 b7
    generalize inX s s' = q at *
    unfold sv at IN
    replace IN := hid IN
    unfold rV
    dsimp only
    cases q
    · rw [Bool.false_and]
      go_enter Tryz.func191, Tryz.ntmps191
      go_wp2_with fail
      refine (IN.out _).mono ?_
      rintro e w1 ⟨rfl, z⟩
      have JX : RC w1 (w.heap.size) (⟨1, l, m, s, lo, hi⟩) := ((RC.new rfl).alloc _).below z
      have JY : RC w1 (w.heap.size + 1) (⟨1, l', m', s', lo', hi'⟩) := (RC.new (by simp)).below z
      have B := below_next (bel_alloc (bel_alloc (Below.refl w.heap.size w))) z
      clear z
      have JX0 := JX.c0
      have JX1 := JX.c1
      have JX2 := JX.c2
      have JX3 := JX.c3
      have JX4 := JX.c4
      have JX5 := JX.c5
      have JX6 := JX.c6
      have JX7 := JX.c7
      have JX8 := JX.c8
      have JXl := JX.lt
      have JY0 := JY.c0
      have JY1 := JY.c1
      have JY2 := JY.c2
      have JY3 := JY.c3
      have JY4 := JY.c4
      have JY5 := JY.c5
      have JY6 := JY.c6
      have JY7 := JY.c7
      have JY8 := JY.c8
      have JYl := JY.lt
      have lb := B.size
      go_wp2
      go_ret
      exact ⟨rfl, B⟩
    · rw [Bool.true_and]
      cases l
      · rw [Bool.false_or]
        go_enter Tryz.func191, Tryz.ntmps191
        go_wp2_with fail
        refine (IN.out _).mono ?_
        rintro e w1 ⟨rfl, z⟩
        have JX : RC w1 (w.heap.size) (⟨1, false, m, s, lo, hi⟩) := ((RC.new rfl).alloc _).below z
        have JY : RC w1 (w.heap.size + 1) (⟨1, l', m', s', lo', hi'⟩) := (RC.new (by simp)).below z
        have B := below_next (bel_alloc (bel_alloc (Below.refl w.heap.size w))) z
        clear z
        have JX0 := JX.c0
        have JX1 := JX.c1
        have JX2 := JX.c2
        have JX3 := JX.c3
        have JX4 := JX.c4
        have JX5 := JX.c5
        have JX6 := JX.c6
        have JX7 := JX.c7
        have JX8 := JX.c8
        have JXl := JX.lt
        have JY0 := JY.c0
        have JY1 := JY.c1
        have JY2 := JY.c2
        have JY3 := JY.c3
        have JY4 := JY.c4
        have JY5 := JY.c5
        have JY6 := JY.c6
        have JY7 := JY.c7
        have JY8 := JY.c8
        have JYl := JY.lt
        have lb := B.size
        go_wp2
        go_ret
        exact ⟨rfl, B⟩
      · rw [Bool.true_or]
        go_enter Tryz.func191, Tryz.ntmps191
        go_wp2_with fail
        refine (IN.out _).mono ?_
        rintro e w1 ⟨rfl, z⟩
        have JX : RC w1 (w.heap.size) (⟨1, true, m, s, lo, hi⟩) := ((RC.new rfl).alloc _).below z
        have JY : RC w1 (w.heap.size + 1) (⟨1, l', m', s', lo', hi'⟩) := (RC.new (by simp)).below z
        have B := below_next (bel_alloc (bel_alloc (Below.refl w.heap.size w))) z
        clear z
        have JX0 := JX.c0
        have JX1 := JX.c1
        have JX2 := JX.c2
        have JX3 := JX.c3
        have JX4 := JX.c4
        have JX5 := JX.c5
        have JX6 := JX.c6
        have JX7 := JX.c7
        have JX8 := JX.c8
        have JXl := JX.lt
        have JY0 := JY.c0
        have JY1 := JY.c1
        have JY2 := JY.c2
        have JY3 := JY.c3
        have JY4 := JY.c4
        have JY5 := JY.c5
        have JY6 := JY.c6
        have JY7 := JY.c7
        have JY8 := JY.c8
        have JYl := JY.lt
        have lb := B.size
        go_wp2
        go_ret
        exact ⟨rfl, B⟩
  rw [if_neg a1]
  have e1 : (k == 1) = false := by simpa using a1
  clear IN b0 b7 a1
  unfold rV
  dsimp only
  cases em : (m == m')
  · rw [Bool.false_and]
    go_enter Tryz.func191, Tryz.ntmps191
    go_wp2
    go_ret
    exact ⟨rfl, bel_alloc (bel_alloc (Below.refl _ _))⟩
  rw [Bool.true_and]
  cases el : decide (lo' ≤ lo)
  · rw [Bool.false_and]
    go_enter Tryz.func191, Tryz.ntmps191
    go_wp2
    go_ret
    exact ⟨rfl, bel_alloc (bel_alloc (Below.refl _ _))⟩
  · rw [Bool.true_and]
    go_enter Tryz.func191, Tryz.ntmps191
    go_wp2
    go_ret
    exact ⟨rfl, bel_alloc (bel_alloc (Below.refl _ _))⟩
end Go.Proofs.YtjcnpjidkimldaaGreatDoor
