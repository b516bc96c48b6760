/-
  SpanHas: whether spans may be, what they hold, whether one holds another one.
-/
import Derived.Test.YtpeieokmafpaiaaSpW
namespace Go.Proofs.Ytpeieokmafpaiaa
set_option linter.unusedSimpArgs false
set_option linter.unusedVariables false
open Go.ChangeShapes Go.WideShapes Go.ChangeAt Go.RowKit

/-- The boxes of two spans. -/
structure AB (w : World) (a b : Tn) (w' : World) : Prop where
  ca : BC w' w.heap.size a
  cb : BC w' (w.heap.size + 1) b
  bel : Below w.heap.size w w'
theorem AB.next {w : World} {a b : Tn} {w' w2 : World} (h : AB w a b w') (hb : Below w'.heap.size w' w2) : AB w a b w2 :=
  ⟨h.ca.below hb, h.cb.below hb, h.bel.trans (hb.mono h.bel.size)⟩
theorem AB.start (w : World) (a b : Tn) (t t' : TypeId) : AB w a b ((w.alloc (.cells #[.int .u64 (ub a.1), .int .u64 (ub a.2)] t)).alloc (.cells #[.int .u64 (ub b.1), .int .u64 (ub b.2)] t')) := by
  have e1 := BC.new (w := w) (a := a) (t := t) rfl
  have s1 : (w.alloc (.cells #[.int .u64 (ub a.1), .int .u64 (ub a.2)] t)).heap.size = w.heap.size + 1 := by simp
  have b1 : Below w.heap.size w (w.alloc (.cells #[.int .u64 (ub a.1), .int .u64 (ub a.2)] t)) := (Below.refl _ _).alloc (Nat.le_refl _) _
  generalize w.alloc (.cells #[.int .u64 (ub a.1), .int .u64 (ub a.2)] t) = u1 at *
  have e2 := BC.new (w := u1) (a := b) (t := t') s1.symm
  have b2 : Below u1.heap.size u1 (u1.alloc (.cells #[.int .u64 (ub b.1), .int .u64 (ub b.2)] t')) := (Below.refl _ _).alloc (Nat.le_refl _) _
  exact ⟨e1.below b2, e2, b1.trans (b2.mono b1.size)⟩
set_option maxRecDepth 20000 in
set_option maxHeartbeats 4000000 in
theorem has_walk (a b : Tn) (n : B64) (w : World) : Calls Try.prog 7 #[tv a, tv b, .int .u64 (ub n)] w fun e w' => e = .returned (.bool true) ∧ Below w.heap.size w w' := by
  have X1 := fun W => qMay_any a W
  have X2 := fun W => qMay_any b W
  have X3 := fun W => sMay_any a W
  have X4 := fun W => sHas_any a n W
  have X5 := fun W => sIn_any a b W
  have X6 := fun W => sOf_any n W
  have X7 := fun W => sAll_any W
  have HW := hid wakes_true
  unfold inSp at X5
  rw [dec_le, dec_le] at X4 X5
  have d1 : mayS a = decide (ub a.1 ≤ ub a.2) := dec_le _ _
  have d2 : mayS b = decide (ub b.1 ≤ ub b.2) := dec_le _ _
  unfold tv at X1 X2 X3 X4 X5 X6 X7
  replace X6 := hid X6
  replace X7 := hid X7
  by_cases hA : ub a.1 ≤ ub a.2
  case neg =>
    rw [decide_eq_false hA] at d1
    rw [d1] at X1 X3 X5
    rw [show (decide (ub a.1 ≤ ub n) && decide (ub n ≤ ub a.2)) = false by rw [Bool.and_eq_false_iff, decide_eq_false_iff_not, decide_eq_false_iff_not]; omega] at X4
    rw [Bool.false_and, Bool.false_and] at X5
    replace X1 := hid X1
    replace X3 := hid X3
    replace X4 := hid X4
    replace X5 := hid X5
    clear X2 d1 d2 hA
    have I := AB.start w a b 53 53
    unfold tv
    go_enter Try.func7, Try.ntmps7
    go_wp2_with fail
    generalize (w.alloc (.cells #[.int .u64 (ub a.1), .int .u64 (ub a.2)] 53)).alloc (.cells #[.int .u64 (ub b.1), .int .u64 (ub b.2)] 53) = w0 at I ⊢
    refine (X1.out _).mono ?_
    rintro e w1 ⟨rfl, z1⟩
    replace I := I.next z1
    clear z1
    have a0 := I.ca.c0
    have a1 := I.ca.c1
    have b0 := I.cb.c0
    have b1 := I.cb.c1
    go_wp2_with fail
    refine (X3.out _).mono ?_
    rintro e w2 ⟨rfl, z2⟩
    clear a0 a1 b0 b1
    replace I := I.next z2
    clear z2
    have a0 := I.ca.c0
    have a1 := I.ca.c1
    have b0 := I.cb.c0
    have b1 := I.cb.c1
    go_wp2_with fail
    refine (X4.out _).mono ?_
    rintro e w3 ⟨rfl, z3⟩
    clear a0 a1 b0 b1
    replace I := I.next z3
    clear z3
    have a0 := I.ca.c0
    have a1 := I.ca.c1
    have b0 := I.cb.c0
    have b1 := I.cb.c1
    go_wp2_with fail
    refine (X5.out _).mono ?_
    rintro e w4 ⟨rfl, z4⟩
    clear a0 a1 b0 b1
    replace I := I.next z4
    clear z4
    have a0 := I.ca.c0
    have a1 := I.ca.c1
    have b0 := I.cb.c0
    have b1 := I.cb.c1
    go_wp2_with fail
    refine (X6.out _).mono ?_
    rintro e w5 ⟨rfl, z5⟩
    clear a0 a1 b0 b1
    replace I := I.next z5
    clear z5
    have a0 := I.ca.c0
    have a1 := I.ca.c1
    have b0 := I.cb.c0
    have b1 := I.cb.c1
    go_wp2_with fail
    refine (X7.out _).mono ?_
    rintro e w6 ⟨rfl, z6⟩
    clear a0 a1 b0 b1
    replace I := I.next z6
    clear z6
    have a0 := I.ca.c0
    have a1 := I.ca.c1
    have b0 := I.cb.c0
    have b1 := I.cb.c1
    go_wp2_with fail
    refine (HW.out _).mono ?_
    rintro e w7 ⟨rfl, z7⟩
    clear a0 a1 b0 b1
    replace I := I.next z7
    clear z7
    have HB := hid I.bel
    clear I
    go_wp2
    go_ret
    exact ⟨rfl, HB.out⟩
  rw [decide_eq_true hA] at d1
  rw [d1] at X1 X3 X5
  rw [Bool.true_and] at X5
  replace X1 := hid X1
  replace X3 := hid X3
  clear d1
  by_cases hn : ub a.1 ≤ ub n
  case pos =>
    rw [decide_eq_true hn, Bool.true_and] at X4
    replace X4 := hid X4
    by_cases hB : ub b.1 ≤ ub b.2
    case neg =>
      rw [decide_eq_false hB] at d2
      rw [d2] at X2
      rw [show (decide (ub b.1 ≤ ub a.1) && decide (ub a.2 ≤ ub b.2)) = false by rw [Bool.and_eq_false_iff, decide_eq_false_iff_not, decide_eq_false_iff_not]; omega] at X5
      replace X2 := hid X2
      replace X5 := hid X5
      clear d2 hA hB
      have I := AB.start w a b 53 53
      unfold tv
      go_enter Try.func7, Try.ntmps7
      go_wp2_with fail
      generalize (w.alloc (.cells #[.int .u64 (ub a.1), .int .u64 (ub a.2)] 53)).alloc (.cells #[.int .u64 (ub b.1), .int .u64 (ub b.2)] 53) = w0 at I ⊢
      refine (X1.out _).mono ?_
      rintro e w1 ⟨rfl, z1⟩
      replace I := I.next z1
      clear z1
      have a0 := I.ca.c0
      have a1 := I.ca.c1
      have b0 := I.cb.c0
      have b1 := I.cb.c1
      go_wp2_with fail
      refine (X2.out _).mono ?_
      rintro e w2 ⟨rfl, z2⟩
      clear a0 a1 b0 b1
      replace I := I.next z2
      clear z2
      have a0 := I.ca.c0
      have a1 := I.ca.c1
      have b0 := I.cb.c0
      have b1 := I.cb.c1
      go_wp2_with fail
      refine (X3.out _).mono ?_
      rintro e w3 ⟨rfl, z3⟩
      clear a0 a1 b0 b1
      replace I := I.next z3
      clear z3
      have a0 := I.ca.c0
      have a1 := I.ca.c1
      have b0 := I.cb.c0
      have b1 := I.cb.c1
      go_wp2_with fail
      refine (X4.out _).mono ?_
      rintro e w4 ⟨rfl, z4⟩
      clear a0 a1 b0 b1
      replace I := I.next z4
      clear z4
      have a0 := I.ca.c0
      have a1 := I.ca.c1
      have b0 := I.cb.c0
      have b1 := I.cb.c1
      go_wp2_with fail
      refine (X5.out _).mono ?_
      rintro e w5 ⟨rfl, z5⟩
      clear a0 a1 b0 b1
      replace I := I.next z5
      clear z5
      have a0 := I.ca.c0
      have a1 := I.ca.c1
      have b0 := I.cb.c0
      have b1 := I.cb.c1
      go_wp2_with fail
      refine (X6.out _).mono ?_
      rintro e w6 ⟨rfl, z6⟩
      clear a0 a1 b0 b1
      replace I := I.next z6
      clear z6
      have a0 := I.ca.c0
      have a1 := I.ca.c1
      have b0 := I.cb.c0
      have b1 := I.cb.c1
      go_wp2_with fail
      refine (X7.out _).mono ?_
      rintro e w7 ⟨rfl, z7⟩
      clear a0 a1 b0 b1
      replace I := I.next z7
      clear z7
      have a0 := I.ca.c0
      have a1 := I.ca.c1
      have b0 := I.cb.c0
      have b1 := I.cb.c1
      go_wp2_with fail
      refine (HW.out _).mono ?_
      rintro e w8 ⟨rfl, z8⟩
      clear a0 a1 b0 b1
      replace I := I.next z8
      clear z8
      have HB := hid I.bel
      clear I
      go_wp2
      go_ret
      exact ⟨rfl, HB.out⟩
    rw [decide_eq_true hB] at d2
    rw [d2] at X2
    replace X2 := hid X2
    clear d2
    by_cases hl : ub b.1 ≤ ub a.1
    · rw [decide_eq_true hl, Bool.true_and] at X5
      replace X5 := hid X5
      clear hA hB
      have I := AB.start w a b 53 53
      unfold tv
      go_enter Try.func7, Try.ntmps7
      go_wp2_with fail
      generalize (w.alloc (.cells #[.int .u64 (ub a.1), .int .u64 (ub a.2)] 53)).alloc (.cells #[.int .u64 (ub b.1), .int .u64 (ub b.2)] 53) = w0 at I ⊢
      refine (X1.out _).mono ?_
      rintro e w1 ⟨rfl, z1⟩
      replace I := I.next z1
      clear z1
      have a0 := I.ca.c0
      have a1 := I.ca.c1
      have b0 := I.cb.c0
      have b1 := I.cb.c1
      go_wp2_with fail
      refine (X2.out _).mono ?_
      rintro e w2 ⟨rfl, z2⟩
      clear a0 a1 b0 b1
      replace I := I.next z2
      clear z2
      have a0 := I.ca.c0
      have a1 := I.ca.c1
      have b0 := I.cb.c0
      have b1 := I.cb.c1
      go_wp2_with fail
      refine (X3.out _).mono ?_
      rintro e w3 ⟨rfl, z3⟩
      clear a0 a1 b0 b1
      replace I := I.next z3
      clear z3
      have a0 := I.ca.c0
      have a1 := I.ca.c1
      have b0 := I.cb.c0
      have b1 := I.cb.c1
      go_wp2_with fail
      refine (X4.out _).mono ?_
      rintro e w4 ⟨rfl, z4⟩
      clear a0 a1 b0 b1
      replace I := I.next z4
      clear z4
      have a0 := I.ca.c0
      have a1 := I.ca.c1
      have b0 := I.cb.c0
      have b1 := I.cb.c1
      go_wp2_with fail
      refine (X5.out _).mono ?_
      rintro e w5 ⟨rfl, z5⟩
      clear a0 a1 b0 b1
      replace I := I.next z5
      clear z5
      have a0 := I.ca.c0
      have a1 := I.ca.c1
      have b0 := I.cb.c0
      have b1 := I.cb.c1
      go_wp2_with fail
      refine (X6.out _).mono ?_
      rintro e w6 ⟨rfl, z6⟩
      clear a0 a1 b0 b1
      replace I := I.next z6
      clear z6
      have a0 := I.ca.c0
      have a1 := I.ca.c1
      have b0 := I.cb.c0
      have b1 := I.cb.c1
      go_wp2_with fail
      refine (X7.out _).mono ?_
      rintro e w7 ⟨rfl, z7⟩
      clear a0 a1 b0 b1
      replace I := I.next z7
      clear z7
      have a0 := I.ca.c0
      have a1 := I.ca.c1
      have b0 := I.cb.c0
      have b1 := I.cb.c1
      go_wp2_with fail
      refine (HW.out _).mono ?_
      rintro e w8 ⟨rfl, z8⟩
      clear a0 a1 b0 b1
      replace I := I.next z8
      clear z8
      have HB := hid I.bel
      clear I
      go_wp2
      go_ret
      exact ⟨rfl, HB.out⟩
    · rw [decide_eq_false hl, Bool.false_and] at X5
      replace X5 := hid X5
      clear hA hB
      have I := AB.start w a b 53 53
      unfold tv
      go_enter Try.func7, Try.ntmps7
      go_wp2_with fail
      generalize (w.alloc (.cells #[.int .u64 (ub a.1), .int .u64 (ub a.2)] 53)).alloc (.cells #[.int .u64 (ub b.1), .int .u64 (ub b.2)] 53) = w0 at I ⊢
      refine (X1.out _).mono ?_
      rintro e w1 ⟨rfl, z1⟩
      replace I := I.next z1
      clear z1
      have a0 := I.ca.c0
      have a1 := I.ca.c1
      have b0 := I.cb.c0
      have b1 := I.cb.c1
      go_wp2_with fail
      refine (X2.out _).mono ?_
      rintro e w2 ⟨rfl, z2⟩
      clear a0 a1 b0 b1
      replace I := I.next z2
      clear z2
      have a0 := I.ca.c0
      have a1 := I.ca.c1
      have b0 := I.cb.c0
      have b1 := I.cb.c1
      go_wp2_with fail
      refine (X3.out _).mono ?_
      rintro e w3 ⟨rfl, z3⟩
      clear a0 a1 b0 b1
      replace I := I.next z3
      clear z3
      have a0 := I.ca.c0
      have a1 := I.ca.c1
      have b0 := I.cb.c0
      have b1 := I.cb.c1
      go_wp2_with fail
      refine (X4.out _).mono ?_
      rintro e w4 ⟨rfl, z4⟩
      clear a0 a1 b0 b1
      replace I := I.next z4
      clear z4
      have a0 := I.ca.c0
      have a1 := I.ca.c1
      have b0 := I.cb.c0
      have b1 := I.cb.c1
      go_wp2_with fail
      refine (X5.out _).mono ?_
      rintro e w5 ⟨rfl, z5⟩
      clear a0 a1 b0 b1
      replace I := I.next z5
      clear z5
      have a0 := I.ca.c0
      have a1 := I.ca.c1
      have b0 := I.cb.c0
      have b1 := I.cb.c1
      go_wp2_with fail
      refine (X6.out _).mono ?_
      rintro e w6 ⟨rfl, z6⟩
      clear a0 a1 b0 b1
      replace I := I.next z6
      clear z6
      have a0 := I.ca.c0
      have a1 := I.ca.c1
      have b0 := I.cb.c0
      have b1 := I.cb.c1
      go_wp2_with fail
      refine (X7.out _).mono ?_
      rintro e w7 ⟨rfl, z7⟩
      clear a0 a1 b0 b1
      replace I := I.next z7
      clear z7
      have a0 := I.ca.c0
      have a1 := I.ca.c1
      have b0 := I.cb.c0
      have b1 := I.cb.c1
      go_wp2_with fail
      refine (HW.out _).mono ?_
      rintro e w8 ⟨rfl, z8⟩
      clear a0 a1 b0 b1
      replace I := I.next z8
      clear z8
      have HB := hid I.bel
      clear I
      go_wp2
      go_ret
      exact ⟨rfl, HB.out⟩
  case neg =>
    rw [decide_eq_false hn, Bool.false_and] at X4
    replace X4 := hid X4
    by_cases hB : ub b.1 ≤ ub b.2
    case neg =>
      rw [decide_eq_false hB] at d2
      rw [d2] at X2
      rw [show (decide (ub b.1 ≤ ub a.1) && decide (ub a.2 ≤ ub b.2)) = false by rw [Bool.and_eq_false_iff, decide_eq_false_iff_not, decide_eq_false_iff_not]; omega] at X5
      replace X2 := hid X2
      replace X5 := hid X5
      clear d2 hA hB
      have I := AB.start w a b 53 53
      unfold tv
      go_enter Try.func7, Try.ntmps7
      go_wp2_with fail
      generalize (w.alloc (.cells #[.int .u64 (ub a.1), .int .u64 (ub a.2)] 53)).alloc (.cells #[.int .u64 (ub b.1), .int .u64 (ub b.2)] 53) = w0 at I ⊢
      refine (X1.out _).mono ?_
      rintro e w1 ⟨rfl, z1⟩
      replace I := I.next z1
      clear z1
      have a0 := I.ca.c0
      have a1 := I.ca.c1
      have b0 := I.cb.c0
      have b1 := I.cb.c1
      go_wp2_with fail
      refine (X2.out _).mono ?_
      rintro e w2 ⟨rfl, z2⟩
      clear a0 a1 b0 b1
      replace I := I.next z2
      clear z2
      have a0 := I.ca.c0
      have a1 := I.ca.c1
      have b0 := I.cb.c0
      have b1 := I.cb.c1
      go_wp2_with fail
      refine (X3.out _).mono ?_
      rintro e w3 ⟨rfl, z3⟩
      clear a0 a1 b0 b1
      replace I := I.next z3
      clear z3
      have a0 := I.ca.c0
      have a1 := I.ca.c1
      have b0 := I.cb.c0
      have b1 := I.cb.c1
      go_wp2_with fail
      refine (X4.out _).mono ?_
      rintro e w4 ⟨rfl, z4⟩
      clear a0 a1 b0 b1
      replace I := I.next z4
      clear z4
      have a0 := I.ca.c0
      have a1 := I.ca.c1
      have b0 := I.cb.c0
      have b1 := I.cb.c1
      go_wp2_with fail
      refine (X5.out _).mono ?_
      rintro e w5 ⟨rfl, z5⟩
      clear a0 a1 b0 b1
      replace I := I.next z5
      clear z5
      have a0 := I.ca.c0
      have a1 := I.ca.c1
      have b0 := I.cb.c0
      have b1 := I.cb.c1
      go_wp2_with fail
      refine (X6.out _).mono ?_
      rintro e w6 ⟨rfl, z6⟩
      clear a0 a1 b0 b1
      replace I := I.next z6
      clear z6
      have a0 := I.ca.c0
      have a1 := I.ca.c1
      have b0 := I.cb.c0
      have b1 := I.cb.c1
      go_wp2_with fail
      refine (X7.out _).mono ?_
      rintro e w7 ⟨rfl, z7⟩
      clear a0 a1 b0 b1
      replace I := I.next z7
      clear z7
      have a0 := I.ca.c0
      have a1 := I.ca.c1
      have b0 := I.cb.c0
      have b1 := I.cb.c1
      go_wp2_with fail
      refine (HW.out _).mono ?_
      rintro e w8 ⟨rfl, z8⟩
      clear a0 a1 b0 b1
      replace I := I.next z8
      clear z8
      have HB := hid I.bel
      clear I
      go_wp2
      go_ret
      exact ⟨rfl, HB.out⟩
    rw [decide_eq_true hB] at d2
    rw [d2] at X2
    replace X2 := hid X2
    clear d2
    by_cases hl : ub b.1 ≤ ub a.1
    · rw [decide_eq_true hl, Bool.true_and] at X5
      replace X5 := hid X5
      clear hA hB
      have I := AB.start w a b 53 53
      unfold tv
      go_enter Try.func7, Try.ntmps7
      go_wp2_with fail
      generalize (w.alloc (.cells #[.int .u64 (ub a.1), .int .u64 (ub a.2)] 53)).alloc (.cells #[.int .u64 (ub b.1), .int .u64 (ub b.2)] 53) = w0 at I ⊢
      refine (X1.out _).mono ?_
      rintro e w1 ⟨rfl, z1⟩
      replace I := I.next z1
      clear z1
      have a0 := I.ca.c0
      have a1 := I.ca.c1
      have b0 := I.cb.c0
      have b1 := I.cb.c1
      go_wp2_with fail
      refine (X2.out _).mono ?_
      rintro e w2 ⟨rfl, z2⟩
      clear a0 a1 b0 b1
      replace I := I.next z2
      clear z2
      have a0 := I.ca.c0
      have a1 := I.ca.c1
      have b0 := I.cb.c0
      have b1 := I.cb.c1
      go_wp2_with fail
      refine (X3.out _).mono ?_
      rintro e w3 ⟨rfl, z3⟩
      clear a0 a1 b0 b1
      replace I := I.next z3
      clear z3
      have a0 := I.ca.c0
      have a1 := I.ca.c1
      have b0 := I.cb.c0
      have b1 := I.cb.c1
      go_wp2_with fail
      refine (X4.out _).mono ?_
      rintro e w4 ⟨rfl, z4⟩
      clear a0 a1 b0 b1
      replace I := I.next z4
      clear z4
      have a0 := I.ca.c0
      have a1 := I.ca.c1
      have b0 := I.cb.c0
      have b1 := I.cb.c1
      go_wp2_with fail
      refine (X5.out _).mono ?_
      rintro e w5 ⟨rfl, z5⟩
      clear a0 a1 b0 b1
      replace I := I.next z5
      clear z5
      have a0 := I.ca.c0
      have a1 := I.ca.c1
      have b0 := I.cb.c0
      have b1 := I.cb.c1
      go_wp2_with fail
      refine (X6.out _).mono ?_
      rintro e w6 ⟨rfl, z6⟩
      clear a0 a1 b0 b1
      replace I := I.next z6
      clear z6
      have a0 := I.ca.c0
      have a1 := I.ca.c1
      have b0 := I.cb.c0
      have b1 := I.cb.c1
      go_wp2_with fail
      refine (X7.out _).mono ?_
      rintro e w7 ⟨rfl, z7⟩
      clear a0 a1 b0 b1
      replace I := I.next z7
      clear z7
      have a0 := I.ca.c0
      have a1 := I.ca.c1
      have b0 := I.cb.c0
      have b1 := I.cb.c1
      go_wp2_with fail
      refine (HW.out _).mono ?_
      rintro e w8 ⟨rfl, z8⟩
      clear a0 a1 b0 b1
      replace I := I.next z8
      clear z8
      have HB := hid I.bel
      clear I
      go_wp2
      go_ret
      exact ⟨rfl, HB.out⟩
    · rw [decide_eq_false hl, Bool.false_and] at X5
      replace X5 := hid X5
      clear hA hB
      have I := AB.start w a b 53 53
      unfold tv
      go_enter Try.func7, Try.ntmps7
      go_wp2_with fail
      generalize (w.alloc (.cells #[.int .u64 (ub a.1), .int .u64 (ub a.2)] 53)).alloc (.cells #[.int .u64 (ub b.1), .int .u64 (ub b.2)] 53) = w0 at I ⊢
      refine (X1.out _).mono ?_
      rintro e w1 ⟨rfl, z1⟩
      replace I := I.next z1
      clear z1
      have a0 := I.ca.c0
      have a1 := I.ca.c1
      have b0 := I.cb.c0
      have b1 := I.cb.c1
      go_wp2_with fail
      refine (X2.out _).mono ?_
      rintro e w2 ⟨rfl, z2⟩
      clear a0 a1 b0 b1
      replace I := I.next z2
      clear z2
      have a0 := I.ca.c0
      have a1 := I.ca.c1
      have b0 := I.cb.c0
      have b1 := I.cb.c1
      go_wp2_with fail
      refine (X3.out _).mono ?_
      rintro e w3 ⟨rfl, z3⟩
      clear a0 a1 b0 b1
      replace I := I.next z3
      clear z3
      have a0 := I.ca.c0
      have a1 := I.ca.c1
      have b0 := I.cb.c0
      have b1 := I.cb.c1
      go_wp2_with fail
      refine (X4.out _).mono ?_
      rintro e w4 ⟨rfl, z4⟩
      clear a0 a1 b0 b1
      replace I := I.next z4
      clear z4
      have a0 := I.ca.c0
      have a1 := I.ca.c1
      have b0 := I.cb.c0
      have b1 := I.cb.c1
      go_wp2_with fail
      refine (X5.out _).mono ?_
      rintro e w5 ⟨rfl, z5⟩
      clear a0 a1 b0 b1
      replace I := I.next z5
      clear z5
      have a0 := I.ca.c0
      have a1 := I.ca.c1
      have b0 := I.cb.c0
      have b1 := I.cb.c1
      go_wp2_with fail
      refine (X6.out _).mono ?_
      rintro e w6 ⟨rfl, z6⟩
      clear a0 a1 b0 b1
      replace I := I.next z6
      clear z6
      have a0 := I.ca.c0
      have a1 := I.ca.c1
      have b0 := I.cb.c0
      have b1 := I.cb.c1
      go_wp2_with fail
      refine (X7.out _).mono ?_
      rintro e w7 ⟨rfl, z7⟩
      clear a0 a1 b0 b1
      replace I := I.next z7
      clear z7
      have a0 := I.ca.c0
      have a1 := I.ca.c1
      have b0 := I.cb.c0
      have b1 := I.cb.c1
      go_wp2_with fail
      refine (HW.out _).mono ?_
      rintro e w8 ⟨rfl, z8⟩
      clear a0 a1 b0 b1
      replace I := I.next z8
      clear z8
      have HB := hid I.bel
      clear I
      go_wp2
      go_ret
      exact ⟨rfl, HB.out⟩
end Go.Proofs.Ytpeieokmafpaiaa
