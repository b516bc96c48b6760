/-
  SpanLeast: of few numbers each nothing is told that is no need.
-/
import Derived.Test.YtpeieokmafpaiaaSpLe
import Derived.Test.YtpeieokmafpaiaaSpZ
namespace Go.Proofs.Ytpeieokmafpaiaa
set_option linter.unusedSimpArgs false
set_option linter.unusedVariables false
open Go.ChangeShapes Go.WideShapes Go.ChangeAt Go.RowKit

set_option maxRecDepth 20000 in
set_option maxHeartbeats 16000000 in
theorem least_no (op : Int) (c : Bool) (A B : Tn) (X Y : B64) (w : World)
    (hno : ¬ (mayS A = true ∧ mayS B = true ∧ ¬ 23 < ub (A.2 - A.1) ∧ ¬ 23 < ub (B.2 - B.1) ∧ op ≠ 2 ∧ op ≠ 6 ∧ op ≠ 7 ∧ op ≠ 9 ∧ ¬ 11 < op ∧ ¬ op < 0)) : Calls Try.prog 12 #[.agg #[.int .i64 op, .bool c, .int .u64 (ub A.1), .int .u64 (ub A.2), .int .u64 (ub B.1), .int .u64 (ub B.2), .int .u64 (ub X), .int .u64 (ub Y)]] w fun e w' => e = .returned (.bool true) ∧ Below w.heap.size w w' := by
  have HX := fun W => sAlu_any op c A B W
  have HA := fun W => qMay_any A W
  have HC := fun W => qMay_any B W
  have HW := hid wakes_true
  by_cases h2 : mayS A = true
  case neg =>
    rw [Bool.eq_false_iff.2 h2] at HA
    generalize aluT op c A B = R at *
    generalize aluE op A B = E at *
    unfold tv at HX HA HC
    replace HX := hid HX
    replace HA := hid HA
    replace HC := hid HC
    have I := GI.start w op c A B X Y 72
    go_enter Try.func12, Try.ntmps12
    go_wp2_with fail
    generalize w.alloc (.cells #[.int .i64 op, .bool c, .int .u64 (ub A.1), .int .u64 (ub A.2), .int .u64 (ub B.1), .int .u64 (ub B.2), .int .u64 (ub X), .int .u64 (ub Y)] 72) = w0 at I ⊢
    refine (HX.out _).mono ?_
    rintro e w1 ⟨rfl, z⟩
    replace I := I.next z
    clear z
    have i0 := I.g0
    have i1 := I.g1
    have i2 := I.g2
    have i3 := I.g3
    have i4 := I.g4
    have i5 := I.g5
    have i6 := I.g6
    have i7 := I.g7
    have il := I.lt
    go_wp2_with fail
    refine (HA.out _).mono ?_
    rintro e w2 ⟨rfl, z⟩
    clear i0 i1 i2 i3 i4 i5 i6 i7 il
    have JS : BC w2 w1.heap.size R := (BC.new (a := R) rfl).below z
    have ba : Below w1.heap.size w1 (w1.alloc (.cells #[.int .u64 (ub R.1), .int .u64 (ub R.2)] 53)) := (Below.refl _ _).alloc (Nat.le_refl _) _
    replace I := I.next ba
    clear ba
    replace I := I.next z
    clear z
    have i0 := I.g0
    have i1 := I.g1
    have i2 := I.g2
    have i3 := I.g3
    have i4 := I.g4
    have i5 := I.g5
    have i6 := I.g6
    have i7 := I.g7
    have il := I.lt
    have JS0 := JS.c0
    have JS1 := JS.c1
    have JSl := JS.lt
    go_wp2_with fail
    refine (HW.out _).mono ?_
    rintro e w3 ⟨rfl, z⟩
    clear i0 i1 i2 i3 i4 i5 i6 i7 il JS0 JS1 JSl
    replace I := I.next z
    replace JS := JS.below z
    clear z
    have i0 := I.g0
    have i1 := I.g1
    have i2 := I.g2
    have i3 := I.g3
    have i4 := I.g4
    have i5 := I.g5
    have i6 := I.g6
    have i7 := I.g7
    have il := I.lt
    have JS0 := JS.c0
    have JS1 := JS.c1
    have JSl := JS.lt
    have HB := hid I.bel
    clear I JS
    go_wp2
    go_ret
    exact ⟨rfl, HB.out⟩
  by_cases h3 : mayS B = true
  case neg =>
    rw [h2] at HA
    rw [Bool.eq_false_iff.2 h3] at HC
    generalize aluT op c A B = R at *
    generalize aluE op A B = E at *
    unfold tv at HX HA HC
    replace HX := hid HX
    replace HA := hid HA
    replace HC := hid HC
    have I := GI.start w op c A B X Y 72
    go_enter Try.func12, Try.ntmps12
    go_wp2_with fail
    generalize w.alloc (.cells #[.int .i64 op, .bool c, .int .u64 (ub A.1), .int .u64 (ub A.2), .int .u64 (ub B.1), .int .u64 (ub B.2), .int .u64 (ub X), .int .u64 (ub Y)] 72) = w0 at I ⊢
    refine (HX.out _).mono ?_
    rintro e w1 ⟨rfl, z⟩
    replace I := I.next z
    clear z
    have i0 := I.g0
    have i1 := I.g1
    have i2 := I.g2
    have i3 := I.g3
    have i4 := I.g4
    have i5 := I.g5
    have i6 := I.g6
    have i7 := I.g7
    have il := I.lt
    go_wp2_with fail
    refine (HA.out _).mono ?_
    rintro e w2 ⟨rfl, z⟩
    clear i0 i1 i2 i3 i4 i5 i6 i7 il
    have JS : BC w2 w1.heap.size R := (BC.new (a := R) rfl).below z
    have ba : Below w1.heap.size w1 (w1.alloc (.cells #[.int .u64 (ub R.1), .int .u64 (ub R.2)] 53)) := (Below.refl _ _).alloc (Nat.le_refl _) _
    replace I := I.next ba
    clear ba
    replace I := I.next z
    clear z
    have i0 := I.g0
    have i1 := I.g1
    have i2 := I.g2
    have i3 := I.g3
    have i4 := I.g4
    have i5 := I.g5
    have i6 := I.g6
    have i7 := I.g7
    have il := I.lt
    have JS0 := JS.c0
    have JS1 := JS.c1
    have JSl := JS.lt
    go_wp2_with fail
    refine (HC.out _).mono ?_
    rintro e w3 ⟨rfl, z⟩
    clear i0 i1 i2 i3 i4 i5 i6 i7 il JS0 JS1 JSl
    replace I := I.next z
    replace JS := JS.below z
    clear z
    have i0 := I.g0
    have i1 := I.g1
    have i2 := I.g2
    have i3 := I.g3
    have i4 := I.g4
    have i5 := I.g5
    have i6 := I.g6
    have i7 := I.g7
    have il := I.lt
    have JS0 := JS.c0
    have JS1 := JS.c1
    have JSl := JS.lt
    go_wp2_with fail
    refine (HW.out _).mono ?_
    rintro e w4 ⟨rfl, z⟩
    clear i0 i1 i2 i3 i4 i5 i6 i7 il JS0 JS1 JSl
    replace I := I.next z
    replace JS := JS.below z
    clear z
    have i0 := I.g0
    have i1 := I.g1
    have i2 := I.g2
    have i3 := I.g3
    have i4 := I.g4
    have i5 := I.g5
    have i6 := I.g6
    have i7 := I.g7
    have il := I.lt
    have JS0 := JS.c0
    have JS1 := JS.c1
    have JSl := JS.lt
    have HB := hid I.bel
    clear I JS
    go_wp2
    go_ret
    exact ⟨rfl, HB.out⟩
  rw [h2] at HA
  rw [h3] at HC
  generalize aluT op c A B = R at *
  generalize aluE op A B = E at *
  unfold tv at HX HA HC
  replace HX := hid HX
  replace HA := hid HA
  replace HC := hid HC
  by_cases w1 : 23 < ub (A.2 - A.1)
  case pos =>
    clear hno
    have I := GI.start w op c A B X Y 72
    go_enter Try.func12, Try.ntmps12
    go_wp2_with fail
    generalize w.alloc (.cells #[.int .i64 op, .bool c, .int .u64 (ub A.1), .int .u64 (ub A.2), .int .u64 (ub B.1), .int .u64 (ub B.2), .int .u64 (ub X), .int .u64 (ub Y)] 72) = w0 at I ⊢
    refine (HX.out _).mono ?_
    rintro e w1 ⟨rfl, z⟩
    replace I := I.next z
    clear z
    have i0 := I.g0
    have i1 := I.g1
    have i2 := I.g2
    have i3 := I.g3
    have i4 := I.g4
    have i5 := I.g5
    have i6 := I.g6
    have i7 := I.g7
    have il := I.lt
    go_wp2_with fail
    refine (HA.out _).mono ?_
    rintro e w2 ⟨rfl, z⟩
    clear i0 i1 i2 i3 i4 i5 i6 i7 il
    have JS : BC w2 w1.heap.size R := (BC.new (a := R) rfl).below z
    have ba : Below w1.heap.size w1 (w1.alloc (.cells #[.int .u64 (ub R.1), .int .u64 (ub R.2)] 53)) := (Below.refl _ _).alloc (Nat.le_refl _) _
    replace I := I.next ba
    clear ba
    replace I := I.next z
    clear z
    have i0 := I.g0
    have i1 := I.g1
    have i2 := I.g2
    have i3 := I.g3
    have i4 := I.g4
    have i5 := I.g5
    have i6 := I.g6
    have i7 := I.g7
    have il := I.lt
    have JS0 := JS.c0
    have JS1 := JS.c1
    have JSl := JS.lt
    go_wp2_with fail
    refine (HC.out _).mono ?_
    rintro e w3 ⟨rfl, z⟩
    clear i0 i1 i2 i3 i4 i5 i6 i7 il JS0 JS1 JSl
    replace I := I.next z
    replace JS := JS.below z
    clear z
    have i0 := I.g0
    have i1 := I.g1
    have i2 := I.g2
    have i3 := I.g3
    have i4 := I.g4
    have i5 := I.g5
    have i6 := I.g6
    have i7 := I.g7
    have il := I.lt
    have JS0 := JS.c0
    have JS1 := JS.c1
    have JSl := JS.lt
    go_wp2_with fail
    refine (HW.out _).mono ?_
    rintro e w4 ⟨rfl, z⟩
    clear i0 i1 i2 i3 i4 i5 i6 i7 il JS0 JS1 JSl
    replace I := I.next z
    replace JS := JS.below z
    clear z
    have i0 := I.g0
    have i1 := I.g1
    have i2 := I.g2
    have i3 := I.g3
    have i4 := I.g4
    have i5 := I.g5
    have i6 := I.g6
    have i7 := I.g7
    have il := I.lt
    have JS0 := JS.c0
    have JS1 := JS.c1
    have JSl := JS.lt
    have HB := hid I.bel
    clear I JS
    go_wp2
    go_ret
    exact ⟨rfl, HB.out⟩
  by_cases w2 : 23 < ub (B.2 - B.1)
  case pos =>
    clear hno
    have I := GI.start w op c A B X Y 72
    go_enter Try.func12, Try.ntmps12
    go_wp2_with fail
    generalize w.alloc (.cells #[.int .i64 op, .bool c, .int .u64 (ub A.1), .int .u64 (ub A.2), .int .u64 (ub B.1), .int .u64 (ub B.2), .int .u64 (ub X), .int .u64 (ub Y)] 72) = w0 at I ⊢
    refine (HX.out _).mono ?_
    rintro e w1 ⟨rfl, z⟩
    replace I := I.next z
    clear z
    have i0 := I.g0
    have i1 := I.g1
    have i2 := I.g2
    have i3 := I.g3
    have i4 := I.g4
    have i5 := I.g5
    have i6 := I.g6
    have i7 := I.g7
    have il := I.lt
    go_wp2_with fail
    refine (HA.out _).mono ?_
    rintro e w2 ⟨rfl, z⟩
    clear i0 i1 i2 i3 i4 i5 i6 i7 il
    have JS : BC w2 w1.heap.size R := (BC.new (a := R) rfl).below z
    have ba : Below w1.heap.size w1 (w1.alloc (.cells #[.int .u64 (ub R.1), .int .u64 (ub R.2)] 53)) := (Below.refl _ _).alloc (Nat.le_refl _) _
    replace I := I.next ba
    clear ba
    replace I := I.next z
    clear z
    have i0 := I.g0
    have i1 := I.g1
    have i2 := I.g2
    have i3 := I.g3
    have i4 := I.g4
    have i5 := I.g5
    have i6 := I.g6
    have i7 := I.g7
    have il := I.lt
    have JS0 := JS.c0
    have JS1 := JS.c1
    have JSl := JS.lt
    go_wp2_with fail
    refine (HC.out _).mono ?_
    rintro e w3 ⟨rfl, z⟩
    clear i0 i1 i2 i3 i4 i5 i6 i7 il JS0 JS1 JSl
    replace I := I.next z
    replace JS := JS.below z
    clear z
    have i0 := I.g0
    have i1 := I.g1
    have i2 := I.g2
    have i3 := I.g3
    have i4 := I.g4
    have i5 := I.g5
    have i6 := I.g6
    have i7 := I.g7
    have il := I.lt
    have JS0 := JS.c0
    have JS1 := JS.c1
    have JSl := JS.lt
    go_wp2_with fail
    refine (HW.out _).mono ?_
    rintro e w4 ⟨rfl, z⟩
    clear i0 i1 i2 i3 i4 i5 i6 i7 il JS0 JS1 JSl
    replace I := I.next z
    replace JS := JS.below z
    clear z
    have i0 := I.g0
    have i1 := I.g1
    have i2 := I.g2
    have i3 := I.g3
    have i4 := I.g4
    have i5 := I.g5
    have i6 := I.g6
    have i7 := I.g7
    have il := I.lt
    have JS0 := JS.c0
    have JS1 := JS.c1
    have JSl := JS.lt
    have HB := hid I.bel
    clear I JS
    go_wp2
    go_ret
    exact ⟨rfl, HB.out⟩
  by_cases o2 : op = 2
  case pos =>
    clear hno
    have o2b : (op == 2) = true := by simp [o2]
    clear o2
    have I := GI.start w op c A B X Y 72
    go_enter Try.func12, Try.ntmps12
    go_wp2_with fail
    generalize w.alloc (.cells #[.int .i64 op, .bool c, .int .u64 (ub A.1), .int .u64 (ub A.2), .int .u64 (ub B.1), .int .u64 (ub B.2), .int .u64 (ub X), .int .u64 (ub Y)] 72) = w0 at I ⊢
    refine (HX.out _).mono ?_
    rintro e w1 ⟨rfl, z⟩
    replace I := I.next z
    clear z
    have i0 := I.g0
    have i1 := I.g1
    have i2 := I.g2
    have i3 := I.g3
    have i4 := I.g4
    have i5 := I.g5
    have i6 := I.g6
    have i7 := I.g7
    have il := I.lt
    go_wp2_with fail
    refine (HA.out _).mono ?_
    rintro e w2 ⟨rfl, z⟩
    clear i0 i1 i2 i3 i4 i5 i6 i7 il
    have JS : BC w2 w1.heap.size R := (BC.new (a := R) rfl).below z
    have ba : Below w1.heap.size w1 (w1.alloc (.cells #[.int .u64 (ub R.1), .int .u64 (ub R.2)] 53)) := (Below.refl _ _).alloc (Nat.le_refl _) _
    replace I := I.next ba
    clear ba
    replace I := I.next z
    clear z
    have i0 := I.g0
    have i1 := I.g1
    have i2 := I.g2
    have i3 := I.g3
    have i4 := I.g4
    have i5 := I.g5
    have i6 := I.g6
    have i7 := I.g7
    have il := I.lt
    have JS0 := JS.c0
    have JS1 := JS.c1
    have JSl := JS.lt
    go_wp2_with fail
    refine (HC.out _).mono ?_
    rintro e w3 ⟨rfl, z⟩
    clear i0 i1 i2 i3 i4 i5 i6 i7 il JS0 JS1 JSl
    replace I := I.next z
    replace JS := JS.below z
    clear z
    have i0 := I.g0
    have i1 := I.g1
    have i2 := I.g2
    have i3 := I.g3
    have i4 := I.g4
    have i5 := I.g5
    have i6 := I.g6
    have i7 := I.g7
    have il := I.lt
    have JS0 := JS.c0
    have JS1 := JS.c1
    have JSl := JS.lt
    go_wp2_with fail
    refine (HW.out _).mono ?_
    rintro e w4 ⟨rfl, z⟩
    clear i0 i1 i2 i3 i4 i5 i6 i7 il JS0 JS1 JSl
    replace I := I.next z
    replace JS := JS.below z
    clear z
    have i0 := I.g0
    have i1 := I.g1
    have i2 := I.g2
    have i3 := I.g3
    have i4 := I.g4
    have i5 := I.g5
    have i6 := I.g6
    have i7 := I.g7
    have il := I.lt
    have JS0 := JS.c0
    have JS1 := JS.c1
    have JSl := JS.lt
    have HB := hid I.bel
    clear I JS
    go_wp2
    go_ret
    exact ⟨rfl, HB.out⟩
  have o2b : (op == 2) = false := by simp [o2]
  by_cases o6 : op = 6
  case pos =>
    clear hno
    have o6b : (op == 6) = true := by simp [o6]
    clear o6
    have I := GI.start w op c A B X Y 72
    go_enter Try.func12, Try.ntmps12
    go_wp2_with fail
    generalize w.alloc (.cells #[.int .i64 op, .bool c, .int .u64 (ub A.1), .int .u64 (ub A.2), .int .u64 (ub B.1), .int .u64 (ub B.2), .int .u64 (ub X), .int .u64 (ub Y)] 72) = w0 at I ⊢
    refine (HX.out _).mono ?_
    rintro e w1 ⟨rfl, z⟩
    replace I := I.next z
    clear z
    have i0 := I.g0
    have i1 := I.g1
    have i2 := I.g2
    have i3 := I.g3
    have i4 := I.g4
    have i5 := I.g5
    have i6 := I.g6
    have i7 := I.g7
    have il := I.lt
    go_wp2_with fail
    refine (HA.out _).mono ?_
    rintro e w2 ⟨rfl, z⟩
    clear i0 i1 i2 i3 i4 i5 i6 i7 il
    have JS : BC w2 w1.heap.size R := (BC.new (a := R) rfl).below z
    have ba : Below w1.heap.size w1 (w1.alloc (.cells #[.int .u64 (ub R.1), .int .u64 (ub R.2)] 53)) := (Below.refl _ _).alloc (Nat.le_refl _) _
    replace I := I.next ba
    clear ba
    replace I := I.next z
    clear z
    have i0 := I.g0
    have i1 := I.g1
    have i2 := I.g2
    have i3 := I.g3
    have i4 := I.g4
    have i5 := I.g5
    have i6 := I.g6
    have i7 := I.g7
    have il := I.lt
    have JS0 := JS.c0
    have JS1 := JS.c1
    have JSl := JS.lt
    go_wp2_with fail
    refine (HC.out _).mono ?_
    rintro e w3 ⟨rfl, z⟩
    clear i0 i1 i2 i3 i4 i5 i6 i7 il JS0 JS1 JSl
    replace I := I.next z
    replace JS := JS.below z
    clear z
    have i0 := I.g0
    have i1 := I.g1
    have i2 := I.g2
    have i3 := I.g3
    have i4 := I.g4
    have i5 := I.g5
    have i6 := I.g6
    have i7 := I.g7
    have il := I.lt
    have JS0 := JS.c0
    have JS1 := JS.c1
    have JSl := JS.lt
    go_wp2_with fail
    refine (HW.out _).mono ?_
    rintro e w4 ⟨rfl, z⟩
    clear i0 i1 i2 i3 i4 i5 i6 i7 il JS0 JS1 JSl
    replace I := I.next z
    replace JS := JS.below z
    clear z
    have i0 := I.g0
    have i1 := I.g1
    have i2 := I.g2
    have i3 := I.g3
    have i4 := I.g4
    have i5 := I.g5
    have i6 := I.g6
    have i7 := I.g7
    have il := I.lt
    have JS0 := JS.c0
    have JS1 := JS.c1
    have JSl := JS.lt
    have HB := hid I.bel
    clear I JS
    go_wp2
    go_ret
    exact ⟨rfl, HB.out⟩
  have o6b : (op == 6) = false := by simp [o6]
  by_cases o7 : op = 7
  case pos =>
    clear hno
    have o7b : (op == 7) = true := by simp [o7]
    clear o7
    have I := GI.start w op c A B X Y 72
    go_enter Try.func12, Try.ntmps12
    go_wp2_with fail
    generalize w.alloc (.cells #[.int .i64 op, .bool c, .int .u64 (ub A.1), .int .u64 (ub A.2), .int .u64 (ub B.1), .int .u64 (ub B.2), .int .u64 (ub X), .int .u64 (ub Y)] 72) = w0 at I ⊢
    refine (HX.out _).mono ?_
    rintro e w1 ⟨rfl, z⟩
    replace I := I.next z
    clear z
    have i0 := I.g0
    have i1 := I.g1
    have i2 := I.g2
    have i3 := I.g3
    have i4 := I.g4
    have i5 := I.g5
    have i6 := I.g6
    have i7 := I.g7
    have il := I.lt
    go_wp2_with fail
    refine (HA.out _).mono ?_
    rintro e w2 ⟨rfl, z⟩
    clear i0 i1 i2 i3 i4 i5 i6 i7 il
    have JS : BC w2 w1.heap.size R := (BC.new (a := R) rfl).below z
    have ba : Below w1.heap.size w1 (w1.alloc (.cells #[.int .u64 (ub R.1), .int .u64 (ub R.2)] 53)) := (Below.refl _ _).alloc (Nat.le_refl _) _
    replace I := I.next ba
    clear ba
    replace I := I.next z
    clear z
    have i0 := I.g0
    have i1 := I.g1
    have i2 := I.g2
    have i3 := I.g3
    have i4 := I.g4
    have i5 := I.g5
    have i6 := I.g6
    have i7 := I.g7
    have il := I.lt
    have JS0 := JS.c0
    have JS1 := JS.c1
    have JSl := JS.lt
    go_wp2_with fail
    refine (HC.out _).mono ?_
    rintro e w3 ⟨rfl, z⟩
    clear i0 i1 i2 i3 i4 i5 i6 i7 il JS0 JS1 JSl
    replace I := I.next z
    replace JS := JS.below z
    clear z
    have i0 := I.g0
    have i1 := I.g1
    have i2 := I.g2
    have i3 := I.g3
    have i4 := I.g4
    have i5 := I.g5
    have i6 := I.g6
    have i7 := I.g7
    have il := I.lt
    have JS0 := JS.c0
    have JS1 := JS.c1
    have JSl := JS.lt
    go_wp2_with fail
    refine (HW.out _).mono ?_
    rintro e w4 ⟨rfl, z⟩
    clear i0 i1 i2 i3 i4 i5 i6 i7 il JS0 JS1 JSl
    replace I := I.next z
    replace JS := JS.below z
    clear z
    have i0 := I.g0
    have i1 := I.g1
    have i2 := I.g2
    have i3 := I.g3
    have i4 := I.g4
    have i5 := I.g5
    have i6 := I.g6
    have i7 := I.g7
    have il := I.lt
    have JS0 := JS.c0
    have JS1 := JS.c1
    have JSl := JS.lt
    have HB := hid I.bel
    clear I JS
    go_wp2
    go_ret
    exact ⟨rfl, HB.out⟩
  have o7b : (op == 7) = false := by simp [o7]
  by_cases o9 : op = 9
  case pos =>
    clear hno
    have o9b : (op == 9) = true := by simp [o9]
    clear o9
    have I := GI.start w op c A B X Y 72
    go_enter Try.func12, Try.ntmps12
    go_wp2_with fail
    generalize w.alloc (.cells #[.int .i64 op, .bool c, .int .u64 (ub A.1), .int .u64 (ub A.2), .int .u64 (ub B.1), .int .u64 (ub B.2), .int .u64 (ub X), .int .u64 (ub Y)] 72) = w0 at I ⊢
    refine (HX.out _).mono ?_
    rintro e w1 ⟨rfl, z⟩
    replace I := I.next z
    clear z
    have i0 := I.g0
    have i1 := I.g1
    have i2 := I.g2
    have i3 := I.g3
    have i4 := I.g4
    have i5 := I.g5
    have i6 := I.g6
    have i7 := I.g7
    have il := I.lt
    go_wp2_with fail
    refine (HA.out _).mono ?_
    rintro e w2 ⟨rfl, z⟩
    clear i0 i1 i2 i3 i4 i5 i6 i7 il
    have JS : BC w2 w1.heap.size R := (BC.new (a := R) rfl).below z
    have ba : Below w1.heap.size w1 (w1.alloc (.cells #[.int .u64 (ub R.1), .int .u64 (ub R.2)] 53)) := (Below.refl _ _).alloc (Nat.le_refl _) _
    replace I := I.next ba
    clear ba
    replace I := I.next z
    clear z
    have i0 := I.g0
    have i1 := I.g1
    have i2 := I.g2
    have i3 := I.g3
    have i4 := I.g4
    have i5 := I.g5
    have i6 := I.g6
    have i7 := I.g7
    have il := I.lt
    have JS0 := JS.c0
    have JS1 := JS.c1
    have JSl := JS.lt
    go_wp2_with fail
    refine (HC.out _).mono ?_
    rintro e w3 ⟨rfl, z⟩
    clear i0 i1 i2 i3 i4 i5 i6 i7 il JS0 JS1 JSl
    replace I := I.next z
    replace JS := JS.below z
    clear z
    have i0 := I.g0
    have i1 := I.g1
    have i2 := I.g2
    have i3 := I.g3
    have i4 := I.g4
    have i5 := I.g5
    have i6 := I.g6
    have i7 := I.g7
    have il := I.lt
    have JS0 := JS.c0
    have JS1 := JS.c1
    have JSl := JS.lt
    go_wp2_with fail
    refine (HW.out _).mono ?_
    rintro e w4 ⟨rfl, z⟩
    clear i0 i1 i2 i3 i4 i5 i6 i7 il JS0 JS1 JSl
    replace I := I.next z
    replace JS := JS.below z
    clear z
    have i0 := I.g0
    have i1 := I.g1
    have i2 := I.g2
    have i3 := I.g3
    have i4 := I.g4
    have i5 := I.g5
    have i6 := I.g6
    have i7 := I.g7
    have il := I.lt
    have JS0 := JS.c0
    have JS1 := JS.c1
    have JSl := JS.lt
    have HB := hid I.bel
    clear I JS
    go_wp2
    go_ret
    exact ⟨rfl, HB.out⟩
  have o9b : (op == 9) = false := by simp [o9]
  by_cases o11 : 11 < op
  case pos =>
    clear hno
    have I := GI.start w op c A B X Y 72
    go_enter Try.func12, Try.ntmps12
    go_wp2_with fail
    generalize w.alloc (.cells #[.int .i64 op, .bool c, .int .u64 (ub A.1), .int .u64 (ub A.2), .int .u64 (ub B.1), .int .u64 (ub B.2), .int .u64 (ub X), .int .u64 (ub Y)] 72) = w0 at I ⊢
    refine (HX.out _).mono ?_
    rintro e w1 ⟨rfl, z⟩
    replace I := I.next z
    clear z
    have i0 := I.g0
    have i1 := I.g1
    have i2 := I.g2
    have i3 := I.g3
    have i4 := I.g4
    have i5 := I.g5
    have i6 := I.g6
    have i7 := I.g7
    have il := I.lt
    go_wp2_with fail
    refine (HA.out _).mono ?_
    rintro e w2 ⟨rfl, z⟩
    clear i0 i1 i2 i3 i4 i5 i6 i7 il
    have JS : BC w2 w1.heap.size R := (BC.new (a := R) rfl).below z
    have ba : Below w1.heap.size w1 (w1.alloc (.cells #[.int .u64 (ub R.1), .int .u64 (ub R.2)] 53)) := (Below.refl _ _).alloc (Nat.le_refl _) _
    replace I := I.next ba
    clear ba
    replace I := I.next z
    clear z
    have i0 := I.g0
    have i1 := I.g1
    have i2 := I.g2
    have i3 := I.g3
    have i4 := I.g4
    have i5 := I.g5
    have i6 := I.g6
    have i7 := I.g7
    have il := I.lt
    have JS0 := JS.c0
    have JS1 := JS.c1
    have JSl := JS.lt
    go_wp2_with fail
    refine (HC.out _).mono ?_
    rintro e w3 ⟨rfl, z⟩
    clear i0 i1 i2 i3 i4 i5 i6 i7 il JS0 JS1 JSl
    replace I := I.next z
    replace JS := JS.below z
    clear z
    have i0 := I.g0
    have i1 := I.g1
    have i2 := I.g2
    have i3 := I.g3
    have i4 := I.g4
    have i5 := I.g5
    have i6 := I.g6
    have i7 := I.g7
    have il := I.lt
    have JS0 := JS.c0
    have JS1 := JS.c1
    have JSl := JS.lt
    go_wp2_with fail
    refine (HW.out _).mono ?_
    rintro e w4 ⟨rfl, z⟩
    clear i0 i1 i2 i3 i4 i5 i6 i7 il JS0 JS1 JSl
    replace I := I.next z
    replace JS := JS.below z
    clear z
    have i0 := I.g0
    have i1 := I.g1
    have i2 := I.g2
    have i3 := I.g3
    have i4 := I.g4
    have i5 := I.g5
    have i6 := I.g6
    have i7 := I.g7
    have il := I.lt
    have JS0 := JS.c0
    have JS1 := JS.c1
    have JSl := JS.lt
    have HB := hid I.bel
    clear I JS
    go_wp2
    go_ret
    exact ⟨rfl, HB.out⟩
  by_cases o0 : op < 0
  case pos =>
    clear hno
    have I := GI.start w op c A B X Y 72
    go_enter Try.func12, Try.ntmps12
    go_wp2_with fail
    generalize w.alloc (.cells #[.int .i64 op, .bool c, .int .u64 (ub A.1), .int .u64 (ub A.2), .int .u64 (ub B.1), .int .u64 (ub B.2), .int .u64 (ub X), .int .u64 (ub Y)] 72) = w0 at I ⊢
    refine (HX.out _).mono ?_
    rintro e w1 ⟨rfl, z⟩
    replace I := I.next z
    clear z
    have i0 := I.g0
    have i1 := I.g1
    have i2 := I.g2
    have i3 := I.g3
    have i4 := I.g4
    have i5 := I.g5
    have i6 := I.g6
    have i7 := I.g7
    have il := I.lt
    go_wp2_with fail
    refine (HA.out _).mono ?_
    rintro e w2 ⟨rfl, z⟩
    clear i0 i1 i2 i3 i4 i5 i6 i7 il
    have JS : BC w2 w1.heap.size R := (BC.new (a := R) rfl).below z
    have ba : Below w1.heap.size w1 (w1.alloc (.cells #[.int .u64 (ub R.1), .int .u64 (ub R.2)] 53)) := (Below.refl _ _).alloc (Nat.le_refl _) _
    replace I := I.next ba
    clear ba
    replace I := I.next z
    clear z
    have i0 := I.g0
    have i1 := I.g1
    have i2 := I.g2
    have i3 := I.g3
    have i4 := I.g4
    have i5 := I.g5
    have i6 := I.g6
    have i7 := I.g7
    have il := I.lt
    have JS0 := JS.c0
    have JS1 := JS.c1
    have JSl := JS.lt
    go_wp2_with fail
    refine (HC.out _).mono ?_
    rintro e w3 ⟨rfl, z⟩
    clear i0 i1 i2 i3 i4 i5 i6 i7 il JS0 JS1 JSl
    replace I := I.next z
    replace JS := JS.below z
    clear z
    have i0 := I.g0
    have i1 := I.g1
    have i2 := I.g2
    have i3 := I.g3
    have i4 := I.g4
    have i5 := I.g5
    have i6 := I.g6
    have i7 := I.g7
    have il := I.lt
    have JS0 := JS.c0
    have JS1 := JS.c1
    have JSl := JS.lt
    go_wp2_with fail
    refine (HW.out _).mono ?_
    rintro e w4 ⟨rfl, z⟩
    clear i0 i1 i2 i3 i4 i5 i6 i7 il JS0 JS1 JSl
    replace I := I.next z
    replace JS := JS.below z
    clear z
    have i0 := I.g0
    have i1 := I.g1
    have i2 := I.g2
    have i3 := I.g3
    have i4 := I.g4
    have i5 := I.g5
    have i6 := I.g6
    have i7 := I.g7
    have il := I.lt
    have JS0 := JS.c0
    have JS1 := JS.c1
    have JSl := JS.lt
    have HB := hid I.bel
    clear I JS
    go_wp2
    go_ret
    exact ⟨rfl, HB.out⟩
  exact absurd ⟨h2, h3, w1, w2, o2, o6, o7, o9, o11, o0⟩ hno
theorem bmin_comm (x y : B64) : True := trivial
set_option maxRecDepth 20000 in
set_option maxHeartbeats 16000000 in
theorem least_yes (op : Int) (c : Bool) (A B : Tn) (X Y : B64) (w : World)
    (h2 : mayS A = true) (h3 : mayS B = true) (w1 : ¬ 23 < ub (A.2 - A.1)) (w2 : ¬ 23 < ub (B.2 - B.1)) (o2 : op ≠ 2) (o6 : op ≠ 6) (o7 : op ≠ 7) (o9 : op ≠ 9) (o11 : ¬ 11 < op) (o0 : ¬ op < 0) : Calls Try.prog 12 #[.agg #[.int .i64 op, .bool c, .int .u64 (ub A.1), .int .u64 (ub A.2), .int .u64 (ub B.1), .int .u64 (ub B.2), .int .u64 (ub X), .int .u64 (ub Y)]] w fun e w' => e = .returned (.bool true) ∧ Below w.heap.size w w' := by
  have HX := fun W => sAlu_any op c A B W
  have HA := fun W => qMay_any A W
  have HC := fun W => qMay_any B W
  have HW := hid wakes_true
  have may_iff : ∀ a : Tn, mayS a = true ↔ a.1.toNat ≤ a.2.toNat := fun a => decide_eq_true_iff
  have hok : aluOk op A B := ⟨by omega, by omega, h2, h3⟩
  rw [show aluE op A B = 0 from if_pos hok] at HX
  obtain ⟨ca1, ca2, _⟩ := cut_ok A (sizeW c) (sizeW_le c) ((may_iff A).1 h2)
  obtain ⟨cb1, cb2, _⟩ := cut_ok B (sizeW c) (sizeW_le c) ((may_iff B).1 h3)
  rw [← modW_pow] at ca2 cb2
  obtain ⟨r1, r2, r3⟩ := all_res op.toNat (by omega) (by omega) c _ _ ca1 cb1 ca2 cb2
  rw [← show aluT op c A B = resS op.toNat c (cutK A (sizeW c)) (cutK B (sizeW c)) from if_pos hok] at r1 r2 r3
  have HO := fun (x y : B64) W => qOne_any op.toNat (by omega) c x y W
  rw [Int.toNat_of_nonneg (by omega)] at HO
  have HKA := fun W => qCut_any A 32 W
  have HKB := fun W => qCut_any B 32 W
  rw [show clampN 32 = 32 from rfl] at HKA HKB
  have eA : c = true → cutK A (sizeW c) = A := by rintro rfl; exact cut_all A h2
  have eB : c = true → cutK B (sizeW c) = B := by rintro rfl; exact cut_all B h3
  have fA : c = false → cutK A (sizeW c) = cutK A 32 := by rintro rfl; rfl
  have fB : c = false → cutK B (sizeW c) = cutK B 32 := by rintro rfl; rfl
  have o2b : (op == 2) = false := by simp [o2]
  have o6b : (op == 6) = false := by simp [o6]
  have o7b : (op == 7) = false := by simp [o7]
  have o9b : (op == 9) = false := by simp [o9]
  rw [h2] at HA
  rw [h3] at HC
  clear hok ca1 ca2 cb1 cb2 o2 o6 o7 o9
  generalize aluT op c A B = R at *
  generalize cutK A (sizeW c) = a at *
  generalize cutK B (sizeW c) = b at *
  obtain ⟨N, hN⟩ : ∃ N : Nat → Nat → B64, N = fun i k => oneB op.toNat c (a.1 + BitVec.ofNat 64 i) (b.1 + BitVec.ofNat 64 k) := ⟨_, rfl⟩
  have r1' : ∀ i k, i < (a.2 - a.1).toNat + 1 → k < (b.2 - b.1).toNat + 1 → R.1.toNat ≤ (N i k).toNat ∧ (N i k).toNat ≤ R.2.toNat := by rw [hN]; exact r1
  have r2' : ∃ i k, i < (a.2 - a.1).toNat + 1 ∧ k < (b.2 - b.1).toNat + 1 ∧ (N i k).toNat = R.1.toNat := by rw [hN]; exact r2
  have r3' : ∃ i k, i < (a.2 - a.1).toNat + 1 ∧ k < (b.2 - b.1).toNat + 1 ∧ (N i k).toNat = R.2.toNat := by rw [hN]; exact r3
  have HOn : ∀ i k W, Calls Try.prog 56 #[.int .i64 op, .bool c, .int .u64 (ub (a.1 + BitVec.ofNat 64 i)), .int .u64 (ub (b.1 + BitVec.ofNat 64 k))] W fun e w' => e = .returned (.int .u64 (ub (N i k))) ∧ w' = W := by
    intro i k W
    rw [hN]
    exact HO _ _ W
  clear r1 r2 r3 HO hN
  have R1 := hid r1'
  have R2 := hid r2'
  have R3 := hid r3'
  have HN := hid HOn
  clear r1' r2' r3' HOn
  unfold tv at HX HA HC HKA HKB
  replace HX := hid HX
  replace HA := hid HA
  replace HC := hid HC
  replace HKA := hid HKA
  replace HKB := hid HKB
  have ER := hid (eq_span R.1 R.2)
  have I := GI.start w op c A B X Y 72
  go_enter Try.func12, Try.ntmps12
  go_wp2_with fail
  generalize w.alloc (.cells #[.int .i64 op, .bool c, .int .u64 (ub A.1), .int .u64 (ub A.2), .int .u64 (ub B.1), .int .u64 (ub B.2), .int .u64 (ub X), .int .u64 (ub Y)] 72) = w0 at I ⊢
  refine (HX.out _).mono ?_
  rintro e w1 ⟨rfl, z⟩
  replace I := I.next z
  clear z
  have i0 := I.g0
  have i1 := I.g1
  have i2 := I.g2
  have i3 := I.g3
  have i4 := I.g4
  have i5 := I.g5
  have i6 := I.g6
  have i7 := I.g7
  have il := I.lt
  go_wp2_with fail
  refine (HA.out _).mono ?_
  rintro e w2 ⟨rfl, z⟩
  clear i0 i1 i2 i3 i4 i5 i6 i7 il
  have hs0 : w.heap.size < w1.heap.size := I.lt
  have JS : BC w2 w1.heap.size R := (BC.new (a := R) rfl).below z
  have ba : Below w1.heap.size w1 (w1.alloc (.cells #[.int .u64 (ub R.1), .int .u64 (ub R.2)] 53)) := (Below.refl _ _).alloc (Nat.le_refl _) _
  replace I := I.next ba
  clear ba
  replace I := I.next z
  clear z
  have i0 := I.g0
  have i1 := I.g1
  have i2 := I.g2
  have i3 := I.g3
  have i4 := I.g4
  have i5 := I.g5
  have i6 := I.g6
  have i7 := I.g7
  have il := I.lt
  have JS0 := JS.c0
  have JS1 := JS.c1
  have JSl := JS.lt
  go_wp2_with fail
  refine (HC.out _).mono ?_
  rintro e w3 ⟨rfl, z⟩
  clear i0 i1 i2 i3 i4 i5 i6 i7 il JS0 JS1 JSl
  replace I := I.next z
  replace JS := JS.below z
  clear z
  have q0 := I.g0
  have q1 := I.g1
  have q2 := I.g2
  have q3 := I.g3
  have q4 := I.g4
  have q5 := I.g5
  have q6 := I.lt
  have q7 := JS.c0
  have q8 := JS.c1
  have q9 := JS.lt
  go_wp2_with fail
  clear q0 q1 q2 q3 q4 q5 q6 q7 q8 q9
  have q0 := I.g0
  have q1 := I.g1
  have q2 := I.g2
  have q3 := I.g3
  have q4 := I.g4
  have q5 := I.g5
  have q6 := I.lt
  apply cutA2 (F := fun g h W' => LI w op c A B X Y w1.heap.size R g A h B W')
  · go_region
    · obtain ⟨h, hh⟩ : ∃ h, h = w3.heap.size + 1 := ⟨_, rfl⟩
      obtain ⟨g, hg⟩ : ∃ g, g = w3.heap.size := ⟨_, rfl⟩
      refine ⟨g, h, ?_, ?_⟩
      · rw [hh, hg]; exact LI.start1 I JS hs0
      · first | (rw [← hh, ← hg]; done) | (rw [← hh, ← hg]; exact rfl)
    · obtain ⟨h, hh⟩ : ∃ h, h = w3.heap.size + 1 := ⟨_, rfl⟩
      obtain ⟨g, hg⟩ : ∃ g, g = w3.heap.size := ⟨_, rfl⟩
      refine ⟨h, g, ?_, ?_⟩
      · rw [hh, hg]; exact LI.start2 I JS hs0
      · first | (rw [← hh, ← hg]; done) | (rw [← hh, ← hg]; exact rfl)
  intro g h W5 I5
  clear q0 q1 q2 q3 q4 q5 q6 I JS
  have I := I5
  clear I5
  have gh := I.gh
  have gh' := I.gh.symm
  generalize w1.heap.size = sb at *
  cases c
  · replace eA := fA rfl
    replace eB := fB rfl
    clear fA fB
    rw [← eA] at HKA
    rw [← eB] at HKB
    clear eA eB
    have q0 := I.gi.g0
    have q1 := I.gi.g1
    have q2 := I.gi.g2
    have q3 := I.gi.g3
    have q4 := I.gi.g4
    have q5 := I.gi.g5
    have q6 := I.gi.lt
    have q7 := I.sc.c0
    have q8 := I.sc.c1
    have q9 := I.sc.lt
    have q10 := I.ac.c0
    have q11 := I.ac.c1
    have q12 := I.ac.f0
    have q13 := I.ac.f1
    have q14 := I.ac.lt
    have q15 := I.bc.c0
    have q16 := I.bc.c1
    have q17 := I.bc.f0
    have q18 := I.bc.f1
    have q19 := I.bc.lt
    have hI := hid I
    clear I
    go_wp2_with fail
    refine (HKA.out _).mono ?_
    rintro e W6 ⟨rfl, z⟩
    clear q0 q1 q2 q3 q4 q5 q6 q7 q8 q9 q10 q11 q12 q13 q14 q15 q16 q17 q18 q19
    have I := hI.out.next z
    clear hI z
    have q0 := I.gi.g0
    have q1 := I.gi.g1
    have q2 := I.gi.g2
    have q3 := I.gi.g3
    have q4 := I.gi.g4
    have q5 := I.gi.g5
    have q6 := I.gi.lt
    have q7 := I.sc.c0
    have q8 := I.sc.c1
    have q9 := I.sc.lt
    have q10 := I.ac.c0
    have q11 := I.ac.c1
    have q12 := I.ac.f0
    have q13 := I.ac.f1
    have q14 := I.ac.lt
    have q15 := I.bc.c0
    have q16 := I.bc.c1
    have q17 := I.bc.f0
    have q18 := I.bc.f1
    have q19 := I.bc.lt
    have hI := hid (I.puta a)
    clear I
    go_wp2_with fail
    refine (HKB.out _).mono ?_
    rintro e W7 ⟨rfl, z⟩
    clear q0 q1 q2 q3 q4 q5 q6 q7 q8 q9 q10 q11 q12 q13 q14 q15 q16 q17 q18 q19
    have I := hI.out.next z
    clear hI z
    have q0 := I.gi.g0
    have q1 := I.gi.g1
    have q2 := I.gi.g2
    have q3 := I.gi.g3
    have q4 := I.gi.g4
    have q5 := I.gi.g5
    have q6 := I.gi.lt
    have q7 := I.sc.c0
    have q8 := I.sc.c1
    have q9 := I.sc.lt
    have q10 := I.ac.c0
    have q11 := I.ac.c1
    have q12 := I.ac.f0
    have q13 := I.ac.f1
    have q14 := I.ac.lt
    have q15 := I.bc.c0
    have q16 := I.bc.c1
    have q17 := I.bc.f0
    have q18 := I.bc.f1
    have q19 := I.bc.lt
    have hI := hid (I.putb b)
    clear I
    by_cases wa : 23 < ub (a.2 - a.1)
    · go_wp2_with fail
      refine (HW.out _).mono ?_
      rintro e wz ⟨rfl, bz⟩
      have HB := hid (hI.out.gi.bel.trans (bz.mono hI.out.gi.bel.size))
      go_wp2
      go_ret
      exact ⟨rfl, HB.out⟩
    by_cases wb : 23 < ub (b.2 - b.1)
    · go_wp2_with fail
      refine (HW.out _).mono ?_
      rintro e wz ⟨rfl, bz⟩
      have HB := hid (hI.out.gi.bel.trans (bz.mono hI.out.gi.bel.size))
      go_wp2
      go_ret
      exact ⟨rfl, HB.out⟩
    go_wp2_with fail
    have I : LI w op false A B X Y sb R g a h b ((W7.setCell ⟨h, 0, none⟩ (.int .u64 (ub b.1))).setCell ⟨h, 1, none⟩ (.int .u64 (ub b.2))) := hI.out
    clear hI
    have e8 : ((W7.setCell ⟨h, 0, none⟩ (.int .u64 (ub b.1))).setCell ⟨h, 1, none⟩ (.int .u64 (ub b.2))).heap.size = W7.heap.size := by simp
    generalize (W7.setCell ⟨h, 0, none⟩ (.int .u64 (ub b.1))).setCell ⟨h, 1, none⟩ (.int .u64 (ub b.2)) = W8 at I e8 ⊢
    have hI := hid I
    clear q0 q1 q2 q3 q4 q5 q6 q7 q8 q9 q10 q11 q12 q13 q14 q15 q16 q17 q18 q19
    have WA := WI.start (t := 53) hI.out (18446744073709551615#64, 0#64)
    rw [e8] at WA
    have HWA : Hid (WI w op false A B X Y sb R g a h b W7.heap.size (18446744073709551615#64, 0#64) (W8.alloc (.cells #[.int .u64 18446744073709551615, .int .u64 0] 53))) := hid WA
    clear WA hI I
    obtain ⟨NA, hNA⟩ : ∃ n, n = (a.2 - a.1).toNat + 1 := ⟨_, rfl⟩
    obtain ⟨NB, hNB⟩ : ∃ n, n = (b.2 - b.1).toNat + 1 := ⟨_, rfl⟩
    have la : NA ≤ 24 := by unfold ub at wa; omega
    have lb : NB ≤ 24 := by unfold ub at wb; omega
    have cA : ∀ j : Nat, j < 99 → (ub (BitVec.ofNat 64 j) ≤ ub (a.2 - a.1) ↔ j < NA) := fun j hj => by rw [ofn_ub j (by omega)]; unfold ub; omega
    have cB : ∀ j : Nat, j < 99 → (ub (BitVec.ofNat 64 j) ≤ ub (b.2 - b.1) ↔ j < NB) := fun j hj => by rw [ofn_ub j (by omega)]; unfold ub; omega
    rw [← hNA, ← hNB] at R1 R2 R3
    replace cA := hid cA
    replace cB := hid cB
    clear wa wb hNA hNB
    go_loopw [8] (fun i wr => ∃ (j : Nat) (m : Tn), j ≤ NA ∧ i = .int .u64 (ub (BitVec.ofNat 64 j)) ∧ Hid (WI w op false A B X Y sb R g a h b W7.heap.size m wr) ∧ Hid (Pw N R NB j 0 m)) (fun i _ => NA - (intOf i).toNat)
    case atStart => exact ⟨0, _, Nat.zero_le _, rfl, HWA, hid (Pw.start N R NB)⟩
    case round =>
      obtain ⟨j, m, hj, rfl, HJ, HP⟩ := hrel
      obtain ⟨wo, rfl⟩ : ∃ wo : World, wo = wr := ⟨_, rfl⟩
      have ej : (intOf (.int .u64 (ub (BitVec.ofNat 64 j)))).toNat = j := by show (ub (BitVec.ofNat 64 j)).toNat = j; rw [ofn_ub j (by omega)]; omega
      have ej1 : (intOf (.int .u64 (ub (BitVec.ofNat 64 (j + 1))))).toNat = j + 1 := by show (ub (BitVec.ofNat 64 (j + 1))).toNat = j + 1; rw [ofn_ub (j + 1) (by omega)]; omega
      have es := hid (ofn_succ j (by omega))
      have hcj := cA.out j (by omega)
      by_cases hlt : j < NA
      · have hlt' := hcj.2 hlt
        have HNj := hid (fun l W => HN.out j l W)
        obtain ⟨J, hJ⟩ : ∃ J, J = BitVec.ofNat 64 j := ⟨_, rfl⟩
        rw [← hJ] at hlt' HNj es ej ⊢
        clear hcj hJ
        have p0 := HJ.out.li.ac.c0
        have p1 := HJ.out.li.ac.c1
        have p2 := HJ.out.li.ac.lt
        go_wp2_with fail
        clear p0 p1 p2
        go_loopw [9] (fun i wr => ∃ (l : Nat) (m : Tn), l ≤ NB ∧ i = .int .u64 (ub (BitVec.ofNat 64 l)) ∧ Hid (WI w op false A B X Y sb R g a h b W7.heap.size m wr) ∧ Hid (Pw N R NB j l m)) (fun i _ => NB - (intOf i).toNat)
        case atStart => exact ⟨0, m, Nat.zero_le _, rfl, HJ, HP⟩
        case round =>
          clear HJ HP
          obtain ⟨l, m, hl, rfl, HJ, HP⟩ := hrel
          obtain ⟨wi, rfl⟩ : ∃ wi : World, wi = wr := ⟨_, rfl⟩
          have el : (intOf (.int .u64 (ub (BitVec.ofNat 64 l)))).toNat = l := by show (ub (BitVec.ofNat 64 l)).toNat = l; rw [ofn_ub l (by omega)]; omega
          have el1 : (intOf (.int .u64 (ub (BitVec.ofNat 64 (l + 1))))).toNat = l + 1 := by show (ub (BitVec.ofNat 64 (l + 1))).toNat = l + 1; rw [ofn_ub (l + 1) (by omega)]; omega
          have el2 := hid (ofn_succ l (by omega))
          have hcl := cB.out l (by omega)
          have b0 := HJ.out.li.bc.c0
          have b1 := HJ.out.li.bc.c1
          have b2 := HJ.out.li.bc.lt
          by_cases hlt2 : l < NB
          · have hlt2' := hcl.2 hlt2
            have HNl := hid (HNj.out l)
            have rr := R1.out j l hlt hlt2
            have HS := hid (HP.out.step rr.1 rr.2)
            clear rr
            obtain ⟨L, hL⟩ : ∃ L, L = BitVec.ofNat 64 l := ⟨_, rfl⟩
            rw [← hL] at hlt2' HNl el2 el ⊢
            clear hcl hL
            generalize N j l = n at *
            have p0 := HJ.out.li.ac.c0
            have p1 := HJ.out.li.ac.c1
            have p2 := HJ.out.li.ac.lt
            have u0 := HJ.out.li.gi.g0
            have u1 := HJ.out.li.gi.g1
            have u2 := HJ.out.li.gi.lt
            go_wp2_with fail
            refine (HNl.out _).mono ?_
            rintro e wz ⟨rfl, rfl⟩
            clear p0 p1 p2 u0 u1 u2 b0 b1 b2
            have v0 := HJ.out.vc.c0
            have v1 := HJ.out.vc.c1
            have v2 := HJ.out.vc.f0
            have v3 := HJ.out.vc.f1
            have v4 := HJ.out.vc.lt
            have HJ2 := hid (HJ.out.put (bmin m.1 n, bmax m.2 n))
            go_wp2
            go_roundw
            case rel => exact ⟨l + 1, _, by omega, by rw [← el2.out], HJ2, HS⟩
            case measure => rw [← el2.out] at el1; simp only [el1, el]; omega
          · have hlt2' : ¬ _ := fun h => hlt2 (hcl.1 h)
            obtain rfl : l = NB := by omega
            clear hcl
            go_wp2
            go_roundw
            case rel => exact ⟨j + 1, m, by omega, by rw [← es.out], HJ, hid HP.out.row⟩
            case measure => rw [← es.out] at ej1; simp only [ej1, ej]; omega
      · have hlt' : ¬ _ := fun h => hlt (hcj.1 h)
        obtain rfl : j = NA := by omega
        clear hcj
        have em : m = R := HP.out.done R2.out R3.out
        subst em
        have p0 := HJ.out.li.ac.c0
        have p1 := HJ.out.li.ac.c1
        have p2 := HJ.out.li.ac.lt
        have v0 := HJ.out.vc.c0
        have v1 := HJ.out.vc.c1
        have v4 := HJ.out.vc.lt
        have s0 := HJ.out.li.sc.c0
        have s1 := HJ.out.li.sc.c1
        have s2 := HJ.out.li.sc.lt
        go_wp2_with fail
        refine (HW.out _).mono ?_
        rintro e wz ⟨rfl, bz⟩
        have HB := hid (HJ.out.li.gi.bel.trans (bz.mono HJ.out.li.gi.bel.size))
        go_wp2
        go_ret
        exact ⟨rfl, HB.out⟩
  · have eA' := eA rfl
    have eB' := eB rfl
    subst eA' eB'
    clear eA eB fA fB HKA HKB
    have wa := w1
    have wb := w2
    clear w1 w2
    have q0 := I.gi.g0
    have q1 := I.gi.g1
    have q2 := I.gi.g2
    have q3 := I.gi.g3
    have q4 := I.gi.g4
    have q5 := I.gi.g5
    have q6 := I.gi.lt
    have q7 := I.sc.c0
    have q8 := I.sc.c1
    have q9 := I.sc.lt
    have q10 := I.ac.c0
    have q11 := I.ac.c1
    have q12 := I.ac.f0
    have q13 := I.ac.f1
    have q14 := I.ac.lt
    have q15 := I.bc.c0
    have q16 := I.bc.c1
    have q17 := I.bc.f0
    have q18 := I.bc.f1
    have q19 := I.bc.lt
    have hI := hid I
    go_wp2_with fail
    clear q0 q1 q2 q3 q4 q5 q6 q7 q8 q9 q10 q11 q12 q13 q14 q15 q16 q17 q18 q19
    have WA := WI.start (t := 53) hI.out (18446744073709551615#64, 0#64)
    have HWA : Hid (WI w op true a b X Y sb R g a h b W5.heap.size (18446744073709551615#64, 0#64) (W5.alloc (.cells #[.int .u64 18446744073709551615, .int .u64 0] 53))) := hid WA
    clear WA hI I
    obtain ⟨NA, hNA⟩ : ∃ n, n = (a.2 - a.1).toNat + 1 := ⟨_, rfl⟩
    obtain ⟨NB, hNB⟩ : ∃ n, n = (b.2 - b.1).toNat + 1 := ⟨_, rfl⟩
    have la : NA ≤ 24 := by unfold ub at wa; omega
    have lb : NB ≤ 24 := by unfold ub at wb; omega
    have cA : ∀ j : Nat, j < 99 → (ub (BitVec.ofNat 64 j) ≤ ub (a.2 - a.1) ↔ j < NA) := fun j hj => by rw [ofn_ub j (by omega)]; unfold ub; omega
    have cB : ∀ j : Nat, j < 99 → (ub (BitVec.ofNat 64 j) ≤ ub (b.2 - b.1) ↔ j < NB) := fun j hj => by rw [ofn_ub j (by omega)]; unfold ub; omega
    rw [← hNA, ← hNB] at R1 R2 R3
    replace cA := hid cA
    replace cB := hid cB
    clear wa wb hNA hNB
    go_loopw [8] (fun i wr => ∃ (j : Nat) (m : Tn), j ≤ NA ∧ i = .int .u64 (ub (BitVec.ofNat 64 j)) ∧ Hid (WI w op true a b X Y sb R g a h b W5.heap.size m wr) ∧ Hid (Pw N R NB j 0 m)) (fun i _ => NA - (intOf i).toNat)
    case atStart => exact ⟨0, _, Nat.zero_le _, rfl, HWA, hid (Pw.start N R NB)⟩
    case round =>
      obtain ⟨j, m, hj, rfl, HJ, HP⟩ := hrel
      obtain ⟨wo, rfl⟩ : ∃ wo : World, wo = wr := ⟨_, rfl⟩
      have ej : (intOf (.int .u64 (ub (BitVec.ofNat 64 j)))).toNat = j := by show (ub (BitVec.ofNat 64 j)).toNat = j; rw [ofn_ub j (by omega)]; omega
      have ej1 : (intOf (.int .u64 (ub (BitVec.ofNat 64 (j + 1))))).toNat = j + 1 := by show (ub (BitVec.ofNat 64 (j + 1))).toNat = j + 1; rw [ofn_ub (j + 1) (by omega)]; omega
      have es := hid (ofn_succ j (by omega))
      have hcj := cA.out j (by omega)
      by_cases hlt : j < NA
      · have hlt' := hcj.2 hlt
        have HNj := hid (fun l W => HN.out j l W)
        obtain ⟨J, hJ⟩ : ∃ J, J = BitVec.ofNat 64 j := ⟨_, rfl⟩
        rw [← hJ] at hlt' HNj es ej ⊢
        clear hcj hJ
        have p0 := HJ.out.li.ac.c0
        have p1 := HJ.out.li.ac.c1
        have p2 := HJ.out.li.ac.lt
        go_wp2_with fail
        clear p0 p1 p2
        go_loopw [9] (fun i wr => ∃ (l : Nat) (m : Tn), l ≤ NB ∧ i = .int .u64 (ub (BitVec.ofNat 64 l)) ∧ Hid (WI w op true a b X Y sb R g a h b W5.heap.size m wr) ∧ Hid (Pw N R NB j l m)) (fun i _ => NB - (intOf i).toNat)
        case atStart => exact ⟨0, m, Nat.zero_le _, rfl, HJ, HP⟩
        case round =>
          clear HJ HP
          obtain ⟨l, m, hl, rfl, HJ, HP⟩ := hrel
          obtain ⟨wi, rfl⟩ : ∃ wi : World, wi = wr := ⟨_, rfl⟩
          have el : (intOf (.int .u64 (ub (BitVec.ofNat 64 l)))).toNat = l := by show (ub (BitVec.ofNat 64 l)).toNat = l; rw [ofn_ub l (by omega)]; omega
          have el1 : (intOf (.int .u64 (ub (BitVec.ofNat 64 (l + 1))))).toNat = l + 1 := by show (ub (BitVec.ofNat 64 (l + 1))).toNat = l + 1; rw [ofn_ub (l + 1) (by omega)]; omega
          have el2 := hid (ofn_succ l (by omega))
          have hcl := cB.out l (by omega)
          have b0 := HJ.out.li.bc.c0
          have b1 := HJ.out.li.bc.c1
          have b2 := HJ.out.li.bc.lt
          by_cases hlt2 : l < NB
          · have hlt2' := hcl.2 hlt2
            have HNl := hid (HNj.out l)
            have rr := R1.out j l hlt hlt2
            have HS := hid (HP.out.step rr.1 rr.2)
            clear rr
            obtain ⟨L, hL⟩ : ∃ L, L = BitVec.ofNat 64 l := ⟨_, rfl⟩
            rw [← hL] at hlt2' HNl el2 el ⊢
            clear hcl hL
            generalize N j l = n at *
            have p0 := HJ.out.li.ac.c0
            have p1 := HJ.out.li.ac.c1
            have p2 := HJ.out.li.ac.lt
            have u0 := HJ.out.li.gi.g0
            have u1 := HJ.out.li.gi.g1
            have u2 := HJ.out.li.gi.lt
            go_wp2_with fail
            refine (HNl.out _).mono ?_
            rintro e wz ⟨rfl, rfl⟩
            clear p0 p1 p2 u0 u1 u2 b0 b1 b2
            have v0 := HJ.out.vc.c0
            have v1 := HJ.out.vc.c1
            have v2 := HJ.out.vc.f0
            have v3 := HJ.out.vc.f1
            have v4 := HJ.out.vc.lt
            have HJ2 := hid (HJ.out.put (bmin m.1 n, bmax m.2 n))
            go_wp2
            go_roundw
            case rel => exact ⟨l + 1, _, by omega, by rw [← el2.out], HJ2, HS⟩
            case measure => rw [← el2.out] at el1; simp only [el1, el]; omega
          · have hlt2' : ¬ _ := fun h => hlt2 (hcl.1 h)
            obtain rfl : l = NB := by omega
            clear hcl
            go_wp2
            go_roundw
            case rel => exact ⟨j + 1, m, by omega, by rw [← es.out], HJ, hid HP.out.row⟩
            case measure => rw [← es.out] at ej1; simp only [ej1, ej]; omega
      · have hlt' : ¬ _ := fun h => hlt (hcj.1 h)
        obtain rfl : j = NA := by omega
        clear hcj
        have em : m = R := HP.out.done R2.out R3.out
        subst em
        have p0 := HJ.out.li.ac.c0
        have p1 := HJ.out.li.ac.c1
        have p2 := HJ.out.li.ac.lt
        have v0 := HJ.out.vc.c0
        have v1 := HJ.out.vc.c1
        have v4 := HJ.out.vc.lt
        have s0 := HJ.out.li.sc.c0
        have s1 := HJ.out.li.sc.c1
        have s2 := HJ.out.li.sc.lt
        go_wp2_with fail
        refine (HW.out _).mono ?_
        rintro e wz ⟨rfl, bz⟩
        have HB := hid (HJ.out.li.gi.bel.trans (bz.mono HJ.out.li.gi.bel.size))
        go_wp2
        go_ret
        exact ⟨rfl, HB.out⟩
theorem least_walk (op : Int) (c : Bool) (A B : Tn) (X Y : B64) (w : World) : Calls Try.prog 12 #[.agg #[.int .i64 op, .bool c, .int .u64 (ub A.1), .int .u64 (ub A.2), .int .u64 (ub B.1), .int .u64 (ub B.2), .int .u64 (ub X), .int .u64 (ub Y)]] w fun e w' => e = .returned (.bool true) ∧ Below w.heap.size w w' := by
  by_cases hno : mayS A = true ∧ mayS B = true ∧ ¬ 23 < ub (A.2 - A.1) ∧ ¬ 23 < ub (B.2 - B.1) ∧ op ≠ 2 ∧ op ≠ 6 ∧ op ≠ 7 ∧ op ≠ 9 ∧ ¬ 11 < op ∧ ¬ op < 0
  · obtain ⟨h2, h3, w1, w2, o2, o6, o7, o9, o11, o0⟩ := hno
    exact least_yes op c A B X Y w h2 h3 w1 w2 o2 o6 o7 o9 o11 o0
  · exact least_no op c A B X Y w hno
end Go.Proofs.Ytpeieokmafpaiaa
