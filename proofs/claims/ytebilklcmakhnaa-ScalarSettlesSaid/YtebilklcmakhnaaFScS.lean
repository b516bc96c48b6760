/-
  ScalarSettles: settling loses no number, and is over.
-/
import Derived.Test.YtebilklcmakhnaaFScR
namespace Go.Proofs.Ytebilklcmakhnaa
set_option linter.unusedSimpArgs false
set_option linter.unusedVariables false
set_option maxRecDepth 100000
open Go.ChangeShapes Go.WideShapes Go.ChangeAt Go.RowKit

theorem neq_tn (x y : Tn) (W : World) : (binOp .neq 24 (tv x) (tv y)).run Try.prog W = .ok (.bool (!(x == y))) W := by
  obtain ⟨a, b⟩ := x
  obtain ⟨c, d⟩ := y
  unfold tv
  have e : (((a, b) : Tn) == (c, d)) = ((a == c) && (b == d)) := rfl
  rw [e]
  go_simp
  by_cases h1 : a = c <;> by_cases h2 : b = d <;> simp [h1, h2]
theorem neq_sp (x y : Tn) (W : World) : (binOp .neq 26 (tv x) (tv y)).run Try.prog W = .ok (.bool (!(x == y))) W := by
  obtain ⟨a, b⟩ := x
  obtain ⟨c, d⟩ := y
  unfold tv
  have e : (((a, b) : Tn) == (c, d)) = ((a == c) && (b == d)) := rfl
  rw [e]
  go_simp
  by_cases h1 : a = c <;> by_cases h2 : b = d <;> simp [h1, h2]
/-- Whether tnum and span both hold it, test by test. -/
def bothB (t z : Tn) (n : B64) : Bool := (t.1 &&& t.2 == 0#64) && ((n &&& ~~~t.2 == t.1) && (decide (ub z.1 ≤ ub n) && decide (ub n ≤ ub z.2)))
theorem both_is (t z : Tn) (n : B64) : bothB t z n = true ↔ hasB (t, z) n := by
  unfold bothB hasB thas tmay Lies
  rw [Bool.and_eq_true, Bool.and_eq_true, Bool.and_eq_true, Bool.and_eq_true, decide_eq_true_eq, decide_eq_true_eq, ub_le, ub_le]
  constructor
  · rintro ⟨a, b, c, d⟩; exact ⟨⟨a, b⟩, c, d⟩
  · rintro ⟨⟨a, b⟩, c, d⟩; exact ⟨a, b, c, d⟩
theorem hasX_is (x : Sc) (n : B64) (hm : mayX x = true) : hasX x n = true ↔ hasB x n := by
  unfold hasX hasB Lies
  rw [hm, Bool.true_and, Bool.and_eq_true, Bool.and_eq_true, decide_eq_true_eq, decide_eq_true_eq]
set_option maxHeartbeats 8000000 in
theorem settles_none1 (t z : Tn) (n : B64) (ho : settle (t, z) = none) (e1 : (t.1 &&& t.2 == 0#64) = false) (w : World) : Calls Try.prog 6 #[tv t, tv z, .int .u64 (ub n)] w fun e w' => e = .returned (.bool true) ∧ Below w.heap.size w w' := by
  have X0 := fun W => awake_true W
  have X1 := fun W => cSettle_any t z W
  rw [ho, show optS none = sc0 from rfl, show (none : Option Sc).isSome = false from rfl] at X1
  have Q : ∀ W, (binOp .eql 28 (sv sc0) (.agg #[.int .u64 0, .int .u64 0, .int .u64 0, .int .u64 0])).run Try.prog W = .ok (.bool true) W := fun W => eq_sc sc0 sc0 W
  generalize sc0 = Z at *
  clear ho
  obtain ⟨v, m⟩ := t
  obtain ⟨l, h⟩ := z
  unfold tv at X1 ⊢
  unfold sv at X1 Q
  dsimp only at X1 e1 ⊢
  replace X0 := hid X0
  replace X1 := hid X1
  go_enter Try.func6, Try.ntmps6
  go_wp2_with fail
  have JT : BC ((w.alloc (.cells #[.int .u64 (ub v), .int .u64 (ub m)] 24)).alloc (.cells #[.int .u64 (ub l), .int .u64 (ub h)] 26)) (w.heap.size) (v, m) := ((BC.new (a := (v, m)) rfl).alloc _)
  have JZ : BC ((w.alloc (.cells #[.int .u64 (ub v), .int .u64 (ub m)] 24)).alloc (.cells #[.int .u64 (ub l), .int .u64 (ub h)] 26)) (w.heap.size + 1) (l, h) := (BC.new (a := (l, h)) (by simp))
  have B : Below w.heap.size w ((w.alloc (.cells #[.int .u64 (ub v), .int .u64 (ub m)] 24)).alloc (.cells #[.int .u64 (ub l), .int .u64 (ub h)] 26)) := (bel_alloc (bel_alloc (Below.refl _ _)))
  generalize ((w.alloc (.cells #[.int .u64 (ub v), .int .u64 (ub m)] 24)).alloc (.cells #[.int .u64 (ub l), .int .u64 (ub h)] 26)) = w00 at *
  have JT0 := JT.c0
  have JT1 := JT.c1
  have JTl := JT.lt
  have JZ0 := JZ.c0
  have JZ1 := JZ.c1
  have JZl := JZ.lt
  have lb := B.size
  go_wp2_with fail
  refine (X0.out _).mono ?_
  rintro e w1 ⟨rfl, z⟩
  clear JT0 JT1 JTl JZ0 JZ1 JZl lb
  replace JT := JT.below z
  replace JZ := JZ.below z
  replace B := below_next B z
  clear z
  have JT0 := JT.c0
  have JT1 := JT.c1
  have JTl := JT.lt
  have JZ0 := JZ.c0
  have JZ1 := JZ.c1
  have JZl := JZ.lt
  have lb := B.size
  go_wp2_with fail
  refine (X1.out _).mono ?_
  rintro e w2 ⟨rfl, z⟩
  clear JT0 JT1 JTl JZ0 JZ1 JZl lb
  replace JT := JT.below z
  replace JZ := JZ.below z
  replace B := below_next B z
  clear z
  have JT0 := JT.c0
  have JT1 := JT.c1
  have JTl := JT.lt
  have JZ0 := JZ.c0
  have JZ1 := JZ.c1
  have JZl := JZ.lt
  have lb := B.size
  go_wp2
  go_ret
  first
    | exact ⟨rfl, bel_alloc B⟩
    | exact ⟨by simp [decide_eq_false (show ¬ ub n ≤ ub h by omega)], bel_alloc B⟩
set_option maxHeartbeats 8000000 in
theorem settles_none2 (t z : Tn) (n : B64) (ho : settle (t, z) = none) (e1 : (t.1 &&& t.2 == 0#64) = true) (e2 : (n &&& ~~~t.2 == t.1) = false) (w : World) : Calls Try.prog 6 #[tv t, tv z, .int .u64 (ub n)] w fun e w' => e = .returned (.bool true) ∧ Below w.heap.size w w' := by
  have X0 := fun W => awake_true W
  have X1 := fun W => cSettle_any t z W
  rw [ho, show optS none = sc0 from rfl, show (none : Option Sc).isSome = false from rfl] at X1
  have Q : ∀ W, (binOp .eql 28 (sv sc0) (.agg #[.int .u64 0, .int .u64 0, .int .u64 0, .int .u64 0])).run Try.prog W = .ok (.bool true) W := fun W => eq_sc sc0 sc0 W
  generalize sc0 = Z at *
  clear ho
  obtain ⟨v, m⟩ := t
  obtain ⟨l, h⟩ := z
  unfold tv at X1 ⊢
  unfold sv at X1 Q
  dsimp only at X1 e1 e2 ⊢
  replace X0 := hid X0
  replace X1 := hid X1
  go_enter Try.func6, Try.ntmps6
  go_wp2_with fail
  have JT : BC ((w.alloc (.cells #[.int .u64 (ub v), .int .u64 (ub m)] 24)).alloc (.cells #[.int .u64 (ub l), .int .u64 (ub h)] 26)) (w.heap.size) (v, m) := ((BC.new (a := (v, m)) rfl).alloc _)
  have JZ : BC ((w.alloc (.cells #[.int .u64 (ub v), .int .u64 (ub m)] 24)).alloc (.cells #[.int .u64 (ub l), .int .u64 (ub h)] 26)) (w.heap.size + 1) (l, h) := (BC.new (a := (l, h)) (by simp))
  have B : Below w.heap.size w ((w.alloc (.cells #[.int .u64 (ub v), .int .u64 (ub m)] 24)).alloc (.cells #[.int .u64 (ub l), .int .u64 (ub h)] 26)) := (bel_alloc (bel_alloc (Below.refl _ _)))
  generalize ((w.alloc (.cells #[.int .u64 (ub v), .int .u64 (ub m)] 24)).alloc (.cells #[.int .u64 (ub l), .int .u64 (ub h)] 26)) = w00 at *
  have JT0 := JT.c0
  have JT1 := JT.c1
  have JTl := JT.lt
  have JZ0 := JZ.c0
  have JZ1 := JZ.c1
  have JZl := JZ.lt
  have lb := B.size
  go_wp2_with fail
  refine (X0.out _).mono ?_
  rintro e w1 ⟨rfl, z⟩
  clear JT0 JT1 JTl JZ0 JZ1 JZl lb
  replace JT := JT.below z
  replace JZ := JZ.below z
  replace B := below_next B z
  clear z
  have JT0 := JT.c0
  have JT1 := JT.c1
  have JTl := JT.lt
  have JZ0 := JZ.c0
  have JZ1 := JZ.c1
  have JZl := JZ.lt
  have lb := B.size
  go_wp2_with fail
  refine (X1.out _).mono ?_
  rintro e w2 ⟨rfl, z⟩
  clear JT0 JT1 JTl JZ0 JZ1 JZl lb
  replace JT := JT.below z
  replace JZ := JZ.below z
  replace B := below_next B z
  clear z
  have JT0 := JT.c0
  have JT1 := JT.c1
  have JTl := JT.lt
  have JZ0 := JZ.c0
  have JZ1 := JZ.c1
  have JZl := JZ.lt
  have lb := B.size
  go_wp2
  go_ret
  first
    | exact ⟨rfl, bel_alloc B⟩
    | exact ⟨by simp [decide_eq_false (show ¬ ub n ≤ ub h by omega)], bel_alloc B⟩
set_option maxHeartbeats 8000000 in
theorem settles_none3 (t z : Tn) (n : B64) (ho : settle (t, z) = none) (e1 : (t.1 &&& t.2 == 0#64) = true) (e2 : (n &&& ~~~t.2 == t.1) = true) (e3 : ¬ ub z.1 ≤ ub n) (w : World) : Calls Try.prog 6 #[tv t, tv z, .int .u64 (ub n)] w fun e w' => e = .returned (.bool true) ∧ Below w.heap.size w w' := by
  have X0 := fun W => awake_true W
  have X1 := fun W => cSettle_any t z W
  rw [ho, show optS none = sc0 from rfl, show (none : Option Sc).isSome = false from rfl] at X1
  have Q : ∀ W, (binOp .eql 28 (sv sc0) (.agg #[.int .u64 0, .int .u64 0, .int .u64 0, .int .u64 0])).run Try.prog W = .ok (.bool true) W := fun W => eq_sc sc0 sc0 W
  generalize sc0 = Z at *
  clear ho
  obtain ⟨v, m⟩ := t
  obtain ⟨l, h⟩ := z
  unfold tv at X1 ⊢
  unfold sv at X1 Q
  dsimp only at X1 e1 e2 e3 ⊢
  replace X0 := hid X0
  replace X1 := hid X1
  go_enter Try.func6, Try.ntmps6
  go_wp2_with fail
  have JT : BC ((w.alloc (.cells #[.int .u64 (ub v), .int .u64 (ub m)] 24)).alloc (.cells #[.int .u64 (ub l), .int .u64 (ub h)] 26)) (w.heap.size) (v, m) := ((BC.new (a := (v, m)) rfl).alloc _)
  have JZ : BC ((w.alloc (.cells #[.int .u64 (ub v), .int .u64 (ub m)] 24)).alloc (.cells #[.int .u64 (ub l), .int .u64 (ub h)] 26)) (w.heap.size + 1) (l, h) := (BC.new (a := (l, h)) (by simp))
  have B : Below w.heap.size w ((w.alloc (.cells #[.int .u64 (ub v), .int .u64 (ub m)] 24)).alloc (.cells #[.int .u64 (ub l), .int .u64 (ub h)] 26)) := (bel_alloc (bel_alloc (Below.refl _ _)))
  generalize ((w.alloc (.cells #[.int .u64 (ub v), .int .u64 (ub m)] 24)).alloc (.cells #[.int .u64 (ub l), .int .u64 (ub h)] 26)) = w00 at *
  have JT0 := JT.c0
  have JT1 := JT.c1
  have JTl := JT.lt
  have JZ0 := JZ.c0
  have JZ1 := JZ.c1
  have JZl := JZ.lt
  have lb := B.size
  go_wp2_with fail
  refine (X0.out _).mono ?_
  rintro e w1 ⟨rfl, z⟩
  clear JT0 JT1 JTl JZ0 JZ1 JZl lb
  replace JT := JT.below z
  replace JZ := JZ.below z
  replace B := below_next B z
  clear z
  have JT0 := JT.c0
  have JT1 := JT.c1
  have JTl := JT.lt
  have JZ0 := JZ.c0
  have JZ1 := JZ.c1
  have JZl := JZ.lt
  have lb := B.size
  go_wp2_with fail
  refine (X1.out _).mono ?_
  rintro e w2 ⟨rfl, z⟩
  clear JT0 JT1 JTl JZ0 JZ1 JZl lb
  replace JT := JT.below z
  replace JZ := JZ.below z
  replace B := below_next B z
  clear z
  have JT0 := JT.c0
  have JT1 := JT.c1
  have JTl := JT.lt
  have JZ0 := JZ.c0
  have JZ1 := JZ.c1
  have JZl := JZ.lt
  have lb := B.size
  go_wp2
  go_ret
  first
    | exact ⟨rfl, bel_alloc B⟩
    | exact ⟨by simp [decide_eq_false (show ¬ ub n ≤ ub h by omega)], bel_alloc B⟩
set_option maxHeartbeats 8000000 in
theorem settles_none4 (t z : Tn) (n : B64) (ho : settle (t, z) = none) (e1 : (t.1 &&& t.2 == 0#64) = true) (e2 : (n &&& ~~~t.2 == t.1) = true) (e3 : ub z.1 ≤ ub n) (e4 : ¬ ub n ≤ ub z.2) (w : World) : Calls Try.prog 6 #[tv t, tv z, .int .u64 (ub n)] w fun e w' => e = .returned (.bool true) ∧ Below w.heap.size w w' := by
  have X0 := fun W => awake_true W
  have X1 := fun W => cSettle_any t z W
  rw [ho, show optS none = sc0 from rfl, show (none : Option Sc).isSome = false from rfl] at X1
  have Q : ∀ W, (binOp .eql 28 (sv sc0) (.agg #[.int .u64 0, .int .u64 0, .int .u64 0, .int .u64 0])).run Try.prog W = .ok (.bool true) W := fun W => eq_sc sc0 sc0 W
  generalize sc0 = Z at *
  clear ho
  obtain ⟨v, m⟩ := t
  obtain ⟨l, h⟩ := z
  unfold tv at X1 ⊢
  unfold sv at X1 Q
  dsimp only at X1 e1 e2 e3 e4 ⊢
  replace X0 := hid X0
  replace X1 := hid X1
  go_enter Try.func6, Try.ntmps6
  go_wp2_with fail
  have JT : BC ((w.alloc (.cells #[.int .u64 (ub v), .int .u64 (ub m)] 24)).alloc (.cells #[.int .u64 (ub l), .int .u64 (ub h)] 26)) (w.heap.size) (v, m) := ((BC.new (a := (v, m)) rfl).alloc _)
  have JZ : BC ((w.alloc (.cells #[.int .u64 (ub v), .int .u64 (ub m)] 24)).alloc (.cells #[.int .u64 (ub l), .int .u64 (ub h)] 26)) (w.heap.size + 1) (l, h) := (BC.new (a := (l, h)) (by simp))
  have B : Below w.heap.size w ((w.alloc (.cells #[.int .u64 (ub v), .int .u64 (ub m)] 24)).alloc (.cells #[.int .u64 (ub l), .int .u64 (ub h)] 26)) := (bel_alloc (bel_alloc (Below.refl _ _)))
  generalize ((w.alloc (.cells #[.int .u64 (ub v), .int .u64 (ub m)] 24)).alloc (.cells #[.int .u64 (ub l), .int .u64 (ub h)] 26)) = w00 at *
  have JT0 := JT.c0
  have JT1 := JT.c1
  have JTl := JT.lt
  have JZ0 := JZ.c0
  have JZ1 := JZ.c1
  have JZl := JZ.lt
  have lb := B.size
  go_wp2_with fail
  refine (X0.out _).mono ?_
  rintro e w1 ⟨rfl, z⟩
  clear JT0 JT1 JTl JZ0 JZ1 JZl lb
  replace JT := JT.below z
  replace JZ := JZ.below z
  replace B := below_next B z
  clear z
  have JT0 := JT.c0
  have JT1 := JT.c1
  have JTl := JT.lt
  have JZ0 := JZ.c0
  have JZ1 := JZ.c1
  have JZl := JZ.lt
  have lb := B.size
  go_wp2_with fail
  refine (X1.out _).mono ?_
  rintro e w2 ⟨rfl, z⟩
  clear JT0 JT1 JTl JZ0 JZ1 JZl lb
  replace JT := JT.below z
  replace JZ := JZ.below z
  replace B := below_next B z
  clear z
  have JT0 := JT.c0
  have JT1 := JT.c1
  have JTl := JT.lt
  have JZ0 := JZ.c0
  have JZ1 := JZ.c1
  have JZl := JZ.lt
  have lb := B.size
  go_wp2
  go_ret
  first
    | exact ⟨rfl, bel_alloc B⟩
    | exact ⟨by simp [decide_eq_false (show ¬ ub n ≤ ub h by omega)], bel_alloc B⟩
set_option maxHeartbeats 8000000 in
theorem settles_t1 (t z : Tn) (n : B64) (y : Sc) (ho : settle (t, z) = some y) (e1 : (t.1 &&& t.2 == 0#64) = false) (hd : (y.1 == t) = false) (w : World) : Calls Try.prog 6 #[tv t, tv z, .int .u64 (ub n)] w fun e w' => e = .returned (.bool true) ∧ Below w.heap.size w w' := by
  have X0 := fun W => awake_true W
  have X1 := fun W => cSettle_any t z W
  rw [ho, show optS (some y) = y from rfl, show (some y : Option Sc).isSome = true from rfl] at X1
  have hm := settled ho
  have X2 := fun W => cSettle_any y.1 y.2 W
  rw [show (y.1, y.2) = y from rfl, (mayX_settle y).1 hm, show optS (some y) = y from rfl, show (some y : Option Sc).isSome = true from rfl] at X2
  have hh : hasX y n = false := by
    rw [Bool.eq_false_iff, Ne, hasX_is y n hm, settle_hasB ho, ← both_is]
    unfold bothB
    rw [e1]
    simp
  have X3 := fun W => cHas_any y n W
  rw [hh] at X3
  have X4 := fun W => cMay_any y W
  rw [hm] at X4
  have Q1 := fun W => eq_sc y y W
  rw [beq_self_eq_true] at Q1
  have Q2 := fun W => neq_tn y.1 t W
  rw [hd] at Q2
  clear ho hm hh hd
  obtain ⟨v, m⟩ := t
  obtain ⟨l, h⟩ := z
  unfold tv at X1 X2 Q2 ⊢
  unfold sv at X1 X2 X3 X4 Q1
  dsimp only at X1 X2 X3 X4 e1 ⊢
  replace X0 := hid X0
  replace X1 := hid X1
  replace X2 := hid X2
  replace X3 := hid X3
  replace X4 := hid X4
  go_enter Try.func6, Try.ntmps6
  go_wp2_with fail
  have JT : BC ((w.alloc (.cells #[.int .u64 (ub v), .int .u64 (ub m)] 24)).alloc (.cells #[.int .u64 (ub l), .int .u64 (ub h)] 26)) (w.heap.size) (v, m) := ((BC.new (a := (v, m)) rfl).alloc _)
  have JZ : BC ((w.alloc (.cells #[.int .u64 (ub v), .int .u64 (ub m)] 24)).alloc (.cells #[.int .u64 (ub l), .int .u64 (ub h)] 26)) (w.heap.size + 1) (l, h) := (BC.new (a := (l, h)) (by simp))
  have B : Below w.heap.size w ((w.alloc (.cells #[.int .u64 (ub v), .int .u64 (ub m)] 24)).alloc (.cells #[.int .u64 (ub l), .int .u64 (ub h)] 26)) := (bel_alloc (bel_alloc (Below.refl _ _)))
  generalize ((w.alloc (.cells #[.int .u64 (ub v), .int .u64 (ub m)] 24)).alloc (.cells #[.int .u64 (ub l), .int .u64 (ub h)] 26)) = w00 at *
  have JT0 := JT.c0
  have JT1 := JT.c1
  have JTl := JT.lt
  have JZ0 := JZ.c0
  have JZ1 := JZ.c1
  have JZl := JZ.lt
  have lb := B.size
  go_wp2_with fail
  refine (X0.out _).mono ?_
  rintro e w1 ⟨rfl, z⟩
  clear JT0 JT1 JTl JZ0 JZ1 JZl lb
  replace JT := JT.below z
  replace JZ := JZ.below z
  replace B := below_next B z
  clear z
  have JT0 := JT.c0
  have JT1 := JT.c1
  have JTl := JT.lt
  have JZ0 := JZ.c0
  have JZ1 := JZ.c1
  have JZl := JZ.lt
  have lb := B.size
  go_wp2_with fail
  refine (X1.out _).mono ?_
  rintro e w2 ⟨rfl, z⟩
  clear JT0 JT1 JTl JZ0 JZ1 JZl lb
  replace JT := JT.below z
  replace JZ := JZ.below z
  replace B := below_next B z
  clear z
  have JT0 := JT.c0
  have JT1 := JT.c1
  have JTl := JT.lt
  have JZ0 := JZ.c0
  have JZ1 := JZ.c1
  have JZl := JZ.lt
  have lb := B.size
  go_wp2_with fail
  refine (X2.out _).mono ?_
  rintro e w3 ⟨rfl, z⟩
  clear JT0 JT1 JTl JZ0 JZ1 JZl lb
  have g3JT : w.heap.size < w2.heap.size := JT.lt
  have g3JZ : w.heap.size + 1 < w2.heap.size := JZ.lt
  have g3B := B.size
  replace JT := (JT.alloc _).below z
  replace JZ := (JZ.alloc _).below z
  have JA : SC w3 (w2.heap.size) (y) := (SC.new rfl).below z
  replace B := below_next (bel_alloc B) z
  clear z
  have JT0 := JT.c0
  have JT1 := JT.c1
  have JTl := JT.lt
  have JZ0 := JZ.c0
  have JZ1 := JZ.c1
  have JZl := JZ.lt
  have JA0 := JA.c0
  have JA1 := JA.c1
  have JA2 := JA.c2
  have JA3 := JA.c3
  have JAl := JA.lt
  have lb := B.size
  go_wp2_with fail
  refine (X3.out _).mono ?_
  rintro e w4 ⟨rfl, z⟩
  clear JT0 JT1 JTl JZ0 JZ1 JZl JA0 JA1 JA2 JA3 JAl lb
  have g4JT : w.heap.size < w3.heap.size := JT.lt
  have g4JZ : w.heap.size + 1 < w3.heap.size := JZ.lt
  have g4JA : w2.heap.size < w3.heap.size := JA.lt
  have g4B := B.size
  replace JT := (JT.alloc _).below z
  replace JZ := (JZ.alloc _).below z
  replace JA := (JA.alloc _).below z
  have JB : SC w4 (w3.heap.size) (y) := (SC.new rfl).below z
  replace B := below_next (bel_alloc B) z
  clear z
  have JT0 := JT.c0
  have JT1 := JT.c1
  have JTl := JT.lt
  have JZ0 := JZ.c0
  have JZ1 := JZ.c1
  have JZl := JZ.lt
  have JA0 := JA.c0
  have JA1 := JA.c1
  have JA2 := JA.c2
  have JA3 := JA.c3
  have JAl := JA.lt
  have JB0 := JB.c0
  have JB1 := JB.c1
  have JB2 := JB.c2
  have JB3 := JB.c3
  have JBl := JB.lt
  have lb := B.size
  go_wp2_with fail
  refine (X4.out _).mono ?_
  rintro e w5 ⟨rfl, z⟩
  clear JT0 JT1 JTl JZ0 JZ1 JZl JA0 JA1 JA2 JA3 JAl JB0 JB1 JB2 JB3 JBl lb
  replace JT := JT.below z
  replace JZ := JZ.below z
  replace JA := JA.below z
  replace JB := JB.below z
  replace B := below_next B z
  clear z
  have JT0 := JT.c0
  have JT1 := JT.c1
  have JTl := JT.lt
  have JZ0 := JZ.c0
  have JZ1 := JZ.c1
  have JZl := JZ.lt
  have JA0 := JA.c0
  have JA1 := JA.c1
  have JA2 := JA.c2
  have JA3 := JA.c3
  have JAl := JA.lt
  have JB0 := JB.c0
  have JB1 := JB.c1
  have JB2 := JB.c2
  have JB3 := JB.c3
  have JBl := JB.lt
  have lb := B.size
  go_wp2
  go_ret
  first
    | exact ⟨rfl, B⟩
    | exact ⟨by simp [decide_eq_false (show ¬ ub n ≤ ub h by omega)], B⟩
set_option maxHeartbeats 8000000 in
theorem settles_s1 (t z : Tn) (n : B64) (y : Sc) (ho : settle (t, z) = some y) (e1 : (t.1 &&& t.2 == 0#64) = false) (hd : (y.1 == t) = true) (hg : (y.2 == z) = false) (w : World) : Calls Try.prog 6 #[tv t, tv z, .int .u64 (ub n)] w fun e w' => e = .returned (.bool true) ∧ Below w.heap.size w w' := by
  have X0 := fun W => awake_true W
  have X1 := fun W => cSettle_any t z W
  rw [ho, show optS (some y) = y from rfl, show (some y : Option Sc).isSome = true from rfl] at X1
  have hm := settled ho
  have X2 := fun W => cSettle_any y.1 y.2 W
  rw [show (y.1, y.2) = y from rfl, (mayX_settle y).1 hm, show optS (some y) = y from rfl, show (some y : Option Sc).isSome = true from rfl] at X2
  have hh : hasX y n = false := by
    rw [Bool.eq_false_iff, Ne, hasX_is y n hm, settle_hasB ho, ← both_is]
    unfold bothB
    rw [e1]
    simp
  have X3 := fun W => cHas_any y n W
  rw [hh] at X3
  have X4 := fun W => cMay_any y W
  rw [hm] at X4
  have Q1 := fun W => eq_sc y y W
  rw [beq_self_eq_true] at Q1
  have Q2 := fun W => neq_tn y.1 t W
  rw [hd] at Q2
  have Q3 := fun W => neq_sp y.2 z W
  rw [hg] at Q3
  clear ho hm hh hd hg
  obtain ⟨v, m⟩ := t
  obtain ⟨l, h⟩ := z
  unfold tv at X1 X2 Q2 Q3 ⊢
  unfold sv at X1 X2 X3 X4 Q1
  dsimp only at X1 X2 X3 X4 e1 ⊢
  replace X0 := hid X0
  replace X1 := hid X1
  replace X2 := hid X2
  replace X3 := hid X3
  replace X4 := hid X4
  go_enter Try.func6, Try.ntmps6
  go_wp2_with fail
  have JT : BC ((w.alloc (.cells #[.int .u64 (ub v), .int .u64 (ub m)] 24)).alloc (.cells #[.int .u64 (ub l), .int .u64 (ub h)] 26)) (w.heap.size) (v, m) := ((BC.new (a := (v, m)) rfl).alloc _)
  have JZ : BC ((w.alloc (.cells #[.int .u64 (ub v), .int .u64 (ub m)] 24)).alloc (.cells #[.int .u64 (ub l), .int .u64 (ub h)] 26)) (w.heap.size + 1) (l, h) := (BC.new (a := (l, h)) (by simp))
  have B : Below w.heap.size w ((w.alloc (.cells #[.int .u64 (ub v), .int .u64 (ub m)] 24)).alloc (.cells #[.int .u64 (ub l), .int .u64 (ub h)] 26)) := (bel_alloc (bel_alloc (Below.refl _ _)))
  generalize ((w.alloc (.cells #[.int .u64 (ub v), .int .u64 (ub m)] 24)).alloc (.cells #[.int .u64 (ub l), .int .u64 (ub h)] 26)) = w00 at *
  have JT0 := JT.c0
  have JT1 := JT.c1
  have JTl := JT.lt
  have JZ0 := JZ.c0
  have JZ1 := JZ.c1
  have JZl := JZ.lt
  have lb := B.size
  go_wp2_with fail
  refine (X0.out _).mono ?_
  rintro e w1 ⟨rfl, z⟩
  clear JT0 JT1 JTl JZ0 JZ1 JZl lb
  replace JT := JT.below z
  replace JZ := JZ.below z
  replace B := below_next B z
  clear z
  have JT0 := JT.c0
  have JT1 := JT.c1
  have JTl := JT.lt
  have JZ0 := JZ.c0
  have JZ1 := JZ.c1
  have JZl := JZ.lt
  have lb := B.size
  go_wp2_with fail
  refine (X1.out _).mono ?_
  rintro e w2 ⟨rfl, z⟩
  clear JT0 JT1 JTl JZ0 JZ1 JZl lb
  replace JT := JT.below z
  replace JZ := JZ.below z
  replace B := below_next B z
  clear z
  have JT0 := JT.c0
  have JT1 := JT.c1
  have JTl := JT.lt
  have JZ0 := JZ.c0
  have JZ1 := JZ.c1
  have JZl := JZ.lt
  have lb := B.size
  go_wp2_with fail
  refine (X2.out _).mono ?_
  rintro e w3 ⟨rfl, z⟩
  clear JT0 JT1 JTl JZ0 JZ1 JZl lb
  have g3JT : w.heap.size < w2.heap.size := JT.lt
  have g3JZ : w.heap.size + 1 < w2.heap.size := JZ.lt
  have g3B := B.size
  replace JT := (JT.alloc _).below z
  replace JZ := (JZ.alloc _).below z
  have JA : SC w3 (w2.heap.size) (y) := (SC.new rfl).below z
  replace B := below_next (bel_alloc B) z
  clear z
  have JT0 := JT.c0
  have JT1 := JT.c1
  have JTl := JT.lt
  have JZ0 := JZ.c0
  have JZ1 := JZ.c1
  have JZl := JZ.lt
  have JA0 := JA.c0
  have JA1 := JA.c1
  have JA2 := JA.c2
  have JA3 := JA.c3
  have JAl := JA.lt
  have lb := B.size
  go_wp2_with fail
  refine (X3.out _).mono ?_
  rintro e w4 ⟨rfl, z⟩
  clear JT0 JT1 JTl JZ0 JZ1 JZl JA0 JA1 JA2 JA3 JAl lb
  have g4JT : w.heap.size < w3.heap.size := JT.lt
  have g4JZ : w.heap.size + 1 < w3.heap.size := JZ.lt
  have g4JA : w2.heap.size < w3.heap.size := JA.lt
  have g4B := B.size
  replace JT := (JT.alloc _).below z
  replace JZ := (JZ.alloc _).below z
  replace JA := (JA.alloc _).below z
  have JB : SC w4 (w3.heap.size) (y) := (SC.new rfl).below z
  replace B := below_next (bel_alloc B) z
  clear z
  have JT0 := JT.c0
  have JT1 := JT.c1
  have JTl := JT.lt
  have JZ0 := JZ.c0
  have JZ1 := JZ.c1
  have JZl := JZ.lt
  have JA0 := JA.c0
  have JA1 := JA.c1
  have JA2 := JA.c2
  have JA3 := JA.c3
  have JAl := JA.lt
  have JB0 := JB.c0
  have JB1 := JB.c1
  have JB2 := JB.c2
  have JB3 := JB.c3
  have JBl := JB.lt
  have lb := B.size
  go_wp2_with fail
  refine (X4.out _).mono ?_
  rintro e w5 ⟨rfl, z⟩
  clear JT0 JT1 JTl JZ0 JZ1 JZl JA0 JA1 JA2 JA3 JAl JB0 JB1 JB2 JB3 JBl lb
  replace JT := JT.below z
  replace JZ := JZ.below z
  replace JA := JA.below z
  replace JB := JB.below z
  replace B := below_next B z
  clear z
  have JT0 := JT.c0
  have JT1 := JT.c1
  have JTl := JT.lt
  have JZ0 := JZ.c0
  have JZ1 := JZ.c1
  have JZl := JZ.lt
  have JA0 := JA.c0
  have JA1 := JA.c1
  have JA2 := JA.c2
  have JA3 := JA.c3
  have JAl := JA.lt
  have JB0 := JB.c0
  have JB1 := JB.c1
  have JB2 := JB.c2
  have JB3 := JB.c3
  have JBl := JB.lt
  have lb := B.size
  go_wp2
  go_ret
  first
    | exact ⟨rfl, B⟩
    | exact ⟨by simp [decide_eq_false (show ¬ ub n ≤ ub h by omega)], B⟩
set_option maxHeartbeats 8000000 in
theorem settles_b1 (t z : Tn) (n : B64) (y : Sc) (ho : settle (t, z) = some y) (e1 : (t.1 &&& t.2 == 0#64) = false) (hd : (y.1 == t) = true) (hg : (y.2 == z) = true) (w : World) : Calls Try.prog 6 #[tv t, tv z, .int .u64 (ub n)] w fun e w' => e = .returned (.bool true) ∧ Below w.heap.size w w' := by
  have X0 := fun W => awake_true W
  have X1 := fun W => cSettle_any t z W
  rw [ho, show optS (some y) = y from rfl, show (some y : Option Sc).isSome = true from rfl] at X1
  have hm := settled ho
  have X2 := fun W => cSettle_any y.1 y.2 W
  rw [show (y.1, y.2) = y from rfl, (mayX_settle y).1 hm, show optS (some y) = y from rfl, show (some y : Option Sc).isSome = true from rfl] at X2
  have hh : hasX y n = false := by
    rw [Bool.eq_false_iff, Ne, hasX_is y n hm, settle_hasB ho, ← both_is]
    unfold bothB
    rw [e1]
    simp
  have X3 := fun W => cHas_any y n W
  rw [hh] at X3
  have X4 := fun W => cMay_any y W
  rw [hm] at X4
  have Q1 := fun W => eq_sc y y W
  rw [beq_self_eq_true] at Q1
  have Q2 := fun W => neq_tn y.1 t W
  rw [hd] at Q2
  have Q3 := fun W => neq_sp y.2 z W
  rw [hg] at Q3
  have X5 := fun W => cMay_any (t, z) W
  rw [show mayX (t, z) = true from (show y = (t, z) from Prod.ext (beq_iff_eq.1 hd) (beq_iff_eq.1 hg)) ▸ hm] at X5
  clear ho hm hh hd hg
  obtain ⟨v, m⟩ := t
  obtain ⟨l, h⟩ := z
  unfold tv at X1 X2 Q2 Q3 ⊢
  unfold sv at X1 X2 X3 X4 X5 Q1
  dsimp only at X1 X2 X3 X4 X5 e1 ⊢
  replace X0 := hid X0
  replace X1 := hid X1
  replace X2 := hid X2
  replace X3 := hid X3
  replace X4 := hid X4
  replace X5 := hid X5
  go_enter Try.func6, Try.ntmps6
  go_wp2_with fail
  have JT : BC ((w.alloc (.cells #[.int .u64 (ub v), .int .u64 (ub m)] 24)).alloc (.cells #[.int .u64 (ub l), .int .u64 (ub h)] 26)) (w.heap.size) (v, m) := ((BC.new (a := (v, m)) rfl).alloc _)
  have JZ : BC ((w.alloc (.cells #[.int .u64 (ub v), .int .u64 (ub m)] 24)).alloc (.cells #[.int .u64 (ub l), .int .u64 (ub h)] 26)) (w.heap.size + 1) (l, h) := (BC.new (a := (l, h)) (by simp))
  have B : Below w.heap.size w ((w.alloc (.cells #[.int .u64 (ub v), .int .u64 (ub m)] 24)).alloc (.cells #[.int .u64 (ub l), .int .u64 (ub h)] 26)) := (bel_alloc (bel_alloc (Below.refl _ _)))
  generalize ((w.alloc (.cells #[.int .u64 (ub v), .int .u64 (ub m)] 24)).alloc (.cells #[.int .u64 (ub l), .int .u64 (ub h)] 26)) = w00 at *
  have JT0 := JT.c0
  have JT1 := JT.c1
  have JTl := JT.lt
  have JZ0 := JZ.c0
  have JZ1 := JZ.c1
  have JZl := JZ.lt
  have lb := B.size
  go_wp2_with fail
  refine (X0.out _).mono ?_
  rintro e w1 ⟨rfl, z⟩
  clear JT0 JT1 JTl JZ0 JZ1 JZl lb
  replace JT := JT.below z
  replace JZ := JZ.below z
  replace B := below_next B z
  clear z
  have JT0 := JT.c0
  have JT1 := JT.c1
  have JTl := JT.lt
  have JZ0 := JZ.c0
  have JZ1 := JZ.c1
  have JZl := JZ.lt
  have lb := B.size
  go_wp2_with fail
  refine (X1.out _).mono ?_
  rintro e w2 ⟨rfl, z⟩
  clear JT0 JT1 JTl JZ0 JZ1 JZl lb
  replace JT := JT.below z
  replace JZ := JZ.below z
  replace B := below_next B z
  clear z
  have JT0 := JT.c0
  have JT1 := JT.c1
  have JTl := JT.lt
  have JZ0 := JZ.c0
  have JZ1 := JZ.c1
  have JZl := JZ.lt
  have lb := B.size
  go_wp2_with fail
  refine (X2.out _).mono ?_
  rintro e w3 ⟨rfl, z⟩
  clear JT0 JT1 JTl JZ0 JZ1 JZl lb
  have g3JT : w.heap.size < w2.heap.size := JT.lt
  have g3JZ : w.heap.size + 1 < w2.heap.size := JZ.lt
  have g3B := B.size
  replace JT := (JT.alloc _).below z
  replace JZ := (JZ.alloc _).below z
  have JA : SC w3 (w2.heap.size) (y) := (SC.new rfl).below z
  replace B := below_next (bel_alloc B) z
  clear z
  have JT0 := JT.c0
  have JT1 := JT.c1
  have JTl := JT.lt
  have JZ0 := JZ.c0
  have JZ1 := JZ.c1
  have JZl := JZ.lt
  have JA0 := JA.c0
  have JA1 := JA.c1
  have JA2 := JA.c2
  have JA3 := JA.c3
  have JAl := JA.lt
  have lb := B.size
  go_wp2_with fail
  refine (X3.out _).mono ?_
  rintro e w4 ⟨rfl, z⟩
  clear JT0 JT1 JTl JZ0 JZ1 JZl JA0 JA1 JA2 JA3 JAl lb
  have g4JT : w.heap.size < w3.heap.size := JT.lt
  have g4JZ : w.heap.size + 1 < w3.heap.size := JZ.lt
  have g4JA : w2.heap.size < w3.heap.size := JA.lt
  have g4B := B.size
  replace JT := (JT.alloc _).below z
  replace JZ := (JZ.alloc _).below z
  replace JA := (JA.alloc _).below z
  have JB : SC w4 (w3.heap.size) (y) := (SC.new rfl).below z
  replace B := below_next (bel_alloc B) z
  clear z
  have JT0 := JT.c0
  have JT1 := JT.c1
  have JTl := JT.lt
  have JZ0 := JZ.c0
  have JZ1 := JZ.c1
  have JZl := JZ.lt
  have JA0 := JA.c0
  have JA1 := JA.c1
  have JA2 := JA.c2
  have JA3 := JA.c3
  have JAl := JA.lt
  have JB0 := JB.c0
  have JB1 := JB.c1
  have JB2 := JB.c2
  have JB3 := JB.c3
  have JBl := JB.lt
  have lb := B.size
  go_wp2_with fail
  refine (X4.out _).mono ?_
  rintro e w5 ⟨rfl, z⟩
  clear JT0 JT1 JTl JZ0 JZ1 JZl JA0 JA1 JA2 JA3 JAl JB0 JB1 JB2 JB3 JBl lb
  replace JT := JT.below z
  replace JZ := JZ.below z
  replace JA := JA.below z
  replace JB := JB.below z
  replace B := below_next B z
  clear z
  have JT0 := JT.c0
  have JT1 := JT.c1
  have JTl := JT.lt
  have JZ0 := JZ.c0
  have JZ1 := JZ.c1
  have JZl := JZ.lt
  have JA0 := JA.c0
  have JA1 := JA.c1
  have JA2 := JA.c2
  have JA3 := JA.c3
  have JAl := JA.lt
  have JB0 := JB.c0
  have JB1 := JB.c1
  have JB2 := JB.c2
  have JB3 := JB.c3
  have JBl := JB.lt
  have lb := B.size
  go_wp2_with fail
  refine (X5.out _).mono ?_
  rintro e w6 ⟨rfl, z⟩
  clear JT0 JT1 JTl JZ0 JZ1 JZl JA0 JA1 JA2 JA3 JAl JB0 JB1 JB2 JB3 JBl lb
  replace JT := JT.below z
  replace JZ := JZ.below z
  replace JA := JA.below z
  replace JB := JB.below z
  replace B := below_next B z
  clear z
  have JT0 := JT.c0
  have JT1 := JT.c1
  have JTl := JT.lt
  have JZ0 := JZ.c0
  have JZ1 := JZ.c1
  have JZl := JZ.lt
  have JA0 := JA.c0
  have JA1 := JA.c1
  have JA2 := JA.c2
  have JA3 := JA.c3
  have JAl := JA.lt
  have JB0 := JB.c0
  have JB1 := JB.c1
  have JB2 := JB.c2
  have JB3 := JB.c3
  have JBl := JB.lt
  have lb := B.size
  go_wp2
  go_ret
  first
    | exact ⟨rfl, B⟩
    | exact ⟨by simp [decide_eq_false (show ¬ ub n ≤ ub h by omega)], B⟩
set_option maxHeartbeats 8000000 in
theorem settles_t2 (t z : Tn) (n : B64) (y : Sc) (ho : settle (t, z) = some y) (e1 : (t.1 &&& t.2 == 0#64) = true) (e2 : (n &&& ~~~t.2 == t.1) = false) (hd : (y.1 == t) = false) (w : World) : Calls Try.prog 6 #[tv t, tv z, .int .u64 (ub n)] w fun e w' => e = .returned (.bool true) ∧ Below w.heap.size w w' := by
  have X0 := fun W => awake_true W
  have X1 := fun W => cSettle_any t z W
  rw [ho, show optS (some y) = y from rfl, show (some y : Option Sc).isSome = true from rfl] at X1
  have hm := settled ho
  have X2 := fun W => cSettle_any y.1 y.2 W
  rw [show (y.1, y.2) = y from rfl, (mayX_settle y).1 hm, show optS (some y) = y from rfl, show (some y : Option Sc).isSome = true from rfl] at X2
  have hh : hasX y n = false := by
    rw [Bool.eq_false_iff, Ne, hasX_is y n hm, settle_hasB ho, ← both_is]
    unfold bothB
    rw [e1, e2]
    simp
  have X3 := fun W => cHas_any y n W
  rw [hh] at X3
  have X4 := fun W => cMay_any y W
  rw [hm] at X4
  have Q1 := fun W => eq_sc y y W
  rw [beq_self_eq_true] at Q1
  have Q2 := fun W => neq_tn y.1 t W
  rw [hd] at Q2
  clear ho hm hh hd
  obtain ⟨v, m⟩ := t
  obtain ⟨l, h⟩ := z
  unfold tv at X1 X2 Q2 ⊢
  unfold sv at X1 X2 X3 X4 Q1
  dsimp only at X1 X2 X3 X4 e1 e2 ⊢
  replace X0 := hid X0
  replace X1 := hid X1
  replace X2 := hid X2
  replace X3 := hid X3
  replace X4 := hid X4
  go_enter Try.func6, Try.ntmps6
  go_wp2_with fail
  have JT : BC ((w.alloc (.cells #[.int .u64 (ub v), .int .u64 (ub m)] 24)).alloc (.cells #[.int .u64 (ub l), .int .u64 (ub h)] 26)) (w.heap.size) (v, m) := ((BC.new (a := (v, m)) rfl).alloc _)
  have JZ : BC ((w.alloc (.cells #[.int .u64 (ub v), .int .u64 (ub m)] 24)).alloc (.cells #[.int .u64 (ub l), .int .u64 (ub h)] 26)) (w.heap.size + 1) (l, h) := (BC.new (a := (l, h)) (by simp))
  have B : Below w.heap.size w ((w.alloc (.cells #[.int .u64 (ub v), .int .u64 (ub m)] 24)).alloc (.cells #[.int .u64 (ub l), .int .u64 (ub h)] 26)) := (bel_alloc (bel_alloc (Below.refl _ _)))
  generalize ((w.alloc (.cells #[.int .u64 (ub v), .int .u64 (ub m)] 24)).alloc (.cells #[.int .u64 (ub l), .int .u64 (ub h)] 26)) = w00 at *
  have JT0 := JT.c0
  have JT1 := JT.c1
  have JTl := JT.lt
  have JZ0 := JZ.c0
  have JZ1 := JZ.c1
  have JZl := JZ.lt
  have lb := B.size
  go_wp2_with fail
  refine (X0.out _).mono ?_
  rintro e w1 ⟨rfl, z⟩
  clear JT0 JT1 JTl JZ0 JZ1 JZl lb
  replace JT := JT.below z
  replace JZ := JZ.below z
  replace B := below_next B z
  clear z
  have JT0 := JT.c0
  have JT1 := JT.c1
  have JTl := JT.lt
  have JZ0 := JZ.c0
  have JZ1 := JZ.c1
  have JZl := JZ.lt
  have lb := B.size
  go_wp2_with fail
  refine (X1.out _).mono ?_
  rintro e w2 ⟨rfl, z⟩
  clear JT0 JT1 JTl JZ0 JZ1 JZl lb
  replace JT := JT.below z
  replace JZ := JZ.below z
  replace B := below_next B z
  clear z
  have JT0 := JT.c0
  have JT1 := JT.c1
  have JTl := JT.lt
  have JZ0 := JZ.c0
  have JZ1 := JZ.c1
  have JZl := JZ.lt
  have lb := B.size
  go_wp2_with fail
  refine (X2.out _).mono ?_
  rintro e w3 ⟨rfl, z⟩
  clear JT0 JT1 JTl JZ0 JZ1 JZl lb
  have g3JT : w.heap.size < w2.heap.size := JT.lt
  have g3JZ : w.heap.size + 1 < w2.heap.size := JZ.lt
  have g3B := B.size
  replace JT := (JT.alloc _).below z
  replace JZ := (JZ.alloc _).below z
  have JA : SC w3 (w2.heap.size) (y) := (SC.new rfl).below z
  replace B := below_next (bel_alloc B) z
  clear z
  have JT0 := JT.c0
  have JT1 := JT.c1
  have JTl := JT.lt
  have JZ0 := JZ.c0
  have JZ1 := JZ.c1
  have JZl := JZ.lt
  have JA0 := JA.c0
  have JA1 := JA.c1
  have JA2 := JA.c2
  have JA3 := JA.c3
  have JAl := JA.lt
  have lb := B.size
  go_wp2_with fail
  refine (X3.out _).mono ?_
  rintro e w4 ⟨rfl, z⟩
  clear JT0 JT1 JTl JZ0 JZ1 JZl JA0 JA1 JA2 JA3 JAl lb
  have g4JT : w.heap.size < w3.heap.size := JT.lt
  have g4JZ : w.heap.size + 1 < w3.heap.size := JZ.lt
  have g4JA : w2.heap.size < w3.heap.size := JA.lt
  have g4B := B.size
  replace JT := (JT.alloc _).below z
  replace JZ := (JZ.alloc _).below z
  replace JA := (JA.alloc _).below z
  have JB : SC w4 (w3.heap.size) (y) := (SC.new rfl).below z
  replace B := below_next (bel_alloc B) z
  clear z
  have JT0 := JT.c0
  have JT1 := JT.c1
  have JTl := JT.lt
  have JZ0 := JZ.c0
  have JZ1 := JZ.c1
  have JZl := JZ.lt
  have JA0 := JA.c0
  have JA1 := JA.c1
  have JA2 := JA.c2
  have JA3 := JA.c3
  have JAl := JA.lt
  have JB0 := JB.c0
  have JB1 := JB.c1
  have JB2 := JB.c2
  have JB3 := JB.c3
  have JBl := JB.lt
  have lb := B.size
  go_wp2_with fail
  refine (X4.out _).mono ?_
  rintro e w5 ⟨rfl, z⟩
  clear JT0 JT1 JTl JZ0 JZ1 JZl JA0 JA1 JA2 JA3 JAl JB0 JB1 JB2 JB3 JBl lb
  replace JT := JT.below z
  replace JZ := JZ.below z
  replace JA := JA.below z
  replace JB := JB.below z
  replace B := below_next B z
  clear z
  have JT0 := JT.c0
  have JT1 := JT.c1
  have JTl := JT.lt
  have JZ0 := JZ.c0
  have JZ1 := JZ.c1
  have JZl := JZ.lt
  have JA0 := JA.c0
  have JA1 := JA.c1
  have JA2 := JA.c2
  have JA3 := JA.c3
  have JAl := JA.lt
  have JB0 := JB.c0
  have JB1 := JB.c1
  have JB2 := JB.c2
  have JB3 := JB.c3
  have JBl := JB.lt
  have lb := B.size
  go_wp2
  go_ret
  first
    | exact ⟨rfl, B⟩
    | exact ⟨by simp [decide_eq_false (show ¬ ub n ≤ ub h by omega)], B⟩
set_option maxHeartbeats 8000000 in
theorem settles_s2 (t z : Tn) (n : B64) (y : Sc) (ho : settle (t, z) = some y) (e1 : (t.1 &&& t.2 == 0#64) = true) (e2 : (n &&& ~~~t.2 == t.1) = false) (hd : (y.1 == t) = true) (hg : (y.2 == z) = false) (w : World) : Calls Try.prog 6 #[tv t, tv z, .int .u64 (ub n)] w fun e w' => e = .returned (.bool true) ∧ Below w.heap.size w w' := by
  have X0 := fun W => awake_true W
  have X1 := fun W => cSettle_any t z W
  rw [ho, show optS (some y) = y from rfl, show (some y : Option Sc).isSome = true from rfl] at X1
  have hm := settled ho
  have X2 := fun W => cSettle_any y.1 y.2 W
  rw [show (y.1, y.2) = y from rfl, (mayX_settle y).1 hm, show optS (some y) = y from rfl, show (some y : Option Sc).isSome = true from rfl] at X2
  have hh : hasX y n = false := by
    rw [Bool.eq_false_iff, Ne, hasX_is y n hm, settle_hasB ho, ← both_is]
    unfold bothB
    rw [e1, e2]
    simp
  have X3 := fun W => cHas_any y n W
  rw [hh] at X3
  have X4 := fun W => cMay_any y W
  rw [hm] at X4
  have Q1 := fun W => eq_sc y y W
  rw [beq_self_eq_true] at Q1
  have Q2 := fun W => neq_tn y.1 t W
  rw [hd] at Q2
  have Q3 := fun W => neq_sp y.2 z W
  rw [hg] at Q3
  clear ho hm hh hd hg
  obtain ⟨v, m⟩ := t
  obtain ⟨l, h⟩ := z
  unfold tv at X1 X2 Q2 Q3 ⊢
  unfold sv at X1 X2 X3 X4 Q1
  dsimp only at X1 X2 X3 X4 e1 e2 ⊢
  replace X0 := hid X0
  replace X1 := hid X1
  replace X2 := hid X2
  replace X3 := hid X3
  replace X4 := hid X4
  go_enter Try.func6, Try.ntmps6
  go_wp2_with fail
  have JT : BC ((w.alloc (.cells #[.int .u64 (ub v), .int .u64 (ub m)] 24)).alloc (.cells #[.int .u64 (ub l), .int .u64 (ub h)] 26)) (w.heap.size) (v, m) := ((BC.new (a := (v, m)) rfl).alloc _)
  have JZ : BC ((w.alloc (.cells #[.int .u64 (ub v), .int .u64 (ub m)] 24)).alloc (.cells #[.int .u64 (ub l), .int .u64 (ub h)] 26)) (w.heap.size + 1) (l, h) := (BC.new (a := (l, h)) (by simp))
  have B : Below w.heap.size w ((w.alloc (.cells #[.int .u64 (ub v), .int .u64 (ub m)] 24)).alloc (.cells #[.int .u64 (ub l), .int .u64 (ub h)] 26)) := (bel_alloc (bel_alloc (Below.refl _ _)))
  generalize ((w.alloc (.cells #[.int .u64 (ub v), .int .u64 (ub m)] 24)).alloc (.cells #[.int .u64 (ub l), .int .u64 (ub h)] 26)) = w00 at *
  have JT0 := JT.c0
  have JT1 := JT.c1
  have JTl := JT.lt
  have JZ0 := JZ.c0
  have JZ1 := JZ.c1
  have JZl := JZ.lt
  have lb := B.size
  go_wp2_with fail
  refine (X0.out _).mono ?_
  rintro e w1 ⟨rfl, z⟩
  clear JT0 JT1 JTl JZ0 JZ1 JZl lb
  replace JT := JT.below z
  replace JZ := JZ.below z
  replace B := below_next B z
  clear z
  have JT0 := JT.c0
  have JT1 := JT.c1
  have JTl := JT.lt
  have JZ0 := JZ.c0
  have JZ1 := JZ.c1
  have JZl := JZ.lt
  have lb := B.size
  go_wp2_with fail
  refine (X1.out _).mono ?_
  rintro e w2 ⟨rfl, z⟩
  clear JT0 JT1 JTl JZ0 JZ1 JZl lb
  replace JT := JT.below z
  replace JZ := JZ.below z
  replace B := below_next B z
  clear z
  have JT0 := JT.c0
  have JT1 := JT.c1
  have JTl := JT.lt
  have JZ0 := JZ.c0
  have JZ1 := JZ.c1
  have JZl := JZ.lt
  have lb := B.size
  go_wp2_with fail
  refine (X2.out _).mono ?_
  rintro e w3 ⟨rfl, z⟩
  clear JT0 JT1 JTl JZ0 JZ1 JZl lb
  have g3JT : w.heap.size < w2.heap.size := JT.lt
  have g3JZ : w.heap.size + 1 < w2.heap.size := JZ.lt
  have g3B := B.size
  replace JT := (JT.alloc _).below z
  replace JZ := (JZ.alloc _).below z
  have JA : SC w3 (w2.heap.size) (y) := (SC.new rfl).below z
  replace B := below_next (bel_alloc B) z
  clear z
  have JT0 := JT.c0
  have JT1 := JT.c1
  have JTl := JT.lt
  have JZ0 := JZ.c0
  have JZ1 := JZ.c1
  have JZl := JZ.lt
  have JA0 := JA.c0
  have JA1 := JA.c1
  have JA2 := JA.c2
  have JA3 := JA.c3
  have JAl := JA.lt
  have lb := B.size
  go_wp2_with fail
  refine (X3.out _).mono ?_
  rintro e w4 ⟨rfl, z⟩
  clear JT0 JT1 JTl JZ0 JZ1 JZl JA0 JA1 JA2 JA3 JAl lb
  have g4JT : w.heap.size < w3.heap.size := JT.lt
  have g4JZ : w.heap.size + 1 < w3.heap.size := JZ.lt
  have g4JA : w2.heap.size < w3.heap.size := JA.lt
  have g4B := B.size
  replace JT := (JT.alloc _).below z
  replace JZ := (JZ.alloc _).below z
  replace JA := (JA.alloc _).below z
  have JB : SC w4 (w3.heap.size) (y) := (SC.new rfl).below z
  replace B := below_next (bel_alloc B) z
  clear z
  have JT0 := JT.c0
  have JT1 := JT.c1
  have JTl := JT.lt
  have JZ0 := JZ.c0
  have JZ1 := JZ.c1
  have JZl := JZ.lt
  have JA0 := JA.c0
  have JA1 := JA.c1
  have JA2 := JA.c2
  have JA3 := JA.c3
  have JAl := JA.lt
  have JB0 := JB.c0
  have JB1 := JB.c1
  have JB2 := JB.c2
  have JB3 := JB.c3
  have JBl := JB.lt
  have lb := B.size
  go_wp2_with fail
  refine (X4.out _).mono ?_
  rintro e w5 ⟨rfl, z⟩
  clear JT0 JT1 JTl JZ0 JZ1 JZl JA0 JA1 JA2 JA3 JAl JB0 JB1 JB2 JB3 JBl lb
  replace JT := JT.below z
  replace JZ := JZ.below z
  replace JA := JA.below z
  replace JB := JB.below z
  replace B := below_next B z
  clear z
  have JT0 := JT.c0
  have JT1 := JT.c1
  have JTl := JT.lt
  have JZ0 := JZ.c0
  have JZ1 := JZ.c1
  have JZl := JZ.lt
  have JA0 := JA.c0
  have JA1 := JA.c1
  have JA2 := JA.c2
  have JA3 := JA.c3
  have JAl := JA.lt
  have JB0 := JB.c0
  have JB1 := JB.c1
  have JB2 := JB.c2
  have JB3 := JB.c3
  have JBl := JB.lt
  have lb := B.size
  go_wp2
  go_ret
  first
    | exact ⟨rfl, B⟩
    | exact ⟨by simp [decide_eq_false (show ¬ ub n ≤ ub h by omega)], B⟩
set_option maxHeartbeats 8000000 in
theorem settles_b2 (t z : Tn) (n : B64) (y : Sc) (ho : settle (t, z) = some y) (e1 : (t.1 &&& t.2 == 0#64) = true) (e2 : (n &&& ~~~t.2 == t.1) = false) (hd : (y.1 == t) = true) (hg : (y.2 == z) = true) (w : World) : Calls Try.prog 6 #[tv t, tv z, .int .u64 (ub n)] w fun e w' => e = .returned (.bool true) ∧ Below w.heap.size w w' := by
  have X0 := fun W => awake_true W
  have X1 := fun W => cSettle_any t z W
  rw [ho, show optS (some y) = y from rfl, show (some y : Option Sc).isSome = true from rfl] at X1
  have hm := settled ho
  have X2 := fun W => cSettle_any y.1 y.2 W
  rw [show (y.1, y.2) = y from rfl, (mayX_settle y).1 hm, show optS (some y) = y from rfl, show (some y : Option Sc).isSome = true from rfl] at X2
  have hh : hasX y n = false := by
    rw [Bool.eq_false_iff, Ne, hasX_is y n hm, settle_hasB ho, ← both_is]
    unfold bothB
    rw [e1, e2]
    simp
  have X3 := fun W => cHas_any y n W
  rw [hh] at X3
  have X4 := fun W => cMay_any y W
  rw [hm] at X4
  have Q1 := fun W => eq_sc y y W
  rw [beq_self_eq_true] at Q1
  have Q2 := fun W => neq_tn y.1 t W
  rw [hd] at Q2
  have Q3 := fun W => neq_sp y.2 z W
  rw [hg] at Q3
  have X5 := fun W => cMay_any (t, z) W
  rw [show mayX (t, z) = true from (show y = (t, z) from Prod.ext (beq_iff_eq.1 hd) (beq_iff_eq.1 hg)) ▸ hm] at X5
  clear ho hm hh hd hg
  obtain ⟨v, m⟩ := t
  obtain ⟨l, h⟩ := z
  unfold tv at X1 X2 Q2 Q3 ⊢
  unfold sv at X1 X2 X3 X4 X5 Q1
  dsimp only at X1 X2 X3 X4 X5 e1 e2 ⊢
  replace X0 := hid X0
  replace X1 := hid X1
  replace X2 := hid X2
  replace X3 := hid X3
  replace X4 := hid X4
  replace X5 := hid X5
  go_enter Try.func6, Try.ntmps6
  go_wp2_with fail
  have JT : BC ((w.alloc (.cells #[.int .u64 (ub v), .int .u64 (ub m)] 24)).alloc (.cells #[.int .u64 (ub l), .int .u64 (ub h)] 26)) (w.heap.size) (v, m) := ((BC.new (a := (v, m)) rfl).alloc _)
  have JZ : BC ((w.alloc (.cells #[.int .u64 (ub v), .int .u64 (ub m)] 24)).alloc (.cells #[.int .u64 (ub l), .int .u64 (ub h)] 26)) (w.heap.size + 1) (l, h) := (BC.new (a := (l, h)) (by simp))
  have B : Below w.heap.size w ((w.alloc (.cells #[.int .u64 (ub v), .int .u64 (ub m)] 24)).alloc (.cells #[.int .u64 (ub l), .int .u64 (ub h)] 26)) := (bel_alloc (bel_alloc (Below.refl _ _)))
  generalize ((w.alloc (.cells #[.int .u64 (ub v), .int .u64 (ub m)] 24)).alloc (.cells #[.int .u64 (ub l), .int .u64 (ub h)] 26)) = w00 at *
  have JT0 := JT.c0
  have JT1 := JT.c1
  have JTl := JT.lt
  have JZ0 := JZ.c0
  have JZ1 := JZ.c1
  have JZl := JZ.lt
  have lb := B.size
  go_wp2_with fail
  refine (X0.out _).mono ?_
  rintro e w1 ⟨rfl, z⟩
  clear JT0 JT1 JTl JZ0 JZ1 JZl lb
  replace JT := JT.below z
  replace JZ := JZ.below z
  replace B := below_next B z
  clear z
  have JT0 := JT.c0
  have JT1 := JT.c1
  have JTl := JT.lt
  have JZ0 := JZ.c0
  have JZ1 := JZ.c1
  have JZl := JZ.lt
  have lb := B.size
  go_wp2_with fail
  refine (X1.out _).mono ?_
  rintro e w2 ⟨rfl, z⟩
  clear JT0 JT1 JTl JZ0 JZ1 JZl lb
  replace JT := JT.below z
  replace JZ := JZ.below z
  replace B := below_next B z
  clear z
  have JT0 := JT.c0
  have JT1 := JT.c1
  have JTl := JT.lt
  have JZ0 := JZ.c0
  have JZ1 := JZ.c1
  have JZl := JZ.lt
  have lb := B.size
  go_wp2_with fail
  refine (X2.out _).mono ?_
  rintro e w3 ⟨rfl, z⟩
  clear JT0 JT1 JTl JZ0 JZ1 JZl lb
  have g3JT : w.heap.size < w2.heap.size := JT.lt
  have g3JZ : w.heap.size + 1 < w2.heap.size := JZ.lt
  have g3B := B.size
  replace JT := (JT.alloc _).below z
  replace JZ := (JZ.alloc _).below z
  have JA : SC w3 (w2.heap.size) (y) := (SC.new rfl).below z
  replace B := below_next (bel_alloc B) z
  clear z
  have JT0 := JT.c0
  have JT1 := JT.c1
  have JTl := JT.lt
  have JZ0 := JZ.c0
  have JZ1 := JZ.c1
  have JZl := JZ.lt
  have JA0 := JA.c0
  have JA1 := JA.c1
  have JA2 := JA.c2
  have JA3 := JA.c3
  have JAl := JA.lt
  have lb := B.size
  go_wp2_with fail
  refine (X3.out _).mono ?_
  rintro e w4 ⟨rfl, z⟩
  clear JT0 JT1 JTl JZ0 JZ1 JZl JA0 JA1 JA2 JA3 JAl lb
  have g4JT : w.heap.size < w3.heap.size := JT.lt
  have g4JZ : w.heap.size + 1 < w3.heap.size := JZ.lt
  have g4JA : w2.heap.size < w3.heap.size := JA.lt
  have g4B := B.size
  replace JT := (JT.alloc _).below z
  replace JZ := (JZ.alloc _).below z
  replace JA := (JA.alloc _).below z
  have JB : SC w4 (w3.heap.size) (y) := (SC.new rfl).below z
  replace B := below_next (bel_alloc B) z
  clear z
  have JT0 := JT.c0
  have JT1 := JT.c1
  have JTl := JT.lt
  have JZ0 := JZ.c0
  have JZ1 := JZ.c1
  have JZl := JZ.lt
  have JA0 := JA.c0
  have JA1 := JA.c1
  have JA2 := JA.c2
  have JA3 := JA.c3
  have JAl := JA.lt
  have JB0 := JB.c0
  have JB1 := JB.c1
  have JB2 := JB.c2
  have JB3 := JB.c3
  have JBl := JB.lt
  have lb := B.size
  go_wp2_with fail
  refine (X4.out _).mono ?_
  rintro e w5 ⟨rfl, z⟩
  clear JT0 JT1 JTl JZ0 JZ1 JZl JA0 JA1 JA2 JA3 JAl JB0 JB1 JB2 JB3 JBl lb
  replace JT := JT.below z
  replace JZ := JZ.below z
  replace JA := JA.below z
  replace JB := JB.below z
  replace B := below_next B z
  clear z
  have JT0 := JT.c0
  have JT1 := JT.c1
  have JTl := JT.lt
  have JZ0 := JZ.c0
  have JZ1 := JZ.c1
  have JZl := JZ.lt
  have JA0 := JA.c0
  have JA1 := JA.c1
  have JA2 := JA.c2
  have JA3 := JA.c3
  have JAl := JA.lt
  have JB0 := JB.c0
  have JB1 := JB.c1
  have JB2 := JB.c2
  have JB3 := JB.c3
  have JBl := JB.lt
  have lb := B.size
  go_wp2_with fail
  refine (X5.out _).mono ?_
  rintro e w6 ⟨rfl, z⟩
  clear JT0 JT1 JTl JZ0 JZ1 JZl JA0 JA1 JA2 JA3 JAl JB0 JB1 JB2 JB3 JBl lb
  replace JT := JT.below z
  replace JZ := JZ.below z
  replace JA := JA.below z
  replace JB := JB.below z
  replace B := below_next B z
  clear z
  have JT0 := JT.c0
  have JT1 := JT.c1
  have JTl := JT.lt
  have JZ0 := JZ.c0
  have JZ1 := JZ.c1
  have JZl := JZ.lt
  have JA0 := JA.c0
  have JA1 := JA.c1
  have JA2 := JA.c2
  have JA3 := JA.c3
  have JAl := JA.lt
  have JB0 := JB.c0
  have JB1 := JB.c1
  have JB2 := JB.c2
  have JB3 := JB.c3
  have JBl := JB.lt
  have lb := B.size
  go_wp2
  go_ret
  first
    | exact ⟨rfl, B⟩
    | exact ⟨by simp [decide_eq_false (show ¬ ub n ≤ ub h by omega)], B⟩
set_option maxHeartbeats 8000000 in
theorem settles_t3 (t z : Tn) (n : B64) (y : Sc) (ho : settle (t, z) = some y) (e1 : (t.1 &&& t.2 == 0#64) = true) (e2 : (n &&& ~~~t.2 == t.1) = true) (e3 : ¬ ub z.1 ≤ ub n) (hd : (y.1 == t) = false) (w : World) : Calls Try.prog 6 #[tv t, tv z, .int .u64 (ub n)] w fun e w' => e = .returned (.bool true) ∧ Below w.heap.size w w' := by
  have X0 := fun W => awake_true W
  have X1 := fun W => cSettle_any t z W
  rw [ho, show optS (some y) = y from rfl, show (some y : Option Sc).isSome = true from rfl] at X1
  have hm := settled ho
  have X2 := fun W => cSettle_any y.1 y.2 W
  rw [show (y.1, y.2) = y from rfl, (mayX_settle y).1 hm, show optS (some y) = y from rfl, show (some y : Option Sc).isSome = true from rfl] at X2
  have hh : hasX y n = false := by
    rw [Bool.eq_false_iff, Ne, hasX_is y n hm, settle_hasB ho, ← both_is]
    unfold bothB
    rw [e1, e2, decide_eq_false e3]
    simp
  have X3 := fun W => cHas_any y n W
  rw [hh] at X3
  have X4 := fun W => cMay_any y W
  rw [hm] at X4
  have Q1 := fun W => eq_sc y y W
  rw [beq_self_eq_true] at Q1
  have Q2 := fun W => neq_tn y.1 t W
  rw [hd] at Q2
  clear ho hm hh hd
  obtain ⟨v, m⟩ := t
  obtain ⟨l, h⟩ := z
  unfold tv at X1 X2 Q2 ⊢
  unfold sv at X1 X2 X3 X4 Q1
  dsimp only at X1 X2 X3 X4 e1 e2 e3 ⊢
  replace X0 := hid X0
  replace X1 := hid X1
  replace X2 := hid X2
  replace X3 := hid X3
  replace X4 := hid X4
  go_enter Try.func6, Try.ntmps6
  go_wp2_with fail
  have JT : BC ((w.alloc (.cells #[.int .u64 (ub v), .int .u64 (ub m)] 24)).alloc (.cells #[.int .u64 (ub l), .int .u64 (ub h)] 26)) (w.heap.size) (v, m) := ((BC.new (a := (v, m)) rfl).alloc _)
  have JZ : BC ((w.alloc (.cells #[.int .u64 (ub v), .int .u64 (ub m)] 24)).alloc (.cells #[.int .u64 (ub l), .int .u64 (ub h)] 26)) (w.heap.size + 1) (l, h) := (BC.new (a := (l, h)) (by simp))
  have B : Below w.heap.size w ((w.alloc (.cells #[.int .u64 (ub v), .int .u64 (ub m)] 24)).alloc (.cells #[.int .u64 (ub l), .int .u64 (ub h)] 26)) := (bel_alloc (bel_alloc (Below.refl _ _)))
  generalize ((w.alloc (.cells #[.int .u64 (ub v), .int .u64 (ub m)] 24)).alloc (.cells #[.int .u64 (ub l), .int .u64 (ub h)] 26)) = w00 at *
  have JT0 := JT.c0
  have JT1 := JT.c1
  have JTl := JT.lt
  have JZ0 := JZ.c0
  have JZ1 := JZ.c1
  have JZl := JZ.lt
  have lb := B.size
  go_wp2_with fail
  refine (X0.out _).mono ?_
  rintro e w1 ⟨rfl, z⟩
  clear JT0 JT1 JTl JZ0 JZ1 JZl lb
  replace JT := JT.below z
  replace JZ := JZ.below z
  replace B := below_next B z
  clear z
  have JT0 := JT.c0
  have JT1 := JT.c1
  have JTl := JT.lt
  have JZ0 := JZ.c0
  have JZ1 := JZ.c1
  have JZl := JZ.lt
  have lb := B.size
  go_wp2_with fail
  refine (X1.out _).mono ?_
  rintro e w2 ⟨rfl, z⟩
  clear JT0 JT1 JTl JZ0 JZ1 JZl lb
  replace JT := JT.below z
  replace JZ := JZ.below z
  replace B := below_next B z
  clear z
  have JT0 := JT.c0
  have JT1 := JT.c1
  have JTl := JT.lt
  have JZ0 := JZ.c0
  have JZ1 := JZ.c1
  have JZl := JZ.lt
  have lb := B.size
  go_wp2_with fail
  refine (X2.out _).mono ?_
  rintro e w3 ⟨rfl, z⟩
  clear JT0 JT1 JTl JZ0 JZ1 JZl lb
  have g3JT : w.heap.size < w2.heap.size := JT.lt
  have g3JZ : w.heap.size + 1 < w2.heap.size := JZ.lt
  have g3B := B.size
  replace JT := (JT.alloc _).below z
  replace JZ := (JZ.alloc _).below z
  have JA : SC w3 (w2.heap.size) (y) := (SC.new rfl).below z
  replace B := below_next (bel_alloc B) z
  clear z
  have JT0 := JT.c0
  have JT1 := JT.c1
  have JTl := JT.lt
  have JZ0 := JZ.c0
  have JZ1 := JZ.c1
  have JZl := JZ.lt
  have JA0 := JA.c0
  have JA1 := JA.c1
  have JA2 := JA.c2
  have JA3 := JA.c3
  have JAl := JA.lt
  have lb := B.size
  go_wp2_with fail
  refine (X3.out _).mono ?_
  rintro e w4 ⟨rfl, z⟩
  clear JT0 JT1 JTl JZ0 JZ1 JZl JA0 JA1 JA2 JA3 JAl lb
  have g4JT : w.heap.size < w3.heap.size := JT.lt
  have g4JZ : w.heap.size + 1 < w3.heap.size := JZ.lt
  have g4JA : w2.heap.size < w3.heap.size := JA.lt
  have g4B := B.size
  replace JT := (JT.alloc _).below z
  replace JZ := (JZ.alloc _).below z
  replace JA := (JA.alloc _).below z
  have JB : SC w4 (w3.heap.size) (y) := (SC.new rfl).below z
  replace B := below_next (bel_alloc B) z
  clear z
  have JT0 := JT.c0
  have JT1 := JT.c1
  have JTl := JT.lt
  have JZ0 := JZ.c0
  have JZ1 := JZ.c1
  have JZl := JZ.lt
  have JA0 := JA.c0
  have JA1 := JA.c1
  have JA2 := JA.c2
  have JA3 := JA.c3
  have JAl := JA.lt
  have JB0 := JB.c0
  have JB1 := JB.c1
  have JB2 := JB.c2
  have JB3 := JB.c3
  have JBl := JB.lt
  have lb := B.size
  go_wp2_with fail
  refine (X4.out _).mono ?_
  rintro e w5 ⟨rfl, z⟩
  clear JT0 JT1 JTl JZ0 JZ1 JZl JA0 JA1 JA2 JA3 JAl JB0 JB1 JB2 JB3 JBl lb
  replace JT := JT.below z
  replace JZ := JZ.below z
  replace JA := JA.below z
  replace JB := JB.below z
  replace B := below_next B z
  clear z
  have JT0 := JT.c0
  have JT1 := JT.c1
  have JTl := JT.lt
  have JZ0 := JZ.c0
  have JZ1 := JZ.c1
  have JZl := JZ.lt
  have JA0 := JA.c0
  have JA1 := JA.c1
  have JA2 := JA.c2
  have JA3 := JA.c3
  have JAl := JA.lt
  have JB0 := JB.c0
  have JB1 := JB.c1
  have JB2 := JB.c2
  have JB3 := JB.c3
  have JBl := JB.lt
  have lb := B.size
  go_wp2
  go_ret
  first
    | exact ⟨rfl, B⟩
    | exact ⟨by simp [decide_eq_false (show ¬ ub n ≤ ub h by omega)], B⟩
set_option maxHeartbeats 8000000 in
theorem settles_s3 (t z : Tn) (n : B64) (y : Sc) (ho : settle (t, z) = some y) (e1 : (t.1 &&& t.2 == 0#64) = true) (e2 : (n &&& ~~~t.2 == t.1) = true) (e3 : ¬ ub z.1 ≤ ub n) (hd : (y.1 == t) = true) (hg : (y.2 == z) = false) (w : World) : Calls Try.prog 6 #[tv t, tv z, .int .u64 (ub n)] w fun e w' => e = .returned (.bool true) ∧ Below w.heap.size w w' := by
  have X0 := fun W => awake_true W
  have X1 := fun W => cSettle_any t z W
  rw [ho, show optS (some y) = y from rfl, show (some y : Option Sc).isSome = true from rfl] at X1
  have hm := settled ho
  have X2 := fun W => cSettle_any y.1 y.2 W
  rw [show (y.1, y.2) = y from rfl, (mayX_settle y).1 hm, show optS (some y) = y from rfl, show (some y : Option Sc).isSome = true from rfl] at X2
  have hh : hasX y n = false := by
    rw [Bool.eq_false_iff, Ne, hasX_is y n hm, settle_hasB ho, ← both_is]
    unfold bothB
    rw [e1, e2, decide_eq_false e3]
    simp
  have X3 := fun W => cHas_any y n W
  rw [hh] at X3
  have X4 := fun W => cMay_any y W
  rw [hm] at X4
  have Q1 := fun W => eq_sc y y W
  rw [beq_self_eq_true] at Q1
  have Q2 := fun W => neq_tn y.1 t W
  rw [hd] at Q2
  have Q3 := fun W => neq_sp y.2 z W
  rw [hg] at Q3
  clear ho hm hh hd hg
  obtain ⟨v, m⟩ := t
  obtain ⟨l, h⟩ := z
  unfold tv at X1 X2 Q2 Q3 ⊢
  unfold sv at X1 X2 X3 X4 Q1
  dsimp only at X1 X2 X3 X4 e1 e2 e3 ⊢
  replace X0 := hid X0
  replace X1 := hid X1
  replace X2 := hid X2
  replace X3 := hid X3
  replace X4 := hid X4
  go_enter Try.func6, Try.ntmps6
  go_wp2_with fail
  have JT : BC ((w.alloc (.cells #[.int .u64 (ub v), .int .u64 (ub m)] 24)).alloc (.cells #[.int .u64 (ub l), .int .u64 (ub h)] 26)) (w.heap.size) (v, m) := ((BC.new (a := (v, m)) rfl).alloc _)
  have JZ : BC ((w.alloc (.cells #[.int .u64 (ub v), .int .u64 (ub m)] 24)).alloc (.cells #[.int .u64 (ub l), .int .u64 (ub h)] 26)) (w.heap.size + 1) (l, h) := (BC.new (a := (l, h)) (by simp))
  have B : Below w.heap.size w ((w.alloc (.cells #[.int .u64 (ub v), .int .u64 (ub m)] 24)).alloc (.cells #[.int .u64 (ub l), .int .u64 (ub h)] 26)) := (bel_alloc (bel_alloc (Below.refl _ _)))
  generalize ((w.alloc (.cells #[.int .u64 (ub v), .int .u64 (ub m)] 24)).alloc (.cells #[.int .u64 (ub l), .int .u64 (ub h)] 26)) = w00 at *
  have JT0 := JT.c0
  have JT1 := JT.c1
  have JTl := JT.lt
  have JZ0 := JZ.c0
  have JZ1 := JZ.c1
  have JZl := JZ.lt
  have lb := B.size
  go_wp2_with fail
  refine (X0.out _).mono ?_
  rintro e w1 ⟨rfl, z⟩
  clear JT0 JT1 JTl JZ0 JZ1 JZl lb
  replace JT := JT.below z
  replace JZ := JZ.below z
  replace B := below_next B z
  clear z
  have JT0 := JT.c0
  have JT1 := JT.c1
  have JTl := JT.lt
  have JZ0 := JZ.c0
  have JZ1 := JZ.c1
  have JZl := JZ.lt
  have lb := B.size
  go_wp2_with fail
  refine (X1.out _).mono ?_
  rintro e w2 ⟨rfl, z⟩
  clear JT0 JT1 JTl JZ0 JZ1 JZl lb
  replace JT := JT.below z
  replace JZ := JZ.below z
  replace B := below_next B z
  clear z
  have JT0 := JT.c0
  have JT1 := JT.c1
  have JTl := JT.lt
  have JZ0 := JZ.c0
  have JZ1 := JZ.c1
  have JZl := JZ.lt
  have lb := B.size
  go_wp2_with fail
  refine (X2.out _).mono ?_
  rintro e w3 ⟨rfl, z⟩
  clear JT0 JT1 JTl JZ0 JZ1 JZl lb
  have g3JT : w.heap.size < w2.heap.size := JT.lt
  have g3JZ : w.heap.size + 1 < w2.heap.size := JZ.lt
  have g3B := B.size
  replace JT := (JT.alloc _).below z
  replace JZ := (JZ.alloc _).below z
  have JA : SC w3 (w2.heap.size) (y) := (SC.new rfl).below z
  replace B := below_next (bel_alloc B) z
  clear z
  have JT0 := JT.c0
  have JT1 := JT.c1
  have JTl := JT.lt
  have JZ0 := JZ.c0
  have JZ1 := JZ.c1
  have JZl := JZ.lt
  have JA0 := JA.c0
  have JA1 := JA.c1
  have JA2 := JA.c2
  have JA3 := JA.c3
  have JAl := JA.lt
  have lb := B.size
  go_wp2_with fail
  refine (X3.out _).mono ?_
  rintro e w4 ⟨rfl, z⟩
  clear JT0 JT1 JTl JZ0 JZ1 JZl JA0 JA1 JA2 JA3 JAl lb
  have g4JT : w.heap.size < w3.heap.size := JT.lt
  have g4JZ : w.heap.size + 1 < w3.heap.size := JZ.lt
  have g4JA : w2.heap.size < w3.heap.size := JA.lt
  have g4B := B.size
  replace JT := (JT.alloc _).below z
  replace JZ := (JZ.alloc _).below z
  replace JA := (JA.alloc _).below z
  have JB : SC w4 (w3.heap.size) (y) := (SC.new rfl).below z
  replace B := below_next (bel_alloc B) z
  clear z
  have JT0 := JT.c0
  have JT1 := JT.c1
  have JTl := JT.lt
  have JZ0 := JZ.c0
  have JZ1 := JZ.c1
  have JZl := JZ.lt
  have JA0 := JA.c0
  have JA1 := JA.c1
  have JA2 := JA.c2
  have JA3 := JA.c3
  have JAl := JA.lt
  have JB0 := JB.c0
  have JB1 := JB.c1
  have JB2 := JB.c2
  have JB3 := JB.c3
  have JBl := JB.lt
  have lb := B.size
  go_wp2_with fail
  refine (X4.out _).mono ?_
  rintro e w5 ⟨rfl, z⟩
  clear JT0 JT1 JTl JZ0 JZ1 JZl JA0 JA1 JA2 JA3 JAl JB0 JB1 JB2 JB3 JBl lb
  replace JT := JT.below z
  replace JZ := JZ.below z
  replace JA := JA.below z
  replace JB := JB.below z
  replace B := below_next B z
  clear z
  have JT0 := JT.c0
  have JT1 := JT.c1
  have JTl := JT.lt
  have JZ0 := JZ.c0
  have JZ1 := JZ.c1
  have JZl := JZ.lt
  have JA0 := JA.c0
  have JA1 := JA.c1
  have JA2 := JA.c2
  have JA3 := JA.c3
  have JAl := JA.lt
  have JB0 := JB.c0
  have JB1 := JB.c1
  have JB2 := JB.c2
  have JB3 := JB.c3
  have JBl := JB.lt
  have lb := B.size
  go_wp2
  go_ret
  first
    | exact ⟨rfl, B⟩
    | exact ⟨by simp [decide_eq_false (show ¬ ub n ≤ ub h by omega)], B⟩
set_option maxHeartbeats 8000000 in
theorem settles_b3 (t z : Tn) (n : B64) (y : Sc) (ho : settle (t, z) = some y) (e1 : (t.1 &&& t.2 == 0#64) = true) (e2 : (n &&& ~~~t.2 == t.1) = true) (e3 : ¬ ub z.1 ≤ ub n) (hd : (y.1 == t) = true) (hg : (y.2 == z) = true) (w : World) : Calls Try.prog 6 #[tv t, tv z, .int .u64 (ub n)] w fun e w' => e = .returned (.bool true) ∧ Below w.heap.size w w' := by
  have X0 := fun W => awake_true W
  have X1 := fun W => cSettle_any t z W
  rw [ho, show optS (some y) = y from rfl, show (some y : Option Sc).isSome = true from rfl] at X1
  have hm := settled ho
  have X2 := fun W => cSettle_any y.1 y.2 W
  rw [show (y.1, y.2) = y from rfl, (mayX_settle y).1 hm, show optS (some y) = y from rfl, show (some y : Option Sc).isSome = true from rfl] at X2
  have hh : hasX y n = false := by
    rw [Bool.eq_false_iff, Ne, hasX_is y n hm, settle_hasB ho, ← both_is]
    unfold bothB
    rw [e1, e2, decide_eq_false e3]
    simp
  have X3 := fun W => cHas_any y n W
  rw [hh] at X3
  have X4 := fun W => cMay_any y W
  rw [hm] at X4
  have Q1 := fun W => eq_sc y y W
  rw [beq_self_eq_true] at Q1
  have Q2 := fun W => neq_tn y.1 t W
  rw [hd] at Q2
  have Q3 := fun W => neq_sp y.2 z W
  rw [hg] at Q3
  have X5 := fun W => cMay_any (t, z) W
  rw [show mayX (t, z) = true from (show y = (t, z) from Prod.ext (beq_iff_eq.1 hd) (beq_iff_eq.1 hg)) ▸ hm] at X5
  clear ho hm hh hd hg
  obtain ⟨v, m⟩ := t
  obtain ⟨l, h⟩ := z
  unfold tv at X1 X2 Q2 Q3 ⊢
  unfold sv at X1 X2 X3 X4 X5 Q1
  dsimp only at X1 X2 X3 X4 X5 e1 e2 e3 ⊢
  replace X0 := hid X0
  replace X1 := hid X1
  replace X2 := hid X2
  replace X3 := hid X3
  replace X4 := hid X4
  replace X5 := hid X5
  go_enter Try.func6, Try.ntmps6
  go_wp2_with fail
  have JT : BC ((w.alloc (.cells #[.int .u64 (ub v), .int .u64 (ub m)] 24)).alloc (.cells #[.int .u64 (ub l), .int .u64 (ub h)] 26)) (w.heap.size) (v, m) := ((BC.new (a := (v, m)) rfl).alloc _)
  have JZ : BC ((w.alloc (.cells #[.int .u64 (ub v), .int .u64 (ub m)] 24)).alloc (.cells #[.int .u64 (ub l), .int .u64 (ub h)] 26)) (w.heap.size + 1) (l, h) := (BC.new (a := (l, h)) (by simp))
  have B : Below w.heap.size w ((w.alloc (.cells #[.int .u64 (ub v), .int .u64 (ub m)] 24)).alloc (.cells #[.int .u64 (ub l), .int .u64 (ub h)] 26)) := (bel_alloc (bel_alloc (Below.refl _ _)))
  generalize ((w.alloc (.cells #[.int .u64 (ub v), .int .u64 (ub m)] 24)).alloc (.cells #[.int .u64 (ub l), .int .u64 (ub h)] 26)) = w00 at *
  have JT0 := JT.c0
  have JT1 := JT.c1
  have JTl := JT.lt
  have JZ0 := JZ.c0
  have JZ1 := JZ.c1
  have JZl := JZ.lt
  have lb := B.size
  go_wp2_with fail
  refine (X0.out _).mono ?_
  rintro e w1 ⟨rfl, z⟩
  clear JT0 JT1 JTl JZ0 JZ1 JZl lb
  replace JT := JT.below z
  replace JZ := JZ.below z
  replace B := below_next B z
  clear z
  have JT0 := JT.c0
  have JT1 := JT.c1
  have JTl := JT.lt
  have JZ0 := JZ.c0
  have JZ1 := JZ.c1
  have JZl := JZ.lt
  have lb := B.size
  go_wp2_with fail
  refine (X1.out _).mono ?_
  rintro e w2 ⟨rfl, z⟩
  clear JT0 JT1 JTl JZ0 JZ1 JZl lb
  replace JT := JT.below z
  replace JZ := JZ.below z
  replace B := below_next B z
  clear z
  have JT0 := JT.c0
  have JT1 := JT.c1
  have JTl := JT.lt
  have JZ0 := JZ.c0
  have JZ1 := JZ.c1
  have JZl := JZ.lt
  have lb := B.size
  go_wp2_with fail
  refine (X2.out _).mono ?_
  rintro e w3 ⟨rfl, z⟩
  clear JT0 JT1 JTl JZ0 JZ1 JZl lb
  have g3JT : w.heap.size < w2.heap.size := JT.lt
  have g3JZ : w.heap.size + 1 < w2.heap.size := JZ.lt
  have g3B := B.size
  replace JT := (JT.alloc _).below z
  replace JZ := (JZ.alloc _).below z
  have JA : SC w3 (w2.heap.size) (y) := (SC.new rfl).below z
  replace B := below_next (bel_alloc B) z
  clear z
  have JT0 := JT.c0
  have JT1 := JT.c1
  have JTl := JT.lt
  have JZ0 := JZ.c0
  have JZ1 := JZ.c1
  have JZl := JZ.lt
  have JA0 := JA.c0
  have JA1 := JA.c1
  have JA2 := JA.c2
  have JA3 := JA.c3
  have JAl := JA.lt
  have lb := B.size
  go_wp2_with fail
  refine (X3.out _).mono ?_
  rintro e w4 ⟨rfl, z⟩
  clear JT0 JT1 JTl JZ0 JZ1 JZl JA0 JA1 JA2 JA3 JAl lb
  have g4JT : w.heap.size < w3.heap.size := JT.lt
  have g4JZ : w.heap.size + 1 < w3.heap.size := JZ.lt
  have g4JA : w2.heap.size < w3.heap.size := JA.lt
  have g4B := B.size
  replace JT := (JT.alloc _).below z
  replace JZ := (JZ.alloc _).below z
  replace JA := (JA.alloc _).below z
  have JB : SC w4 (w3.heap.size) (y) := (SC.new rfl).below z
  replace B := below_next (bel_alloc B) z
  clear z
  have JT0 := JT.c0
  have JT1 := JT.c1
  have JTl := JT.lt
  have JZ0 := JZ.c0
  have JZ1 := JZ.c1
  have JZl := JZ.lt
  have JA0 := JA.c0
  have JA1 := JA.c1
  have JA2 := JA.c2
  have JA3 := JA.c3
  have JAl := JA.lt
  have JB0 := JB.c0
  have JB1 := JB.c1
  have JB2 := JB.c2
  have JB3 := JB.c3
  have JBl := JB.lt
  have lb := B.size
  go_wp2_with fail
  refine (X4.out _).mono ?_
  rintro e w5 ⟨rfl, z⟩
  clear JT0 JT1 JTl JZ0 JZ1 JZl JA0 JA1 JA2 JA3 JAl JB0 JB1 JB2 JB3 JBl lb
  replace JT := JT.below z
  replace JZ := JZ.below z
  replace JA := JA.below z
  replace JB := JB.below z
  replace B := below_next B z
  clear z
  have JT0 := JT.c0
  have JT1 := JT.c1
  have JTl := JT.lt
  have JZ0 := JZ.c0
  have JZ1 := JZ.c1
  have JZl := JZ.lt
  have JA0 := JA.c0
  have JA1 := JA.c1
  have JA2 := JA.c2
  have JA3 := JA.c3
  have JAl := JA.lt
  have JB0 := JB.c0
  have JB1 := JB.c1
  have JB2 := JB.c2
  have JB3 := JB.c3
  have JBl := JB.lt
  have lb := B.size
  go_wp2_with fail
  refine (X5.out _).mono ?_
  rintro e w6 ⟨rfl, z⟩
  clear JT0 JT1 JTl JZ0 JZ1 JZl JA0 JA1 JA2 JA3 JAl JB0 JB1 JB2 JB3 JBl lb
  replace JT := JT.below z
  replace JZ := JZ.below z
  replace JA := JA.below z
  replace JB := JB.below z
  replace B := below_next B z
  clear z
  have JT0 := JT.c0
  have JT1 := JT.c1
  have JTl := JT.lt
  have JZ0 := JZ.c0
  have JZ1 := JZ.c1
  have JZl := JZ.lt
  have JA0 := JA.c0
  have JA1 := JA.c1
  have JA2 := JA.c2
  have JA3 := JA.c3
  have JAl := JA.lt
  have JB0 := JB.c0
  have JB1 := JB.c1
  have JB2 := JB.c2
  have JB3 := JB.c3
  have JBl := JB.lt
  have lb := B.size
  go_wp2
  go_ret
  first
    | exact ⟨rfl, B⟩
    | exact ⟨by simp [decide_eq_false (show ¬ ub n ≤ ub h by omega)], B⟩
set_option maxHeartbeats 8000000 in
theorem settles_t4 (t z : Tn) (n : B64) (y : Sc) (ho : settle (t, z) = some y) (e1 : (t.1 &&& t.2 == 0#64) = true) (e2 : (n &&& ~~~t.2 == t.1) = true) (e3 : ub z.1 ≤ ub n) (e4 : ¬ ub n ≤ ub z.2) (hd : (y.1 == t) = false) (w : World) : Calls Try.prog 6 #[tv t, tv z, .int .u64 (ub n)] w fun e w' => e = .returned (.bool true) ∧ Below w.heap.size w w' := by
  have X0 := fun W => awake_true W
  have X1 := fun W => cSettle_any t z W
  rw [ho, show optS (some y) = y from rfl, show (some y : Option Sc).isSome = true from rfl] at X1
  have hm := settled ho
  have X2 := fun W => cSettle_any y.1 y.2 W
  rw [show (y.1, y.2) = y from rfl, (mayX_settle y).1 hm, show optS (some y) = y from rfl, show (some y : Option Sc).isSome = true from rfl] at X2
  have hh : hasX y n = false := by
    rw [Bool.eq_false_iff, Ne, hasX_is y n hm, settle_hasB ho, ← both_is]
    unfold bothB
    rw [e1, e2, decide_eq_true e3, decide_eq_false e4]
    simp
  have X3 := fun W => cHas_any y n W
  rw [hh] at X3
  have X4 := fun W => cMay_any y W
  rw [hm] at X4
  have Q1 := fun W => eq_sc y y W
  rw [beq_self_eq_true] at Q1
  have Q2 := fun W => neq_tn y.1 t W
  rw [hd] at Q2
  clear ho hm hh hd
  obtain ⟨v, m⟩ := t
  obtain ⟨l, h⟩ := z
  unfold tv at X1 X2 Q2 ⊢
  unfold sv at X1 X2 X3 X4 Q1
  dsimp only at X1 X2 X3 X4 e1 e2 e3 e4 ⊢
  replace X0 := hid X0
  replace X1 := hid X1
  replace X2 := hid X2
  replace X3 := hid X3
  replace X4 := hid X4
  go_enter Try.func6, Try.ntmps6
  go_wp2_with fail
  have JT : BC ((w.alloc (.cells #[.int .u64 (ub v), .int .u64 (ub m)] 24)).alloc (.cells #[.int .u64 (ub l), .int .u64 (ub h)] 26)) (w.heap.size) (v, m) := ((BC.new (a := (v, m)) rfl).alloc _)
  have JZ : BC ((w.alloc (.cells #[.int .u64 (ub v), .int .u64 (ub m)] 24)).alloc (.cells #[.int .u64 (ub l), .int .u64 (ub h)] 26)) (w.heap.size + 1) (l, h) := (BC.new (a := (l, h)) (by simp))
  have B : Below w.heap.size w ((w.alloc (.cells #[.int .u64 (ub v), .int .u64 (ub m)] 24)).alloc (.cells #[.int .u64 (ub l), .int .u64 (ub h)] 26)) := (bel_alloc (bel_alloc (Below.refl _ _)))
  generalize ((w.alloc (.cells #[.int .u64 (ub v), .int .u64 (ub m)] 24)).alloc (.cells #[.int .u64 (ub l), .int .u64 (ub h)] 26)) = w00 at *
  have JT0 := JT.c0
  have JT1 := JT.c1
  have JTl := JT.lt
  have JZ0 := JZ.c0
  have JZ1 := JZ.c1
  have JZl := JZ.lt
  have lb := B.size
  go_wp2_with fail
  refine (X0.out _).mono ?_
  rintro e w1 ⟨rfl, z⟩
  clear JT0 JT1 JTl JZ0 JZ1 JZl lb
  replace JT := JT.below z
  replace JZ := JZ.below z
  replace B := below_next B z
  clear z
  have JT0 := JT.c0
  have JT1 := JT.c1
  have JTl := JT.lt
  have JZ0 := JZ.c0
  have JZ1 := JZ.c1
  have JZl := JZ.lt
  have lb := B.size
  go_wp2_with fail
  refine (X1.out _).mono ?_
  rintro e w2 ⟨rfl, z⟩
  clear JT0 JT1 JTl JZ0 JZ1 JZl lb
  replace JT := JT.below z
  replace JZ := JZ.below z
  replace B := below_next B z
  clear z
  have JT0 := JT.c0
  have JT1 := JT.c1
  have JTl := JT.lt
  have JZ0 := JZ.c0
  have JZ1 := JZ.c1
  have JZl := JZ.lt
  have lb := B.size
  go_wp2_with fail
  refine (X2.out _).mono ?_
  rintro e w3 ⟨rfl, z⟩
  clear JT0 JT1 JTl JZ0 JZ1 JZl lb
  have g3JT : w.heap.size < w2.heap.size := JT.lt
  have g3JZ : w.heap.size + 1 < w2.heap.size := JZ.lt
  have g3B := B.size
  replace JT := (JT.alloc _).below z
  replace JZ := (JZ.alloc _).below z
  have JA : SC w3 (w2.heap.size) (y) := (SC.new rfl).below z
  replace B := below_next (bel_alloc B) z
  clear z
  have JT0 := JT.c0
  have JT1 := JT.c1
  have JTl := JT.lt
  have JZ0 := JZ.c0
  have JZ1 := JZ.c1
  have JZl := JZ.lt
  have JA0 := JA.c0
  have JA1 := JA.c1
  have JA2 := JA.c2
  have JA3 := JA.c3
  have JAl := JA.lt
  have lb := B.size
  go_wp2_with fail
  refine (X3.out _).mono ?_
  rintro e w4 ⟨rfl, z⟩
  clear JT0 JT1 JTl JZ0 JZ1 JZl JA0 JA1 JA2 JA3 JAl lb
  have g4JT : w.heap.size < w3.heap.size := JT.lt
  have g4JZ : w.heap.size + 1 < w3.heap.size := JZ.lt
  have g4JA : w2.heap.size < w3.heap.size := JA.lt
  have g4B := B.size
  replace JT := (JT.alloc _).below z
  replace JZ := (JZ.alloc _).below z
  replace JA := (JA.alloc _).below z
  have JB : SC w4 (w3.heap.size) (y) := (SC.new rfl).below z
  replace B := below_next (bel_alloc B) z
  clear z
  have JT0 := JT.c0
  have JT1 := JT.c1
  have JTl := JT.lt
  have JZ0 := JZ.c0
  have JZ1 := JZ.c1
  have JZl := JZ.lt
  have JA0 := JA.c0
  have JA1 := JA.c1
  have JA2 := JA.c2
  have JA3 := JA.c3
  have JAl := JA.lt
  have JB0 := JB.c0
  have JB1 := JB.c1
  have JB2 := JB.c2
  have JB3 := JB.c3
  have JBl := JB.lt
  have lb := B.size
  go_wp2_with fail
  refine (X4.out _).mono ?_
  rintro e w5 ⟨rfl, z⟩
  clear JT0 JT1 JTl JZ0 JZ1 JZl JA0 JA1 JA2 JA3 JAl JB0 JB1 JB2 JB3 JBl lb
  replace JT := JT.below z
  replace JZ := JZ.below z
  replace JA := JA.below z
  replace JB := JB.below z
  replace B := below_next B z
  clear z
  have JT0 := JT.c0
  have JT1 := JT.c1
  have JTl := JT.lt
  have JZ0 := JZ.c0
  have JZ1 := JZ.c1
  have JZl := JZ.lt
  have JA0 := JA.c0
  have JA1 := JA.c1
  have JA2 := JA.c2
  have JA3 := JA.c3
  have JAl := JA.lt
  have JB0 := JB.c0
  have JB1 := JB.c1
  have JB2 := JB.c2
  have JB3 := JB.c3
  have JBl := JB.lt
  have lb := B.size
  go_wp2
  go_ret
  first
    | exact ⟨rfl, B⟩
    | exact ⟨by simp [decide_eq_false (show ¬ ub n ≤ ub h by omega)], B⟩
set_option maxHeartbeats 8000000 in
theorem settles_s4 (t z : Tn) (n : B64) (y : Sc) (ho : settle (t, z) = some y) (e1 : (t.1 &&& t.2 == 0#64) = true) (e2 : (n &&& ~~~t.2 == t.1) = true) (e3 : ub z.1 ≤ ub n) (e4 : ¬ ub n ≤ ub z.2) (hd : (y.1 == t) = true) (hg : (y.2 == z) = false) (w : World) : Calls Try.prog 6 #[tv t, tv z, .int .u64 (ub n)] w fun e w' => e = .returned (.bool true) ∧ Below w.heap.size w w' := by
  have X0 := fun W => awake_true W
  have X1 := fun W => cSettle_any t z W
  rw [ho, show optS (some y) = y from rfl, show (some y : Option Sc).isSome = true from rfl] at X1
  have hm := settled ho
  have X2 := fun W => cSettle_any y.1 y.2 W
  rw [show (y.1, y.2) = y from rfl, (mayX_settle y).1 hm, show optS (some y) = y from rfl, show (some y : Option Sc).isSome = true from rfl] at X2
  have hh : hasX y n = false := by
    rw [Bool.eq_false_iff, Ne, hasX_is y n hm, settle_hasB ho, ← both_is]
    unfold bothB
    rw [e1, e2, decide_eq_true e3, decide_eq_false e4]
    simp
  have X3 := fun W => cHas_any y n W
  rw [hh] at X3
  have X4 := fun W => cMay_any y W
  rw [hm] at X4
  have Q1 := fun W => eq_sc y y W
  rw [beq_self_eq_true] at Q1
  have Q2 := fun W => neq_tn y.1 t W
  rw [hd] at Q2
  have Q3 := fun W => neq_sp y.2 z W
  rw [hg] at Q3
  clear ho hm hh hd hg
  obtain ⟨v, m⟩ := t
  obtain ⟨l, h⟩ := z
  unfold tv at X1 X2 Q2 Q3 ⊢
  unfold sv at X1 X2 X3 X4 Q1
  dsimp only at X1 X2 X3 X4 e1 e2 e3 e4 ⊢
  replace X0 := hid X0
  replace X1 := hid X1
  replace X2 := hid X2
  replace X3 := hid X3
  replace X4 := hid X4
  go_enter Try.func6, Try.ntmps6
  go_wp2_with fail
  have JT : BC ((w.alloc (.cells #[.int .u64 (ub v), .int .u64 (ub m)] 24)).alloc (.cells #[.int .u64 (ub l), .int .u64 (ub h)] 26)) (w.heap.size) (v, m) := ((BC.new (a := (v, m)) rfl).alloc _)
  have JZ : BC ((w.alloc (.cells #[.int .u64 (ub v), .int .u64 (ub m)] 24)).alloc (.cells #[.int .u64 (ub l), .int .u64 (ub h)] 26)) (w.heap.size + 1) (l, h) := (BC.new (a := (l, h)) (by simp))
  have B : Below w.heap.size w ((w.alloc (.cells #[.int .u64 (ub v), .int .u64 (ub m)] 24)).alloc (.cells #[.int .u64 (ub l), .int .u64 (ub h)] 26)) := (bel_alloc (bel_alloc (Below.refl _ _)))
  generalize ((w.alloc (.cells #[.int .u64 (ub v), .int .u64 (ub m)] 24)).alloc (.cells #[.int .u64 (ub l), .int .u64 (ub h)] 26)) = w00 at *
  have JT0 := JT.c0
  have JT1 := JT.c1
  have JTl := JT.lt
  have JZ0 := JZ.c0
  have JZ1 := JZ.c1
  have JZl := JZ.lt
  have lb := B.size
  go_wp2_with fail
  refine (X0.out _).mono ?_
  rintro e w1 ⟨rfl, z⟩
  clear JT0 JT1 JTl JZ0 JZ1 JZl lb
  replace JT := JT.below z
  replace JZ := JZ.below z
  replace B := below_next B z
  clear z
  have JT0 := JT.c0
  have JT1 := JT.c1
  have JTl := JT.lt
  have JZ0 := JZ.c0
  have JZ1 := JZ.c1
  have JZl := JZ.lt
  have lb := B.size
  go_wp2_with fail
  refine (X1.out _).mono ?_
  rintro e w2 ⟨rfl, z⟩
  clear JT0 JT1 JTl JZ0 JZ1 JZl lb
  replace JT := JT.below z
  replace JZ := JZ.below z
  replace B := below_next B z
  clear z
  have JT0 := JT.c0
  have JT1 := JT.c1
  have JTl := JT.lt
  have JZ0 := JZ.c0
  have JZ1 := JZ.c1
  have JZl := JZ.lt
  have lb := B.size
  go_wp2_with fail
  refine (X2.out _).mono ?_
  rintro e w3 ⟨rfl, z⟩
  clear JT0 JT1 JTl JZ0 JZ1 JZl lb
  have g3JT : w.heap.size < w2.heap.size := JT.lt
  have g3JZ : w.heap.size + 1 < w2.heap.size := JZ.lt
  have g3B := B.size
  replace JT := (JT.alloc _).below z
  replace JZ := (JZ.alloc _).below z
  have JA : SC w3 (w2.heap.size) (y) := (SC.new rfl).below z
  replace B := below_next (bel_alloc B) z
  clear z
  have JT0 := JT.c0
  have JT1 := JT.c1
  have JTl := JT.lt
  have JZ0 := JZ.c0
  have JZ1 := JZ.c1
  have JZl := JZ.lt
  have JA0 := JA.c0
  have JA1 := JA.c1
  have JA2 := JA.c2
  have JA3 := JA.c3
  have JAl := JA.lt
  have lb := B.size
  go_wp2_with fail
  refine (X3.out _).mono ?_
  rintro e w4 ⟨rfl, z⟩
  clear JT0 JT1 JTl JZ0 JZ1 JZl JA0 JA1 JA2 JA3 JAl lb
  have g4JT : w.heap.size < w3.heap.size := JT.lt
  have g4JZ : w.heap.size + 1 < w3.heap.size := JZ.lt
  have g4JA : w2.heap.size < w3.heap.size := JA.lt
  have g4B := B.size
  replace JT := (JT.alloc _).below z
  replace JZ := (JZ.alloc _).below z
  replace JA := (JA.alloc _).below z
  have JB : SC w4 (w3.heap.size) (y) := (SC.new rfl).below z
  replace B := below_next (bel_alloc B) z
  clear z
  have JT0 := JT.c0
  have JT1 := JT.c1
  have JTl := JT.lt
  have JZ0 := JZ.c0
  have JZ1 := JZ.c1
  have JZl := JZ.lt
  have JA0 := JA.c0
  have JA1 := JA.c1
  have JA2 := JA.c2
  have JA3 := JA.c3
  have JAl := JA.lt
  have JB0 := JB.c0
  have JB1 := JB.c1
  have JB2 := JB.c2
  have JB3 := JB.c3
  have JBl := JB.lt
  have lb := B.size
  go_wp2_with fail
  refine (X4.out _).mono ?_
  rintro e w5 ⟨rfl, z⟩
  clear JT0 JT1 JTl JZ0 JZ1 JZl JA0 JA1 JA2 JA3 JAl JB0 JB1 JB2 JB3 JBl lb
  replace JT := JT.below z
  replace JZ := JZ.below z
  replace JA := JA.below z
  replace JB := JB.below z
  replace B := below_next B z
  clear z
  have JT0 := JT.c0
  have JT1 := JT.c1
  have JTl := JT.lt
  have JZ0 := JZ.c0
  have JZ1 := JZ.c1
  have JZl := JZ.lt
  have JA0 := JA.c0
  have JA1 := JA.c1
  have JA2 := JA.c2
  have JA3 := JA.c3
  have JAl := JA.lt
  have JB0 := JB.c0
  have JB1 := JB.c1
  have JB2 := JB.c2
  have JB3 := JB.c3
  have JBl := JB.lt
  have lb := B.size
  go_wp2
  go_ret
  first
    | exact ⟨rfl, B⟩
    | exact ⟨by simp [decide_eq_false (show ¬ ub n ≤ ub h by omega)], B⟩
set_option maxHeartbeats 8000000 in
theorem settles_b4 (t z : Tn) (n : B64) (y : Sc) (ho : settle (t, z) = some y) (e1 : (t.1 &&& t.2 == 0#64) = true) (e2 : (n &&& ~~~t.2 == t.1) = true) (e3 : ub z.1 ≤ ub n) (e4 : ¬ ub n ≤ ub z.2) (hd : (y.1 == t) = true) (hg : (y.2 == z) = true) (w : World) : Calls Try.prog 6 #[tv t, tv z, .int .u64 (ub n)] w fun e w' => e = .returned (.bool true) ∧ Below w.heap.size w w' := by
  have X0 := fun W => awake_true W
  have X1 := fun W => cSettle_any t z W
  rw [ho, show optS (some y) = y from rfl, show (some y : Option Sc).isSome = true from rfl] at X1
  have hm := settled ho
  have X2 := fun W => cSettle_any y.1 y.2 W
  rw [show (y.1, y.2) = y from rfl, (mayX_settle y).1 hm, show optS (some y) = y from rfl, show (some y : Option Sc).isSome = true from rfl] at X2
  have hh : hasX y n = false := by
    rw [Bool.eq_false_iff, Ne, hasX_is y n hm, settle_hasB ho, ← both_is]
    unfold bothB
    rw [e1, e2, decide_eq_true e3, decide_eq_false e4]
    simp
  have X3 := fun W => cHas_any y n W
  rw [hh] at X3
  have X4 := fun W => cMay_any y W
  rw [hm] at X4
  have Q1 := fun W => eq_sc y y W
  rw [beq_self_eq_true] at Q1
  have Q2 := fun W => neq_tn y.1 t W
  rw [hd] at Q2
  have Q3 := fun W => neq_sp y.2 z W
  rw [hg] at Q3
  have X5 := fun W => cMay_any (t, z) W
  rw [show mayX (t, z) = true from (show y = (t, z) from Prod.ext (beq_iff_eq.1 hd) (beq_iff_eq.1 hg)) ▸ hm] at X5
  clear ho hm hh hd hg
  obtain ⟨v, m⟩ := t
  obtain ⟨l, h⟩ := z
  unfold tv at X1 X2 Q2 Q3 ⊢
  unfold sv at X1 X2 X3 X4 X5 Q1
  dsimp only at X1 X2 X3 X4 X5 e1 e2 e3 e4 ⊢
  replace X0 := hid X0
  replace X1 := hid X1
  replace X2 := hid X2
  replace X3 := hid X3
  replace X4 := hid X4
  replace X5 := hid X5
  go_enter Try.func6, Try.ntmps6
  go_wp2_with fail
  have JT : BC ((w.alloc (.cells #[.int .u64 (ub v), .int .u64 (ub m)] 24)).alloc (.cells #[.int .u64 (ub l), .int .u64 (ub h)] 26)) (w.heap.size) (v, m) := ((BC.new (a := (v, m)) rfl).alloc _)
  have JZ : BC ((w.alloc (.cells #[.int .u64 (ub v), .int .u64 (ub m)] 24)).alloc (.cells #[.int .u64 (ub l), .int .u64 (ub h)] 26)) (w.heap.size + 1) (l, h) := (BC.new (a := (l, h)) (by simp))
  have B : Below w.heap.size w ((w.alloc (.cells #[.int .u64 (ub v), .int .u64 (ub m)] 24)).alloc (.cells #[.int .u64 (ub l), .int .u64 (ub h)] 26)) := (bel_alloc (bel_alloc (Below.refl _ _)))
  generalize ((w.alloc (.cells #[.int .u64 (ub v), .int .u64 (ub m)] 24)).alloc (.cells #[.int .u64 (ub l), .int .u64 (ub h)] 26)) = w00 at *
  have JT0 := JT.c0
  have JT1 := JT.c1
  have JTl := JT.lt
  have JZ0 := JZ.c0
  have JZ1 := JZ.c1
  have JZl := JZ.lt
  have lb := B.size
  go_wp2_with fail
  refine (X0.out _).mono ?_
  rintro e w1 ⟨rfl, z⟩
  clear JT0 JT1 JTl JZ0 JZ1 JZl lb
  replace JT := JT.below z
  replace JZ := JZ.below z
  replace B := below_next B z
  clear z
  have JT0 := JT.c0
  have JT1 := JT.c1
  have JTl := JT.lt
  have JZ0 := JZ.c0
  have JZ1 := JZ.c1
  have JZl := JZ.lt
  have lb := B.size
  go_wp2_with fail
  refine (X1.out _).mono ?_
  rintro e w2 ⟨rfl, z⟩
  clear JT0 JT1 JTl JZ0 JZ1 JZl lb
  replace JT := JT.below z
  replace JZ := JZ.below z
  replace B := below_next B z
  clear z
  have JT0 := JT.c0
  have JT1 := JT.c1
  have JTl := JT.lt
  have JZ0 := JZ.c0
  have JZ1 := JZ.c1
  have JZl := JZ.lt
  have lb := B.size
  go_wp2_with fail
  refine (X2.out _).mono ?_
  rintro e w3 ⟨rfl, z⟩
  clear JT0 JT1 JTl JZ0 JZ1 JZl lb
  have g3JT : w.heap.size < w2.heap.size := JT.lt
  have g3JZ : w.heap.size + 1 < w2.heap.size := JZ.lt
  have g3B := B.size
  replace JT := (JT.alloc _).below z
  replace JZ := (JZ.alloc _).below z
  have JA : SC w3 (w2.heap.size) (y) := (SC.new rfl).below z
  replace B := below_next (bel_alloc B) z
  clear z
  have JT0 := JT.c0
  have JT1 := JT.c1
  have JTl := JT.lt
  have JZ0 := JZ.c0
  have JZ1 := JZ.c1
  have JZl := JZ.lt
  have JA0 := JA.c0
  have JA1 := JA.c1
  have JA2 := JA.c2
  have JA3 := JA.c3
  have JAl := JA.lt
  have lb := B.size
  go_wp2_with fail
  refine (X3.out _).mono ?_
  rintro e w4 ⟨rfl, z⟩
  clear JT0 JT1 JTl JZ0 JZ1 JZl JA0 JA1 JA2 JA3 JAl lb
  have g4JT : w.heap.size < w3.heap.size := JT.lt
  have g4JZ : w.heap.size + 1 < w3.heap.size := JZ.lt
  have g4JA : w2.heap.size < w3.heap.size := JA.lt
  have g4B := B.size
  replace JT := (JT.alloc _).below z
  replace JZ := (JZ.alloc _).below z
  replace JA := (JA.alloc _).below z
  have JB : SC w4 (w3.heap.size) (y) := (SC.new rfl).below z
  replace B := below_next (bel_alloc B) z
  clear z
  have JT0 := JT.c0
  have JT1 := JT.c1
  have JTl := JT.lt
  have JZ0 := JZ.c0
  have JZ1 := JZ.c1
  have JZl := JZ.lt
  have JA0 := JA.c0
  have JA1 := JA.c1
  have JA2 := JA.c2
  have JA3 := JA.c3
  have JAl := JA.lt
  have JB0 := JB.c0
  have JB1 := JB.c1
  have JB2 := JB.c2
  have JB3 := JB.c3
  have JBl := JB.lt
  have lb := B.size
  go_wp2_with fail
  refine (X4.out _).mono ?_
  rintro e w5 ⟨rfl, z⟩
  clear JT0 JT1 JTl JZ0 JZ1 JZl JA0 JA1 JA2 JA3 JAl JB0 JB1 JB2 JB3 JBl lb
  replace JT := JT.below z
  replace JZ := JZ.below z
  replace JA := JA.below z
  replace JB := JB.below z
  replace B := below_next B z
  clear z
  have JT0 := JT.c0
  have JT1 := JT.c1
  have JTl := JT.lt
  have JZ0 := JZ.c0
  have JZ1 := JZ.c1
  have JZl := JZ.lt
  have JA0 := JA.c0
  have JA1 := JA.c1
  have JA2 := JA.c2
  have JA3 := JA.c3
  have JAl := JA.lt
  have JB0 := JB.c0
  have JB1 := JB.c1
  have JB2 := JB.c2
  have JB3 := JB.c3
  have JBl := JB.lt
  have lb := B.size
  go_wp2_with fail
  refine (X5.out _).mono ?_
  rintro e w6 ⟨rfl, z⟩
  clear JT0 JT1 JTl JZ0 JZ1 JZl JA0 JA1 JA2 JA3 JAl JB0 JB1 JB2 JB3 JBl lb
  replace JT := JT.below z
  replace JZ := JZ.below z
  replace JA := JA.below z
  replace JB := JB.below z
  replace B := below_next B z
  clear z
  have JT0 := JT.c0
  have JT1 := JT.c1
  have JTl := JT.lt
  have JZ0 := JZ.c0
  have JZ1 := JZ.c1
  have JZl := JZ.lt
  have JA0 := JA.c0
  have JA1 := JA.c1
  have JA2 := JA.c2
  have JA3 := JA.c3
  have JAl := JA.lt
  have JB0 := JB.c0
  have JB1 := JB.c1
  have JB2 := JB.c2
  have JB3 := JB.c3
  have JBl := JB.lt
  have lb := B.size
  go_wp2
  go_ret
  first
    | exact ⟨rfl, B⟩
    | exact ⟨by simp [decide_eq_false (show ¬ ub n ≤ ub h by omega)], B⟩
set_option maxHeartbeats 8000000 in
theorem settles_t5 (t z : Tn) (n : B64) (y : Sc) (ho : settle (t, z) = some y) (e1 : (t.1 &&& t.2 == 0#64) = true) (e2 : (n &&& ~~~t.2 == t.1) = true) (e3 : ub z.1 ≤ ub n) (e4 : ub n ≤ ub z.2) (hd : (y.1 == t) = false) (w : World) : Calls Try.prog 6 #[tv t, tv z, .int .u64 (ub n)] w fun e w' => e = .returned (.bool true) ∧ Below w.heap.size w w' := by
  have X0 := fun W => awake_true W
  have X1 := fun W => cSettle_any t z W
  rw [ho, show optS (some y) = y from rfl, show (some y : Option Sc).isSome = true from rfl] at X1
  have hm := settled ho
  have X2 := fun W => cSettle_any y.1 y.2 W
  rw [show (y.1, y.2) = y from rfl, (mayX_settle y).1 hm, show optS (some y) = y from rfl, show (some y : Option Sc).isSome = true from rfl] at X2
  have hh : hasX y n = true := by
    rw [hasX_is y n hm, settle_hasB ho, ← both_is]
    unfold bothB
    rw [e1, e2, decide_eq_true e3, decide_eq_true e4]
    rfl
  have X3 := fun W => cHas_any y n W
  rw [hh] at X3
  have X4 := fun W => cMay_any y W
  rw [hm] at X4
  have Q1 := fun W => eq_sc y y W
  rw [beq_self_eq_true] at Q1
  have Q2 := fun W => neq_tn y.1 t W
  rw [hd] at Q2
  clear ho hm hh hd
  obtain ⟨v, m⟩ := t
  obtain ⟨l, h⟩ := z
  unfold tv at X1 X2 Q2 ⊢
  unfold sv at X1 X2 X3 X4 Q1
  dsimp only at X1 X2 X3 X4 e1 e2 e3 e4 ⊢
  replace X0 := hid X0
  replace X1 := hid X1
  replace X2 := hid X2
  replace X3 := hid X3
  replace X4 := hid X4
  go_enter Try.func6, Try.ntmps6
  go_wp2_with fail
  have JT : BC ((w.alloc (.cells #[.int .u64 (ub v), .int .u64 (ub m)] 24)).alloc (.cells #[.int .u64 (ub l), .int .u64 (ub h)] 26)) (w.heap.size) (v, m) := ((BC.new (a := (v, m)) rfl).alloc _)
  have JZ : BC ((w.alloc (.cells #[.int .u64 (ub v), .int .u64 (ub m)] 24)).alloc (.cells #[.int .u64 (ub l), .int .u64 (ub h)] 26)) (w.heap.size + 1) (l, h) := (BC.new (a := (l, h)) (by simp))
  have B : Below w.heap.size w ((w.alloc (.cells #[.int .u64 (ub v), .int .u64 (ub m)] 24)).alloc (.cells #[.int .u64 (ub l), .int .u64 (ub h)] 26)) := (bel_alloc (bel_alloc (Below.refl _ _)))
  generalize ((w.alloc (.cells #[.int .u64 (ub v), .int .u64 (ub m)] 24)).alloc (.cells #[.int .u64 (ub l), .int .u64 (ub h)] 26)) = w00 at *
  have JT0 := JT.c0
  have JT1 := JT.c1
  have JTl := JT.lt
  have JZ0 := JZ.c0
  have JZ1 := JZ.c1
  have JZl := JZ.lt
  have lb := B.size
  go_wp2_with fail
  refine (X0.out _).mono ?_
  rintro e w1 ⟨rfl, z⟩
  clear JT0 JT1 JTl JZ0 JZ1 JZl lb
  replace JT := JT.below z
  replace JZ := JZ.below z
  replace B := below_next B z
  clear z
  have JT0 := JT.c0
  have JT1 := JT.c1
  have JTl := JT.lt
  have JZ0 := JZ.c0
  have JZ1 := JZ.c1
  have JZl := JZ.lt
  have lb := B.size
  go_wp2_with fail
  refine (X1.out _).mono ?_
  rintro e w2 ⟨rfl, z⟩
  clear JT0 JT1 JTl JZ0 JZ1 JZl lb
  replace JT := JT.below z
  replace JZ := JZ.below z
  replace B := below_next B z
  clear z
  have JT0 := JT.c0
  have JT1 := JT.c1
  have JTl := JT.lt
  have JZ0 := JZ.c0
  have JZ1 := JZ.c1
  have JZl := JZ.lt
  have lb := B.size
  go_wp2_with fail
  refine (X2.out _).mono ?_
  rintro e w3 ⟨rfl, z⟩
  clear JT0 JT1 JTl JZ0 JZ1 JZl lb
  have g3JT : w.heap.size < w2.heap.size := JT.lt
  have g3JZ : w.heap.size + 1 < w2.heap.size := JZ.lt
  have g3B := B.size
  replace JT := (JT.alloc _).below z
  replace JZ := (JZ.alloc _).below z
  have JA : SC w3 (w2.heap.size) (y) := (SC.new rfl).below z
  replace B := below_next (bel_alloc B) z
  clear z
  have JT0 := JT.c0
  have JT1 := JT.c1
  have JTl := JT.lt
  have JZ0 := JZ.c0
  have JZ1 := JZ.c1
  have JZl := JZ.lt
  have JA0 := JA.c0
  have JA1 := JA.c1
  have JA2 := JA.c2
  have JA3 := JA.c3
  have JAl := JA.lt
  have lb := B.size
  go_wp2_with fail
  refine (X3.out _).mono ?_
  rintro e w4 ⟨rfl, z⟩
  clear JT0 JT1 JTl JZ0 JZ1 JZl JA0 JA1 JA2 JA3 JAl lb
  have g4JT : w.heap.size < w3.heap.size := JT.lt
  have g4JZ : w.heap.size + 1 < w3.heap.size := JZ.lt
  have g4JA : w2.heap.size < w3.heap.size := JA.lt
  have g4B := B.size
  replace JT := (JT.alloc _).below z
  replace JZ := (JZ.alloc _).below z
  replace JA := (JA.alloc _).below z
  have JB : SC w4 (w3.heap.size) (y) := (SC.new rfl).below z
  replace B := below_next (bel_alloc B) z
  clear z
  have JT0 := JT.c0
  have JT1 := JT.c1
  have JTl := JT.lt
  have JZ0 := JZ.c0
  have JZ1 := JZ.c1
  have JZl := JZ.lt
  have JA0 := JA.c0
  have JA1 := JA.c1
  have JA2 := JA.c2
  have JA3 := JA.c3
  have JAl := JA.lt
  have JB0 := JB.c0
  have JB1 := JB.c1
  have JB2 := JB.c2
  have JB3 := JB.c3
  have JBl := JB.lt
  have lb := B.size
  go_wp2_with fail
  refine (X4.out _).mono ?_
  rintro e w5 ⟨rfl, z⟩
  clear JT0 JT1 JTl JZ0 JZ1 JZl JA0 JA1 JA2 JA3 JAl JB0 JB1 JB2 JB3 JBl lb
  replace JT := JT.below z
  replace JZ := JZ.below z
  replace JA := JA.below z
  replace JB := JB.below z
  replace B := below_next B z
  clear z
  have JT0 := JT.c0
  have JT1 := JT.c1
  have JTl := JT.lt
  have JZ0 := JZ.c0
  have JZ1 := JZ.c1
  have JZl := JZ.lt
  have JA0 := JA.c0
  have JA1 := JA.c1
  have JA2 := JA.c2
  have JA3 := JA.c3
  have JAl := JA.lt
  have JB0 := JB.c0
  have JB1 := JB.c1
  have JB2 := JB.c2
  have JB3 := JB.c3
  have JBl := JB.lt
  have lb := B.size
  go_wp2
  go_ret
  first
    | exact ⟨rfl, B⟩
    | exact ⟨by simp [decide_eq_true (show ub n ≤ ub h by omega)], B⟩
set_option maxHeartbeats 8000000 in
theorem settles_s5 (t z : Tn) (n : B64) (y : Sc) (ho : settle (t, z) = some y) (e1 : (t.1 &&& t.2 == 0#64) = true) (e2 : (n &&& ~~~t.2 == t.1) = true) (e3 : ub z.1 ≤ ub n) (e4 : ub n ≤ ub z.2) (hd : (y.1 == t) = true) (hg : (y.2 == z) = false) (w : World) : Calls Try.prog 6 #[tv t, tv z, .int .u64 (ub n)] w fun e w' => e = .returned (.bool true) ∧ Below w.heap.size w w' := by
  have X0 := fun W => awake_true W
  have X1 := fun W => cSettle_any t z W
  rw [ho, show optS (some y) = y from rfl, show (some y : Option Sc).isSome = true from rfl] at X1
  have hm := settled ho
  have X2 := fun W => cSettle_any y.1 y.2 W
  rw [show (y.1, y.2) = y from rfl, (mayX_settle y).1 hm, show optS (some y) = y from rfl, show (some y : Option Sc).isSome = true from rfl] at X2
  have hh : hasX y n = true := by
    rw [hasX_is y n hm, settle_hasB ho, ← both_is]
    unfold bothB
    rw [e1, e2, decide_eq_true e3, decide_eq_true e4]
    rfl
  have X3 := fun W => cHas_any y n W
  rw [hh] at X3
  have X4 := fun W => cMay_any y W
  rw [hm] at X4
  have Q1 := fun W => eq_sc y y W
  rw [beq_self_eq_true] at Q1
  have Q2 := fun W => neq_tn y.1 t W
  rw [hd] at Q2
  have Q3 := fun W => neq_sp y.2 z W
  rw [hg] at Q3
  clear ho hm hh hd hg
  obtain ⟨v, m⟩ := t
  obtain ⟨l, h⟩ := z
  unfold tv at X1 X2 Q2 Q3 ⊢
  unfold sv at X1 X2 X3 X4 Q1
  dsimp only at X1 X2 X3 X4 e1 e2 e3 e4 ⊢
  replace X0 := hid X0
  replace X1 := hid X1
  replace X2 := hid X2
  replace X3 := hid X3
  replace X4 := hid X4
  go_enter Try.func6, Try.ntmps6
  go_wp2_with fail
  have JT : BC ((w.alloc (.cells #[.int .u64 (ub v), .int .u64 (ub m)] 24)).alloc (.cells #[.int .u64 (ub l), .int .u64 (ub h)] 26)) (w.heap.size) (v, m) := ((BC.new (a := (v, m)) rfl).alloc _)
  have JZ : BC ((w.alloc (.cells #[.int .u64 (ub v), .int .u64 (ub m)] 24)).alloc (.cells #[.int .u64 (ub l), .int .u64 (ub h)] 26)) (w.heap.size + 1) (l, h) := (BC.new (a := (l, h)) (by simp))
  have B : Below w.heap.size w ((w.alloc (.cells #[.int .u64 (ub v), .int .u64 (ub m)] 24)).alloc (.cells #[.int .u64 (ub l), .int .u64 (ub h)] 26)) := (bel_alloc (bel_alloc (Below.refl _ _)))
  generalize ((w.alloc (.cells #[.int .u64 (ub v), .int .u64 (ub m)] 24)).alloc (.cells #[.int .u64 (ub l), .int .u64 (ub h)] 26)) = w00 at *
  have JT0 := JT.c0
  have JT1 := JT.c1
  have JTl := JT.lt
  have JZ0 := JZ.c0
  have JZ1 := JZ.c1
  have JZl := JZ.lt
  have lb := B.size
  go_wp2_with fail
  refine (X0.out _).mono ?_
  rintro e w1 ⟨rfl, z⟩
  clear JT0 JT1 JTl JZ0 JZ1 JZl lb
  replace JT := JT.below z
  replace JZ := JZ.below z
  replace B := below_next B z
  clear z
  have JT0 := JT.c0
  have JT1 := JT.c1
  have JTl := JT.lt
  have JZ0 := JZ.c0
  have JZ1 := JZ.c1
  have JZl := JZ.lt
  have lb := B.size
  go_wp2_with fail
  refine (X1.out _).mono ?_
  rintro e w2 ⟨rfl, z⟩
  clear JT0 JT1 JTl JZ0 JZ1 JZl lb
  replace JT := JT.below z
  replace JZ := JZ.below z
  replace B := below_next B z
  clear z
  have JT0 := JT.c0
  have JT1 := JT.c1
  have JTl := JT.lt
  have JZ0 := JZ.c0
  have JZ1 := JZ.c1
  have JZl := JZ.lt
  have lb := B.size
  go_wp2_with fail
  refine (X2.out _).mono ?_
  rintro e w3 ⟨rfl, z⟩
  clear JT0 JT1 JTl JZ0 JZ1 JZl lb
  have g3JT : w.heap.size < w2.heap.size := JT.lt
  have g3JZ : w.heap.size + 1 < w2.heap.size := JZ.lt
  have g3B := B.size
  replace JT := (JT.alloc _).below z
  replace JZ := (JZ.alloc _).below z
  have JA : SC w3 (w2.heap.size) (y) := (SC.new rfl).below z
  replace B := below_next (bel_alloc B) z
  clear z
  have JT0 := JT.c0
  have JT1 := JT.c1
  have JTl := JT.lt
  have JZ0 := JZ.c0
  have JZ1 := JZ.c1
  have JZl := JZ.lt
  have JA0 := JA.c0
  have JA1 := JA.c1
  have JA2 := JA.c2
  have JA3 := JA.c3
  have JAl := JA.lt
  have lb := B.size
  go_wp2_with fail
  refine (X3.out _).mono ?_
  rintro e w4 ⟨rfl, z⟩
  clear JT0 JT1 JTl JZ0 JZ1 JZl JA0 JA1 JA2 JA3 JAl lb
  have g4JT : w.heap.size < w3.heap.size := JT.lt
  have g4JZ : w.heap.size + 1 < w3.heap.size := JZ.lt
  have g4JA : w2.heap.size < w3.heap.size := JA.lt
  have g4B := B.size
  replace JT := (JT.alloc _).below z
  replace JZ := (JZ.alloc _).below z
  replace JA := (JA.alloc _).below z
  have JB : SC w4 (w3.heap.size) (y) := (SC.new rfl).below z
  replace B := below_next (bel_alloc B) z
  clear z
  have JT0 := JT.c0
  have JT1 := JT.c1
  have JTl := JT.lt
  have JZ0 := JZ.c0
  have JZ1 := JZ.c1
  have JZl := JZ.lt
  have JA0 := JA.c0
  have JA1 := JA.c1
  have JA2 := JA.c2
  have JA3 := JA.c3
  have JAl := JA.lt
  have JB0 := JB.c0
  have JB1 := JB.c1
  have JB2 := JB.c2
  have JB3 := JB.c3
  have JBl := JB.lt
  have lb := B.size
  go_wp2_with fail
  refine (X4.out _).mono ?_
  rintro e w5 ⟨rfl, z⟩
  clear JT0 JT1 JTl JZ0 JZ1 JZl JA0 JA1 JA2 JA3 JAl JB0 JB1 JB2 JB3 JBl lb
  replace JT := JT.below z
  replace JZ := JZ.below z
  replace JA := JA.below z
  replace JB := JB.below z
  replace B := below_next B z
  clear z
  have JT0 := JT.c0
  have JT1 := JT.c1
  have JTl := JT.lt
  have JZ0 := JZ.c0
  have JZ1 := JZ.c1
  have JZl := JZ.lt
  have JA0 := JA.c0
  have JA1 := JA.c1
  have JA2 := JA.c2
  have JA3 := JA.c3
  have JAl := JA.lt
  have JB0 := JB.c0
  have JB1 := JB.c1
  have JB2 := JB.c2
  have JB3 := JB.c3
  have JBl := JB.lt
  have lb := B.size
  go_wp2
  go_ret
  first
    | exact ⟨rfl, B⟩
    | exact ⟨by simp [decide_eq_true (show ub n ≤ ub h by omega)], B⟩
set_option maxHeartbeats 8000000 in
theorem settles_b5 (t z : Tn) (n : B64) (y : Sc) (ho : settle (t, z) = some y) (e1 : (t.1 &&& t.2 == 0#64) = true) (e2 : (n &&& ~~~t.2 == t.1) = true) (e3 : ub z.1 ≤ ub n) (e4 : ub n ≤ ub z.2) (hd : (y.1 == t) = true) (hg : (y.2 == z) = true) (w : World) : Calls Try.prog 6 #[tv t, tv z, .int .u64 (ub n)] w fun e w' => e = .returned (.bool true) ∧ Below w.heap.size w w' := by
  have X0 := fun W => awake_true W
  have X1 := fun W => cSettle_any t z W
  rw [ho, show optS (some y) = y from rfl, show (some y : Option Sc).isSome = true from rfl] at X1
  have hm := settled ho
  have X2 := fun W => cSettle_any y.1 y.2 W
  rw [show (y.1, y.2) = y from rfl, (mayX_settle y).1 hm, show optS (some y) = y from rfl, show (some y : Option Sc).isSome = true from rfl] at X2
  have hh : hasX y n = true := by
    rw [hasX_is y n hm, settle_hasB ho, ← both_is]
    unfold bothB
    rw [e1, e2, decide_eq_true e3, decide_eq_true e4]
    rfl
  have X3 := fun W => cHas_any y n W
  rw [hh] at X3
  have X4 := fun W => cMay_any y W
  rw [hm] at X4
  have Q1 := fun W => eq_sc y y W
  rw [beq_self_eq_true] at Q1
  have Q2 := fun W => neq_tn y.1 t W
  rw [hd] at Q2
  have Q3 := fun W => neq_sp y.2 z W
  rw [hg] at Q3
  have X5 := fun W => cMay_any (t, z) W
  rw [show mayX (t, z) = true from (show y = (t, z) from Prod.ext (beq_iff_eq.1 hd) (beq_iff_eq.1 hg)) ▸ hm] at X5
  clear ho hm hh hd hg
  obtain ⟨v, m⟩ := t
  obtain ⟨l, h⟩ := z
  unfold tv at X1 X2 Q2 Q3 ⊢
  unfold sv at X1 X2 X3 X4 X5 Q1
  dsimp only at X1 X2 X3 X4 X5 e1 e2 e3 e4 ⊢
  replace X0 := hid X0
  replace X1 := hid X1
  replace X2 := hid X2
  replace X3 := hid X3
  replace X4 := hid X4
  replace X5 := hid X5
  go_enter Try.func6, Try.ntmps6
  go_wp2_with fail
  have JT : BC ((w.alloc (.cells #[.int .u64 (ub v), .int .u64 (ub m)] 24)).alloc (.cells #[.int .u64 (ub l), .int .u64 (ub h)] 26)) (w.heap.size) (v, m) := ((BC.new (a := (v, m)) rfl).alloc _)
  have JZ : BC ((w.alloc (.cells #[.int .u64 (ub v), .int .u64 (ub m)] 24)).alloc (.cells #[.int .u64 (ub l), .int .u64 (ub h)] 26)) (w.heap.size + 1) (l, h) := (BC.new (a := (l, h)) (by simp))
  have B : Below w.heap.size w ((w.alloc (.cells #[.int .u64 (ub v), .int .u64 (ub m)] 24)).alloc (.cells #[.int .u64 (ub l), .int .u64 (ub h)] 26)) := (bel_alloc (bel_alloc (Below.refl _ _)))
  generalize ((w.alloc (.cells #[.int .u64 (ub v), .int .u64 (ub m)] 24)).alloc (.cells #[.int .u64 (ub l), .int .u64 (ub h)] 26)) = w00 at *
  have JT0 := JT.c0
  have JT1 := JT.c1
  have JTl := JT.lt
  have JZ0 := JZ.c0
  have JZ1 := JZ.c1
  have JZl := JZ.lt
  have lb := B.size
  go_wp2_with fail
  refine (X0.out _).mono ?_
  rintro e w1 ⟨rfl, z⟩
  clear JT0 JT1 JTl JZ0 JZ1 JZl lb
  replace JT := JT.below z
  replace JZ := JZ.below z
  replace B := below_next B z
  clear z
  have JT0 := JT.c0
  have JT1 := JT.c1
  have JTl := JT.lt
  have JZ0 := JZ.c0
  have JZ1 := JZ.c1
  have JZl := JZ.lt
  have lb := B.size
  go_wp2_with fail
  refine (X1.out _).mono ?_
  rintro e w2 ⟨rfl, z⟩
  clear JT0 JT1 JTl JZ0 JZ1 JZl lb
  replace JT := JT.below z
  replace JZ := JZ.below z
  replace B := below_next B z
  clear z
  have JT0 := JT.c0
  have JT1 := JT.c1
  have JTl := JT.lt
  have JZ0 := JZ.c0
  have JZ1 := JZ.c1
  have JZl := JZ.lt
  have lb := B.size
  go_wp2_with fail
  refine (X2.out _).mono ?_
  rintro e w3 ⟨rfl, z⟩
  clear JT0 JT1 JTl JZ0 JZ1 JZl lb
  have g3JT : w.heap.size < w2.heap.size := JT.lt
  have g3JZ : w.heap.size + 1 < w2.heap.size := JZ.lt
  have g3B := B.size
  replace JT := (JT.alloc _).below z
  replace JZ := (JZ.alloc _).below z
  have JA : SC w3 (w2.heap.size) (y) := (SC.new rfl).below z
  replace B := below_next (bel_alloc B) z
  clear z
  have JT0 := JT.c0
  have JT1 := JT.c1
  have JTl := JT.lt
  have JZ0 := JZ.c0
  have JZ1 := JZ.c1
  have JZl := JZ.lt
  have JA0 := JA.c0
  have JA1 := JA.c1
  have JA2 := JA.c2
  have JA3 := JA.c3
  have JAl := JA.lt
  have lb := B.size
  go_wp2_with fail
  refine (X3.out _).mono ?_
  rintro e w4 ⟨rfl, z⟩
  clear JT0 JT1 JTl JZ0 JZ1 JZl JA0 JA1 JA2 JA3 JAl lb
  have g4JT : w.heap.size < w3.heap.size := JT.lt
  have g4JZ : w.heap.size + 1 < w3.heap.size := JZ.lt
  have g4JA : w2.heap.size < w3.heap.size := JA.lt
  have g4B := B.size
  replace JT := (JT.alloc _).below z
  replace JZ := (JZ.alloc _).below z
  replace JA := (JA.alloc _).below z
  have JB : SC w4 (w3.heap.size) (y) := (SC.new rfl).below z
  replace B := below_next (bel_alloc B) z
  clear z
  have JT0 := JT.c0
  have JT1 := JT.c1
  have JTl := JT.lt
  have JZ0 := JZ.c0
  have JZ1 := JZ.c1
  have JZl := JZ.lt
  have JA0 := JA.c0
  have JA1 := JA.c1
  have JA2 := JA.c2
  have JA3 := JA.c3
  have JAl := JA.lt
  have JB0 := JB.c0
  have JB1 := JB.c1
  have JB2 := JB.c2
  have JB3 := JB.c3
  have JBl := JB.lt
  have lb := B.size
  go_wp2_with fail
  refine (X4.out _).mono ?_
  rintro e w5 ⟨rfl, z⟩
  clear JT0 JT1 JTl JZ0 JZ1 JZl JA0 JA1 JA2 JA3 JAl JB0 JB1 JB2 JB3 JBl lb
  replace JT := JT.below z
  replace JZ := JZ.below z
  replace JA := JA.below z
  replace JB := JB.below z
  replace B := below_next B z
  clear z
  have JT0 := JT.c0
  have JT1 := JT.c1
  have JTl := JT.lt
  have JZ0 := JZ.c0
  have JZ1 := JZ.c1
  have JZl := JZ.lt
  have JA0 := JA.c0
  have JA1 := JA.c1
  have JA2 := JA.c2
  have JA3 := JA.c3
  have JAl := JA.lt
  have JB0 := JB.c0
  have JB1 := JB.c1
  have JB2 := JB.c2
  have JB3 := JB.c3
  have JBl := JB.lt
  have lb := B.size
  go_wp2_with fail
  refine (X5.out _).mono ?_
  rintro e w6 ⟨rfl, z⟩
  clear JT0 JT1 JTl JZ0 JZ1 JZl JA0 JA1 JA2 JA3 JAl JB0 JB1 JB2 JB3 JBl lb
  replace JT := JT.below z
  replace JZ := JZ.below z
  replace JA := JA.below z
  replace JB := JB.below z
  replace B := below_next B z
  clear z
  have JT0 := JT.c0
  have JT1 := JT.c1
  have JTl := JT.lt
  have JZ0 := JZ.c0
  have JZ1 := JZ.c1
  have JZl := JZ.lt
  have JA0 := JA.c0
  have JA1 := JA.c1
  have JA2 := JA.c2
  have JA3 := JA.c3
  have JAl := JA.lt
  have JB0 := JB.c0
  have JB1 := JB.c1
  have JB2 := JB.c2
  have JB3 := JB.c3
  have JBl := JB.lt
  have lb := B.size
  go_wp2
  go_ret
  first
    | exact ⟨rfl, B⟩
    | exact ⟨by simp [decide_eq_true (show ub n ≤ ub h by omega)], B⟩
theorem settles_walk (t z : Tn) (n : B64) (w : World) : Calls Try.prog 6 #[tv t, tv z, .int .u64 (ub n)] w fun e w' => e = .returned (.bool true) ∧ Below w.heap.size w w' := by
  cases ho : settle (t, z) with
  | none =>
    cases e1 : (t.1 &&& t.2 == 0#64)
    · exact settles_none1 t z n ho e1 w
    cases e2 : (n &&& ~~~t.2 == t.1)
    · exact settles_none2 t z n ho e1 e2 w
    by_cases e3 : ub z.1 ≤ ub n
    case neg => exact settles_none3 t z n ho e1 e2 e3 w
    by_cases e4 : ub n ≤ ub z.2
    case neg => exact settles_none4 t z n ho e1 e2 e3 e4 w
    refine absurd ((both_is t z n).1 ?_) (settle_no ho n)
    unfold bothB
    rw [e1, e2, decide_eq_true e3, decide_eq_true e4]
    rfl
  | some y =>
    cases hd : (y.1 == t)
    · cases e1 : (t.1 &&& t.2 == 0#64)
      · exact settles_t1 t z n y ho e1 hd w
      cases e2 : (n &&& ~~~t.2 == t.1)
      · exact settles_t2 t z n y ho e1 e2 hd w
      by_cases e3 : ub z.1 ≤ ub n
      case neg => exact settles_t3 t z n y ho e1 e2 e3 hd w
      by_cases e4 : ub n ≤ ub z.2
      case neg => exact settles_t4 t z n y ho e1 e2 e3 e4 hd w
      exact settles_t5 t z n y ho e1 e2 e3 e4 hd w
    cases hg : (y.2 == z)
    · cases e1 : (t.1 &&& t.2 == 0#64)
      · exact settles_s1 t z n y ho e1 hd hg w
      cases e2 : (n &&& ~~~t.2 == t.1)
      · exact settles_s2 t z n y ho e1 e2 hd hg w
      by_cases e3 : ub z.1 ≤ ub n
      case neg => exact settles_s3 t z n y ho e1 e2 e3 hd hg w
      by_cases e4 : ub n ≤ ub z.2
      case neg => exact settles_s4 t z n y ho e1 e2 e3 e4 hd hg w
      exact settles_s5 t z n y ho e1 e2 e3 e4 hd hg w
    cases e1 : (t.1 &&& t.2 == 0#64)
    · exact settles_b1 t z n y ho e1 hd hg w
    cases e2 : (n &&& ~~~t.2 == t.1)
    · exact settles_b2 t z n y ho e1 e2 hd hg w
    by_cases e3 : ub z.1 ≤ ub n
    case neg => exact settles_b3 t z n y ho e1 e2 e3 hd hg w
    by_cases e4 : ub n ≤ ub z.2
    case neg => exact settles_b4 t z n y ho e1 e2 e3 e4 hd hg w
    exact settles_b5 t z n y ho e1 e2 e3 e4 hd hg w
end Go.Proofs.Ytebilklcmakhnaa
