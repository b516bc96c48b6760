/-
  What one condition tells keeps two numbers (the laws' keeps).
-/
import Derived.Test.YtebilklcmakhnaaFScU
import Derived.Test.YtebilklcmakhnaaFScX
namespace Go.Proofs.Ytebilklcmakhnaa
set_option linter.unusedSimpArgs false
set_option linter.unusedVariables false
set_option maxRecDepth 100000
open Go.ChangeShapes Go.WideShapes Go.ChangeAt Go.RowKit

theorem neq_sc (x y : Sc) (W : World) : (binOp .neq 28 (sv x) (sv y)).run Try.prog W = .ok (.bool (!(x == y))) W := by
  obtain ⟨⟨a, b⟩, c, d⟩ := x
  obtain ⟨⟨a', b'⟩, c', d'⟩ := y
  unfold sv
  have e : (((a, b), c, d) == ((a', b'), c', d') : Bool) = (((a == a') && (b == b')) && ((c == c') && (d == d'))) := rfl
  rw [e]
  go_simp
  by_cases h1 : a = a' <;> by_cases h2 : b = b' <;> by_cases h3 : c = c' <;> by_cases h4 : d = d' <;> simp [h1, h2, h3, h4]
theorem hasX_iff (a : Sc) (n : B64) : hasX a n = true ↔ mayX a = true ∧ hasB a n := by
  unfold hasX hasB Lies
  rw [Bool.and_eq_true, Bool.and_eq_true, Bool.and_eq_true, decide_eq_true_eq, decide_eq_true_eq]
set_option maxHeartbeats 8000000 in
theorem keeps_A (op : Int) (c : Bool) (a b : Sc) (x y : B64) (k : Bool) (hr : (refT op c a b k).2.2 = false) (hc : Wd.isCond op = false) (w : World) : Calls Try.prog 17 #[sumV op c a b, .int .u64 (ub x), .int .u64 (ub y), .bool k] w fun e w' => e = .returned (.bool true) ∧ Below w.heap.size w w' := by
  have X1 := fun W => Wd.rcond_any op c (ub x) (ub y) W (ub_ge x) (ub_lt x) (ub_ge y) (ub_lt y)
  have X2 := fun W => cRefine_any op c a b k W
  rw [ref_zero hr] at X2
  rw [show Wd.condE op = 20 from if_neg (by rw [hc]; decide)] at X1
  have Q0 : ∀ W, (binOp .neq 28 (sv sc0) (.agg #[.int .u64 0, .int .u64 0, .int .u64 0, .int .u64 0])).run Try.prog W = .ok (.bool false) W := fun W => neq_sc sc0 sc0 W
  generalize sc0 = Z at *
  unfold tri at X2
  clear hc hr
  generalize Wd.condI op c (ub x) (ub y) = N at *
  unfold sv at X2 Q0
  unfold sumV
  try dsimp only at X2
  replace X1 := hid X1
  replace X2 := hid X2
  go_enter Try.func17, Try.ntmps17
  go_wp2_with fail
  have JM : SmC (w.alloc (.cells #[.int .i64 op, .bool c, .int .u64 (ub a.1.1), .int .u64 (ub a.1.2), .int .u64 (ub a.2.1), .int .u64 (ub a.2.2), .int .u64 (ub b.1.1), .int .u64 (ub b.1.2), .int .u64 (ub b.2.1), .int .u64 (ub b.2.2)] 30)) (w.heap.size) op c a b := (SmC.new rfl)
  have B : Below w.heap.size w (w.alloc (.cells #[.int .i64 op, .bool c, .int .u64 (ub a.1.1), .int .u64 (ub a.1.2), .int .u64 (ub a.2.1), .int .u64 (ub a.2.2), .int .u64 (ub b.1.1), .int .u64 (ub b.1.2), .int .u64 (ub b.2.1), .int .u64 (ub b.2.2)] 30)) := (bel_alloc (Below.refl _ _))
  generalize (w.alloc (.cells #[.int .i64 op, .bool c, .int .u64 (ub a.1.1), .int .u64 (ub a.1.2), .int .u64 (ub a.2.1), .int .u64 (ub a.2.2), .int .u64 (ub b.1.1), .int .u64 (ub b.1.2), .int .u64 (ub b.2.1), .int .u64 (ub b.2.2)] 30)) = w00 at *
  have JM0 := JM.c0
  have JM1 := JM.c1
  have JM2 := JM.c2
  have JM3 := JM.c3
  have JM4 := JM.c4
  have JM5 := JM.c5
  have JM6 := JM.c6
  have JM7 := JM.c7
  have JM8 := JM.c8
  have JM9 := JM.c9
  have JMl := JM.lt
  have lb := B.size
  go_wp2_with fail
  refine (X1.out _).mono ?_
  rintro e w_ ⟨rfl, rfl⟩
  clear JM0 JM1 JM2 JM3 JM4 JM5 JM6 JM7 JM8 JM9 JMl lb
  have JM0 := JM.c0
  have JM1 := JM.c1
  have JM2 := JM.c2
  have JM3 := JM.c3
  have JM4 := JM.c4
  have JM5 := JM.c5
  have JM6 := JM.c6
  have JM7 := JM.c7
  have JM8 := JM.c8
  have JM9 := JM.c9
  have JMl := JM.lt
  have lb := B.size
  go_wp2_with fail
  refine (X2.out _).mono ?_
  rintro e w1 ⟨rfl, z⟩
  clear JM0 JM1 JM2 JM3 JM4 JM5 JM6 JM7 JM8 JM9 JMl lb
  replace JM := JM.below z
  replace B := below_next B z
  clear z
  have JM0 := JM.c0
  have JM1 := JM.c1
  have JM2 := JM.c2
  have JM3 := JM.c3
  have JM4 := JM.c4
  have JM5 := JM.c5
  have JM6 := JM.c6
  have JM7 := JM.c7
  have JM8 := JM.c8
  have JM9 := JM.c9
  have JMl := JM.lt
  have lb := B.size
  go_wp2
  go_ret
  exact ⟨rfl, bel_alloc (bel_alloc B)⟩
set_option maxHeartbeats 8000000 in
theorem keeps_B (op : Int) (c : Bool) (a b : Sc) (x y : B64) (k : Bool) (hr : (refT op c a b k).2.2 = false) (hc : Wd.isCond op = true) (h1 : hasX a x = false) (w : World) : Calls Try.prog 17 #[sumV op c a b, .int .u64 (ub x), .int .u64 (ub y), .bool k] w fun e w' => e = .returned (.bool true) ∧ Below w.heap.size w w' := by
  have X1 := fun W => Wd.rcond_any op c (ub x) (ub y) W (ub_ge x) (ub_lt x) (ub_ge y) (ub_lt y)
  have X2 := fun W => cRefine_any op c a b k W
  rw [ref_zero hr] at X2
  rw [show Wd.condE op = 0 from if_pos hc] at X1
  have Q0 : ∀ W, (binOp .neq 28 (sv sc0) (.agg #[.int .u64 0, .int .u64 0, .int .u64 0, .int .u64 0])).run Try.prog W = .ok (.bool false) W := fun W => neq_sc sc0 sc0 W
  generalize sc0 = Z at *
  have X3 := fun W => cHas_any a x W
  rw [h1] at X3
  unfold tri at X2
  clear hc hr
  generalize Wd.condI op c (ub x) (ub y) = N at *
  clear h1
  unfold sv at X2 X3 Q0
  unfold sumV
  try dsimp only at X2 X3
  replace X1 := hid X1
  replace X2 := hid X2
  replace X3 := hid X3
  go_enter Try.func17, Try.ntmps17
  go_wp2_with fail
  have JM : SmC (w.alloc (.cells #[.int .i64 op, .bool c, .int .u64 (ub a.1.1), .int .u64 (ub a.1.2), .int .u64 (ub a.2.1), .int .u64 (ub a.2.2), .int .u64 (ub b.1.1), .int .u64 (ub b.1.2), .int .u64 (ub b.2.1), .int .u64 (ub b.2.2)] 30)) (w.heap.size) op c a b := (SmC.new rfl)
  have B : Below w.heap.size w (w.alloc (.cells #[.int .i64 op, .bool c, .int .u64 (ub a.1.1), .int .u64 (ub a.1.2), .int .u64 (ub a.2.1), .int .u64 (ub a.2.2), .int .u64 (ub b.1.1), .int .u64 (ub b.1.2), .int .u64 (ub b.2.1), .int .u64 (ub b.2.2)] 30)) := (bel_alloc (Below.refl _ _))
  generalize (w.alloc (.cells #[.int .i64 op, .bool c, .int .u64 (ub a.1.1), .int .u64 (ub a.1.2), .int .u64 (ub a.2.1), .int .u64 (ub a.2.2), .int .u64 (ub b.1.1), .int .u64 (ub b.1.2), .int .u64 (ub b.2.1), .int .u64 (ub b.2.2)] 30)) = w00 at *
  have JM0 := JM.c0
  have JM1 := JM.c1
  have JM2 := JM.c2
  have JM3 := JM.c3
  have JM4 := JM.c4
  have JM5 := JM.c5
  have JM6 := JM.c6
  have JM7 := JM.c7
  have JM8 := JM.c8
  have JM9 := JM.c9
  have JMl := JM.lt
  have lb := B.size
  go_wp2_with fail
  refine (X1.out _).mono ?_
  rintro e w_ ⟨rfl, rfl⟩
  clear JM0 JM1 JM2 JM3 JM4 JM5 JM6 JM7 JM8 JM9 JMl lb
  have JM0 := JM.c0
  have JM1 := JM.c1
  have JM2 := JM.c2
  have JM3 := JM.c3
  have JM4 := JM.c4
  have JM5 := JM.c5
  have JM6 := JM.c6
  have JM7 := JM.c7
  have JM8 := JM.c8
  have JM9 := JM.c9
  have JMl := JM.lt
  have lb := B.size
  go_wp2_with fail
  refine (X2.out _).mono ?_
  rintro e w1 ⟨rfl, z⟩
  clear JM0 JM1 JM2 JM3 JM4 JM5 JM6 JM7 JM8 JM9 JMl lb
  replace JM := JM.below z
  replace B := below_next B z
  clear z
  have JM0 := JM.c0
  have JM1 := JM.c1
  have JM2 := JM.c2
  have JM3 := JM.c3
  have JM4 := JM.c4
  have JM5 := JM.c5
  have JM6 := JM.c6
  have JM7 := JM.c7
  have JM8 := JM.c8
  have JM9 := JM.c9
  have JMl := JM.lt
  have lb := B.size
  go_wp2_with fail
  refine (X3.out _).mono ?_
  rintro e w2 ⟨rfl, z⟩
  clear JM0 JM1 JM2 JM3 JM4 JM5 JM6 JM7 JM8 JM9 JMl lb
  have g2JM : w.heap.size < w1.heap.size := JM.lt
  have g2B := B.size
  replace JM := ((JM.alloc _).alloc _).below z
  have JA : SC w2 (w1.heap.size) (Z) := ((SC.new rfl).alloc _).below z
  have JB : SC w2 (w1.heap.size + 1) (Z) := (SC.new (by simp)).below z
  replace B := below_next (bel_alloc (bel_alloc B)) z
  clear z
  have JM0 := JM.c0
  have JM1 := JM.c1
  have JM2 := JM.c2
  have JM3 := JM.c3
  have JM4 := JM.c4
  have JM5 := JM.c5
  have JM6 := JM.c6
  have JM7 := JM.c7
  have JM8 := JM.c8
  have JM9 := JM.c9
  have JMl := JM.lt
  have JA0 := JA.c0
  have JA1 := JA.c1
  have JA2 := JA.c2
  have JA3 := JA.c3
  have JAl := JA.lt
  have JB0 := JB.c0
  have JB1 := JB.c1
  have JB2 := JB.c2
  have JB3 := JB.c3
  have JBl := JB.lt
  have lb := B.size
  go_wp2
  go_ret
  exact ⟨rfl, B⟩
set_option maxHeartbeats 8000000 in
theorem keeps_C (op : Int) (c : Bool) (a b : Sc) (x y : B64) (k : Bool) (hr : (refT op c a b k).2.2 = false) (hc : Wd.isCond op = true) (h1 : hasX a x = true) (h2 : hasX b y = false) (w : World) : Calls Try.prog 17 #[sumV op c a b, .int .u64 (ub x), .int .u64 (ub y), .bool k] w fun e w' => e = .returned (.bool true) ∧ Below w.heap.size w w' := by
  have X1 := fun W => Wd.rcond_any op c (ub x) (ub y) W (ub_ge x) (ub_lt x) (ub_ge y) (ub_lt y)
  have X2 := fun W => cRefine_any op c a b k W
  rw [ref_zero hr] at X2
  rw [show Wd.condE op = 0 from if_pos hc] at X1
  have Q0 : ∀ W, (binOp .neq 28 (sv sc0) (.agg #[.int .u64 0, .int .u64 0, .int .u64 0, .int .u64 0])).run Try.prog W = .ok (.bool false) W := fun W => neq_sc sc0 sc0 W
  generalize sc0 = Z at *
  have X3 := fun W => cHas_any a x W
  rw [h1] at X3
  have X4 := fun W => cHas_any b y W
  rw [h2] at X4
  unfold tri at X2
  clear hc hr
  generalize Wd.condI op c (ub x) (ub y) = N at *
  clear h1 h2
  unfold sv at X2 X3 X4 Q0
  unfold sumV
  try dsimp only at X2 X3 X4
  replace X1 := hid X1
  replace X2 := hid X2
  replace X3 := hid X3
  replace X4 := hid X4
  go_enter Try.func17, Try.ntmps17
  go_wp2_with fail
  have JM : SmC (w.alloc (.cells #[.int .i64 op, .bool c, .int .u64 (ub a.1.1), .int .u64 (ub a.1.2), .int .u64 (ub a.2.1), .int .u64 (ub a.2.2), .int .u64 (ub b.1.1), .int .u64 (ub b.1.2), .int .u64 (ub b.2.1), .int .u64 (ub b.2.2)] 30)) (w.heap.size) op c a b := (SmC.new rfl)
  have B : Below w.heap.size w (w.alloc (.cells #[.int .i64 op, .bool c, .int .u64 (ub a.1.1), .int .u64 (ub a.1.2), .int .u64 (ub a.2.1), .int .u64 (ub a.2.2), .int .u64 (ub b.1.1), .int .u64 (ub b.1.2), .int .u64 (ub b.2.1), .int .u64 (ub b.2.2)] 30)) := (bel_alloc (Below.refl _ _))
  generalize (w.alloc (.cells #[.int .i64 op, .bool c, .int .u64 (ub a.1.1), .int .u64 (ub a.1.2), .int .u64 (ub a.2.1), .int .u64 (ub a.2.2), .int .u64 (ub b.1.1), .int .u64 (ub b.1.2), .int .u64 (ub b.2.1), .int .u64 (ub b.2.2)] 30)) = w00 at *
  have JM0 := JM.c0
  have JM1 := JM.c1
  have JM2 := JM.c2
  have JM3 := JM.c3
  have JM4 := JM.c4
  have JM5 := JM.c5
  have JM6 := JM.c6
  have JM7 := JM.c7
  have JM8 := JM.c8
  have JM9 := JM.c9
  have JMl := JM.lt
  have lb := B.size
  go_wp2_with fail
  refine (X1.out _).mono ?_
  rintro e w_ ⟨rfl, rfl⟩
  clear JM0 JM1 JM2 JM3 JM4 JM5 JM6 JM7 JM8 JM9 JMl lb
  have JM0 := JM.c0
  have JM1 := JM.c1
  have JM2 := JM.c2
  have JM3 := JM.c3
  have JM4 := JM.c4
  have JM5 := JM.c5
  have JM6 := JM.c6
  have JM7 := JM.c7
  have JM8 := JM.c8
  have JM9 := JM.c9
  have JMl := JM.lt
  have lb := B.size
  go_wp2_with fail
  refine (X2.out _).mono ?_
  rintro e w1 ⟨rfl, z⟩
  clear JM0 JM1 JM2 JM3 JM4 JM5 JM6 JM7 JM8 JM9 JMl lb
  replace JM := JM.below z
  replace B := below_next B z
  clear z
  have JM0 := JM.c0
  have JM1 := JM.c1
  have JM2 := JM.c2
  have JM3 := JM.c3
  have JM4 := JM.c4
  have JM5 := JM.c5
  have JM6 := JM.c6
  have JM7 := JM.c7
  have JM8 := JM.c8
  have JM9 := JM.c9
  have JMl := JM.lt
  have lb := B.size
  go_wp2_with fail
  refine (X3.out _).mono ?_
  rintro e w2 ⟨rfl, z⟩
  clear JM0 JM1 JM2 JM3 JM4 JM5 JM6 JM7 JM8 JM9 JMl lb
  have g2JM : w.heap.size < w1.heap.size := JM.lt
  have g2B := B.size
  replace JM := ((JM.alloc _).alloc _).below z
  have JA : SC w2 (w1.heap.size) (Z) := ((SC.new rfl).alloc _).below z
  have JB : SC w2 (w1.heap.size + 1) (Z) := (SC.new (by simp)).below z
  replace B := below_next (bel_alloc (bel_alloc B)) z
  clear z
  have JM0 := JM.c0
  have JM1 := JM.c1
  have JM2 := JM.c2
  have JM3 := JM.c3
  have JM4 := JM.c4
  have JM5 := JM.c5
  have JM6 := JM.c6
  have JM7 := JM.c7
  have JM8 := JM.c8
  have JM9 := JM.c9
  have JMl := JM.lt
  have JA0 := JA.c0
  have JA1 := JA.c1
  have JA2 := JA.c2
  have JA3 := JA.c3
  have JAl := JA.lt
  have JB0 := JB.c0
  have JB1 := JB.c1
  have JB2 := JB.c2
  have JB3 := JB.c3
  have JBl := JB.lt
  have lb := B.size
  go_wp2_with fail
  refine (X4.out _).mono ?_
  rintro e w3 ⟨rfl, z⟩
  clear JM0 JM1 JM2 JM3 JM4 JM5 JM6 JM7 JM8 JM9 JMl JA0 JA1 JA2 JA3 JAl JB0 JB1 JB2 JB3 JBl lb
  replace JM := JM.below z
  replace JA := JA.below z
  replace JB := JB.below z
  replace B := below_next B z
  clear z
  have JM0 := JM.c0
  have JM1 := JM.c1
  have JM2 := JM.c2
  have JM3 := JM.c3
  have JM4 := JM.c4
  have JM5 := JM.c5
  have JM6 := JM.c6
  have JM7 := JM.c7
  have JM8 := JM.c8
  have JM9 := JM.c9
  have JMl := JM.lt
  have JA0 := JA.c0
  have JA1 := JA.c1
  have JA2 := JA.c2
  have JA3 := JA.c3
  have JAl := JA.lt
  have JB0 := JB.c0
  have JB1 := JB.c1
  have JB2 := JB.c2
  have JB3 := JB.c3
  have JBl := JB.lt
  have lb := B.size
  go_wp2
  go_ret
  exact ⟨rfl, B⟩
set_option maxHeartbeats 8000000 in
theorem keeps_D (op : Int) (c : Bool) (a b : Sc) (x y : B64) (k : Bool) (hr : (refT op c a b k).2.2 = false) (hc : Wd.isCond op = true) (h1 : hasX a x = true) (h2 : hasX b y = true) (hN : (Wd.condI op c (ub x) (ub y) == k) = false) (w : World) : Calls Try.prog 17 #[sumV op c a b, .int .u64 (ub x), .int .u64 (ub y), .bool k] w fun e w' => e = .returned (.bool true) ∧ Below w.heap.size w w' := by
  have X1 := fun W => Wd.rcond_any op c (ub x) (ub y) W (ub_ge x) (ub_lt x) (ub_ge y) (ub_lt y)
  have X2 := fun W => cRefine_any op c a b k W
  rw [ref_zero hr] at X2
  rw [show Wd.condE op = 0 from if_pos hc] at X1
  have Q0 : ∀ W, (binOp .neq 28 (sv sc0) (.agg #[.int .u64 0, .int .u64 0, .int .u64 0, .int .u64 0])).run Try.prog W = .ok (.bool false) W := fun W => neq_sc sc0 sc0 W
  generalize sc0 = Z at *
  have X3 := fun W => cHas_any a x W
  rw [h1] at X3
  have X4 := fun W => cHas_any b y W
  rw [h2] at X4
  unfold tri at X2
  clear hc hr
  generalize Wd.condI op c (ub x) (ub y) = N at *
  clear h1 h2
  unfold sv at X2 X3 X4 Q0
  unfold sumV
  try dsimp only at X2 X3 X4
  replace X1 := hid X1
  replace X2 := hid X2
  replace X3 := hid X3
  replace X4 := hid X4
  go_enter Try.func17, Try.ntmps17
  go_wp2_with fail
  have JM : SmC (w.alloc (.cells #[.int .i64 op, .bool c, .int .u64 (ub a.1.1), .int .u64 (ub a.1.2), .int .u64 (ub a.2.1), .int .u64 (ub a.2.2), .int .u64 (ub b.1.1), .int .u64 (ub b.1.2), .int .u64 (ub b.2.1), .int .u64 (ub b.2.2)] 30)) (w.heap.size) op c a b := (SmC.new rfl)
  have B : Below w.heap.size w (w.alloc (.cells #[.int .i64 op, .bool c, .int .u64 (ub a.1.1), .int .u64 (ub a.1.2), .int .u64 (ub a.2.1), .int .u64 (ub a.2.2), .int .u64 (ub b.1.1), .int .u64 (ub b.1.2), .int .u64 (ub b.2.1), .int .u64 (ub b.2.2)] 30)) := (bel_alloc (Below.refl _ _))
  generalize (w.alloc (.cells #[.int .i64 op, .bool c, .int .u64 (ub a.1.1), .int .u64 (ub a.1.2), .int .u64 (ub a.2.1), .int .u64 (ub a.2.2), .int .u64 (ub b.1.1), .int .u64 (ub b.1.2), .int .u64 (ub b.2.1), .int .u64 (ub b.2.2)] 30)) = w00 at *
  have JM0 := JM.c0
  have JM1 := JM.c1
  have JM2 := JM.c2
  have JM3 := JM.c3
  have JM4 := JM.c4
  have JM5 := JM.c5
  have JM6 := JM.c6
  have JM7 := JM.c7
  have JM8 := JM.c8
  have JM9 := JM.c9
  have JMl := JM.lt
  have lb := B.size
  go_wp2_with fail
  refine (X1.out _).mono ?_
  rintro e w_ ⟨rfl, rfl⟩
  clear JM0 JM1 JM2 JM3 JM4 JM5 JM6 JM7 JM8 JM9 JMl lb
  have JM0 := JM.c0
  have JM1 := JM.c1
  have JM2 := JM.c2
  have JM3 := JM.c3
  have JM4 := JM.c4
  have JM5 := JM.c5
  have JM6 := JM.c6
  have JM7 := JM.c7
  have JM8 := JM.c8
  have JM9 := JM.c9
  have JMl := JM.lt
  have lb := B.size
  go_wp2_with fail
  refine (X2.out _).mono ?_
  rintro e w1 ⟨rfl, z⟩
  clear JM0 JM1 JM2 JM3 JM4 JM5 JM6 JM7 JM8 JM9 JMl lb
  replace JM := JM.below z
  replace B := below_next B z
  clear z
  have JM0 := JM.c0
  have JM1 := JM.c1
  have JM2 := JM.c2
  have JM3 := JM.c3
  have JM4 := JM.c4
  have JM5 := JM.c5
  have JM6 := JM.c6
  have JM7 := JM.c7
  have JM8 := JM.c8
  have JM9 := JM.c9
  have JMl := JM.lt
  have lb := B.size
  go_wp2_with fail
  refine (X3.out _).mono ?_
  rintro e w2 ⟨rfl, z⟩
  clear JM0 JM1 JM2 JM3 JM4 JM5 JM6 JM7 JM8 JM9 JMl lb
  have g2JM : w.heap.size < w1.heap.size := JM.lt
  have g2B := B.size
  replace JM := ((JM.alloc _).alloc _).below z
  have JA : SC w2 (w1.heap.size) (Z) := ((SC.new rfl).alloc _).below z
  have JB : SC w2 (w1.heap.size + 1) (Z) := (SC.new (by simp)).below z
  replace B := below_next (bel_alloc (bel_alloc B)) z
  clear z
  have JM0 := JM.c0
  have JM1 := JM.c1
  have JM2 := JM.c2
  have JM3 := JM.c3
  have JM4 := JM.c4
  have JM5 := JM.c5
  have JM6 := JM.c6
  have JM7 := JM.c7
  have JM8 := JM.c8
  have JM9 := JM.c9
  have JMl := JM.lt
  have JA0 := JA.c0
  have JA1 := JA.c1
  have JA2 := JA.c2
  have JA3 := JA.c3
  have JAl := JA.lt
  have JB0 := JB.c0
  have JB1 := JB.c1
  have JB2 := JB.c2
  have JB3 := JB.c3
  have JBl := JB.lt
  have lb := B.size
  go_wp2_with fail
  refine (X4.out _).mono ?_
  rintro e w3 ⟨rfl, z⟩
  clear JM0 JM1 JM2 JM3 JM4 JM5 JM6 JM7 JM8 JM9 JMl JA0 JA1 JA2 JA3 JAl JB0 JB1 JB2 JB3 JBl lb
  replace JM := JM.below z
  replace JA := JA.below z
  replace JB := JB.below z
  replace B := below_next B z
  clear z
  have JM0 := JM.c0
  have JM1 := JM.c1
  have JM2 := JM.c2
  have JM3 := JM.c3
  have JM4 := JM.c4
  have JM5 := JM.c5
  have JM6 := JM.c6
  have JM7 := JM.c7
  have JM8 := JM.c8
  have JM9 := JM.c9
  have JMl := JM.lt
  have JA0 := JA.c0
  have JA1 := JA.c1
  have JA2 := JA.c2
  have JA3 := JA.c3
  have JAl := JA.lt
  have JB0 := JB.c0
  have JB1 := JB.c1
  have JB2 := JB.c2
  have JB3 := JB.c3
  have JBl := JB.lt
  have lb := B.size
  go_wp2
  go_ret
  exact ⟨rfl, B⟩
set_option maxHeartbeats 8000000 in
theorem keeps_E (op : Int) (c : Bool) (a b : Sc) (x y : B64) (k : Bool) (hr : (refT op c a b k).2.2 = true) (h1 : hasX a x = false) (w : World) : Calls Try.prog 17 #[sumV op c a b, .int .u64 (ub x), .int .u64 (ub y), .bool k] w fun e w' => e = .returned (.bool true) ∧ Below w.heap.size w w' := by
  have X1 := fun W => Wd.rcond_any op c (ub x) (ub y) W (ub_ge x) (ub_lt x) (ub_ge y) (ub_lt y)
  have X2 := fun W => cRefine_any op c a b k W
  obtain ⟨hc, ha, hb, L⟩ := ref_less hr
  rw [show Wd.condE op = 0 from if_pos hc] at X1
  have X3 := fun W => cHas_any a x W
  rw [h1] at X3
  unfold tri at X2
  rw [hr] at X2
  generalize refT op c a b k = R at *
  clear hc ha hb L hr
  generalize Wd.condI op c (ub x) (ub y) = N at *
  clear h1
  unfold sv at X2 X3
  unfold sumV
  try dsimp only at X2 X3
  replace X1 := hid X1
  replace X2 := hid X2
  replace X3 := hid X3
  go_enter Try.func17, Try.ntmps17
  go_wp2_with fail
  have JM : SmC (w.alloc (.cells #[.int .i64 op, .bool c, .int .u64 (ub a.1.1), .int .u64 (ub a.1.2), .int .u64 (ub a.2.1), .int .u64 (ub a.2.2), .int .u64 (ub b.1.1), .int .u64 (ub b.1.2), .int .u64 (ub b.2.1), .int .u64 (ub b.2.2)] 30)) (w.heap.size) op c a b := (SmC.new rfl)
  have B : Below w.heap.size w (w.alloc (.cells #[.int .i64 op, .bool c, .int .u64 (ub a.1.1), .int .u64 (ub a.1.2), .int .u64 (ub a.2.1), .int .u64 (ub a.2.2), .int .u64 (ub b.1.1), .int .u64 (ub b.1.2), .int .u64 (ub b.2.1), .int .u64 (ub b.2.2)] 30)) := (bel_alloc (Below.refl _ _))
  generalize (w.alloc (.cells #[.int .i64 op, .bool c, .int .u64 (ub a.1.1), .int .u64 (ub a.1.2), .int .u64 (ub a.2.1), .int .u64 (ub a.2.2), .int .u64 (ub b.1.1), .int .u64 (ub b.1.2), .int .u64 (ub b.2.1), .int .u64 (ub b.2.2)] 30)) = w00 at *
  have JM0 := JM.c0
  have JM1 := JM.c1
  have JM2 := JM.c2
  have JM3 := JM.c3
  have JM4 := JM.c4
  have JM5 := JM.c5
  have JM6 := JM.c6
  have JM7 := JM.c7
  have JM8 := JM.c8
  have JM9 := JM.c9
  have JMl := JM.lt
  have lb := B.size
  go_wp2_with fail
  refine (X1.out _).mono ?_
  rintro e w_ ⟨rfl, rfl⟩
  clear JM0 JM1 JM2 JM3 JM4 JM5 JM6 JM7 JM8 JM9 JMl lb
  have JM0 := JM.c0
  have JM1 := JM.c1
  have JM2 := JM.c2
  have JM3 := JM.c3
  have JM4 := JM.c4
  have JM5 := JM.c5
  have JM6 := JM.c6
  have JM7 := JM.c7
  have JM8 := JM.c8
  have JM9 := JM.c9
  have JMl := JM.lt
  have lb := B.size
  go_wp2_with fail
  refine (X2.out _).mono ?_
  rintro e w1 ⟨rfl, z⟩
  clear JM0 JM1 JM2 JM3 JM4 JM5 JM6 JM7 JM8 JM9 JMl lb
  replace JM := JM.below z
  replace B := below_next B z
  clear z
  have JM0 := JM.c0
  have JM1 := JM.c1
  have JM2 := JM.c2
  have JM3 := JM.c3
  have JM4 := JM.c4
  have JM5 := JM.c5
  have JM6 := JM.c6
  have JM7 := JM.c7
  have JM8 := JM.c8
  have JM9 := JM.c9
  have JMl := JM.lt
  have lb := B.size
  go_wp2_with fail
  refine (X3.out _).mono ?_
  rintro e w2 ⟨rfl, z⟩
  clear JM0 JM1 JM2 JM3 JM4 JM5 JM6 JM7 JM8 JM9 JMl lb
  have g2JM : w.heap.size < w1.heap.size := JM.lt
  have g2B := B.size
  replace JM := ((JM.alloc _).alloc _).below z
  have JA : SC w2 (w1.heap.size) (R.1) := ((SC.new rfl).alloc _).below z
  have JB : SC w2 (w1.heap.size + 1) (R.2.1) := (SC.new (by simp)).below z
  replace B := below_next (bel_alloc (bel_alloc B)) z
  clear z
  have JM0 := JM.c0
  have JM1 := JM.c1
  have JM2 := JM.c2
  have JM3 := JM.c3
  have JM4 := JM.c4
  have JM5 := JM.c5
  have JM6 := JM.c6
  have JM7 := JM.c7
  have JM8 := JM.c8
  have JM9 := JM.c9
  have JMl := JM.lt
  have JA0 := JA.c0
  have JA1 := JA.c1
  have JA2 := JA.c2
  have JA3 := JA.c3
  have JAl := JA.lt
  have JB0 := JB.c0
  have JB1 := JB.c1
  have JB2 := JB.c2
  have JB3 := JB.c3
  have JBl := JB.lt
  have lb := B.size
  go_wp2
  go_ret
  exact ⟨rfl, B⟩
set_option maxHeartbeats 8000000 in
theorem keeps_F (op : Int) (c : Bool) (a b : Sc) (x y : B64) (k : Bool) (hr : (refT op c a b k).2.2 = true) (h1 : hasX a x = true) (h2 : hasX b y = false) (w : World) : Calls Try.prog 17 #[sumV op c a b, .int .u64 (ub x), .int .u64 (ub y), .bool k] w fun e w' => e = .returned (.bool true) ∧ Below w.heap.size w w' := by
  have X1 := fun W => Wd.rcond_any op c (ub x) (ub y) W (ub_ge x) (ub_lt x) (ub_ge y) (ub_lt y)
  have X2 := fun W => cRefine_any op c a b k W
  obtain ⟨hc, ha, hb, L⟩ := ref_less hr
  rw [show Wd.condE op = 0 from if_pos hc] at X1
  have X3 := fun W => cHas_any a x W
  rw [h1] at X3
  have X4 := fun W => cHas_any b y W
  rw [h2] at X4
  unfold tri at X2
  rw [hr] at X2
  generalize refT op c a b k = R at *
  clear hc ha hb L hr
  generalize Wd.condI op c (ub x) (ub y) = N at *
  clear h1 h2
  unfold sv at X2 X3 X4
  unfold sumV
  try dsimp only at X2 X3 X4
  replace X1 := hid X1
  replace X2 := hid X2
  replace X3 := hid X3
  replace X4 := hid X4
  go_enter Try.func17, Try.ntmps17
  go_wp2_with fail
  have JM : SmC (w.alloc (.cells #[.int .i64 op, .bool c, .int .u64 (ub a.1.1), .int .u64 (ub a.1.2), .int .u64 (ub a.2.1), .int .u64 (ub a.2.2), .int .u64 (ub b.1.1), .int .u64 (ub b.1.2), .int .u64 (ub b.2.1), .int .u64 (ub b.2.2)] 30)) (w.heap.size) op c a b := (SmC.new rfl)
  have B : Below w.heap.size w (w.alloc (.cells #[.int .i64 op, .bool c, .int .u64 (ub a.1.1), .int .u64 (ub a.1.2), .int .u64 (ub a.2.1), .int .u64 (ub a.2.2), .int .u64 (ub b.1.1), .int .u64 (ub b.1.2), .int .u64 (ub b.2.1), .int .u64 (ub b.2.2)] 30)) := (bel_alloc (Below.refl _ _))
  generalize (w.alloc (.cells #[.int .i64 op, .bool c, .int .u64 (ub a.1.1), .int .u64 (ub a.1.2), .int .u64 (ub a.2.1), .int .u64 (ub a.2.2), .int .u64 (ub b.1.1), .int .u64 (ub b.1.2), .int .u64 (ub b.2.1), .int .u64 (ub b.2.2)] 30)) = w00 at *
  have JM0 := JM.c0
  have JM1 := JM.c1
  have JM2 := JM.c2
  have JM3 := JM.c3
  have JM4 := JM.c4
  have JM5 := JM.c5
  have JM6 := JM.c6
  have JM7 := JM.c7
  have JM8 := JM.c8
  have JM9 := JM.c9
  have JMl := JM.lt
  have lb := B.size
  go_wp2_with fail
  refine (X1.out _).mono ?_
  rintro e w_ ⟨rfl, rfl⟩
  clear JM0 JM1 JM2 JM3 JM4 JM5 JM6 JM7 JM8 JM9 JMl lb
  have JM0 := JM.c0
  have JM1 := JM.c1
  have JM2 := JM.c2
  have JM3 := JM.c3
  have JM4 := JM.c4
  have JM5 := JM.c5
  have JM6 := JM.c6
  have JM7 := JM.c7
  have JM8 := JM.c8
  have JM9 := JM.c9
  have JMl := JM.lt
  have lb := B.size
  go_wp2_with fail
  refine (X2.out _).mono ?_
  rintro e w1 ⟨rfl, z⟩
  clear JM0 JM1 JM2 JM3 JM4 JM5 JM6 JM7 JM8 JM9 JMl lb
  replace JM := JM.below z
  replace B := below_next B z
  clear z
  have JM0 := JM.c0
  have JM1 := JM.c1
  have JM2 := JM.c2
  have JM3 := JM.c3
  have JM4 := JM.c4
  have JM5 := JM.c5
  have JM6 := JM.c6
  have JM7 := JM.c7
  have JM8 := JM.c8
  have JM9 := JM.c9
  have JMl := JM.lt
  have lb := B.size
  go_wp2_with fail
  refine (X3.out _).mono ?_
  rintro e w2 ⟨rfl, z⟩
  clear JM0 JM1 JM2 JM3 JM4 JM5 JM6 JM7 JM8 JM9 JMl lb
  have g2JM : w.heap.size < w1.heap.size := JM.lt
  have g2B := B.size
  replace JM := ((JM.alloc _).alloc _).below z
  have JA : SC w2 (w1.heap.size) (R.1) := ((SC.new rfl).alloc _).below z
  have JB : SC w2 (w1.heap.size + 1) (R.2.1) := (SC.new (by simp)).below z
  replace B := below_next (bel_alloc (bel_alloc B)) z
  clear z
  have JM0 := JM.c0
  have JM1 := JM.c1
  have JM2 := JM.c2
  have JM3 := JM.c3
  have JM4 := JM.c4
  have JM5 := JM.c5
  have JM6 := JM.c6
  have JM7 := JM.c7
  have JM8 := JM.c8
  have JM9 := JM.c9
  have JMl := JM.lt
  have JA0 := JA.c0
  have JA1 := JA.c1
  have JA2 := JA.c2
  have JA3 := JA.c3
  have JAl := JA.lt
  have JB0 := JB.c0
  have JB1 := JB.c1
  have JB2 := JB.c2
  have JB3 := JB.c3
  have JBl := JB.lt
  have lb := B.size
  go_wp2_with fail
  refine (X4.out _).mono ?_
  rintro e w3 ⟨rfl, z⟩
  clear JM0 JM1 JM2 JM3 JM4 JM5 JM6 JM7 JM8 JM9 JMl JA0 JA1 JA2 JA3 JAl JB0 JB1 JB2 JB3 JBl lb
  replace JM := JM.below z
  replace JA := JA.below z
  replace JB := JB.below z
  replace B := below_next B z
  clear z
  have JM0 := JM.c0
  have JM1 := JM.c1
  have JM2 := JM.c2
  have JM3 := JM.c3
  have JM4 := JM.c4
  have JM5 := JM.c5
  have JM6 := JM.c6
  have JM7 := JM.c7
  have JM8 := JM.c8
  have JM9 := JM.c9
  have JMl := JM.lt
  have JA0 := JA.c0
  have JA1 := JA.c1
  have JA2 := JA.c2
  have JA3 := JA.c3
  have JAl := JA.lt
  have JB0 := JB.c0
  have JB1 := JB.c1
  have JB2 := JB.c2
  have JB3 := JB.c3
  have JBl := JB.lt
  have lb := B.size
  go_wp2
  go_ret
  exact ⟨rfl, B⟩
set_option maxHeartbeats 8000000 in
theorem keeps_G (op : Int) (c : Bool) (a b : Sc) (x y : B64) (k : Bool) (hr : (refT op c a b k).2.2 = true) (h1 : hasX a x = true) (h2 : hasX b y = true) (hN : (Wd.condI op c (ub x) (ub y) == k) = true) (w : World) : Calls Try.prog 17 #[sumV op c a b, .int .u64 (ub x), .int .u64 (ub y), .bool k] w fun e w' => e = .returned (.bool true) ∧ Below w.heap.size w w' := by
  have X1 := fun W => Wd.rcond_any op c (ub x) (ub y) W (ub_ge x) (ub_lt x) (ub_ge y) (ub_lt y)
  have X2 := fun W => cRefine_any op c a b k W
  obtain ⟨hc, ha, hb, L⟩ := ref_less hr
  rw [show Wd.condE op = 0 from if_pos hc] at X1
  have X3 := fun W => cHas_any a x W
  rw [h1] at X3
  have X4 := fun W => cHas_any b y W
  rw [h2] at X4
  have X7 := fun W => cIn_any (refT op c a b k).1 a W
  rw [inX_of L.mx ha L.lx] at X7
  have X8 := fun W => cIn_any (refT op c a b k).2.1 b W
  rw [inX_of L.my hb L.ly] at X8
  have KK := ref_keeps hc c ha hb ((hasX_iff a x).1 h1).2 ((hasX_iff b y).1 h2).2 k (beq_iff_eq.1 hN)
  have X5 := fun W => cHas_any (refT op c a b k).1 x W
  rw [(hasX_iff _ _).2 ⟨L.mx, KK.hx⟩] at X5
  have X6 := fun W => cHas_any (refT op c a b k).2.1 y W
  rw [(hasX_iff _ _).2 ⟨L.my, KK.hy⟩] at X6
  clear KK
  unfold tri at X2
  rw [hr] at X2
  generalize refT op c a b k = R at *
  clear hc ha hb L hr
  generalize Wd.condI op c (ub x) (ub y) = N at *
  clear h1 h2
  unfold sv at X2 X3 X4 X7 X8 X5 X6
  unfold sumV
  try dsimp only at X2 X3 X4 X7 X8 X5 X6
  replace X1 := hid X1
  replace X2 := hid X2
  replace X3 := hid X3
  replace X4 := hid X4
  replace X7 := hid X7
  replace X8 := hid X8
  replace X5 := hid X5
  replace X6 := hid X6
  go_enter Try.func17, Try.ntmps17
  go_wp2_with fail
  have JM : SmC (w.alloc (.cells #[.int .i64 op, .bool c, .int .u64 (ub a.1.1), .int .u64 (ub a.1.2), .int .u64 (ub a.2.1), .int .u64 (ub a.2.2), .int .u64 (ub b.1.1), .int .u64 (ub b.1.2), .int .u64 (ub b.2.1), .int .u64 (ub b.2.2)] 30)) (w.heap.size) op c a b := (SmC.new rfl)
  have B : Below w.heap.size w (w.alloc (.cells #[.int .i64 op, .bool c, .int .u64 (ub a.1.1), .int .u64 (ub a.1.2), .int .u64 (ub a.2.1), .int .u64 (ub a.2.2), .int .u64 (ub b.1.1), .int .u64 (ub b.1.2), .int .u64 (ub b.2.1), .int .u64 (ub b.2.2)] 30)) := (bel_alloc (Below.refl _ _))
  generalize (w.alloc (.cells #[.int .i64 op, .bool c, .int .u64 (ub a.1.1), .int .u64 (ub a.1.2), .int .u64 (ub a.2.1), .int .u64 (ub a.2.2), .int .u64 (ub b.1.1), .int .u64 (ub b.1.2), .int .u64 (ub b.2.1), .int .u64 (ub b.2.2)] 30)) = w00 at *
  have JM0 := JM.c0
  have JM1 := JM.c1
  have JM2 := JM.c2
  have JM3 := JM.c3
  have JM4 := JM.c4
  have JM5 := JM.c5
  have JM6 := JM.c6
  have JM7 := JM.c7
  have JM8 := JM.c8
  have JM9 := JM.c9
  have JMl := JM.lt
  have lb := B.size
  go_wp2_with fail
  refine (X1.out _).mono ?_
  rintro e w_ ⟨rfl, rfl⟩
  clear JM0 JM1 JM2 JM3 JM4 JM5 JM6 JM7 JM8 JM9 JMl lb
  have JM0 := JM.c0
  have JM1 := JM.c1
  have JM2 := JM.c2
  have JM3 := JM.c3
  have JM4 := JM.c4
  have JM5 := JM.c5
  have JM6 := JM.c6
  have JM7 := JM.c7
  have JM8 := JM.c8
  have JM9 := JM.c9
  have JMl := JM.lt
  have lb := B.size
  go_wp2_with fail
  refine (X2.out _).mono ?_
  rintro e w1 ⟨rfl, z⟩
  clear JM0 JM1 JM2 JM3 JM4 JM5 JM6 JM7 JM8 JM9 JMl lb
  replace JM := JM.below z
  replace B := below_next B z
  clear z
  have JM0 := JM.c0
  have JM1 := JM.c1
  have JM2 := JM.c2
  have JM3 := JM.c3
  have JM4 := JM.c4
  have JM5 := JM.c5
  have JM6 := JM.c6
  have JM7 := JM.c7
  have JM8 := JM.c8
  have JM9 := JM.c9
  have JMl := JM.lt
  have lb := B.size
  go_wp2_with fail
  refine (X3.out _).mono ?_
  rintro e w2 ⟨rfl, z⟩
  clear JM0 JM1 JM2 JM3 JM4 JM5 JM6 JM7 JM8 JM9 JMl lb
  have g2JM : w.heap.size < w1.heap.size := JM.lt
  have g2B := B.size
  replace JM := ((JM.alloc _).alloc _).below z
  have JA : SC w2 (w1.heap.size) (R.1) := ((SC.new rfl).alloc _).below z
  have JB : SC w2 (w1.heap.size + 1) (R.2.1) := (SC.new (by simp)).below z
  replace B := below_next (bel_alloc (bel_alloc B)) z
  clear z
  have JM0 := JM.c0
  have JM1 := JM.c1
  have JM2 := JM.c2
  have JM3 := JM.c3
  have JM4 := JM.c4
  have JM5 := JM.c5
  have JM6 := JM.c6
  have JM7 := JM.c7
  have JM8 := JM.c8
  have JM9 := JM.c9
  have JMl := JM.lt
  have JA0 := JA.c0
  have JA1 := JA.c1
  have JA2 := JA.c2
  have JA3 := JA.c3
  have JAl := JA.lt
  have JB0 := JB.c0
  have JB1 := JB.c1
  have JB2 := JB.c2
  have JB3 := JB.c3
  have JBl := JB.lt
  have lb := B.size
  go_wp2_with fail
  refine (X4.out _).mono ?_
  rintro e w3 ⟨rfl, z⟩
  clear JM0 JM1 JM2 JM3 JM4 JM5 JM6 JM7 JM8 JM9 JMl JA0 JA1 JA2 JA3 JAl JB0 JB1 JB2 JB3 JBl lb
  replace JM := JM.below z
  replace JA := JA.below z
  replace JB := JB.below z
  replace B := below_next B z
  clear z
  have JM0 := JM.c0
  have JM1 := JM.c1
  have JM2 := JM.c2
  have JM3 := JM.c3
  have JM4 := JM.c4
  have JM5 := JM.c5
  have JM6 := JM.c6
  have JM7 := JM.c7
  have JM8 := JM.c8
  have JM9 := JM.c9
  have JMl := JM.lt
  have JA0 := JA.c0
  have JA1 := JA.c1
  have JA2 := JA.c2
  have JA3 := JA.c3
  have JAl := JA.lt
  have JB0 := JB.c0
  have JB1 := JB.c1
  have JB2 := JB.c2
  have JB3 := JB.c3
  have JBl := JB.lt
  have lb := B.size
  go_wp2_with fail
  refine (X5.out _).mono ?_
  rintro e w4 ⟨rfl, z⟩
  clear JM0 JM1 JM2 JM3 JM4 JM5 JM6 JM7 JM8 JM9 JMl JA0 JA1 JA2 JA3 JAl JB0 JB1 JB2 JB3 JBl lb
  replace JM := JM.below z
  replace JA := JA.below z
  replace JB := JB.below z
  replace B := below_next B z
  clear z
  have JM0 := JM.c0
  have JM1 := JM.c1
  have JM2 := JM.c2
  have JM3 := JM.c3
  have JM4 := JM.c4
  have JM5 := JM.c5
  have JM6 := JM.c6
  have JM7 := JM.c7
  have JM8 := JM.c8
  have JM9 := JM.c9
  have JMl := JM.lt
  have JA0 := JA.c0
  have JA1 := JA.c1
  have JA2 := JA.c2
  have JA3 := JA.c3
  have JAl := JA.lt
  have JB0 := JB.c0
  have JB1 := JB.c1
  have JB2 := JB.c2
  have JB3 := JB.c3
  have JBl := JB.lt
  have lb := B.size
  go_wp2_with fail
  refine (X6.out _).mono ?_
  rintro e w5 ⟨rfl, z⟩
  clear JM0 JM1 JM2 JM3 JM4 JM5 JM6 JM7 JM8 JM9 JMl JA0 JA1 JA2 JA3 JAl JB0 JB1 JB2 JB3 JBl lb
  replace JM := JM.below z
  replace JA := JA.below z
  replace JB := JB.below z
  replace B := below_next B z
  clear z
  have JM0 := JM.c0
  have JM1 := JM.c1
  have JM2 := JM.c2
  have JM3 := JM.c3
  have JM4 := JM.c4
  have JM5 := JM.c5
  have JM6 := JM.c6
  have JM7 := JM.c7
  have JM8 := JM.c8
  have JM9 := JM.c9
  have JMl := JM.lt
  have JA0 := JA.c0
  have JA1 := JA.c1
  have JA2 := JA.c2
  have JA3 := JA.c3
  have JAl := JA.lt
  have JB0 := JB.c0
  have JB1 := JB.c1
  have JB2 := JB.c2
  have JB3 := JB.c3
  have JBl := JB.lt
  have lb := B.size
  go_wp2_with fail
  refine (X7.out _).mono ?_
  rintro e w6 ⟨rfl, z⟩
  clear JM0 JM1 JM2 JM3 JM4 JM5 JM6 JM7 JM8 JM9 JMl JA0 JA1 JA2 JA3 JAl JB0 JB1 JB2 JB3 JBl lb
  replace JM := JM.below z
  replace JA := JA.below z
  replace JB := JB.below z
  replace B := below_next B z
  clear z
  have JM0 := JM.c0
  have JM1 := JM.c1
  have JM2 := JM.c2
  have JM3 := JM.c3
  have JM4 := JM.c4
  have JM5 := JM.c5
  have JM6 := JM.c6
  have JM7 := JM.c7
  have JM8 := JM.c8
  have JM9 := JM.c9
  have JMl := JM.lt
  have JA0 := JA.c0
  have JA1 := JA.c1
  have JA2 := JA.c2
  have JA3 := JA.c3
  have JAl := JA.lt
  have JB0 := JB.c0
  have JB1 := JB.c1
  have JB2 := JB.c2
  have JB3 := JB.c3
  have JBl := JB.lt
  have lb := B.size
  go_wp2_with fail
  refine (X8.out _).mono ?_
  rintro e w7 ⟨rfl, z⟩
  clear JM0 JM1 JM2 JM3 JM4 JM5 JM6 JM7 JM8 JM9 JMl JA0 JA1 JA2 JA3 JAl JB0 JB1 JB2 JB3 JBl lb
  replace JM := JM.below z
  replace JA := JA.below z
  replace JB := JB.below z
  replace B := below_next B z
  clear z
  have JM0 := JM.c0
  have JM1 := JM.c1
  have JM2 := JM.c2
  have JM3 := JM.c3
  have JM4 := JM.c4
  have JM5 := JM.c5
  have JM6 := JM.c6
  have JM7 := JM.c7
  have JM8 := JM.c8
  have JM9 := JM.c9
  have JMl := JM.lt
  have JA0 := JA.c0
  have JA1 := JA.c1
  have JA2 := JA.c2
  have JA3 := JA.c3
  have JAl := JA.lt
  have JB0 := JB.c0
  have JB1 := JB.c1
  have JB2 := JB.c2
  have JB3 := JB.c3
  have JBl := JB.lt
  have lb := B.size
  go_wp2
  go_ret
  exact ⟨rfl, B⟩
set_option maxHeartbeats 8000000 in
theorem keeps_H (op : Int) (c : Bool) (a b : Sc) (x y : B64) (k : Bool) (hr : (refT op c a b k).2.2 = true) (h1 : hasX a x = true) (h2 : hasX b y = true) (hN : (Wd.condI op c (ub x) (ub y) == k) = false) (w : World) : Calls Try.prog 17 #[sumV op c a b, .int .u64 (ub x), .int .u64 (ub y), .bool k] w fun e w' => e = .returned (.bool true) ∧ Below w.heap.size w w' := by
  have X1 := fun W => Wd.rcond_any op c (ub x) (ub y) W (ub_ge x) (ub_lt x) (ub_ge y) (ub_lt y)
  have X2 := fun W => cRefine_any op c a b k W
  obtain ⟨hc, ha, hb, L⟩ := ref_less hr
  rw [show Wd.condE op = 0 from if_pos hc] at X1
  have X3 := fun W => cHas_any a x W
  rw [h1] at X3
  have X4 := fun W => cHas_any b y W
  rw [h2] at X4
  have X7 := fun W => cIn_any (refT op c a b k).1 a W
  rw [inX_of L.mx ha L.lx] at X7
  have X8 := fun W => cIn_any (refT op c a b k).2.1 b W
  rw [inX_of L.my hb L.ly] at X8
  unfold tri at X2
  rw [hr] at X2
  generalize refT op c a b k = R at *
  clear hc ha hb L hr
  generalize Wd.condI op c (ub x) (ub y) = N at *
  clear h1 h2
  unfold sv at X2 X3 X4 X7 X8
  unfold sumV
  try dsimp only at X2 X3 X4 X7 X8
  replace X1 := hid X1
  replace X2 := hid X2
  replace X3 := hid X3
  replace X4 := hid X4
  replace X7 := hid X7
  replace X8 := hid X8
  go_enter Try.func17, Try.ntmps17
  go_wp2_with fail
  have JM : SmC (w.alloc (.cells #[.int .i64 op, .bool c, .int .u64 (ub a.1.1), .int .u64 (ub a.1.2), .int .u64 (ub a.2.1), .int .u64 (ub a.2.2), .int .u64 (ub b.1.1), .int .u64 (ub b.1.2), .int .u64 (ub b.2.1), .int .u64 (ub b.2.2)] 30)) (w.heap.size) op c a b := (SmC.new rfl)
  have B : Below w.heap.size w (w.alloc (.cells #[.int .i64 op, .bool c, .int .u64 (ub a.1.1), .int .u64 (ub a.1.2), .int .u64 (ub a.2.1), .int .u64 (ub a.2.2), .int .u64 (ub b.1.1), .int .u64 (ub b.1.2), .int .u64 (ub b.2.1), .int .u64 (ub b.2.2)] 30)) := (bel_alloc (Below.refl _ _))
  generalize (w.alloc (.cells #[.int .i64 op, .bool c, .int .u64 (ub a.1.1), .int .u64 (ub a.1.2), .int .u64 (ub a.2.1), .int .u64 (ub a.2.2), .int .u64 (ub b.1.1), .int .u64 (ub b.1.2), .int .u64 (ub b.2.1), .int .u64 (ub b.2.2)] 30)) = w00 at *
  have JM0 := JM.c0
  have JM1 := JM.c1
  have JM2 := JM.c2
  have JM3 := JM.c3
  have JM4 := JM.c4
  have JM5 := JM.c5
  have JM6 := JM.c6
  have JM7 := JM.c7
  have JM8 := JM.c8
  have JM9 := JM.c9
  have JMl := JM.lt
  have lb := B.size
  go_wp2_with fail
  refine (X1.out _).mono ?_
  rintro e w_ ⟨rfl, rfl⟩
  clear JM0 JM1 JM2 JM3 JM4 JM5 JM6 JM7 JM8 JM9 JMl lb
  have JM0 := JM.c0
  have JM1 := JM.c1
  have JM2 := JM.c2
  have JM3 := JM.c3
  have JM4 := JM.c4
  have JM5 := JM.c5
  have JM6 := JM.c6
  have JM7 := JM.c7
  have JM8 := JM.c8
  have JM9 := JM.c9
  have JMl := JM.lt
  have lb := B.size
  go_wp2_with fail
  refine (X2.out _).mono ?_
  rintro e w1 ⟨rfl, z⟩
  clear JM0 JM1 JM2 JM3 JM4 JM5 JM6 JM7 JM8 JM9 JMl lb
  replace JM := JM.below z
  replace B := below_next B z
  clear z
  have JM0 := JM.c0
  have JM1 := JM.c1
  have JM2 := JM.c2
  have JM3 := JM.c3
  have JM4 := JM.c4
  have JM5 := JM.c5
  have JM6 := JM.c6
  have JM7 := JM.c7
  have JM8 := JM.c8
  have JM9 := JM.c9
  have JMl := JM.lt
  have lb := B.size
  go_wp2_with fail
  refine (X3.out _).mono ?_
  rintro e w2 ⟨rfl, z⟩
  clear JM0 JM1 JM2 JM3 JM4 JM5 JM6 JM7 JM8 JM9 JMl lb
  have g2JM : w.heap.size < w1.heap.size := JM.lt
  have g2B := B.size
  replace JM := ((JM.alloc _).alloc _).below z
  have JA : SC w2 (w1.heap.size) (R.1) := ((SC.new rfl).alloc _).below z
  have JB : SC w2 (w1.heap.size + 1) (R.2.1) := (SC.new (by simp)).below z
  replace B := below_next (bel_alloc (bel_alloc B)) z
  clear z
  have JM0 := JM.c0
  have JM1 := JM.c1
  have JM2 := JM.c2
  have JM3 := JM.c3
  have JM4 := JM.c4
  have JM5 := JM.c5
  have JM6 := JM.c6
  have JM7 := JM.c7
  have JM8 := JM.c8
  have JM9 := JM.c9
  have JMl := JM.lt
  have JA0 := JA.c0
  have JA1 := JA.c1
  have JA2 := JA.c2
  have JA3 := JA.c3
  have JAl := JA.lt
  have JB0 := JB.c0
  have JB1 := JB.c1
  have JB2 := JB.c2
  have JB3 := JB.c3
  have JBl := JB.lt
  have lb := B.size
  go_wp2_with fail
  refine (X4.out _).mono ?_
  rintro e w3 ⟨rfl, z⟩
  clear JM0 JM1 JM2 JM3 JM4 JM5 JM6 JM7 JM8 JM9 JMl JA0 JA1 JA2 JA3 JAl JB0 JB1 JB2 JB3 JBl lb
  replace JM := JM.below z
  replace JA := JA.below z
  replace JB := JB.below z
  replace B := below_next B z
  clear z
  have JM0 := JM.c0
  have JM1 := JM.c1
  have JM2 := JM.c2
  have JM3 := JM.c3
  have JM4 := JM.c4
  have JM5 := JM.c5
  have JM6 := JM.c6
  have JM7 := JM.c7
  have JM8 := JM.c8
  have JM9 := JM.c9
  have JMl := JM.lt
  have JA0 := JA.c0
  have JA1 := JA.c1
  have JA2 := JA.c2
  have JA3 := JA.c3
  have JAl := JA.lt
  have JB0 := JB.c0
  have JB1 := JB.c1
  have JB2 := JB.c2
  have JB3 := JB.c3
  have JBl := JB.lt
  have lb := B.size
  go_wp2_with fail
  refine (X7.out _).mono ?_
  rintro e w4 ⟨rfl, z⟩
  clear JM0 JM1 JM2 JM3 JM4 JM5 JM6 JM7 JM8 JM9 JMl JA0 JA1 JA2 JA3 JAl JB0 JB1 JB2 JB3 JBl lb
  replace JM := JM.below z
  replace JA := JA.below z
  replace JB := JB.below z
  replace B := below_next B z
  clear z
  have JM0 := JM.c0
  have JM1 := JM.c1
  have JM2 := JM.c2
  have JM3 := JM.c3
  have JM4 := JM.c4
  have JM5 := JM.c5
  have JM6 := JM.c6
  have JM7 := JM.c7
  have JM8 := JM.c8
  have JM9 := JM.c9
  have JMl := JM.lt
  have JA0 := JA.c0
  have JA1 := JA.c1
  have JA2 := JA.c2
  have JA3 := JA.c3
  have JAl := JA.lt
  have JB0 := JB.c0
  have JB1 := JB.c1
  have JB2 := JB.c2
  have JB3 := JB.c3
  have JBl := JB.lt
  have lb := B.size
  go_wp2_with fail
  refine (X8.out _).mono ?_
  rintro e w5 ⟨rfl, z⟩
  clear JM0 JM1 JM2 JM3 JM4 JM5 JM6 JM7 JM8 JM9 JMl JA0 JA1 JA2 JA3 JAl JB0 JB1 JB2 JB3 JBl lb
  replace JM := JM.below z
  replace JA := JA.below z
  replace JB := JB.below z
  replace B := below_next B z
  clear z
  have JM0 := JM.c0
  have JM1 := JM.c1
  have JM2 := JM.c2
  have JM3 := JM.c3
  have JM4 := JM.c4
  have JM5 := JM.c5
  have JM6 := JM.c6
  have JM7 := JM.c7
  have JM8 := JM.c8
  have JM9 := JM.c9
  have JMl := JM.lt
  have JA0 := JA.c0
  have JA1 := JA.c1
  have JA2 := JA.c2
  have JA3 := JA.c3
  have JAl := JA.lt
  have JB0 := JB.c0
  have JB1 := JB.c1
  have JB2 := JB.c2
  have JB3 := JB.c3
  have JBl := JB.lt
  have lb := B.size
  go_wp2
  go_ret
  exact ⟨rfl, B⟩
theorem keeps_true (op : Int) (c : Bool) (a b : Sc) (x y : B64) (k : Bool) (w : World) : Calls Try.prog 17 #[sumV op c a b, .int .u64 (ub x), .int .u64 (ub y), .bool k] w fun e w' => e = .returned (.bool true) ∧ Below w.heap.size w w' := by
  cases hr : (refT op c a b k).2.2
  · cases hc : Wd.isCond op
    · exact keeps_A op c a b x y k hr hc w
    · cases h1 : hasX a x
      · exact keeps_B op c a b x y k hr hc h1 w
      · cases h2 : hasX b y
        · exact keeps_C op c a b x y k hr hc h1 h2 w
        · cases hN : (Wd.condI op c (ub x) (ub y) == k)
          · exact keeps_D op c a b x y k hr hc h1 h2 hN w
          · exfalso
            obtain ⟨ha, hx⟩ := (hasX_iff a x).1 h1
            obtain ⟨hb, hy⟩ := (hasX_iff b y).1 h2
            have := (ref_keeps hc c ha hb hx hy k (beq_iff_eq.1 hN)).ok
            rw [hr] at this
            cases this
  · cases h1 : hasX a x
    · exact keeps_E op c a b x y k hr h1 w
    · cases h2 : hasX b y
      · exact keeps_F op c a b x y k hr h1 h2 w
      · cases hN : (Wd.condI op c (ub x) (ub y) == k)
        · exact keeps_H op c a b x y k hr h1 h2 hN w
        · exact keeps_G op c a b x y k hr h1 h2 hN w
end Go.Proofs.Ytebilklcmakhnaa
