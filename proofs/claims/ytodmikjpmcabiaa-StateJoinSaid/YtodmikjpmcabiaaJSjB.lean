/-
  Contract of the document's JoinReg (layer 12).
-/
import Derived.Test.YtodmikjpmcabiaaJSjA
namespace Go.Proofs.Ytodmikjpmcabiaa
set_option linter.unusedSimpArgs false
set_option linter.unusedVariables false
set_option maxRecDepth 100000
set_option maxRecDepth 100000
open Go.ChangeShapes Go.WideShapes Go.ChangeAt Go.RowKit Me

set_option maxHeartbeats 16000000 in
theorem jr_1 (l l' : Bool) (s s' : Sc)  (w : World) : Calls Try.prog 35 #[rV ⟨1, l, 0, s, 0, 0⟩, rV ⟨1, l', 0, s', 0, 0⟩] w fun e w' => e = .returned (rV (⟨1, l && l', 0, joinX s s', 0, 0⟩ : Rg)) ∧ Below w.heap.size w w' := by
  have X := fun W => rJoinX_any s s' W
  rw [show (if (mayX s && mayX s') = true then optS (settle (joinT s.1 s'.1, joinSp s.2 s'.2)) else sc0) = joinX s s' from rfl] at X
  generalize (if (mayX s && mayX s') = true then 0 else 1 : Int) = E at *
  generalize joinX s s' = J at *
  unfold sv at X
  replace X := hid X
  cases l
  · rw [Bool.false_and]
    unfold rV
    dsimp only
    go_enter Try.func35, Try.ntmps35
    go_wp2_with fail
    refine (X.out _).mono ?_
    rintro e w1 ⟨rfl, z⟩
    have JA : RC w1 w.heap.size ⟨1, false, 0, s, 0, 0⟩ := ((((RC.new (x := ⟨1, false, 0, s, 0, 0⟩) rfl).alloc _).alloc _).alloc _).below z
    have JB : RC w1 (w.heap.size + 1) ⟨1, l', 0, s', 0, 0⟩ := (((RC.new (x := ⟨1, l', 0, s', 0, 0⟩) (by simp)).alloc _).alloc _).below z
    have JR : RC w1 (w.heap.size + 1 + 1) r0 := ((RC.new (x := r0) (by simp)).alloc _).below z
    have JO : RC w1 (w.heap.size + 1 + 1 + 1) ⟨1, false, 0, sc0, 0, 0⟩ := (RC.new (x := ⟨1, false, 0, sc0, 0, 0⟩) (by simp)).below z
    have B := below_next (bel_alloc (bel_alloc (bel_alloc (bel_alloc (Below.refl w.heap.size w))))) z
    clear z
    have JA0 := JA.c0
    have JA1 := JA.c1
    have JA2 := JA.c2
    have JA3 := JA.c3
    have JA4 := JA.c4
    have JA5 := JA.c5
    have JA6 := JA.c6
    have JA7 := JA.c7
    have JA8 := JA.c8
    have JAl := JA.lt
    have JB0 := JB.c0
    have JB1 := JB.c1
    have JB2 := JB.c2
    have JB3 := JB.c3
    have JB4 := JB.c4
    have JB5 := JB.c5
    have JB6 := JB.c6
    have JB7 := JB.c7
    have JB8 := JB.c8
    have JBl := JB.lt
    have JR0 := JR.c0
    have JR1 := JR.c1
    have JR2 := JR.c2
    have JR3 := JR.c3
    have JR4 := JR.c4
    have JR5 := JR.c5
    have JR6 := JR.c6
    have JR7 := JR.c7
    have JR8 := JR.c8
    have JRl := JR.lt
    have JO0 := JO.c0
    have JO1 := JO.c1
    have JO2 := JO.c2
    have JO3 := JO.c3
    have JO4 := JO.c4
    have JO5 := JO.c5
    have JO6 := JO.c6
    have JO7 := JO.c7
    have JO8 := JO.c8
    have JOl := JO.lt
    have JRf0 := JR.f0
    have JRf1 := JR.f1
    have JRf2 := JR.f2
    have JRf3 := JR.f3
    have JRf4 := JR.f4
    have JRf5 := JR.f5
    have JRf6 := JR.f6
    have JRf7 := JR.f7
    have JRf8 := JR.f8
    have JOf0 := JO.f0
    have JOf1 := JO.f1
    have JOf2 := JO.f2
    have JOf3 := JO.f3
    have JOf4 := JO.f4
    have JOf5 := JO.f5
    have JOf6 := JO.f6
    have JOf7 := JO.f7
    have JOf8 := JO.f8
    try dsimp only at JA0 JA1 JA2 JA3 JA4 JA5 JA6 JA7 JA8 JB0 JB1 JB2 JB3 JB4 JB5 JB6 JB7 JB8 JR0 JR1 JR2 JR3 JR4 JR5 JR6 JR7 JR8 JO0 JO1 JO2 JO3 JO4 JO5 JO6 JO7 JO8
    have lb := B.size
    go_wp2
    exact bodyPost_ret (v := rV (⟨1, false, 0, J, 0, 0⟩ : Rg)) (by simp [results, Try.results35, go_sem, JR0, JR1, JR2, JR3, JR4, JR5, JR6, JR7, JR8, JO0, JO1, JO2, JO3, JO4, JO5, JO6, JO7, JO8, JRf0, JRf1, JRf2, JRf3, JRf4, JRf5, JRf6, JRf7, JRf8, JOf0, JOf1, JOf2, JOf3, JOf4, JOf5, JOf6, JOf7, JOf8, JRl, JOl]; try first | rfl | simp [rV]) rfl ⟨rfl, (by repeat (first | (with_reducible exact B) | (with_reducible refine Below.setCell ?_ (by dsimp only; omega) _)))⟩
  · rw [Bool.true_and]
    unfold rV
    dsimp only
    go_enter Try.func35, Try.ntmps35
    go_wp2_with fail
    refine (X.out _).mono ?_
    rintro e w1 ⟨rfl, z⟩
    have JA : RC w1 w.heap.size ⟨1, true, 0, s, 0, 0⟩ := ((((RC.new (x := ⟨1, true, 0, s, 0, 0⟩) rfl).alloc _).alloc _).alloc _).below z
    have JB : RC w1 (w.heap.size + 1) ⟨1, l', 0, s', 0, 0⟩ := (((RC.new (x := ⟨1, l', 0, s', 0, 0⟩) (by simp)).alloc _).alloc _).below z
    have JR : RC w1 (w.heap.size + 1 + 1) r0 := ((RC.new (x := r0) (by simp)).alloc _).below z
    have JO : RC w1 (w.heap.size + 1 + 1 + 1) ⟨1, false, 0, sc0, 0, 0⟩ := (RC.new (x := ⟨1, false, 0, sc0, 0, 0⟩) (by simp)).below z
    have B := below_next (bel_alloc (bel_alloc (bel_alloc (bel_alloc (Below.refl w.heap.size w))))) z
    clear z
    have JA0 := JA.c0
    have JA1 := JA.c1
    have JA2 := JA.c2
    have JA3 := JA.c3
    have JA4 := JA.c4
    have JA5 := JA.c5
    have JA6 := JA.c6
    have JA7 := JA.c7
    have JA8 := JA.c8
    have JAl := JA.lt
    have JB0 := JB.c0
    have JB1 := JB.c1
    have JB2 := JB.c2
    have JB3 := JB.c3
    have JB4 := JB.c4
    have JB5 := JB.c5
    have JB6 := JB.c6
    have JB7 := JB.c7
    have JB8 := JB.c8
    have JBl := JB.lt
    have JR0 := JR.c0
    have JR1 := JR.c1
    have JR2 := JR.c2
    have JR3 := JR.c3
    have JR4 := JR.c4
    have JR5 := JR.c5
    have JR6 := JR.c6
    have JR7 := JR.c7
    have JR8 := JR.c8
    have JRl := JR.lt
    have JO0 := JO.c0
    have JO1 := JO.c1
    have JO2 := JO.c2
    have JO3 := JO.c3
    have JO4 := JO.c4
    have JO5 := JO.c5
    have JO6 := JO.c6
    have JO7 := JO.c7
    have JO8 := JO.c8
    have JOl := JO.lt
    have JRf0 := JR.f0
    have JRf1 := JR.f1
    have JRf2 := JR.f2
    have JRf3 := JR.f3
    have JRf4 := JR.f4
    have JRf5 := JR.f5
    have JRf6 := JR.f6
    have JRf7 := JR.f7
    have JRf8 := JR.f8
    have JOf0 := JO.f0
    have JOf1 := JO.f1
    have JOf2 := JO.f2
    have JOf3 := JO.f3
    have JOf4 := JO.f4
    have JOf5 := JO.f5
    have JOf6 := JO.f6
    have JOf7 := JO.f7
    have JOf8 := JO.f8
    try dsimp only at JA0 JA1 JA2 JA3 JA4 JA5 JA6 JA7 JA8 JB0 JB1 JB2 JB3 JB4 JB5 JB6 JB7 JB8 JR0 JR1 JR2 JR3 JR4 JR5 JR6 JR7 JR8 JO0 JO1 JO2 JO3 JO4 JO5 JO6 JO7 JO8
    have lb := B.size
    go_wp2
    exact bodyPost_ret (v := rV (⟨1, l', 0, J, 0, 0⟩ : Rg)) (by simp [results, Try.results35, go_sem, JR0, JR1, JR2, JR3, JR4, JR5, JR6, JR7, JR8, JO0, JO1, JO2, JO3, JO4, JO5, JO6, JO7, JO8, JRf0, JRf1, JRf2, JRf3, JRf4, JRf5, JRf6, JRf7, JRf8, JOf0, JOf1, JOf2, JOf3, JOf4, JOf5, JOf6, JOf7, JOf8, JRl, JOl]; try first | rfl | simp [rV]) rfl ⟨rfl, (by repeat (first | (with_reducible exact B) | (with_reducible refine Below.setCell ?_ (by dsimp only; omega) _)))⟩
set_option maxHeartbeats 16000000 in
theorem jr_n1 (a b : Rg) (hn : a.k ≠ b.k) (ha : thirdB a = false) (w : World) : Calls Try.prog 35 #[rV a, rV b] w fun e w' => e = .returned (rV r0) ∧ Below w.heap.size w w' := by
  have NA := fun W => ha ▸ rThird_any a W
  obtain ⟨ak, al, am, sa, alo, ahi⟩ := a
  obtain ⟨bk, bl, bm, sb, blo, bhi⟩ := b
  clear ha
  unfold rV at NA
  dsimp only at NA
  replace NA := hid NA
  dsimp only at hn
  have en : (ak != bk) = true := by simpa using hn
  have ef : (ak == bk) = false := by simpa using hn
  clear hn
  unfold rV
  dsimp only
  go_enter Try.func35, Try.ntmps35
  go_wp2_with fail
  refine (NA.out _).mono ?_
  rintro e w1 ⟨rfl, z⟩
  have JA : RC w1 w.heap.size ⟨ak, al, am, sa, alo, ahi⟩ := ((((RC.new (x := ⟨ak, al, am, sa, alo, ahi⟩) rfl).alloc _).alloc _).alloc _).below z
  have JB : RC w1 (w.heap.size + 1) ⟨bk, bl, bm, sb, blo, bhi⟩ := (((RC.new (x := ⟨bk, bl, bm, sb, blo, bhi⟩) (by simp)).alloc _).alloc _).below z
  have JR : RC w1 (w.heap.size + 1 + 1) r0 := ((RC.new (x := r0) (by simp)).alloc _).below z
  have JO : RC w1 (w.heap.size + 1 + 1 + 1) ⟨ak, false, 0, sc0, 0, 0⟩ := (RC.new (x := ⟨ak, false, 0, sc0, 0, 0⟩) (by simp)).below z
  have B := below_next (bel_alloc (bel_alloc (bel_alloc (bel_alloc (Below.refl w.heap.size w))))) z
  clear z
  have JA0 := JA.c0
  have JA1 := JA.c1
  have JA2 := JA.c2
  have JA3 := JA.c3
  have JA4 := JA.c4
  have JA5 := JA.c5
  have JA6 := JA.c6
  have JA7 := JA.c7
  have JA8 := JA.c8
  have JAl := JA.lt
  have JB0 := JB.c0
  have JB1 := JB.c1
  have JB2 := JB.c2
  have JB3 := JB.c3
  have JB4 := JB.c4
  have JB5 := JB.c5
  have JB6 := JB.c6
  have JB7 := JB.c7
  have JB8 := JB.c8
  have JBl := JB.lt
  have JR0 := JR.c0
  have JR1 := JR.c1
  have JR2 := JR.c2
  have JR3 := JR.c3
  have JR4 := JR.c4
  have JR5 := JR.c5
  have JR6 := JR.c6
  have JR7 := JR.c7
  have JR8 := JR.c8
  have JRl := JR.lt
  have JO0 := JO.c0
  have JO1 := JO.c1
  have JO2 := JO.c2
  have JO3 := JO.c3
  have JO4 := JO.c4
  have JO5 := JO.c5
  have JO6 := JO.c6
  have JO7 := JO.c7
  have JO8 := JO.c8
  have JOl := JO.lt
  have JRf0 := JR.f0
  have JRf1 := JR.f1
  have JRf2 := JR.f2
  have JRf3 := JR.f3
  have JRf4 := JR.f4
  have JRf5 := JR.f5
  have JRf6 := JR.f6
  have JRf7 := JR.f7
  have JRf8 := JR.f8
  have JOf0 := JO.f0
  have JOf1 := JO.f1
  have JOf2 := JO.f2
  have JOf3 := JO.f3
  have JOf4 := JO.f4
  have JOf5 := JO.f5
  have JOf6 := JO.f6
  have JOf7 := JO.f7
  have JOf8 := JO.f8
  try dsimp only at JA0 JA1 JA2 JA3 JA4 JA5 JA6 JA7 JA8 JB0 JB1 JB2 JB3 JB4 JB5 JB6 JB7 JB8 JR0 JR1 JR2 JR3 JR4 JR5 JR6 JR7 JR8 JO0 JO1 JO2 JO3 JO4 JO5 JO6 JO7 JO8
  have lb := B.size
  go_wp2
  exact bodyPost_ret (v := rV r0) (by simp [results, Try.results35, go_sem, JR0, JR1, JR2, JR3, JR4, JR5, JR6, JR7, JR8, JO0, JO1, JO2, JO3, JO4, JO5, JO6, JO7, JO8, JRf0, JRf1, JRf2, JRf3, JRf4, JRf5, JRf6, JRf7, JRf8, JOf0, JOf1, JOf2, JOf3, JOf4, JOf5, JOf6, JOf7, JOf8, JRl, JOl]; try first | rfl | simp [rV]) rfl ⟨rfl, (by repeat (first | (with_reducible exact B) | (with_reducible refine Below.setCell ?_ (by dsimp only; omega) _)))⟩
set_option maxHeartbeats 16000000 in
theorem jr_n2 (a b : Rg) (hn : a.k ≠ b.k) (ha : thirdB a = true) (hb : thirdB b = false) (w : World) : Calls Try.prog 35 #[rV a, rV b] w fun e w' => e = .returned (rV r0) ∧ Below w.heap.size w w' := by
  have NA := fun W => ha ▸ rThird_any a W
  have NB := fun W => hb ▸ rThird_any b W
  obtain ⟨ak, al, am, sa, alo, ahi⟩ := a
  obtain ⟨bk, bl, bm, sb, blo, bhi⟩ := b
  clear ha hb
  unfold rV at NA NB
  dsimp only at NA NB
  replace NA := hid NA
  replace NB := hid NB
  dsimp only at hn
  have en : (ak != bk) = true := by simpa using hn
  have ef : (ak == bk) = false := by simpa using hn
  clear hn
  unfold rV
  dsimp only
  go_enter Try.func35, Try.ntmps35
  go_wp2_with fail
  refine (NA.out _).mono ?_
  rintro e w1 ⟨rfl, z⟩
  have JA : RC w1 w.heap.size ⟨ak, al, am, sa, alo, ahi⟩ := ((((RC.new (x := ⟨ak, al, am, sa, alo, ahi⟩) rfl).alloc _).alloc _).alloc _).below z
  have JB : RC w1 (w.heap.size + 1) ⟨bk, bl, bm, sb, blo, bhi⟩ := (((RC.new (x := ⟨bk, bl, bm, sb, blo, bhi⟩) (by simp)).alloc _).alloc _).below z
  have JR : RC w1 (w.heap.size + 1 + 1) r0 := ((RC.new (x := r0) (by simp)).alloc _).below z
  have JO : RC w1 (w.heap.size + 1 + 1 + 1) ⟨ak, false, 0, sc0, 0, 0⟩ := (RC.new (x := ⟨ak, false, 0, sc0, 0, 0⟩) (by simp)).below z
  have B := below_next (bel_alloc (bel_alloc (bel_alloc (bel_alloc (Below.refl w.heap.size w))))) z
  clear z
  have JA0 := JA.c0
  have JA1 := JA.c1
  have JA2 := JA.c2
  have JA3 := JA.c3
  have JA4 := JA.c4
  have JA5 := JA.c5
  have JA6 := JA.c6
  have JA7 := JA.c7
  have JA8 := JA.c8
  have JAl := JA.lt
  have JB0 := JB.c0
  have JB1 := JB.c1
  have JB2 := JB.c2
  have JB3 := JB.c3
  have JB4 := JB.c4
  have JB5 := JB.c5
  have JB6 := JB.c6
  have JB7 := JB.c7
  have JB8 := JB.c8
  have JBl := JB.lt
  have JR0 := JR.c0
  have JR1 := JR.c1
  have JR2 := JR.c2
  have JR3 := JR.c3
  have JR4 := JR.c4
  have JR5 := JR.c5
  have JR6 := JR.c6
  have JR7 := JR.c7
  have JR8 := JR.c8
  have JRl := JR.lt
  have JO0 := JO.c0
  have JO1 := JO.c1
  have JO2 := JO.c2
  have JO3 := JO.c3
  have JO4 := JO.c4
  have JO5 := JO.c5
  have JO6 := JO.c6
  have JO7 := JO.c7
  have JO8 := JO.c8
  have JOl := JO.lt
  have JRf0 := JR.f0
  have JRf1 := JR.f1
  have JRf2 := JR.f2
  have JRf3 := JR.f3
  have JRf4 := JR.f4
  have JRf5 := JR.f5
  have JRf6 := JR.f6
  have JRf7 := JR.f7
  have JRf8 := JR.f8
  have JOf0 := JO.f0
  have JOf1 := JO.f1
  have JOf2 := JO.f2
  have JOf3 := JO.f3
  have JOf4 := JO.f4
  have JOf5 := JO.f5
  have JOf6 := JO.f6
  have JOf7 := JO.f7
  have JOf8 := JO.f8
  try dsimp only at JA0 JA1 JA2 JA3 JA4 JA5 JA6 JA7 JA8 JB0 JB1 JB2 JB3 JB4 JB5 JB6 JB7 JB8 JR0 JR1 JR2 JR3 JR4 JR5 JR6 JR7 JR8 JO0 JO1 JO2 JO3 JO4 JO5 JO6 JO7 JO8
  have lb := B.size
  go_wp2_with fail
  refine (NB.out _).mono ?_
  rintro e w2 ⟨rfl, z⟩
  clear JA0 JA1 JA2 JA3 JA4 JA5 JA6 JA7 JA8 JB0 JB1 JB2 JB3 JB4 JB5 JB6 JB7 JB8 JR0 JR1 JR2 JR3 JR4 JR5 JR6 JR7 JR8 JO0 JO1 JO2 JO3 JO4 JO5 JO6 JO7 JO8 JAl JBl JRl JOl JRf0 JRf1 JRf2 JRf3 JRf4 JRf5 JRf6 JRf7 JRf8 JOf0 JOf1 JOf2 JOf3 JOf4 JOf5 JOf6 JOf7 JOf8 lb
  replace JA := JA.below z
  replace JB := JB.below z
  replace JR := JR.below z
  replace JO := JO.below z
  replace B := below_next B z
  clear z
  have JA0 := JA.c0
  have JA1 := JA.c1
  have JA2 := JA.c2
  have JA3 := JA.c3
  have JA4 := JA.c4
  have JA5 := JA.c5
  have JA6 := JA.c6
  have JA7 := JA.c7
  have JA8 := JA.c8
  have JAl := JA.lt
  have JB0 := JB.c0
  have JB1 := JB.c1
  have JB2 := JB.c2
  have JB3 := JB.c3
  have JB4 := JB.c4
  have JB5 := JB.c5
  have JB6 := JB.c6
  have JB7 := JB.c7
  have JB8 := JB.c8
  have JBl := JB.lt
  have JR0 := JR.c0
  have JR1 := JR.c1
  have JR2 := JR.c2
  have JR3 := JR.c3
  have JR4 := JR.c4
  have JR5 := JR.c5
  have JR6 := JR.c6
  have JR7 := JR.c7
  have JR8 := JR.c8
  have JRl := JR.lt
  have JO0 := JO.c0
  have JO1 := JO.c1
  have JO2 := JO.c2
  have JO3 := JO.c3
  have JO4 := JO.c4
  have JO5 := JO.c5
  have JO6 := JO.c6
  have JO7 := JO.c7
  have JO8 := JO.c8
  have JOl := JO.lt
  have JRf0 := JR.f0
  have JRf1 := JR.f1
  have JRf2 := JR.f2
  have JRf3 := JR.f3
  have JRf4 := JR.f4
  have JRf5 := JR.f5
  have JRf6 := JR.f6
  have JRf7 := JR.f7
  have JRf8 := JR.f8
  have JOf0 := JO.f0
  have JOf1 := JO.f1
  have JOf2 := JO.f2
  have JOf3 := JO.f3
  have JOf4 := JO.f4
  have JOf5 := JO.f5
  have JOf6 := JO.f6
  have JOf7 := JO.f7
  have JOf8 := JO.f8
  try dsimp only at JA0 JA1 JA2 JA3 JA4 JA5 JA6 JA7 JA8 JB0 JB1 JB2 JB3 JB4 JB5 JB6 JB7 JB8 JR0 JR1 JR2 JR3 JR4 JR5 JR6 JR7 JR8 JO0 JO1 JO2 JO3 JO4 JO5 JO6 JO7 JO8
  have lb := B.size
  go_wp2
  exact bodyPost_ret (v := rV r0) (by simp [results, Try.results35, go_sem, JR0, JR1, JR2, JR3, JR4, JR5, JR6, JR7, JR8, JO0, JO1, JO2, JO3, JO4, JO5, JO6, JO7, JO8, JRf0, JRf1, JRf2, JRf3, JRf4, JRf5, JRf6, JRf7, JRf8, JOf0, JOf1, JOf2, JOf3, JOf4, JOf5, JOf6, JOf7, JOf8, JRl, JOl]; try first | rfl | simp [rV]) rfl ⟨rfl, (by repeat (first | (with_reducible exact B) | (with_reducible refine Below.setCell ?_ (by dsimp only; omega) _)))⟩
set_option maxHeartbeats 16000000 in
theorem jr_71 (l : Bool) (m : Int) (s : Sc) (ha : thirdB ⟨7, false, m, sc0, 0, 0⟩ = true) (hb : thirdB ⟨1, l, 0, s, 0, 0⟩ = true)  (w : World) : Calls Try.prog 35 #[rV ⟨7, false, m, sc0, 0, 0⟩, rV ⟨1, l, 0, s, 0, 0⟩] w fun e w' => e = .returned (rV (zm m)) ∧ Below w.heap.size w w' := by
  have NA := fun W => ha ▸ rThird_any ⟨7, false, m, sc0, 0, 0⟩ W
  have NB := fun W => hb ▸ rThird_any ⟨1, l, 0, s, 0, 0⟩ W
  clear ha hb
  unfold rV at NA NB
  dsimp only at NA NB
  replace NA := hid NA
  replace NB := hid NB
  unfold zm
  unfold rV
  dsimp only
  go_enter Try.func35, Try.ntmps35
  go_wp2_with fail
  refine (NA.out _).mono ?_
  rintro e w1 ⟨rfl, z⟩
  have JA : RC w1 w.heap.size ⟨7, false, m, sc0, 0, 0⟩ := ((((RC.new (x := ⟨7, false, m, sc0, 0, 0⟩) rfl).alloc _).alloc _).alloc _).below z
  have JB : RC w1 (w.heap.size + 1) ⟨1, l, 0, s, 0, 0⟩ := (((RC.new (x := ⟨1, l, 0, s, 0, 0⟩) (by simp)).alloc _).alloc _).below z
  have JR : RC w1 (w.heap.size + 1 + 1) r0 := ((RC.new (x := r0) (by simp)).alloc _).below z
  have JO : RC w1 (w.heap.size + 1 + 1 + 1) ⟨7, false, 0, sc0, 0, 0⟩ := (RC.new (x := ⟨7, false, 0, sc0, 0, 0⟩) (by simp)).below z
  have B := below_next (bel_alloc (bel_alloc (bel_alloc (bel_alloc (Below.refl w.heap.size w))))) z
  clear z
  have JA0 := JA.c0
  have JA1 := JA.c1
  have JA2 := JA.c2
  have JA3 := JA.c3
  have JA4 := JA.c4
  have JA5 := JA.c5
  have JA6 := JA.c6
  have JA7 := JA.c7
  have JA8 := JA.c8
  have JAl := JA.lt
  have JB0 := JB.c0
  have JB1 := JB.c1
  have JB2 := JB.c2
  have JB3 := JB.c3
  have JB4 := JB.c4
  have JB5 := JB.c5
  have JB6 := JB.c6
  have JB7 := JB.c7
  have JB8 := JB.c8
  have JBl := JB.lt
  have JR0 := JR.c0
  have JR1 := JR.c1
  have JR2 := JR.c2
  have JR3 := JR.c3
  have JR4 := JR.c4
  have JR5 := JR.c5
  have JR6 := JR.c6
  have JR7 := JR.c7
  have JR8 := JR.c8
  have JRl := JR.lt
  have JO0 := JO.c0
  have JO1 := JO.c1
  have JO2 := JO.c2
  have JO3 := JO.c3
  have JO4 := JO.c4
  have JO5 := JO.c5
  have JO6 := JO.c6
  have JO7 := JO.c7
  have JO8 := JO.c8
  have JOl := JO.lt
  have JRf0 := JR.f0
  have JRf1 := JR.f1
  have JRf2 := JR.f2
  have JRf3 := JR.f3
  have JRf4 := JR.f4
  have JRf5 := JR.f5
  have JRf6 := JR.f6
  have JRf7 := JR.f7
  have JRf8 := JR.f8
  have JOf0 := JO.f0
  have JOf1 := JO.f1
  have JOf2 := JO.f2
  have JOf3 := JO.f3
  have JOf4 := JO.f4
  have JOf5 := JO.f5
  have JOf6 := JO.f6
  have JOf7 := JO.f7
  have JOf8 := JO.f8
  try dsimp only at JA0 JA1 JA2 JA3 JA4 JA5 JA6 JA7 JA8 JB0 JB1 JB2 JB3 JB4 JB5 JB6 JB7 JB8 JR0 JR1 JR2 JR3 JR4 JR5 JR6 JR7 JR8 JO0 JO1 JO2 JO3 JO4 JO5 JO6 JO7 JO8
  have lb := B.size
  go_wp2_with fail
  refine (NB.out _).mono ?_
  rintro e w2 ⟨rfl, z⟩
  clear JA0 JA1 JA2 JA3 JA4 JA5 JA6 JA7 JA8 JB0 JB1 JB2 JB3 JB4 JB5 JB6 JB7 JB8 JR0 JR1 JR2 JR3 JR4 JR5 JR6 JR7 JR8 JO0 JO1 JO2 JO3 JO4 JO5 JO6 JO7 JO8 JAl JBl JRl JOl JRf0 JRf1 JRf2 JRf3 JRf4 JRf5 JRf6 JRf7 JRf8 JOf0 JOf1 JOf2 JOf3 JOf4 JOf5 JOf6 JOf7 JOf8 lb
  replace JA := JA.below z
  replace JB := JB.below z
  replace JR := JR.below z
  replace JO := JO.below z
  replace B := below_next B z
  clear z
  have JA0 := JA.c0
  have JA1 := JA.c1
  have JA2 := JA.c2
  have JA3 := JA.c3
  have JA4 := JA.c4
  have JA5 := JA.c5
  have JA6 := JA.c6
  have JA7 := JA.c7
  have JA8 := JA.c8
  have JAl := JA.lt
  have JB0 := JB.c0
  have JB1 := JB.c1
  have JB2 := JB.c2
  have JB3 := JB.c3
  have JB4 := JB.c4
  have JB5 := JB.c5
  have JB6 := JB.c6
  have JB7 := JB.c7
  have JB8 := JB.c8
  have JBl := JB.lt
  have JR0 := JR.c0
  have JR1 := JR.c1
  have JR2 := JR.c2
  have JR3 := JR.c3
  have JR4 := JR.c4
  have JR5 := JR.c5
  have JR6 := JR.c6
  have JR7 := JR.c7
  have JR8 := JR.c8
  have JRl := JR.lt
  have JO0 := JO.c0
  have JO1 := JO.c1
  have JO2 := JO.c2
  have JO3 := JO.c3
  have JO4 := JO.c4
  have JO5 := JO.c5
  have JO6 := JO.c6
  have JO7 := JO.c7
  have JO8 := JO.c8
  have JOl := JO.lt
  have JRf0 := JR.f0
  have JRf1 := JR.f1
  have JRf2 := JR.f2
  have JRf3 := JR.f3
  have JRf4 := JR.f4
  have JRf5 := JR.f5
  have JRf6 := JR.f6
  have JRf7 := JR.f7
  have JRf8 := JR.f8
  have JOf0 := JO.f0
  have JOf1 := JO.f1
  have JOf2 := JO.f2
  have JOf3 := JO.f3
  have JOf4 := JO.f4
  have JOf5 := JO.f5
  have JOf6 := JO.f6
  have JOf7 := JO.f7
  have JOf8 := JO.f8
  try dsimp only at JA0 JA1 JA2 JA3 JA4 JA5 JA6 JA7 JA8 JB0 JB1 JB2 JB3 JB4 JB5 JB6 JB7 JB8 JR0 JR1 JR2 JR3 JR4 JR5 JR6 JR7 JR8 JO0 JO1 JO2 JO3 JO4 JO5 JO6 JO7 JO8
  have lb := B.size
  go_wp2
  exact bodyPost_ret (v := rV (⟨7, false, m, sc0, 0, 0⟩ : Rg)) (by simp [results, Try.results35, go_sem, JR0, JR1, JR2, JR3, JR4, JR5, JR6, JR7, JR8, JO0, JO1, JO2, JO3, JO4, JO5, JO6, JO7, JO8, JRf0, JRf1, JRf2, JRf3, JRf4, JRf5, JRf6, JRf7, JRf8, JOf0, JOf1, JOf2, JOf3, JOf4, JOf5, JOf6, JOf7, JOf8, JRl, JOl]; try first | rfl | simp [rV]) rfl ⟨rfl, (by repeat (first | (with_reducible exact B) | (with_reducible refine Below.setCell ?_ (by dsimp only; omega) _)))⟩
set_option maxHeartbeats 16000000 in
theorem jr_17 (l : Bool) (m : Int) (s : Sc) (ha : thirdB ⟨1, l, 0, s, 0, 0⟩ = true) (hb : thirdB ⟨7, false, m, sc0, 0, 0⟩ = true)  (w : World) : Calls Try.prog 35 #[rV ⟨1, l, 0, s, 0, 0⟩, rV ⟨7, false, m, sc0, 0, 0⟩] w fun e w' => e = .returned (rV (zm m)) ∧ Below w.heap.size w w' := by
  have NA := fun W => ha ▸ rThird_any ⟨1, l, 0, s, 0, 0⟩ W
  have NB := fun W => hb ▸ rThird_any ⟨7, false, m, sc0, 0, 0⟩ W
  clear ha hb
  unfold rV at NA NB
  dsimp only at NA NB
  replace NA := hid NA
  replace NB := hid NB
  unfold zm
  unfold rV
  dsimp only
  go_enter Try.func35, Try.ntmps35
  go_wp2_with fail
  refine (NA.out _).mono ?_
  rintro e w1 ⟨rfl, z⟩
  have JA : RC w1 w.heap.size ⟨1, l, 0, s, 0, 0⟩ := ((((RC.new (x := ⟨1, l, 0, s, 0, 0⟩) rfl).alloc _).alloc _).alloc _).below z
  have JB : RC w1 (w.heap.size + 1) ⟨7, false, m, sc0, 0, 0⟩ := (((RC.new (x := ⟨7, false, m, sc0, 0, 0⟩) (by simp)).alloc _).alloc _).below z
  have JR : RC w1 (w.heap.size + 1 + 1) r0 := ((RC.new (x := r0) (by simp)).alloc _).below z
  have JO : RC w1 (w.heap.size + 1 + 1 + 1) ⟨1, false, 0, sc0, 0, 0⟩ := (RC.new (x := ⟨1, false, 0, sc0, 0, 0⟩) (by simp)).below z
  have B := below_next (bel_alloc (bel_alloc (bel_alloc (bel_alloc (Below.refl w.heap.size w))))) z
  clear z
  have JA0 := JA.c0
  have JA1 := JA.c1
  have JA2 := JA.c2
  have JA3 := JA.c3
  have JA4 := JA.c4
  have JA5 := JA.c5
  have JA6 := JA.c6
  have JA7 := JA.c7
  have JA8 := JA.c8
  have JAl := JA.lt
  have JB0 := JB.c0
  have JB1 := JB.c1
  have JB2 := JB.c2
  have JB3 := JB.c3
  have JB4 := JB.c4
  have JB5 := JB.c5
  have JB6 := JB.c6
  have JB7 := JB.c7
  have JB8 := JB.c8
  have JBl := JB.lt
  have JR0 := JR.c0
  have JR1 := JR.c1
  have JR2 := JR.c2
  have JR3 := JR.c3
  have JR4 := JR.c4
  have JR5 := JR.c5
  have JR6 := JR.c6
  have JR7 := JR.c7
  have JR8 := JR.c8
  have JRl := JR.lt
  have JO0 := JO.c0
  have JO1 := JO.c1
  have JO2 := JO.c2
  have JO3 := JO.c3
  have JO4 := JO.c4
  have JO5 := JO.c5
  have JO6 := JO.c6
  have JO7 := JO.c7
  have JO8 := JO.c8
  have JOl := JO.lt
  have JRf0 := JR.f0
  have JRf1 := JR.f1
  have JRf2 := JR.f2
  have JRf3 := JR.f3
  have JRf4 := JR.f4
  have JRf5 := JR.f5
  have JRf6 := JR.f6
  have JRf7 := JR.f7
  have JRf8 := JR.f8
  have JOf0 := JO.f0
  have JOf1 := JO.f1
  have JOf2 := JO.f2
  have JOf3 := JO.f3
  have JOf4 := JO.f4
  have JOf5 := JO.f5
  have JOf6 := JO.f6
  have JOf7 := JO.f7
  have JOf8 := JO.f8
  try dsimp only at JA0 JA1 JA2 JA3 JA4 JA5 JA6 JA7 JA8 JB0 JB1 JB2 JB3 JB4 JB5 JB6 JB7 JB8 JR0 JR1 JR2 JR3 JR4 JR5 JR6 JR7 JR8 JO0 JO1 JO2 JO3 JO4 JO5 JO6 JO7 JO8
  have lb := B.size
  go_wp2_with fail
  refine (NB.out _).mono ?_
  rintro e w2 ⟨rfl, z⟩
  clear JA0 JA1 JA2 JA3 JA4 JA5 JA6 JA7 JA8 JB0 JB1 JB2 JB3 JB4 JB5 JB6 JB7 JB8 JR0 JR1 JR2 JR3 JR4 JR5 JR6 JR7 JR8 JO0 JO1 JO2 JO3 JO4 JO5 JO6 JO7 JO8 JAl JBl JRl JOl JRf0 JRf1 JRf2 JRf3 JRf4 JRf5 JRf6 JRf7 JRf8 JOf0 JOf1 JOf2 JOf3 JOf4 JOf5 JOf6 JOf7 JOf8 lb
  replace JA := JA.below z
  replace JB := JB.below z
  replace JR := JR.below z
  replace JO := JO.below z
  replace B := below_next B z
  clear z
  have JA0 := JA.c0
  have JA1 := JA.c1
  have JA2 := JA.c2
  have JA3 := JA.c3
  have JA4 := JA.c4
  have JA5 := JA.c5
  have JA6 := JA.c6
  have JA7 := JA.c7
  have JA8 := JA.c8
  have JAl := JA.lt
  have JB0 := JB.c0
  have JB1 := JB.c1
  have JB2 := JB.c2
  have JB3 := JB.c3
  have JB4 := JB.c4
  have JB5 := JB.c5
  have JB6 := JB.c6
  have JB7 := JB.c7
  have JB8 := JB.c8
  have JBl := JB.lt
  have JR0 := JR.c0
  have JR1 := JR.c1
  have JR2 := JR.c2
  have JR3 := JR.c3
  have JR4 := JR.c4
  have JR5 := JR.c5
  have JR6 := JR.c6
  have JR7 := JR.c7
  have JR8 := JR.c8
  have JRl := JR.lt
  have JO0 := JO.c0
  have JO1 := JO.c1
  have JO2 := JO.c2
  have JO3 := JO.c3
  have JO4 := JO.c4
  have JO5 := JO.c5
  have JO6 := JO.c6
  have JO7 := JO.c7
  have JO8 := JO.c8
  have JOl := JO.lt
  have JRf0 := JR.f0
  have JRf1 := JR.f1
  have JRf2 := JR.f2
  have JRf3 := JR.f3
  have JRf4 := JR.f4
  have JRf5 := JR.f5
  have JRf6 := JR.f6
  have JRf7 := JR.f7
  have JRf8 := JR.f8
  have JOf0 := JO.f0
  have JOf1 := JO.f1
  have JOf2 := JO.f2
  have JOf3 := JO.f3
  have JOf4 := JO.f4
  have JOf5 := JO.f5
  have JOf6 := JO.f6
  have JOf7 := JO.f7
  have JOf8 := JO.f8
  try dsimp only at JA0 JA1 JA2 JA3 JA4 JA5 JA6 JA7 JA8 JB0 JB1 JB2 JB3 JB4 JB5 JB6 JB7 JB8 JR0 JR1 JR2 JR3 JR4 JR5 JR6 JR7 JR8 JO0 JO1 JO2 JO3 JO4 JO5 JO6 JO7 JO8
  have lb := B.size
  have h0 : (w2.setCell ⟨(w.heap.size + 1 + 1 + 1), 0, none⟩ (.int .u8 7)).cell? ⟨(w.heap.size + 1 + 1 + 1), 2, none⟩ = some (.int .i64 0) := (World.cell?_setCell_other _ _ _ _ (by simp)).trans JO2
  have h1 : ((w2.setCell ⟨(w.heap.size + 1 + 1 + 1), 0, none⟩ (.int .u8 7)).setCell ⟨(w.heap.size + 1 + 1 + 1), 2, none⟩ (.int .i64 0)).cell? ⟨(w.heap.size + 1 + 1 + 1), 2, none⟩ = some (.int .i64 0) := World.cell?_setCell_same _ _ _ h0
  have q2 : (((w2.setCell ⟨(w.heap.size + 1 + 1 + 1), 0, none⟩ (.int .u8 7)).setCell ⟨(w.heap.size + 1 + 1 + 1), 2, none⟩ (.int .i64 0)).setCell ⟨(w.heap.size + 1 + 1 + 1), 2, none⟩ (.int .i64 m)).cell? ⟨(w.heap.size + 1 + 1 + 1), 2, none⟩ = some (.int .i64 m) := World.cell?_setCell_same _ _ _ h1
  clear h0
  go_wp2
  exact bodyPost_ret (v := rV (⟨7, false, m, sc0, 0, 0⟩ : Rg)) (by simp [results, Try.results35, go_sem, JR0, JR1, JR2, JR3, JR4, JR5, JR6, JR7, JR8, JO0, JO1, JO2, JO3, JO4, JO5, JO6, JO7, JO8, JRf0, JRf1, JRf2, JRf3, JRf4, JRf5, JRf6, JRf7, JRf8, JOf0, JOf1, JOf2, JOf3, JOf4, JOf5, JOf6, JOf7, JOf8, JRl, JOl]; try first | rfl | simp [rV]) rfl ⟨rfl, (by repeat (first | (with_reducible exact B) | (with_reducible refine Below.setCell ?_ (by dsimp only; omega) _)))⟩
set_option maxHeartbeats 16000000 in
theorem jr_61 (l : Bool) (m : Int) (s : Sc) (ha : thirdB ⟨6, false, m, sc0, 0, 0⟩ = true) (hb : thirdB ⟨1, l, 0, s, 0, 0⟩ = true)  (w : World) : Calls Try.prog 35 #[rV ⟨6, false, m, sc0, 0, 0⟩, rV ⟨1, l, 0, s, 0, 0⟩] w fun e w' => e = .returned (rV (zm m)) ∧ Below w.heap.size w w' := by
  have NA := fun W => ha ▸ rThird_any ⟨6, false, m, sc0, 0, 0⟩ W
  have NB := fun W => hb ▸ rThird_any ⟨1, l, 0, s, 0, 0⟩ W
  clear ha hb
  unfold rV at NA NB
  dsimp only at NA NB
  replace NA := hid NA
  replace NB := hid NB
  unfold zm
  unfold rV
  dsimp only
  go_enter Try.func35, Try.ntmps35
  go_wp2_with fail
  refine (NA.out _).mono ?_
  rintro e w1 ⟨rfl, z⟩
  have JA : RC w1 w.heap.size ⟨6, false, m, sc0, 0, 0⟩ := ((((RC.new (x := ⟨6, false, m, sc0, 0, 0⟩) rfl).alloc _).alloc _).alloc _).below z
  have JB : RC w1 (w.heap.size + 1) ⟨1, l, 0, s, 0, 0⟩ := (((RC.new (x := ⟨1, l, 0, s, 0, 0⟩) (by simp)).alloc _).alloc _).below z
  have JR : RC w1 (w.heap.size + 1 + 1) r0 := ((RC.new (x := r0) (by simp)).alloc _).below z
  have JO : RC w1 (w.heap.size + 1 + 1 + 1) ⟨6, false, 0, sc0, 0, 0⟩ := (RC.new (x := ⟨6, false, 0, sc0, 0, 0⟩) (by simp)).below z
  have B := below_next (bel_alloc (bel_alloc (bel_alloc (bel_alloc (Below.refl w.heap.size w))))) z
  clear z
  have JA0 := JA.c0
  have JA1 := JA.c1
  have JA2 := JA.c2
  have JA3 := JA.c3
  have JA4 := JA.c4
  have JA5 := JA.c5
  have JA6 := JA.c6
  have JA7 := JA.c7
  have JA8 := JA.c8
  have JAl := JA.lt
  have JB0 := JB.c0
  have JB1 := JB.c1
  have JB2 := JB.c2
  have JB3 := JB.c3
  have JB4 := JB.c4
  have JB5 := JB.c5
  have JB6 := JB.c6
  have JB7 := JB.c7
  have JB8 := JB.c8
  have JBl := JB.lt
  have JR0 := JR.c0
  have JR1 := JR.c1
  have JR2 := JR.c2
  have JR3 := JR.c3
  have JR4 := JR.c4
  have JR5 := JR.c5
  have JR6 := JR.c6
  have JR7 := JR.c7
  have JR8 := JR.c8
  have JRl := JR.lt
  have JO0 := JO.c0
  have JO1 := JO.c1
  have JO2 := JO.c2
  have JO3 := JO.c3
  have JO4 := JO.c4
  have JO5 := JO.c5
  have JO6 := JO.c6
  have JO7 := JO.c7
  have JO8 := JO.c8
  have JOl := JO.lt
  have JRf0 := JR.f0
  have JRf1 := JR.f1
  have JRf2 := JR.f2
  have JRf3 := JR.f3
  have JRf4 := JR.f4
  have JRf5 := JR.f5
  have JRf6 := JR.f6
  have JRf7 := JR.f7
  have JRf8 := JR.f8
  have JOf0 := JO.f0
  have JOf1 := JO.f1
  have JOf2 := JO.f2
  have JOf3 := JO.f3
  have JOf4 := JO.f4
  have JOf5 := JO.f5
  have JOf6 := JO.f6
  have JOf7 := JO.f7
  have JOf8 := JO.f8
  try dsimp only at JA0 JA1 JA2 JA3 JA4 JA5 JA6 JA7 JA8 JB0 JB1 JB2 JB3 JB4 JB5 JB6 JB7 JB8 JR0 JR1 JR2 JR3 JR4 JR5 JR6 JR7 JR8 JO0 JO1 JO2 JO3 JO4 JO5 JO6 JO7 JO8
  have lb := B.size
  go_wp2_with fail
  refine (NB.out _).mono ?_
  rintro e w2 ⟨rfl, z⟩
  clear JA0 JA1 JA2 JA3 JA4 JA5 JA6 JA7 JA8 JB0 JB1 JB2 JB3 JB4 JB5 JB6 JB7 JB8 JR0 JR1 JR2 JR3 JR4 JR5 JR6 JR7 JR8 JO0 JO1 JO2 JO3 JO4 JO5 JO6 JO7 JO8 JAl JBl JRl JOl JRf0 JRf1 JRf2 JRf3 JRf4 JRf5 JRf6 JRf7 JRf8 JOf0 JOf1 JOf2 JOf3 JOf4 JOf5 JOf6 JOf7 JOf8 lb
  replace JA := JA.below z
  replace JB := JB.below z
  replace JR := JR.below z
  replace JO := JO.below z
  replace B := below_next B z
  clear z
  have JA0 := JA.c0
  have JA1 := JA.c1
  have JA2 := JA.c2
  have JA3 := JA.c3
  have JA4 := JA.c4
  have JA5 := JA.c5
  have JA6 := JA.c6
  have JA7 := JA.c7
  have JA8 := JA.c8
  have JAl := JA.lt
  have JB0 := JB.c0
  have JB1 := JB.c1
  have JB2 := JB.c2
  have JB3 := JB.c3
  have JB4 := JB.c4
  have JB5 := JB.c5
  have JB6 := JB.c6
  have JB7 := JB.c7
  have JB8 := JB.c8
  have JBl := JB.lt
  have JR0 := JR.c0
  have JR1 := JR.c1
  have JR2 := JR.c2
  have JR3 := JR.c3
  have JR4 := JR.c4
  have JR5 := JR.c5
  have JR6 := JR.c6
  have JR7 := JR.c7
  have JR8 := JR.c8
  have JRl := JR.lt
  have JO0 := JO.c0
  have JO1 := JO.c1
  have JO2 := JO.c2
  have JO3 := JO.c3
  have JO4 := JO.c4
  have JO5 := JO.c5
  have JO6 := JO.c6
  have JO7 := JO.c7
  have JO8 := JO.c8
  have JOl := JO.lt
  have JRf0 := JR.f0
  have JRf1 := JR.f1
  have JRf2 := JR.f2
  have JRf3 := JR.f3
  have JRf4 := JR.f4
  have JRf5 := JR.f5
  have JRf6 := JR.f6
  have JRf7 := JR.f7
  have JRf8 := JR.f8
  have JOf0 := JO.f0
  have JOf1 := JO.f1
  have JOf2 := JO.f2
  have JOf3 := JO.f3
  have JOf4 := JO.f4
  have JOf5 := JO.f5
  have JOf6 := JO.f6
  have JOf7 := JO.f7
  have JOf8 := JO.f8
  try dsimp only at JA0 JA1 JA2 JA3 JA4 JA5 JA6 JA7 JA8 JB0 JB1 JB2 JB3 JB4 JB5 JB6 JB7 JB8 JR0 JR1 JR2 JR3 JR4 JR5 JR6 JR7 JR8 JO0 JO1 JO2 JO3 JO4 JO5 JO6 JO7 JO8
  have lb := B.size
  go_wp2
  exact bodyPost_ret (v := rV (⟨7, false, m, sc0, 0, 0⟩ : Rg)) (by simp [results, Try.results35, go_sem, JR0, JR1, JR2, JR3, JR4, JR5, JR6, JR7, JR8, JO0, JO1, JO2, JO3, JO4, JO5, JO6, JO7, JO8, JRf0, JRf1, JRf2, JRf3, JRf4, JRf5, JRf6, JRf7, JRf8, JOf0, JOf1, JOf2, JOf3, JOf4, JOf5, JOf6, JOf7, JOf8, JRl, JOl]; try first | rfl | simp [rV]) rfl ⟨rfl, (by repeat (first | (with_reducible exact B) | (with_reducible refine Below.setCell ?_ (by dsimp only; omega) _)))⟩
set_option maxHeartbeats 16000000 in
theorem jr_16 (l : Bool) (m : Int) (s : Sc) (ha : thirdB ⟨1, l, 0, s, 0, 0⟩ = true) (hb : thirdB ⟨6, false, m, sc0, 0, 0⟩ = true)  (w : World) : Calls Try.prog 35 #[rV ⟨1, l, 0, s, 0, 0⟩, rV ⟨6, false, m, sc0, 0, 0⟩] w fun e w' => e = .returned (rV (zm m)) ∧ Below w.heap.size w w' := by
  have NA := fun W => ha ▸ rThird_any ⟨1, l, 0, s, 0, 0⟩ W
  have NB := fun W => hb ▸ rThird_any ⟨6, false, m, sc0, 0, 0⟩ W
  clear ha hb
  unfold rV at NA NB
  dsimp only at NA NB
  replace NA := hid NA
  replace NB := hid NB
  unfold zm
  unfold rV
  dsimp only
  go_enter Try.func35, Try.ntmps35
  go_wp2_with fail
  refine (NA.out _).mono ?_
  rintro e w1 ⟨rfl, z⟩
  have JA : RC w1 w.heap.size ⟨1, l, 0, s, 0, 0⟩ := ((((RC.new (x := ⟨1, l, 0, s, 0, 0⟩) rfl).alloc _).alloc _).alloc _).below z
  have JB : RC w1 (w.heap.size + 1) ⟨6, false, m, sc0, 0, 0⟩ := (((RC.new (x := ⟨6, false, m, sc0, 0, 0⟩) (by simp)).alloc _).alloc _).below z
  have JR : RC w1 (w.heap.size + 1 + 1) r0 := ((RC.new (x := r0) (by simp)).alloc _).below z
  have JO : RC w1 (w.heap.size + 1 + 1 + 1) ⟨1, false, 0, sc0, 0, 0⟩ := (RC.new (x := ⟨1, false, 0, sc0, 0, 0⟩) (by simp)).below z
  have B := below_next (bel_alloc (bel_alloc (bel_alloc (bel_alloc (Below.refl w.heap.size w))))) z
  clear z
  have JA0 := JA.c0
  have JA1 := JA.c1
  have JA2 := JA.c2
  have JA3 := JA.c3
  have JA4 := JA.c4
  have JA5 := JA.c5
  have JA6 := JA.c6
  have JA7 := JA.c7
  have JA8 := JA.c8
  have JAl := JA.lt
  have JB0 := JB.c0
  have JB1 := JB.c1
  have JB2 := JB.c2
  have JB3 := JB.c3
  have JB4 := JB.c4
  have JB5 := JB.c5
  have JB6 := JB.c6
  have JB7 := JB.c7
  have JB8 := JB.c8
  have JBl := JB.lt
  have JR0 := JR.c0
  have JR1 := JR.c1
  have JR2 := JR.c2
  have JR3 := JR.c3
  have JR4 := JR.c4
  have JR5 := JR.c5
  have JR6 := JR.c6
  have JR7 := JR.c7
  have JR8 := JR.c8
  have JRl := JR.lt
  have JO0 := JO.c0
  have JO1 := JO.c1
  have JO2 := JO.c2
  have JO3 := JO.c3
  have JO4 := JO.c4
  have JO5 := JO.c5
  have JO6 := JO.c6
  have JO7 := JO.c7
  have JO8 := JO.c8
  have JOl := JO.lt
  have JRf0 := JR.f0
  have JRf1 := JR.f1
  have JRf2 := JR.f2
  have JRf3 := JR.f3
  have JRf4 := JR.f4
  have JRf5 := JR.f5
  have JRf6 := JR.f6
  have JRf7 := JR.f7
  have JRf8 := JR.f8
  have JOf0 := JO.f0
  have JOf1 := JO.f1
  have JOf2 := JO.f2
  have JOf3 := JO.f3
  have JOf4 := JO.f4
  have JOf5 := JO.f5
  have JOf6 := JO.f6
  have JOf7 := JO.f7
  have JOf8 := JO.f8
  try dsimp only at JA0 JA1 JA2 JA3 JA4 JA5 JA6 JA7 JA8 JB0 JB1 JB2 JB3 JB4 JB5 JB6 JB7 JB8 JR0 JR1 JR2 JR3 JR4 JR5 JR6 JR7 JR8 JO0 JO1 JO2 JO3 JO4 JO5 JO6 JO7 JO8
  have lb := B.size
  go_wp2_with fail
  refine (NB.out _).mono ?_
  rintro e w2 ⟨rfl, z⟩
  clear JA0 JA1 JA2 JA3 JA4 JA5 JA6 JA7 JA8 JB0 JB1 JB2 JB3 JB4 JB5 JB6 JB7 JB8 JR0 JR1 JR2 JR3 JR4 JR5 JR6 JR7 JR8 JO0 JO1 JO2 JO3 JO4 JO5 JO6 JO7 JO8 JAl JBl JRl JOl JRf0 JRf1 JRf2 JRf3 JRf4 JRf5 JRf6 JRf7 JRf8 JOf0 JOf1 JOf2 JOf3 JOf4 JOf5 JOf6 JOf7 JOf8 lb
  replace JA := JA.below z
  replace JB := JB.below z
  replace JR := JR.below z
  replace JO := JO.below z
  replace B := below_next B z
  clear z
  have JA0 := JA.c0
  have JA1 := JA.c1
  have JA2 := JA.c2
  have JA3 := JA.c3
  have JA4 := JA.c4
  have JA5 := JA.c5
  have JA6 := JA.c6
  have JA7 := JA.c7
  have JA8 := JA.c8
  have JAl := JA.lt
  have JB0 := JB.c0
  have JB1 := JB.c1
  have JB2 := JB.c2
  have JB3 := JB.c3
  have JB4 := JB.c4
  have JB5 := JB.c5
  have JB6 := JB.c6
  have JB7 := JB.c7
  have JB8 := JB.c8
  have JBl := JB.lt
  have JR0 := JR.c0
  have JR1 := JR.c1
  have JR2 := JR.c2
  have JR3 := JR.c3
  have JR4 := JR.c4
  have JR5 := JR.c5
  have JR6 := JR.c6
  have JR7 := JR.c7
  have JR8 := JR.c8
  have JRl := JR.lt
  have JO0 := JO.c0
  have JO1 := JO.c1
  have JO2 := JO.c2
  have JO3 := JO.c3
  have JO4 := JO.c4
  have JO5 := JO.c5
  have JO6 := JO.c6
  have JO7 := JO.c7
  have JO8 := JO.c8
  have JOl := JO.lt
  have JRf0 := JR.f0
  have JRf1 := JR.f1
  have JRf2 := JR.f2
  have JRf3 := JR.f3
  have JRf4 := JR.f4
  have JRf5 := JR.f5
  have JRf6 := JR.f6
  have JRf7 := JR.f7
  have JRf8 := JR.f8
  have JOf0 := JO.f0
  have JOf1 := JO.f1
  have JOf2 := JO.f2
  have JOf3 := JO.f3
  have JOf4 := JO.f4
  have JOf5 := JO.f5
  have JOf6 := JO.f6
  have JOf7 := JO.f7
  have JOf8 := JO.f8
  try dsimp only at JA0 JA1 JA2 JA3 JA4 JA5 JA6 JA7 JA8 JB0 JB1 JB2 JB3 JB4 JB5 JB6 JB7 JB8 JR0 JR1 JR2 JR3 JR4 JR5 JR6 JR7 JR8 JO0 JO1 JO2 JO3 JO4 JO5 JO6 JO7 JO8
  have lb := B.size
  have h0 : (w2.setCell ⟨(w.heap.size + 1 + 1 + 1), 0, none⟩ (.int .u8 7)).cell? ⟨(w.heap.size + 1 + 1 + 1), 2, none⟩ = some (.int .i64 0) := (World.cell?_setCell_other _ _ _ _ (by simp)).trans JO2
  have h1 : ((w2.setCell ⟨(w.heap.size + 1 + 1 + 1), 0, none⟩ (.int .u8 7)).setCell ⟨(w.heap.size + 1 + 1 + 1), 2, none⟩ (.int .i64 0)).cell? ⟨(w.heap.size + 1 + 1 + 1), 2, none⟩ = some (.int .i64 0) := World.cell?_setCell_same _ _ _ h0
  have q2 : (((w2.setCell ⟨(w.heap.size + 1 + 1 + 1), 0, none⟩ (.int .u8 7)).setCell ⟨(w.heap.size + 1 + 1 + 1), 2, none⟩ (.int .i64 0)).setCell ⟨(w.heap.size + 1 + 1 + 1), 2, none⟩ (.int .i64 m)).cell? ⟨(w.heap.size + 1 + 1 + 1), 2, none⟩ = some (.int .i64 m) := World.cell?_setCell_same _ _ _ h1
  clear h0
  go_wp2
  exact bodyPost_ret (v := rV (⟨7, false, m, sc0, 0, 0⟩ : Rg)) (by simp [results, Try.results35, go_sem, JR0, JR1, JR2, JR3, JR4, JR5, JR6, JR7, JR8, JO0, JO1, JO2, JO3, JO4, JO5, JO6, JO7, JO8, JRf0, JRf1, JRf2, JRf3, JRf4, JRf5, JRf6, JRf7, JRf8, JOf0, JOf1, JOf2, JOf3, JOf4, JOf5, JOf6, JOf7, JOf8, JRl, JOl]; try first | rfl | simp [rV]) rfl ⟨rfl, (by repeat (first | (with_reducible exact B) | (with_reducible refine Below.setCell ?_ (by dsimp only; omega) _)))⟩
set_option maxHeartbeats 16000000 in
theorem jr_76 (m : Int) (ha : thirdB ⟨7, false, m, sc0, 0, 0⟩ = true) (hb : thirdB ⟨6, false, m, sc0, 0, 0⟩ = true)  (w : World) : Calls Try.prog 35 #[rV ⟨7, false, m, sc0, 0, 0⟩, rV ⟨6, false, m, sc0, 0, 0⟩] w fun e w' => e = .returned (rV (zm m)) ∧ Below w.heap.size w w' := by
  have NA := fun W => ha ▸ rThird_any ⟨7, false, m, sc0, 0, 0⟩ W
  have NB := fun W => hb ▸ rThird_any ⟨6, false, m, sc0, 0, 0⟩ W
  clear ha hb
  unfold rV at NA NB
  dsimp only at NA NB
  replace NA := hid NA
  replace NB := hid NB
  unfold zm
  unfold rV
  dsimp only
  go_enter Try.func35, Try.ntmps35
  go_wp2_with fail
  refine (NA.out _).mono ?_
  rintro e w1 ⟨rfl, z⟩
  have JA : RC w1 w.heap.size ⟨7, false, m, sc0, 0, 0⟩ := ((((RC.new (x := ⟨7, false, m, sc0, 0, 0⟩) rfl).alloc _).alloc _).alloc _).below z
  have JB : RC w1 (w.heap.size + 1) ⟨6, false, m, sc0, 0, 0⟩ := (((RC.new (x := ⟨6, false, m, sc0, 0, 0⟩) (by simp)).alloc _).alloc _).below z
  have JR : RC w1 (w.heap.size + 1 + 1) r0 := ((RC.new (x := r0) (by simp)).alloc _).below z
  have JO : RC w1 (w.heap.size + 1 + 1 + 1) ⟨7, false, 0, sc0, 0, 0⟩ := (RC.new (x := ⟨7, false, 0, sc0, 0, 0⟩) (by simp)).below z
  have B := below_next (bel_alloc (bel_alloc (bel_alloc (bel_alloc (Below.refl w.heap.size w))))) z
  clear z
  have JA0 := JA.c0
  have JA1 := JA.c1
  have JA2 := JA.c2
  have JA3 := JA.c3
  have JA4 := JA.c4
  have JA5 := JA.c5
  have JA6 := JA.c6
  have JA7 := JA.c7
  have JA8 := JA.c8
  have JAl := JA.lt
  have JB0 := JB.c0
  have JB1 := JB.c1
  have JB2 := JB.c2
  have JB3 := JB.c3
  have JB4 := JB.c4
  have JB5 := JB.c5
  have JB6 := JB.c6
  have JB7 := JB.c7
  have JB8 := JB.c8
  have JBl := JB.lt
  have JR0 := JR.c0
  have JR1 := JR.c1
  have JR2 := JR.c2
  have JR3 := JR.c3
  have JR4 := JR.c4
  have JR5 := JR.c5
  have JR6 := JR.c6
  have JR7 := JR.c7
  have JR8 := JR.c8
  have JRl := JR.lt
  have JO0 := JO.c0
  have JO1 := JO.c1
  have JO2 := JO.c2
  have JO3 := JO.c3
  have JO4 := JO.c4
  have JO5 := JO.c5
  have JO6 := JO.c6
  have JO7 := JO.c7
  have JO8 := JO.c8
  have JOl := JO.lt
  have JRf0 := JR.f0
  have JRf1 := JR.f1
  have JRf2 := JR.f2
  have JRf3 := JR.f3
  have JRf4 := JR.f4
  have JRf5 := JR.f5
  have JRf6 := JR.f6
  have JRf7 := JR.f7
  have JRf8 := JR.f8
  have JOf0 := JO.f0
  have JOf1 := JO.f1
  have JOf2 := JO.f2
  have JOf3 := JO.f3
  have JOf4 := JO.f4
  have JOf5 := JO.f5
  have JOf6 := JO.f6
  have JOf7 := JO.f7
  have JOf8 := JO.f8
  try dsimp only at JA0 JA1 JA2 JA3 JA4 JA5 JA6 JA7 JA8 JB0 JB1 JB2 JB3 JB4 JB5 JB6 JB7 JB8 JR0 JR1 JR2 JR3 JR4 JR5 JR6 JR7 JR8 JO0 JO1 JO2 JO3 JO4 JO5 JO6 JO7 JO8
  have lb := B.size
  go_wp2_with fail
  refine (NB.out _).mono ?_
  rintro e w2 ⟨rfl, z⟩
  clear JA0 JA1 JA2 JA3 JA4 JA5 JA6 JA7 JA8 JB0 JB1 JB2 JB3 JB4 JB5 JB6 JB7 JB8 JR0 JR1 JR2 JR3 JR4 JR5 JR6 JR7 JR8 JO0 JO1 JO2 JO3 JO4 JO5 JO6 JO7 JO8 JAl JBl JRl JOl JRf0 JRf1 JRf2 JRf3 JRf4 JRf5 JRf6 JRf7 JRf8 JOf0 JOf1 JOf2 JOf3 JOf4 JOf5 JOf6 JOf7 JOf8 lb
  replace JA := JA.below z
  replace JB := JB.below z
  replace JR := JR.below z
  replace JO := JO.below z
  replace B := below_next B z
  clear z
  have JA0 := JA.c0
  have JA1 := JA.c1
  have JA2 := JA.c2
  have JA3 := JA.c3
  have JA4 := JA.c4
  have JA5 := JA.c5
  have JA6 := JA.c6
  have JA7 := JA.c7
  have JA8 := JA.c8
  have JAl := JA.lt
  have JB0 := JB.c0
  have JB1 := JB.c1
  have JB2 := JB.c2
  have JB3 := JB.c3
  have JB4 := JB.c4
  have JB5 := JB.c5
  have JB6 := JB.c6
  have JB7 := JB.c7
  have JB8 := JB.c8
  have JBl := JB.lt
  have JR0 := JR.c0
  have JR1 := JR.c1
  have JR2 := JR.c2
  have JR3 := JR.c3
  have JR4 := JR.c4
  have JR5 := JR.c5
  have JR6 := JR.c6
  have JR7 := JR.c7
  have JR8 := JR.c8
  have JRl := JR.lt
  have JO0 := JO.c0
  have JO1 := JO.c1
  have JO2 := JO.c2
  have JO3 := JO.c3
  have JO4 := JO.c4
  have JO5 := JO.c5
  have JO6 := JO.c6
  have JO7 := JO.c7
  have JO8 := JO.c8
  have JOl := JO.lt
  have JRf0 := JR.f0
  have JRf1 := JR.f1
  have JRf2 := JR.f2
  have JRf3 := JR.f3
  have JRf4 := JR.f4
  have JRf5 := JR.f5
  have JRf6 := JR.f6
  have JRf7 := JR.f7
  have JRf8 := JR.f8
  have JOf0 := JO.f0
  have JOf1 := JO.f1
  have JOf2 := JO.f2
  have JOf3 := JO.f3
  have JOf4 := JO.f4
  have JOf5 := JO.f5
  have JOf6 := JO.f6
  have JOf7 := JO.f7
  have JOf8 := JO.f8
  try dsimp only at JA0 JA1 JA2 JA3 JA4 JA5 JA6 JA7 JA8 JB0 JB1 JB2 JB3 JB4 JB5 JB6 JB7 JB8 JR0 JR1 JR2 JR3 JR4 JR5 JR6 JR7 JR8 JO0 JO1 JO2 JO3 JO4 JO5 JO6 JO7 JO8
  have lb := B.size
  go_wp2
  exact bodyPost_ret (v := rV (⟨7, false, m, sc0, 0, 0⟩ : Rg)) (by simp [results, Try.results35, go_sem, JR0, JR1, JR2, JR3, JR4, JR5, JR6, JR7, JR8, JO0, JO1, JO2, JO3, JO4, JO5, JO6, JO7, JO8, JRf0, JRf1, JRf2, JRf3, JRf4, JRf5, JRf6, JRf7, JRf8, JOf0, JOf1, JOf2, JOf3, JOf4, JOf5, JOf6, JOf7, JOf8, JRl, JOl]; try first | rfl | simp [rV]) rfl ⟨rfl, (by repeat (first | (with_reducible exact B) | (with_reducible refine Below.setCell ?_ (by dsimp only; omega) _)))⟩
set_option maxHeartbeats 16000000 in
theorem jr_67 (m : Int) (ha : thirdB ⟨6, false, m, sc0, 0, 0⟩ = true) (hb : thirdB ⟨7, false, m, sc0, 0, 0⟩ = true)  (w : World) : Calls Try.prog 35 #[rV ⟨6, false, m, sc0, 0, 0⟩, rV ⟨7, false, m, sc0, 0, 0⟩] w fun e w' => e = .returned (rV (zm m)) ∧ Below w.heap.size w w' := by
  have NA := fun W => ha ▸ rThird_any ⟨6, false, m, sc0, 0, 0⟩ W
  have NB := fun W => hb ▸ rThird_any ⟨7, false, m, sc0, 0, 0⟩ W
  clear ha hb
  unfold rV at NA NB
  dsimp only at NA NB
  replace NA := hid NA
  replace NB := hid NB
  unfold zm
  unfold rV
  dsimp only
  go_enter Try.func35, Try.ntmps35
  go_wp2_with fail
  refine (NA.out _).mono ?_
  rintro e w1 ⟨rfl, z⟩
  have JA : RC w1 w.heap.size ⟨6, false, m, sc0, 0, 0⟩ := ((((RC.new (x := ⟨6, false, m, sc0, 0, 0⟩) rfl).alloc _).alloc _).alloc _).below z
  have JB : RC w1 (w.heap.size + 1) ⟨7, false, m, sc0, 0, 0⟩ := (((RC.new (x := ⟨7, false, m, sc0, 0, 0⟩) (by simp)).alloc _).alloc _).below z
  have JR : RC w1 (w.heap.size + 1 + 1) r0 := ((RC.new (x := r0) (by simp)).alloc _).below z
  have JO : RC w1 (w.heap.size + 1 + 1 + 1) ⟨6, false, 0, sc0, 0, 0⟩ := (RC.new (x := ⟨6, false, 0, sc0, 0, 0⟩) (by simp)).below z
  have B := below_next (bel_alloc (bel_alloc (bel_alloc (bel_alloc (Below.refl w.heap.size w))))) z
  clear z
  have JA0 := JA.c0
  have JA1 := JA.c1
  have JA2 := JA.c2
  have JA3 := JA.c3
  have JA4 := JA.c4
  have JA5 := JA.c5
  have JA6 := JA.c6
  have JA7 := JA.c7
  have JA8 := JA.c8
  have JAl := JA.lt
  have JB0 := JB.c0
  have JB1 := JB.c1
  have JB2 := JB.c2
  have JB3 := JB.c3
  have JB4 := JB.c4
  have JB5 := JB.c5
  have JB6 := JB.c6
  have JB7 := JB.c7
  have JB8 := JB.c8
  have JBl := JB.lt
  have JR0 := JR.c0
  have JR1 := JR.c1
  have JR2 := JR.c2
  have JR3 := JR.c3
  have JR4 := JR.c4
  have JR5 := JR.c5
  have JR6 := JR.c6
  have JR7 := JR.c7
  have JR8 := JR.c8
  have JRl := JR.lt
  have JO0 := JO.c0
  have JO1 := JO.c1
  have JO2 := JO.c2
  have JO3 := JO.c3
  have JO4 := JO.c4
  have JO5 := JO.c5
  have JO6 := JO.c6
  have JO7 := JO.c7
  have JO8 := JO.c8
  have JOl := JO.lt
  have JRf0 := JR.f0
  have JRf1 := JR.f1
  have JRf2 := JR.f2
  have JRf3 := JR.f3
  have JRf4 := JR.f4
  have JRf5 := JR.f5
  have JRf6 := JR.f6
  have JRf7 := JR.f7
  have JRf8 := JR.f8
  have JOf0 := JO.f0
  have JOf1 := JO.f1
  have JOf2 := JO.f2
  have JOf3 := JO.f3
  have JOf4 := JO.f4
  have JOf5 := JO.f5
  have JOf6 := JO.f6
  have JOf7 := JO.f7
  have JOf8 := JO.f8
  try dsimp only at JA0 JA1 JA2 JA3 JA4 JA5 JA6 JA7 JA8 JB0 JB1 JB2 JB3 JB4 JB5 JB6 JB7 JB8 JR0 JR1 JR2 JR3 JR4 JR5 JR6 JR7 JR8 JO0 JO1 JO2 JO3 JO4 JO5 JO6 JO7 JO8
  have lb := B.size
  go_wp2_with fail
  refine (NB.out _).mono ?_
  rintro e w2 ⟨rfl, z⟩
  clear JA0 JA1 JA2 JA3 JA4 JA5 JA6 JA7 JA8 JB0 JB1 JB2 JB3 JB4 JB5 JB6 JB7 JB8 JR0 JR1 JR2 JR3 JR4 JR5 JR6 JR7 JR8 JO0 JO1 JO2 JO3 JO4 JO5 JO6 JO7 JO8 JAl JBl JRl JOl JRf0 JRf1 JRf2 JRf3 JRf4 JRf5 JRf6 JRf7 JRf8 JOf0 JOf1 JOf2 JOf3 JOf4 JOf5 JOf6 JOf7 JOf8 lb
  replace JA := JA.below z
  replace JB := JB.below z
  replace JR := JR.below z
  replace JO := JO.below z
  replace B := below_next B z
  clear z
  have JA0 := JA.c0
  have JA1 := JA.c1
  have JA2 := JA.c2
  have JA3 := JA.c3
  have JA4 := JA.c4
  have JA5 := JA.c5
  have JA6 := JA.c6
  have JA7 := JA.c7
  have JA8 := JA.c8
  have JAl := JA.lt
  have JB0 := JB.c0
  have JB1 := JB.c1
  have JB2 := JB.c2
  have JB3 := JB.c3
  have JB4 := JB.c4
  have JB5 := JB.c5
  have JB6 := JB.c6
  have JB7 := JB.c7
  have JB8 := JB.c8
  have JBl := JB.lt
  have JR0 := JR.c0
  have JR1 := JR.c1
  have JR2 := JR.c2
  have JR3 := JR.c3
  have JR4 := JR.c4
  have JR5 := JR.c5
  have JR6 := JR.c6
  have JR7 := JR.c7
  have JR8 := JR.c8
  have JRl := JR.lt
  have JO0 := JO.c0
  have JO1 := JO.c1
  have JO2 := JO.c2
  have JO3 := JO.c3
  have JO4 := JO.c4
  have JO5 := JO.c5
  have JO6 := JO.c6
  have JO7 := JO.c7
  have JO8 := JO.c8
  have JOl := JO.lt
  have JRf0 := JR.f0
  have JRf1 := JR.f1
  have JRf2 := JR.f2
  have JRf3 := JR.f3
  have JRf4 := JR.f4
  have JRf5 := JR.f5
  have JRf6 := JR.f6
  have JRf7 := JR.f7
  have JRf8 := JR.f8
  have JOf0 := JO.f0
  have JOf1 := JO.f1
  have JOf2 := JO.f2
  have JOf3 := JO.f3
  have JOf4 := JO.f4
  have JOf5 := JO.f5
  have JOf6 := JO.f6
  have JOf7 := JO.f7
  have JOf8 := JO.f8
  try dsimp only at JA0 JA1 JA2 JA3 JA4 JA5 JA6 JA7 JA8 JB0 JB1 JB2 JB3 JB4 JB5 JB6 JB7 JB8 JR0 JR1 JR2 JR3 JR4 JR5 JR6 JR7 JR8 JO0 JO1 JO2 JO3 JO4 JO5 JO6 JO7 JO8
  have lb := B.size
  go_wp2
  exact bodyPost_ret (v := rV (⟨7, false, m, sc0, 0, 0⟩ : Rg)) (by simp [results, Try.results35, go_sem, JR0, JR1, JR2, JR3, JR4, JR5, JR6, JR7, JR8, JO0, JO1, JO2, JO3, JO4, JO5, JO6, JO7, JO8, JRf0, JRf1, JRf2, JRf3, JRf4, JRf5, JRf6, JRf7, JRf8, JOf0, JOf1, JOf2, JOf3, JOf4, JOf5, JOf6, JOf7, JOf8, JRl, JOl]; try first | rfl | simp [rV]) rfl ⟨rfl, (by repeat (first | (with_reducible exact B) | (with_reducible refine Below.setCell ?_ (by dsimp only; omega) _)))⟩
set_option maxHeartbeats 16000000 in
theorem jr_76n (m n : Int) (ha : thirdB ⟨7, false, m, sc0, 0, 0⟩ = true) (hb : thirdB ⟨6, false, n, sc0, 0, 0⟩ = true) (h : m ≠ n) (w : World) : Calls Try.prog 35 #[rV ⟨7, false, m, sc0, 0, 0⟩, rV ⟨6, false, n, sc0, 0, 0⟩] w fun e w' => e = .returned (rV r0) ∧ Below w.heap.size w w' := by
  have NA := fun W => ha ▸ rThird_any ⟨7, false, m, sc0, 0, 0⟩ W
  have NB := fun W => hb ▸ rThird_any ⟨6, false, n, sc0, 0, 0⟩ W
  clear ha hb
  unfold rV at NA NB
  dsimp only at NA NB
  replace NA := hid NA
  replace NB := hid NB
  have e : (m == n) = false := by simpa using h
  have e2 : (m != n) = true := by simpa using h
  clear h
  unfold rV
  dsimp only
  go_enter Try.func35, Try.ntmps35
  go_wp2_with fail
  refine (NA.out _).mono ?_
  rintro e w1 ⟨rfl, z⟩
  have JA : RC w1 w.heap.size ⟨7, false, m, sc0, 0, 0⟩ := ((((RC.new (x := ⟨7, false, m, sc0, 0, 0⟩) rfl).alloc _).alloc _).alloc _).below z
  have JB : RC w1 (w.heap.size + 1) ⟨6, false, n, sc0, 0, 0⟩ := (((RC.new (x := ⟨6, false, n, sc0, 0, 0⟩) (by simp)).alloc _).alloc _).below z
  have JR : RC w1 (w.heap.size + 1 + 1) r0 := ((RC.new (x := r0) (by simp)).alloc _).below z
  have JO : RC w1 (w.heap.size + 1 + 1 + 1) ⟨7, false, 0, sc0, 0, 0⟩ := (RC.new (x := ⟨7, false, 0, sc0, 0, 0⟩) (by simp)).below z
  have B := below_next (bel_alloc (bel_alloc (bel_alloc (bel_alloc (Below.refl w.heap.size w))))) z
  clear z
  have JA0 := JA.c0
  have JA1 := JA.c1
  have JA2 := JA.c2
  have JA3 := JA.c3
  have JA4 := JA.c4
  have JA5 := JA.c5
  have JA6 := JA.c6
  have JA7 := JA.c7
  have JA8 := JA.c8
  have JAl := JA.lt
  have JB0 := JB.c0
  have JB1 := JB.c1
  have JB2 := JB.c2
  have JB3 := JB.c3
  have JB4 := JB.c4
  have JB5 := JB.c5
  have JB6 := JB.c6
  have JB7 := JB.c7
  have JB8 := JB.c8
  have JBl := JB.lt
  have JR0 := JR.c0
  have JR1 := JR.c1
  have JR2 := JR.c2
  have JR3 := JR.c3
  have JR4 := JR.c4
  have JR5 := JR.c5
  have JR6 := JR.c6
  have JR7 := JR.c7
  have JR8 := JR.c8
  have JRl := JR.lt
  have JO0 := JO.c0
  have JO1 := JO.c1
  have JO2 := JO.c2
  have JO3 := JO.c3
  have JO4 := JO.c4
  have JO5 := JO.c5
  have JO6 := JO.c6
  have JO7 := JO.c7
  have JO8 := JO.c8
  have JOl := JO.lt
  have JRf0 := JR.f0
  have JRf1 := JR.f1
  have JRf2 := JR.f2
  have JRf3 := JR.f3
  have JRf4 := JR.f4
  have JRf5 := JR.f5
  have JRf6 := JR.f6
  have JRf7 := JR.f7
  have JRf8 := JR.f8
  have JOf0 := JO.f0
  have JOf1 := JO.f1
  have JOf2 := JO.f2
  have JOf3 := JO.f3
  have JOf4 := JO.f4
  have JOf5 := JO.f5
  have JOf6 := JO.f6
  have JOf7 := JO.f7
  have JOf8 := JO.f8
  try dsimp only at JA0 JA1 JA2 JA3 JA4 JA5 JA6 JA7 JA8 JB0 JB1 JB2 JB3 JB4 JB5 JB6 JB7 JB8 JR0 JR1 JR2 JR3 JR4 JR5 JR6 JR7 JR8 JO0 JO1 JO2 JO3 JO4 JO5 JO6 JO7 JO8
  have lb := B.size
  go_wp2_with fail
  refine (NB.out _).mono ?_
  rintro e w2 ⟨rfl, z⟩
  clear JA0 JA1 JA2 JA3 JA4 JA5 JA6 JA7 JA8 JB0 JB1 JB2 JB3 JB4 JB5 JB6 JB7 JB8 JR0 JR1 JR2 JR3 JR4 JR5 JR6 JR7 JR8 JO0 JO1 JO2 JO3 JO4 JO5 JO6 JO7 JO8 JAl JBl JRl JOl JRf0 JRf1 JRf2 JRf3 JRf4 JRf5 JRf6 JRf7 JRf8 JOf0 JOf1 JOf2 JOf3 JOf4 JOf5 JOf6 JOf7 JOf8 lb
  replace JA := JA.below z
  replace JB := JB.below z
  replace JR := JR.below z
  replace JO := JO.below z
  replace B := below_next B z
  clear z
  have JA0 := JA.c0
  have JA1 := JA.c1
  have JA2 := JA.c2
  have JA3 := JA.c3
  have JA4 := JA.c4
  have JA5 := JA.c5
  have JA6 := JA.c6
  have JA7 := JA.c7
  have JA8 := JA.c8
  have JAl := JA.lt
  have JB0 := JB.c0
  have JB1 := JB.c1
  have JB2 := JB.c2
  have JB3 := JB.c3
  have JB4 := JB.c4
  have JB5 := JB.c5
  have JB6 := JB.c6
  have JB7 := JB.c7
  have JB8 := JB.c8
  have JBl := JB.lt
  have JR0 := JR.c0
  have JR1 := JR.c1
  have JR2 := JR.c2
  have JR3 := JR.c3
  have JR4 := JR.c4
  have JR5 := JR.c5
  have JR6 := JR.c6
  have JR7 := JR.c7
  have JR8 := JR.c8
  have JRl := JR.lt
  have JO0 := JO.c0
  have JO1 := JO.c1
  have JO2 := JO.c2
  have JO3 := JO.c3
  have JO4 := JO.c4
  have JO5 := JO.c5
  have JO6 := JO.c6
  have JO7 := JO.c7
  have JO8 := JO.c8
  have JOl := JO.lt
  have JRf0 := JR.f0
  have JRf1 := JR.f1
  have JRf2 := JR.f2
  have JRf3 := JR.f3
  have JRf4 := JR.f4
  have JRf5 := JR.f5
  have JRf6 := JR.f6
  have JRf7 := JR.f7
  have JRf8 := JR.f8
  have JOf0 := JO.f0
  have JOf1 := JO.f1
  have JOf2 := JO.f2
  have JOf3 := JO.f3
  have JOf4 := JO.f4
  have JOf5 := JO.f5
  have JOf6 := JO.f6
  have JOf7 := JO.f7
  have JOf8 := JO.f8
  try dsimp only at JA0 JA1 JA2 JA3 JA4 JA5 JA6 JA7 JA8 JB0 JB1 JB2 JB3 JB4 JB5 JB6 JB7 JB8 JR0 JR1 JR2 JR3 JR4 JR5 JR6 JR7 JR8 JO0 JO1 JO2 JO3 JO4 JO5 JO6 JO7 JO8
  have lb := B.size
  go_wp2
  exact bodyPost_ret (v := rV r0) (by simp [results, Try.results35, go_sem, JR0, JR1, JR2, JR3, JR4, JR5, JR6, JR7, JR8, JO0, JO1, JO2, JO3, JO4, JO5, JO6, JO7, JO8, JRf0, JRf1, JRf2, JRf3, JRf4, JRf5, JRf6, JRf7, JRf8, JOf0, JOf1, JOf2, JOf3, JOf4, JOf5, JOf6, JOf7, JOf8, JRl, JOl]; try first | rfl | simp [rV]) rfl ⟨rfl, (by repeat (first | (with_reducible exact B) | (with_reducible refine Below.setCell ?_ (by dsimp only; omega) _)))⟩
set_option maxHeartbeats 16000000 in
theorem jr_67n (m n : Int) (ha : thirdB ⟨6, false, m, sc0, 0, 0⟩ = true) (hb : thirdB ⟨7, false, n, sc0, 0, 0⟩ = true) (h : m ≠ n) (w : World) : Calls Try.prog 35 #[rV ⟨6, false, m, sc0, 0, 0⟩, rV ⟨7, false, n, sc0, 0, 0⟩] w fun e w' => e = .returned (rV r0) ∧ Below w.heap.size w w' := by
  have NA := fun W => ha ▸ rThird_any ⟨6, false, m, sc0, 0, 0⟩ W
  have NB := fun W => hb ▸ rThird_any ⟨7, false, n, sc0, 0, 0⟩ W
  clear ha hb
  unfold rV at NA NB
  dsimp only at NA NB
  replace NA := hid NA
  replace NB := hid NB
  have e : (m == n) = false := by simpa using h
  have e2 : (m != n) = true := by simpa using h
  clear h
  unfold rV
  dsimp only
  go_enter Try.func35, Try.ntmps35
  go_wp2_with fail
  refine (NA.out _).mono ?_
  rintro e w1 ⟨rfl, z⟩
  have JA : RC w1 w.heap.size ⟨6, false, m, sc0, 0, 0⟩ := ((((RC.new (x := ⟨6, false, m, sc0, 0, 0⟩) rfl).alloc _).alloc _).alloc _).below z
  have JB : RC w1 (w.heap.size + 1) ⟨7, false, n, sc0, 0, 0⟩ := (((RC.new (x := ⟨7, false, n, sc0, 0, 0⟩) (by simp)).alloc _).alloc _).below z
  have JR : RC w1 (w.heap.size + 1 + 1) r0 := ((RC.new (x := r0) (by simp)).alloc _).below z
  have JO : RC w1 (w.heap.size + 1 + 1 + 1) ⟨6, false, 0, sc0, 0, 0⟩ := (RC.new (x := ⟨6, false, 0, sc0, 0, 0⟩) (by simp)).below z
  have B := below_next (bel_alloc (bel_alloc (bel_alloc (bel_alloc (Below.refl w.heap.size w))))) z
  clear z
  have JA0 := JA.c0
  have JA1 := JA.c1
  have JA2 := JA.c2
  have JA3 := JA.c3
  have JA4 := JA.c4
  have JA5 := JA.c5
  have JA6 := JA.c6
  have JA7 := JA.c7
  have JA8 := JA.c8
  have JAl := JA.lt
  have JB0 := JB.c0
  have JB1 := JB.c1
  have JB2 := JB.c2
  have JB3 := JB.c3
  have JB4 := JB.c4
  have JB5 := JB.c5
  have JB6 := JB.c6
  have JB7 := JB.c7
  have JB8 := JB.c8
  have JBl := JB.lt
  have JR0 := JR.c0
  have JR1 := JR.c1
  have JR2 := JR.c2
  have JR3 := JR.c3
  have JR4 := JR.c4
  have JR5 := JR.c5
  have JR6 := JR.c6
  have JR7 := JR.c7
  have JR8 := JR.c8
  have JRl := JR.lt
  have JO0 := JO.c0
  have JO1 := JO.c1
  have JO2 := JO.c2
  have JO3 := JO.c3
  have JO4 := JO.c4
  have JO5 := JO.c5
  have JO6 := JO.c6
  have JO7 := JO.c7
  have JO8 := JO.c8
  have JOl := JO.lt
  have JRf0 := JR.f0
  have JRf1 := JR.f1
  have JRf2 := JR.f2
  have JRf3 := JR.f3
  have JRf4 := JR.f4
  have JRf5 := JR.f5
  have JRf6 := JR.f6
  have JRf7 := JR.f7
  have JRf8 := JR.f8
  have JOf0 := JO.f0
  have JOf1 := JO.f1
  have JOf2 := JO.f2
  have JOf3 := JO.f3
  have JOf4 := JO.f4
  have JOf5 := JO.f5
  have JOf6 := JO.f6
  have JOf7 := JO.f7
  have JOf8 := JO.f8
  try dsimp only at JA0 JA1 JA2 JA3 JA4 JA5 JA6 JA7 JA8 JB0 JB1 JB2 JB3 JB4 JB5 JB6 JB7 JB8 JR0 JR1 JR2 JR3 JR4 JR5 JR6 JR7 JR8 JO0 JO1 JO2 JO3 JO4 JO5 JO6 JO7 JO8
  have lb := B.size
  go_wp2_with fail
  refine (NB.out _).mono ?_
  rintro e w2 ⟨rfl, z⟩
  clear JA0 JA1 JA2 JA3 JA4 JA5 JA6 JA7 JA8 JB0 JB1 JB2 JB3 JB4 JB5 JB6 JB7 JB8 JR0 JR1 JR2 JR3 JR4 JR5 JR6 JR7 JR8 JO0 JO1 JO2 JO3 JO4 JO5 JO6 JO7 JO8 JAl JBl JRl JOl JRf0 JRf1 JRf2 JRf3 JRf4 JRf5 JRf6 JRf7 JRf8 JOf0 JOf1 JOf2 JOf3 JOf4 JOf5 JOf6 JOf7 JOf8 lb
  replace JA := JA.below z
  replace JB := JB.below z
  replace JR := JR.below z
  replace JO := JO.below z
  replace B := below_next B z
  clear z
  have JA0 := JA.c0
  have JA1 := JA.c1
  have JA2 := JA.c2
  have JA3 := JA.c3
  have JA4 := JA.c4
  have JA5 := JA.c5
  have JA6 := JA.c6
  have JA7 := JA.c7
  have JA8 := JA.c8
  have JAl := JA.lt
  have JB0 := JB.c0
  have JB1 := JB.c1
  have JB2 := JB.c2
  have JB3 := JB.c3
  have JB4 := JB.c4
  have JB5 := JB.c5
  have JB6 := JB.c6
  have JB7 := JB.c7
  have JB8 := JB.c8
  have JBl := JB.lt
  have JR0 := JR.c0
  have JR1 := JR.c1
  have JR2 := JR.c2
  have JR3 := JR.c3
  have JR4 := JR.c4
  have JR5 := JR.c5
  have JR6 := JR.c6
  have JR7 := JR.c7
  have JR8 := JR.c8
  have JRl := JR.lt
  have JO0 := JO.c0
  have JO1 := JO.c1
  have JO2 := JO.c2
  have JO3 := JO.c3
  have JO4 := JO.c4
  have JO5 := JO.c5
  have JO6 := JO.c6
  have JO7 := JO.c7
  have JO8 := JO.c8
  have JOl := JO.lt
  have JRf0 := JR.f0
  have JRf1 := JR.f1
  have JRf2 := JR.f2
  have JRf3 := JR.f3
  have JRf4 := JR.f4
  have JRf5 := JR.f5
  have JRf6 := JR.f6
  have JRf7 := JR.f7
  have JRf8 := JR.f8
  have JOf0 := JO.f0
  have JOf1 := JO.f1
  have JOf2 := JO.f2
  have JOf3 := JO.f3
  have JOf4 := JO.f4
  have JOf5 := JO.f5
  have JOf6 := JO.f6
  have JOf7 := JO.f7
  have JOf8 := JO.f8
  try dsimp only at JA0 JA1 JA2 JA3 JA4 JA5 JA6 JA7 JA8 JB0 JB1 JB2 JB3 JB4 JB5 JB6 JB7 JB8 JR0 JR1 JR2 JR3 JR4 JR5 JR6 JR7 JR8 JO0 JO1 JO2 JO3 JO4 JO5 JO6 JO7 JO8
  have lb := B.size
  go_wp2
  exact bodyPost_ret (v := rV r0) (by simp [results, Try.results35, go_sem, JR0, JR1, JR2, JR3, JR4, JR5, JR6, JR7, JR8, JO0, JO1, JO2, JO3, JO4, JO5, JO6, JO7, JO8, JRf0, JRf1, JRf2, JRf3, JRf4, JRf5, JRf6, JRf7, JRf8, JOf0, JOf1, JOf2, JOf3, JOf4, JOf5, JOf6, JOf7, JOf8, JRl, JOl]; try first | rfl | simp [rV]) rfl ⟨rfl, (by repeat (first | (with_reducible exact B) | (with_reducible refine Below.setCell ?_ (by dsimp only; omega) _)))⟩
end Go.Proofs.Ytodmikjpmcabiaa
