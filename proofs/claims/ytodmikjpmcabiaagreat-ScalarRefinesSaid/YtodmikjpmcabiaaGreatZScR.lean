import Derived.Test.YtodmikjpmcabiaaGreatZScO
import Derived.Deep.RegionLaw
import Derived.Deep.RegionHeld3
namespace Go.Proofs.YtodmikjpmcabiaaGreat
set_option linter.unusedSimpArgs false
set_option linter.unusedVariables false
set_option maxRecDepth 100000
open Go.ChangeShapes Go.WideShapes Go.ChangeAt Go.RowKit

theorem aw1 : settle ((4#64, 3#64), (0#64, 5#64)) = some ((4#64, 1#64), (4#64, 5#64)) := by decide +kernel
theorem aw2 : scAluT 5 true allX (ofX 7#64) = ((0#64, 7#64), (0#64, 7#64)) := by decide +kernel
theorem aw3 : scAluE 5 allX (ofX 7#64) = 0 := by decide +kernel
theorem aw4 : refT 2 true allX (ofX 9#64) true = ((((refT 2 true allX (ofX 9#64) true).1.1), (10#64, 18446744073709551615#64)), ofX 9#64, true) := by decide +kernel
theorem aw5 : refT 10 true (ofX 5#64) (ofX 5#64) true = (sc0, sc0, false) := by decide +kernel
theorem eq_sp (x y : Tn) (W : World) : (binOp .eql 26 (tv x) (tv y)).run Tryz.prog W = .ok (.bool (x == y)) W := by
  obtain ⟨a, b⟩ := x
  obtain ⟨c, d⟩ := y
  unfold tv
  have e : (((a, b) : Tn) == (c, d)) = ((a == c) && (b == d)) := rfl
  rw [e]
  go_simp
  by_cases h1 : a = c <;> by_cases h2 : b = d <;> simp [h1, h2]
set_option maxHeartbeats 8000000 in
theorem awake_true (w : World) : Calls Tryz.prog 9 #[] w fun e w' => e = .returned (.bool true) ∧ Below w.heap.size w w' := by
  obtain ⟨A, hA⟩ : ∃ A : Sc, A = ((4#64, 1#64), (4#64, 5#64)) := ⟨_, rfl⟩
  obtain ⟨D, hD⟩ : ∃ D : Sc, D = ((0#64, 7#64), (0#64, 7#64)) := ⟨_, rfl⟩
  obtain ⟨G, hG⟩ : ∃ G : Sc, G = ((refT 2 true allX (ofX 9#64) true).1.1, (10#64, 18446744073709551615#64)) := ⟨_, rfl⟩
  obtain ⟨Z, hZ⟩ : ∃ Z : Sc, Z = sc0 := ⟨_, rfl⟩
  have X1 : ∀ W, Calls Tryz.prog 10 #[.agg #[.int .u64 4, .int .u64 3], .agg #[.int .u64 0, .int .u64 5]] W fun e w' => e = .returned (.tuple #[sv A, .bool true]) ∧ Below W.heap.size W w' := by
    intro W
    have h := cSettle_any (4#64, 3#64) (0#64, 5#64) W
    rw [aw1, ← hA] at h
    exact h
  have X2 := fun W => cAll_any W
  have X3 : ∀ W, Calls Tryz.prog 16 #[.int .u64 7] W fun e w' => e = .returned (sv (ofX 7#64)) ∧ Below W.heap.size W w' := fun W => cOf_any 7#64 W
  have X4 : ∀ W, Calls Tryz.prog 31 #[.int .i64 5, .bool true, sv allX, sv (ofX 7#64)] W fun e w' => e = .returned (.tuple #[sv D, .int .i64 0]) ∧ Below W.heap.size W w' := by
    intro W
    have h := cAlu_any 5 true allX (ofX 7#64) W
    rw [aw2, aw3, ← hD] at h
    exact h
  have X5 : ∀ W, Calls Tryz.prog 16 #[.int .u64 9] W fun e w' => e = .returned (sv (ofX 9#64)) ∧ Below W.heap.size W w' := fun W => cOf_any 9#64 W
  have X6 : ∀ W, Calls Tryz.prog 29 #[.int .i64 2, .bool true, sv allX, sv (ofX 9#64), .bool true] W fun e w' => e = .returned (.tuple #[sv G, sv (ofX 9#64), .bool true]) ∧ Below W.heap.size W w' := by
    intro W
    have h := cRefine_any 2 true allX (ofX 9#64) true W
    rw [aw4, ← hG] at h
    exact h
  have X7 : ∀ W, Calls Tryz.prog 16 #[.int .u64 5] W fun e w' => e = .returned (sv (ofX 5#64)) ∧ Below W.heap.size W w' := fun W => cOf_any 5#64 W
  have X8 : ∀ W, Calls Tryz.prog 29 #[.int .i64 10, .bool true, sv (ofX 5#64), sv (ofX 5#64), .bool true] W fun e w' => e = .returned (.tuple #[sv Z, sv Z, .bool false]) ∧ Below W.heap.size W w' := by
    intro W
    have h := cRefine_any 10 true (ofX 5#64) (ofX 5#64) true W
    rw [aw5, ← hZ] at h
    exact h
  have E1 : ∀ W, (binOp .eql 28 (sv A) (.agg #[.int .u64 4, .int .u64 1, .int .u64 4, .int .u64 5])).run Tryz.prog W = .ok (.bool true) W := by
    intro W
    have h := eq_sc A ((4#64, 1#64), (4#64, 5#64)) W
    rw [show (A == ((4#64, 1#64), (4#64, 5#64))) = true from beq_iff_eq.2 hA] at h
    exact h
  have E2 : ∀ W, (binOp .eql 28 (sv D) (.agg #[.int .u64 0, .int .u64 7, .int .u64 0, .int .u64 7])).run Tryz.prog W = .ok (.bool true) W := by
    intro W
    have h := eq_sc D ((0#64, 7#64), (0#64, 7#64)) W
    rw [show (D == ((0#64, 7#64), (0#64, 7#64))) = true from beq_iff_eq.2 hD] at h
    exact h
  have E3 : ∀ W, (binOp .eql 26 (tv G.2) (.agg #[.int .u64 10, .int .u64 18446744073709551615])).run Tryz.prog W = .ok (.bool true) W := by
    intro W
    have h := eq_sp G.2 (10#64, 18446744073709551615#64) W
    rw [show (G.2 == (10#64, 18446744073709551615#64)) = true from beq_iff_eq.2 (by rw [hG])] at h
    exact h
  have E4 := fun W => eq_sc (ofX 9#64) (ofX 9#64) W
  rw [beq_self_eq_true] at E4
  clear hA hD hG hZ
  generalize allX = Y at *
  generalize ofX 7#64 = N7 at *
  generalize ofX 9#64 = N9 at *
  generalize ofX 5#64 = N5 at *
  unfold tv at E3
  unfold sv at X1 X2 X3 X4 X5 X6 X7 X8 E1 E2 E4
  replace X1 := hid X1
  replace X2 := hid X2
  replace X3 := hid X3
  replace X4 := hid X4
  replace X5 := hid X5
  replace X6 := hid X6
  replace X7 := hid X7
  replace X8 := hid X8
  go_enter Tryz.func9, Tryz.ntmps9
  go_wp2_with fail
  refine (X1.out _).mono ?_
  rintro e w1 ⟨rfl, z⟩
  have B := z
  clear z
  have lb := B.size
  go_wp2_with fail
  refine (X2.out _).mono ?_
  rintro e w2 ⟨rfl, z⟩
  clear lb
  have JA : SC w2 (w1.heap.size) (A) := (SC.new rfl).below z
  replace B := below_next (bel_alloc B) z
  clear z
  obtain ⟨JAl, JA0, JA1, JA2, JA3⟩ := JA.k
  have lb := B.size
  go_wp2_with fail
  refine (X3.out _).mono ?_
  rintro e w3 ⟨rfl, z⟩
  clear JA0 JA1 JA2 JA3 JAl lb
  replace JA := JA.below z
  replace B := below_next B z
  clear z
  obtain ⟨JAl, JA0, JA1, JA2, JA3⟩ := JA.k
  have lb := B.size
  go_wp2_with fail
  refine (X4.out _).mono ?_
  rintro e w4 ⟨rfl, z⟩
  clear JA0 JA1 JA2 JA3 JAl lb
  replace JA := JA.below z
  replace B := below_next B z
  clear z
  obtain ⟨JAl, JA0, JA1, JA2, JA3⟩ := JA.k
  have lb := B.size
  go_wp2_with fail
  refine (X2.out _).mono ?_
  rintro e w5 ⟨rfl, z⟩
  clear JA0 JA1 JA2 JA3 JAl lb
  have g5JA : w1.heap.size < w4.heap.size := JA.lt
  have g5B := B.size
  replace JA := (JA.alloc _).below z
  have JB : SC w5 (w4.heap.size) (D) := (SC.new rfl).below z
  replace B := below_next (bel_alloc B) z
  clear z
  obtain ⟨JAl, JA0, JA1, JA2, JA3⟩ := JA.k
  obtain ⟨JBl, JB0, JB1, JB2, JB3⟩ := JB.k
  have lb := B.size
  go_wp2_with fail
  refine (X5.out _).mono ?_
  rintro e w6 ⟨rfl, z⟩
  clear JA0 JA1 JA2 JA3 JAl JB0 JB1 JB2 JB3 JBl lb
  replace JA := JA.below z
  replace JB := JB.below z
  replace B := below_next B z
  clear z
  obtain ⟨JAl, JA0, JA1, JA2, JA3⟩ := JA.k
  obtain ⟨JBl, JB0, JB1, JB2, JB3⟩ := JB.k
  have lb := B.size
  go_wp2_with fail
  refine (X6.out _).mono ?_
  rintro e w7 ⟨rfl, z⟩
  clear JA0 JA1 JA2 JA3 JAl JB0 JB1 JB2 JB3 JBl lb
  replace JA := JA.below z
  replace JB := JB.below z
  replace B := below_next B z
  clear z
  obtain ⟨JAl, JA0, JA1, JA2, JA3⟩ := JA.k
  obtain ⟨JBl, JB0, JB1, JB2, JB3⟩ := JB.k
  have lb := B.size
  go_wp2_with fail
  refine (X7.out _).mono ?_
  rintro e w8 ⟨rfl, z⟩
  clear JA0 JA1 JA2 JA3 JAl JB0 JB1 JB2 JB3 JBl lb
  have g8JA : w1.heap.size < w7.heap.size := JA.lt
  have g8JB : w4.heap.size < w7.heap.size := JB.lt
  have g8B := B.size
  replace JA := ((JA.alloc _).alloc _).below z
  replace JB := ((JB.alloc _).alloc _).below z
  have JC : SC w8 (w7.heap.size) (G) := ((SC.new rfl).alloc _).below z
  have JD : SC w8 (w7.heap.size + 1) (N9) := (SC.new (by simp)).below z
  replace B := below_next (bel_alloc (bel_alloc B)) z
  clear z
  obtain ⟨JAl, JA0, JA1, JA2, JA3⟩ := JA.k
  obtain ⟨JBl, JB0, JB1, JB2, JB3⟩ := JB.k
  obtain ⟨JCl, JC0, JC1, JC2, JC3⟩ := JC.k
  obtain ⟨JDl, JD0, JD1, JD2, JD3⟩ := JD.k
  have lb := B.size
  go_wp2_with fail
  refine (X7.out _).mono ?_
  rintro e w9 ⟨rfl, z⟩
  clear JA0 JA1 JA2 JA3 JAl JB0 JB1 JB2 JB3 JBl JC0 JC1 JC2 JC3 JCl JD0 JD1 JD2 JD3 JDl lb
  replace JA := JA.below z
  replace JB := JB.below z
  replace JC := JC.below z
  replace JD := JD.below z
  replace B := below_next B z
  clear z
  obtain ⟨JAl, JA0, JA1, JA2, JA3⟩ := JA.k
  obtain ⟨JBl, JB0, JB1, JB2, JB3⟩ := JB.k
  obtain ⟨JCl, JC0, JC1, JC2, JC3⟩ := JC.k
  obtain ⟨JDl, JD0, JD1, JD2, JD3⟩ := JD.k
  have lb := B.size
  go_wp2_with fail
  refine (X8.out _).mono ?_
  rintro e w10 ⟨rfl, z⟩
  clear JA0 JA1 JA2 JA3 JAl JB0 JB1 JB2 JB3 JBl JC0 JC1 JC2 JC3 JCl JD0 JD1 JD2 JD3 JDl lb
  replace JA := JA.below z
  replace JB := JB.below z
  replace JC := JC.below z
  replace JD := JD.below z
  replace B := below_next B z
  clear z
  obtain ⟨JAl, JA0, JA1, JA2, JA3⟩ := JA.k
  obtain ⟨JBl, JB0, JB1, JB2, JB3⟩ := JB.k
  obtain ⟨JCl, JC0, JC1, JC2, JC3⟩ := JC.k
  obtain ⟨JDl, JD0, JD1, JD2, JD3⟩ := JD.k
  have lb := B.size
  go_wp2_with fail
  clear JA0 JA1 JA2 JA3 JAl JB0 JB1 JB2 JB3 JBl JC0 JC1 JC2 JC3 JCl JD0 JD1 JD2 JD3 JDl lb
  have JE : SC ((w10.alloc (.cells #[.int .u64 (ub Z.1.1), .int .u64 (ub Z.1.2), .int .u64 (ub Z.2.1), .int .u64 (ub Z.2.2)] 28)).alloc (.cells #[.int .u64 (ub Z.1.1), .int .u64 (ub Z.1.2), .int .u64 (ub Z.2.1), .int .u64 (ub Z.2.2)] 28)) (w10.heap.size) Z := ((SC.new (x := Z) rfl).alloc _)
  have JF : SC ((w10.alloc (.cells #[.int .u64 (ub Z.1.1), .int .u64 (ub Z.1.2), .int .u64 (ub Z.2.1), .int .u64 (ub Z.2.2)] 28)).alloc (.cells #[.int .u64 (ub Z.1.1), .int .u64 (ub Z.1.2), .int .u64 (ub Z.2.1), .int .u64 (ub Z.2.2)] 28)) (w10.heap.size + 1) Z := (SC.new (x := Z) (by simp))
  have gq10JA : w1.heap.size < w10.heap.size := JA.lt
  replace JA := ((JA.alloc (.cells #[.int .u64 (ub Z.1.1), .int .u64 (ub Z.1.2), .int .u64 (ub Z.2.1), .int .u64 (ub Z.2.2)] 28)).alloc (.cells #[.int .u64 (ub Z.1.1), .int .u64 (ub Z.1.2), .int .u64 (ub Z.2.1), .int .u64 (ub Z.2.2)] 28))
  have gq10JB : w4.heap.size < w10.heap.size := JB.lt
  replace JB := ((JB.alloc (.cells #[.int .u64 (ub Z.1.1), .int .u64 (ub Z.1.2), .int .u64 (ub Z.2.1), .int .u64 (ub Z.2.2)] 28)).alloc (.cells #[.int .u64 (ub Z.1.1), .int .u64 (ub Z.1.2), .int .u64 (ub Z.2.1), .int .u64 (ub Z.2.2)] 28))
  have gq10JC : w7.heap.size < w10.heap.size := JC.lt
  replace JC := ((JC.alloc (.cells #[.int .u64 (ub Z.1.1), .int .u64 (ub Z.1.2), .int .u64 (ub Z.2.1), .int .u64 (ub Z.2.2)] 28)).alloc (.cells #[.int .u64 (ub Z.1.1), .int .u64 (ub Z.1.2), .int .u64 (ub Z.2.1), .int .u64 (ub Z.2.2)] 28))
  have gq10JD : w7.heap.size + 1 < w10.heap.size := JD.lt
  replace JD := ((JD.alloc (.cells #[.int .u64 (ub Z.1.1), .int .u64 (ub Z.1.2), .int .u64 (ub Z.2.1), .int .u64 (ub Z.2.2)] 28)).alloc (.cells #[.int .u64 (ub Z.1.1), .int .u64 (ub Z.1.2), .int .u64 (ub Z.2.1), .int .u64 (ub Z.2.2)] 28))
  replace B := (bel_alloc (o := (.cells #[.int .u64 (ub Z.1.1), .int .u64 (ub Z.1.2), .int .u64 (ub Z.2.1), .int .u64 (ub Z.2.2)] 28)) (bel_alloc (o := (.cells #[.int .u64 (ub Z.1.1), .int .u64 (ub Z.1.2), .int .u64 (ub Z.2.1), .int .u64 (ub Z.2.2)] 28)) B))
  generalize ((w10.alloc (.cells #[.int .u64 (ub Z.1.1), .int .u64 (ub Z.1.2), .int .u64 (ub Z.2.1), .int .u64 (ub Z.2.2)] 28)).alloc (.cells #[.int .u64 (ub Z.1.1), .int .u64 (ub Z.1.2), .int .u64 (ub Z.2.1), .int .u64 (ub Z.2.2)] 28)) = w11 at *
  obtain ⟨JAl, JA0, JA1, JA2, JA3⟩ := JA.k
  obtain ⟨JBl, JB0, JB1, JB2, JB3⟩ := JB.k
  obtain ⟨JCl, JC0, JC1, JC2, JC3⟩ := JC.k
  obtain ⟨JDl, JD0, JD1, JD2, JD3⟩ := JD.k
  obtain ⟨JEl, JE0, JE1, JE2, JE3⟩ := JE.k
  obtain ⟨JFl, JF0, JF1, JF2, JF3⟩ := JF.k
  have lb := B.size
  go_wp2_with fail
  clear JA0 JA1 JA2 JA3 JAl JB0 JB1 JB2 JB3 JBl JC0 JC1 JC2 JC3 JCl JD0 JD1 JD2 JD3 JDl JE0 JE1 JE2 JE3 JEl JF0 JF1 JF2 JF3 JFl lb
  have q0 := JA.c0
  have q1 := JA.c1
  have q2 := JA.c2
  have q3 := JA.c3
  have q4 := JB.c0
  have q5 := JB.c1
  have q6 := JB.c2
  have q7 := JB.c3
  have q8 := JC.c2
  have q9 := JC.c3
  have q10 := JD.c0
  have q11 := JD.c1
  have q12 := JD.c2
  have q13 := JD.c3
  try dsimp only at q0 q1 q2 q3 q4 q5 q6 q7 q8 q9 q10 q11 q12 q13
  go_region_held3 (fun w' => w'.cell? ⟨w1.heap.size, 0, none⟩ = some (.int .u64 (ub A.1.1)) ∧ w'.cell? ⟨w1.heap.size, 1, none⟩ = some (.int .u64 (ub A.1.2)) ∧ w'.cell? ⟨w1.heap.size, 2, none⟩ = some (.int .u64 (ub A.2.1)) ∧ w'.cell? ⟨w1.heap.size, 3, none⟩ = some (.int .u64 (ub A.2.2)) ∧ w'.cell? ⟨w4.heap.size, 0, none⟩ = some (.int .u64 (ub D.1.1)) ∧ w'.cell? ⟨w4.heap.size, 1, none⟩ = some (.int .u64 (ub D.1.2)) ∧ w'.cell? ⟨w4.heap.size, 2, none⟩ = some (.int .u64 (ub D.2.1)) ∧ w'.cell? ⟨w4.heap.size, 3, none⟩ = some (.int .u64 (ub D.2.2)) ∧ w'.cell? ⟨w7.heap.size, 2, none⟩ = some (.int .u64 (ub G.2.1)) ∧ w'.cell? ⟨w7.heap.size, 3, none⟩ = some (.int .u64 (ub G.2.2)) ∧ w'.cell? ⟨w7.heap.size + 1, 0, none⟩ = some (.int .u64 (ub N9.1.1)) ∧ w'.cell? ⟨w7.heap.size + 1, 1, none⟩ = some (.int .u64 (ub N9.1.2)) ∧ w'.cell? ⟨w7.heap.size + 1, 2, none⟩ = some (.int .u64 (ub N9.2.1)) ∧ w'.cell? ⟨w7.heap.size + 1, 3, none⟩ = some (.int .u64 (ub N9.2.2)) ∧ Below w11.heap.size w11 w')
    (first | (go_split_ands; with_reducible exact ⟨by with_reducible assumption, by with_reducible assumption, by with_reducible assumption, by with_reducible assumption, by with_reducible assumption, by with_reducible assumption, by with_reducible assumption, by with_reducible assumption, by with_reducible assumption, by with_reducible assumption, by with_reducible assumption, by with_reducible assumption, by with_reducible assumption, by with_reducible assumption, by with_reducible assumption⟩) | (with_reducible exact ⟨cn bq (by with_reducible assumption), cn bq (by with_reducible assumption), cn bq (by with_reducible assumption), cn bq (by with_reducible assumption), cn bq (by with_reducible assumption), cn bq (by with_reducible assumption), cn bq (by with_reducible assumption), cn bq (by with_reducible assumption), cn bq (by with_reducible assumption), cn bq (by with_reducible assumption), cn bq (by with_reducible assumption), cn bq (by with_reducible assumption), cn bq (by with_reducible assumption), cn bq (by with_reducible assumption), below_next (by with_reducible assumption) bq⟩) | (with_reducible exact ⟨cn (below_dr w11) q0, cn (below_dr w11) q1, cn (below_dr w11) q2, cn (below_dr w11) q3, cn (below_dr w11) q4, cn (below_dr w11) q5, cn (below_dr w11) q6, cn (below_dr w11) q7, cn (below_dr w11) q8, cn (below_dr w11) q9, cn (below_dr w11) q10, cn (below_dr w11) q11, cn (below_dr w11) q12, cn (below_dr w11) q13, below_dr w11⟩))
    (first | (go_at_call 16; go_split_ands; (with_reducible refine (X5.out _).mono ?_); rintro e wq ⟨rfl, bq⟩))
  go_split_ands
  have zq : Below w11.heap.size w11 wq := by with_reducible assumption
  replace JA := JA.below zq
  replace JB := JB.below zq
  replace JC := JC.below zq
  replace JD := JD.below zq
  replace JE := JE.below zq
  replace JF := JF.below zq
  replace B := below_next B zq
  clear zq bq q0 q1 q2 q3 q4 q5 q6 q7 q8 q9 q10 q11 q12 q13
  skip
  obtain ⟨JAl, JA0, JA1, JA2, JA3⟩ := JA.k
  obtain ⟨JBl, JB0, JB1, JB2, JB3⟩ := JB.k
  obtain ⟨JCl, JC0, JC1, JC2, JC3⟩ := JC.k
  obtain ⟨JDl, JD0, JD1, JD2, JD3⟩ := JD.k
  obtain ⟨JEl, JE0, JE1, JE2, JE3⟩ := JE.k
  obtain ⟨JFl, JF0, JF1, JF2, JF3⟩ := JF.k
  have lb := B.size
  go_wp2
  go_ret
  exact ⟨rfl, B⟩
end Go.Proofs.YtodmikjpmcabiaaGreat
