/-
  TnumSums: sums, differences, products, and what is done bit by bit, are the document's.
-/
import Derived.Test.YtodmikjpmcabiaaTTsC
import Derived.Test.YtodmikjpmcabiaaTTsD
import Derived.Test.YtodmikjpmcabiaaTTnH
import Derived.Test.YtodmikjpmcabiaaTTsW
namespace Go.Proofs.Ytodmikjpmcabiaa
set_option linter.unusedSimpArgs false
set_option linter.unusedVariables false
set_option maxRecDepth 100000
set_option maxRecDepth 100000
open Go.ChangeShapes Go.WideShapes Go.ChangeAt Go.RowKit

set_option maxHeartbeats 16000000 in
theorem sums_walk (a b : Tn) (w : World) : Calls Try.prog 5 #[tv a, tv b] w fun e w' => e = .returned (.bool true) ∧ Below w.heap.size w w' := by
  have X1 := fun W => tAdd_any a b W
  have Y1 := fun W => rAdd_any a b W
  generalize bothT a b (sumT a b) = R1 at X1 Y1
  generalize bothE a b = E1 at X1 Y1
  have X2 := fun W => tSub_any a b W
  have Y2 := fun W => rSub_any a b W
  generalize bothT a b (subT a b) = R2 at X2 Y2
  generalize bothE a b = E2 at X2 Y2
  have X3 := fun W => tMul_any a b W
  have Y3 := fun W => rMul_any a b W
  generalize bothT a b (mulT a b) = R3 at X3 Y3
  generalize bothE a b = E3 at X3 Y3
  have X4 := fun W => tAnd_any a b W
  have Y4 := fun W => rBits_any 0 (.inl rfl) a b W
  rw [show opT 0 a b = andT a b from rfl] at Y4
  generalize bothT a b (andT a b) = R4 at X4 Y4
  generalize bothE a b = E4 at X4 Y4
  have X5 := fun W => tOr_any a b W
  have Y5 := fun W => rBits_any 1 (.inr (.inl rfl)) a b W
  rw [show opT 1 a b = orT a b from rfl] at Y5
  generalize bothT a b (orT a b) = R5 at X5 Y5
  generalize bothE a b = E5 at X5 Y5
  have X6 := fun W => tXor_any a b W
  have Y6 := fun W => rBits_any 2 (.inr (.inr rfl)) a b W
  rw [show opT 2 a b = xorT a b from rfl] at Y6
  generalize bothT a b (xorT a b) = R6 at X6 Y6
  generalize bothE a b = E6 at X6 Y6
  unfold tv at X1 Y1
  have HX1 := hid X1
  have HY1 := hid Y1
  clear X1 Y1
  unfold tv at X2 Y2
  have HX2 := hid X2
  have HY2 := hid Y2
  clear X2 Y2
  unfold tv at X3 Y3
  have HX3 := hid X3
  have HY3 := hid Y3
  clear X3 Y3
  unfold tv at X4 Y4
  have HX4 := hid X4
  have HY4 := hid Y4
  clear X4 Y4
  unfold tv at X5 Y5
  have HX5 := hid X5
  have HY5 := hid Y5
  clear X5 Y5
  unfold tv at X6 Y6
  have HX6 := hid X6
  have HY6 := hid Y6
  clear X6 Y6
  have HAW := hid awake_true
  unfold tv
  go_enter Try.func5, Try.ntmps5
  go_wp2_with fail
  refine (HX1.out _).mono ?_
  rintro e w1 ⟨rfl, z1⟩
  have T0 : TC w1 (w.heap.size) a := ((TC.new rfl).alloc _).below z1
  have T1 : TC w1 (w.heap.size + 1) b := (TC.new (by simp)).below z1
  have B : Below w.heap.size w w1 := (((Below.refl _ _).alloc (Nat.le_refl _) _).alloc (by simp) _).trans (z1.mono (by simp; omega))
  have J0 := T0.1
  have J1 := T1.1
  clear z1
  have p0 := T0.1
  have q0 := T0.2.1
  have r0 := T0.2.2
  have p1 := T1.1
  have q1 := T1.2.1
  have r1 := T1.2.2
  go_wp2_with fail
  refine (HY1.out _).mono ?_
  rintro e w2 ⟨rfl, z2⟩
  clear p0 q0 r0 p1 q1 r1
  replace T0 := (T0.alloc (.cells #[.int .u64 (ub R1.1), .int .u64 (ub R1.2)] 24)).below z2
  replace T1 := (T1.alloc (.cells #[.int .u64 (ub R1.1), .int .u64 (ub R1.2)] 24)).below z2
  have G1 : TB w2 w1.heap.size R1 := (TB.new rfl).below z2
  have K1 := B.size
  replace B : Below w.heap.size w w2 := (B.alloc B.size (.cells #[.int .u64 (ub R1.1), .int .u64 (ub R1.2)] 24)).trans (z2.mono (by simp; exact Nat.le_succ_of_le B.size))
  have L12 : w1.heap.size < w2.heap.size := by have := z2.size; simp at this; omega
  clear z2
  have p0 := T0.1
  have q0 := T0.2.1
  have r0 := T0.2.2
  have p1 := T1.1
  have q1 := T1.2.1
  have r1 := T1.2.2
  have a1 := G1.1.1
  have b1 := G1.1.2.1
  have c1 := G1.1.2.2
  have d1 := G1.2.1
  have e1 := G1.2.2
  go_wp2_with fail
  refine (HX2.out _).mono ?_
  rintro e w3 ⟨rfl, z3⟩
  clear p0 q0 r0 p1 q1 r1 a1 b1 c1 d1 e1
  replace T0 := (T0.alloc (.cells #[.int .u64 (ub R1.1), .int .u64 (ub R1.2)] 24)).below z3
  replace T1 := (T1.alloc (.cells #[.int .u64 (ub R1.1), .int .u64 (ub R1.2)] 24)).below z3
  replace G1 := (G1.below ((Below.refl _ _).alloc (Nat.le_refl _) (.cells #[.int .u64 (ub R1.1), .int .u64 (ub R1.2)] 24))).below z3
  have G2 : TB w3 w2.heap.size R1 := (TB.new rfl).below z3
  have K2 := B.size
  have N12 : w1.heap.size ≠ w2.heap.size := by have := L12; omega
  replace B : Below w.heap.size w w3 := (B.alloc B.size (.cells #[.int .u64 (ub R1.1), .int .u64 (ub R1.2)] 24)).trans (z3.mono (by simp; exact Nat.le_succ_of_le B.size))
  have M01 : w.heap.size ≠ w1.heap.size := by omega
  have M02 : w.heap.size ≠ w2.heap.size := by omega
  have M11 : w.heap.size + 1 ≠ w1.heap.size := by omega
  have M12 : w.heap.size + 1 ≠ w2.heap.size := by omega
  clear z3
  have p0 := T0.1
  have q0 := T0.2.1
  have r0 := T0.2.2
  have p1 := T1.1
  have q1 := T1.2.1
  have r1 := T1.2.2
  have a1 := G1.1.1
  have b1 := G1.1.2.1
  have c1 := G1.1.2.2
  have d1 := G1.2.1
  have e1 := G1.2.2
  have a2 := G2.1.1
  have b2 := G2.1.2.1
  have c2 := G2.1.2.2
  have d2 := G2.2.1
  have e2 := G2.2.2
  have V0 := T0.put (c := w1.heap.size) M01 (.int .u64 (ub R2.1)) (.int .u64 (ub R2.2))
  have v0 := V0.2.1
  have u0 := V0.2.2
  have V1 := T1.put (c := w1.heap.size) M11 (.int .u64 (ub R2.1)) (.int .u64 (ub R2.2))
  have v1 := V1.2.1
  have u1 := V1.2.2
  go_wp2_with fail
  refine (HY2.out _).mono ?_
  rintro e w4 ⟨rfl, z4⟩
  clear p0 q0 r0 p1 q1 r1 a1 b1 c1 d1 e1 a2 b2 c2 d2 e2 v0 u0 v1 u1
  replace T0 := V0.below z4
  replace T1 := V1.below z4
  replace G1 := (G1.put R2).below z4
  replace G2 := (G2.other N12.symm (.int .u64 (ub R2.1)) (.int .u64 (ub R2.2))).below z4
  replace B := ((B.setCell (p := ⟨w1.heap.size, 0, none⟩) K1 (.int .u64 (ub R2.1))).setCell (p := ⟨w1.heap.size, 1, none⟩) K1 (.int .u64 (ub R2.2))).trans (z4.mono (by simp; exact B.size))
  clear z4
  clear V0 V1
  have p0 := T0.1
  have q0 := T0.2.1
  have r0 := T0.2.2
  have p1 := T1.1
  have q1 := T1.2.1
  have r1 := T1.2.2
  have a1 := G1.1.1
  have b1 := G1.1.2.1
  have c1 := G1.1.2.2
  have d1 := G1.2.1
  have e1 := G1.2.2
  have a2 := G2.1.1
  have b2 := G2.1.2.1
  have c2 := G2.1.2.2
  have d2 := G2.2.1
  have e2 := G2.2.2
  have V0 := T0.put (c := w2.heap.size) M02 (.int .u64 (ub R2.1)) (.int .u64 (ub R2.2))
  have v0 := V0.2.1
  have u0 := V0.2.2
  clear V0
  have V1 := T1.put (c := w2.heap.size) M12 (.int .u64 (ub R2.1)) (.int .u64 (ub R2.2))
  have v1 := V1.2.1
  have u1 := V1.2.2
  clear V1
  have f1 := (G1.other N12 (.int .u64 (ub R2.1)) (.int .u64 (ub R2.2))).1.2.1
  have f2 := (G1.other N12 (.int .u64 (ub R2.1)) (.int .u64 (ub R2.2))).1.2.2
  go_wp2_with fail
  refine (HX3.out _).mono ?_
  rintro e w5 ⟨rfl, z5⟩
  clear p0 q0 r0 p1 q1 r1 a1 b1 c1 d1 e1 a2 b2 c2 d2 e2 v0 u0 v1 u1 f1 f2
  replace G1 := (G1.other N12 (.int .u64 (ub R2.1)) (.int .u64 (ub R2.2))).below z5
  replace G2 := (G2.put R2).below z5
  replace T0 := (T0.put (c := w2.heap.size) M02 (.int .u64 (ub R2.1)) (.int .u64 (ub R2.2))).below z5
  replace T1 := (T1.put (c := w2.heap.size) M12 (.int .u64 (ub R2.1)) (.int .u64 (ub R2.2))).below z5
  replace B := ((B.setCell (p := ⟨w2.heap.size, 0, none⟩) K2 (.int .u64 (ub R2.1))).setCell (p := ⟨w2.heap.size, 1, none⟩) K2 (.int .u64 (ub R2.2))).trans (z5.mono (by simp; exact B.size))
  clear z5
  have p0 := T0.1
  have q0 := T0.2.1
  have r0 := T0.2.2
  have p1 := T1.1
  have q1 := T1.2.1
  have r1 := T1.2.2
  have a1 := G1.1.1
  have b1 := G1.1.2.1
  have c1 := G1.1.2.2
  have d1 := G1.2.1
  have e1 := G1.2.2
  have a2 := G2.1.1
  have b2 := G2.1.2.1
  have c2 := G2.1.2.2
  have d2 := G2.2.1
  have e2 := G2.2.2
  have V0 := T0.put (c := w1.heap.size) M01 (.int .u64 (ub R3.1)) (.int .u64 (ub R3.2))
  have v0 := V0.2.1
  have u0 := V0.2.2
  have V1 := T1.put (c := w1.heap.size) M11 (.int .u64 (ub R3.1)) (.int .u64 (ub R3.2))
  have v1 := V1.2.1
  have u1 := V1.2.2
  go_wp2_with fail
  refine (HY3.out _).mono ?_
  rintro e w6 ⟨rfl, z6⟩
  clear p0 q0 r0 p1 q1 r1 a1 b1 c1 d1 e1 a2 b2 c2 d2 e2 v0 u0 v1 u1
  replace T0 := V0.below z6
  replace T1 := V1.below z6
  replace G1 := (G1.put R3).below z6
  replace G2 := (G2.other N12.symm (.int .u64 (ub R3.1)) (.int .u64 (ub R3.2))).below z6
  replace B := ((B.setCell (p := ⟨w1.heap.size, 0, none⟩) K1 (.int .u64 (ub R3.1))).setCell (p := ⟨w1.heap.size, 1, none⟩) K1 (.int .u64 (ub R3.2))).trans (z6.mono (by simp; exact B.size))
  clear z6
  clear V0 V1
  have p0 := T0.1
  have q0 := T0.2.1
  have r0 := T0.2.2
  have p1 := T1.1
  have q1 := T1.2.1
  have r1 := T1.2.2
  have a1 := G1.1.1
  have b1 := G1.1.2.1
  have c1 := G1.1.2.2
  have d1 := G1.2.1
  have e1 := G1.2.2
  have a2 := G2.1.1
  have b2 := G2.1.2.1
  have c2 := G2.1.2.2
  have d2 := G2.2.1
  have e2 := G2.2.2
  have V0 := T0.put (c := w2.heap.size) M02 (.int .u64 (ub R3.1)) (.int .u64 (ub R3.2))
  have v0 := V0.2.1
  have u0 := V0.2.2
  clear V0
  have V1 := T1.put (c := w2.heap.size) M12 (.int .u64 (ub R3.1)) (.int .u64 (ub R3.2))
  have v1 := V1.2.1
  have u1 := V1.2.2
  clear V1
  have f1 := (G1.other N12 (.int .u64 (ub R3.1)) (.int .u64 (ub R3.2))).1.2.1
  have f2 := (G1.other N12 (.int .u64 (ub R3.1)) (.int .u64 (ub R3.2))).1.2.2
  go_wp2_with fail
  refine (HX4.out _).mono ?_
  rintro e w7 ⟨rfl, z7⟩
  clear p0 q0 r0 p1 q1 r1 a1 b1 c1 d1 e1 a2 b2 c2 d2 e2 v0 u0 v1 u1 f1 f2
  replace G1 := (G1.other N12 (.int .u64 (ub R3.1)) (.int .u64 (ub R3.2))).below z7
  replace G2 := (G2.put R3).below z7
  replace T0 := (T0.put (c := w2.heap.size) M02 (.int .u64 (ub R3.1)) (.int .u64 (ub R3.2))).below z7
  replace T1 := (T1.put (c := w2.heap.size) M12 (.int .u64 (ub R3.1)) (.int .u64 (ub R3.2))).below z7
  replace B := ((B.setCell (p := ⟨w2.heap.size, 0, none⟩) K2 (.int .u64 (ub R3.1))).setCell (p := ⟨w2.heap.size, 1, none⟩) K2 (.int .u64 (ub R3.2))).trans (z7.mono (by simp; exact B.size))
  clear z7
  have p0 := T0.1
  have q0 := T0.2.1
  have r0 := T0.2.2
  have p1 := T1.1
  have q1 := T1.2.1
  have r1 := T1.2.2
  have a1 := G1.1.1
  have b1 := G1.1.2.1
  have c1 := G1.1.2.2
  have d1 := G1.2.1
  have e1 := G1.2.2
  have a2 := G2.1.1
  have b2 := G2.1.2.1
  have c2 := G2.1.2.2
  have d2 := G2.2.1
  have e2 := G2.2.2
  have V0 := T0.put (c := w1.heap.size) M01 (.int .u64 (ub R4.1)) (.int .u64 (ub R4.2))
  have v0 := V0.2.1
  have u0 := V0.2.2
  have V1 := T1.put (c := w1.heap.size) M11 (.int .u64 (ub R4.1)) (.int .u64 (ub R4.2))
  have v1 := V1.2.1
  have u1 := V1.2.2
  go_wp2_with fail
  refine (HY4.out _).mono ?_
  rintro e w8 ⟨rfl, z8⟩
  clear p0 q0 r0 p1 q1 r1 a1 b1 c1 d1 e1 a2 b2 c2 d2 e2 v0 u0 v1 u1
  replace T0 := V0.below z8
  replace T1 := V1.below z8
  replace G1 := (G1.put R4).below z8
  replace G2 := (G2.other N12.symm (.int .u64 (ub R4.1)) (.int .u64 (ub R4.2))).below z8
  replace B := ((B.setCell (p := ⟨w1.heap.size, 0, none⟩) K1 (.int .u64 (ub R4.1))).setCell (p := ⟨w1.heap.size, 1, none⟩) K1 (.int .u64 (ub R4.2))).trans (z8.mono (by simp; exact B.size))
  clear z8
  clear V0 V1
  have p0 := T0.1
  have q0 := T0.2.1
  have r0 := T0.2.2
  have p1 := T1.1
  have q1 := T1.2.1
  have r1 := T1.2.2
  have a1 := G1.1.1
  have b1 := G1.1.2.1
  have c1 := G1.1.2.2
  have d1 := G1.2.1
  have e1 := G1.2.2
  have a2 := G2.1.1
  have b2 := G2.1.2.1
  have c2 := G2.1.2.2
  have d2 := G2.2.1
  have e2 := G2.2.2
  have V0 := T0.put (c := w2.heap.size) M02 (.int .u64 (ub R4.1)) (.int .u64 (ub R4.2))
  have v0 := V0.2.1
  have u0 := V0.2.2
  clear V0
  have V1 := T1.put (c := w2.heap.size) M12 (.int .u64 (ub R4.1)) (.int .u64 (ub R4.2))
  have v1 := V1.2.1
  have u1 := V1.2.2
  clear V1
  have f1 := (G1.other N12 (.int .u64 (ub R4.1)) (.int .u64 (ub R4.2))).1.2.1
  have f2 := (G1.other N12 (.int .u64 (ub R4.1)) (.int .u64 (ub R4.2))).1.2.2
  go_wp2_with fail
  refine (HX5.out _).mono ?_
  rintro e w9 ⟨rfl, z9⟩
  clear p0 q0 r0 p1 q1 r1 a1 b1 c1 d1 e1 a2 b2 c2 d2 e2 v0 u0 v1 u1 f1 f2
  replace G1 := (G1.other N12 (.int .u64 (ub R4.1)) (.int .u64 (ub R4.2))).below z9
  replace G2 := (G2.put R4).below z9
  replace T0 := (T0.put (c := w2.heap.size) M02 (.int .u64 (ub R4.1)) (.int .u64 (ub R4.2))).below z9
  replace T1 := (T1.put (c := w2.heap.size) M12 (.int .u64 (ub R4.1)) (.int .u64 (ub R4.2))).below z9
  replace B := ((B.setCell (p := ⟨w2.heap.size, 0, none⟩) K2 (.int .u64 (ub R4.1))).setCell (p := ⟨w2.heap.size, 1, none⟩) K2 (.int .u64 (ub R4.2))).trans (z9.mono (by simp; exact B.size))
  clear z9
  have p0 := T0.1
  have q0 := T0.2.1
  have r0 := T0.2.2
  have p1 := T1.1
  have q1 := T1.2.1
  have r1 := T1.2.2
  have a1 := G1.1.1
  have b1 := G1.1.2.1
  have c1 := G1.1.2.2
  have d1 := G1.2.1
  have e1 := G1.2.2
  have a2 := G2.1.1
  have b2 := G2.1.2.1
  have c2 := G2.1.2.2
  have d2 := G2.2.1
  have e2 := G2.2.2
  have V0 := T0.put (c := w1.heap.size) M01 (.int .u64 (ub R5.1)) (.int .u64 (ub R5.2))
  have v0 := V0.2.1
  have u0 := V0.2.2
  have V1 := T1.put (c := w1.heap.size) M11 (.int .u64 (ub R5.1)) (.int .u64 (ub R5.2))
  have v1 := V1.2.1
  have u1 := V1.2.2
  go_wp2_with fail
  refine (HY5.out _).mono ?_
  rintro e w10 ⟨rfl, z10⟩
  clear p0 q0 r0 p1 q1 r1 a1 b1 c1 d1 e1 a2 b2 c2 d2 e2 v0 u0 v1 u1
  replace T0 := V0.below z10
  replace T1 := V1.below z10
  replace G1 := (G1.put R5).below z10
  replace G2 := (G2.other N12.symm (.int .u64 (ub R5.1)) (.int .u64 (ub R5.2))).below z10
  replace B := ((B.setCell (p := ⟨w1.heap.size, 0, none⟩) K1 (.int .u64 (ub R5.1))).setCell (p := ⟨w1.heap.size, 1, none⟩) K1 (.int .u64 (ub R5.2))).trans (z10.mono (by simp; exact B.size))
  clear z10
  clear V0 V1
  have p0 := T0.1
  have q0 := T0.2.1
  have r0 := T0.2.2
  have p1 := T1.1
  have q1 := T1.2.1
  have r1 := T1.2.2
  have a1 := G1.1.1
  have b1 := G1.1.2.1
  have c1 := G1.1.2.2
  have d1 := G1.2.1
  have e1 := G1.2.2
  have a2 := G2.1.1
  have b2 := G2.1.2.1
  have c2 := G2.1.2.2
  have d2 := G2.2.1
  have e2 := G2.2.2
  have V0 := T0.put (c := w2.heap.size) M02 (.int .u64 (ub R5.1)) (.int .u64 (ub R5.2))
  have v0 := V0.2.1
  have u0 := V0.2.2
  clear V0
  have V1 := T1.put (c := w2.heap.size) M12 (.int .u64 (ub R5.1)) (.int .u64 (ub R5.2))
  have v1 := V1.2.1
  have u1 := V1.2.2
  clear V1
  have f1 := (G1.other N12 (.int .u64 (ub R5.1)) (.int .u64 (ub R5.2))).1.2.1
  have f2 := (G1.other N12 (.int .u64 (ub R5.1)) (.int .u64 (ub R5.2))).1.2.2
  go_wp2_with fail
  refine (HX6.out _).mono ?_
  rintro e w11 ⟨rfl, z11⟩
  clear p0 q0 r0 p1 q1 r1 a1 b1 c1 d1 e1 a2 b2 c2 d2 e2 v0 u0 v1 u1 f1 f2
  replace G1 := (G1.other N12 (.int .u64 (ub R5.1)) (.int .u64 (ub R5.2))).below z11
  replace G2 := (G2.put R5).below z11
  replace T0 := (T0.put (c := w2.heap.size) M02 (.int .u64 (ub R5.1)) (.int .u64 (ub R5.2))).below z11
  replace T1 := (T1.put (c := w2.heap.size) M12 (.int .u64 (ub R5.1)) (.int .u64 (ub R5.2))).below z11
  replace B := ((B.setCell (p := ⟨w2.heap.size, 0, none⟩) K2 (.int .u64 (ub R5.1))).setCell (p := ⟨w2.heap.size, 1, none⟩) K2 (.int .u64 (ub R5.2))).trans (z11.mono (by simp; exact B.size))
  clear z11
  have p0 := T0.1
  have q0 := T0.2.1
  have r0 := T0.2.2
  have p1 := T1.1
  have q1 := T1.2.1
  have r1 := T1.2.2
  have a1 := G1.1.1
  have b1 := G1.1.2.1
  have c1 := G1.1.2.2
  have d1 := G1.2.1
  have e1 := G1.2.2
  have a2 := G2.1.1
  have b2 := G2.1.2.1
  have c2 := G2.1.2.2
  have d2 := G2.2.1
  have e2 := G2.2.2
  have V0 := T0.put (c := w1.heap.size) M01 (.int .u64 (ub R6.1)) (.int .u64 (ub R6.2))
  have v0 := V0.2.1
  have u0 := V0.2.2
  have V1 := T1.put (c := w1.heap.size) M11 (.int .u64 (ub R6.1)) (.int .u64 (ub R6.2))
  have v1 := V1.2.1
  have u1 := V1.2.2
  go_wp2_with fail
  refine (HY6.out _).mono ?_
  rintro e w12 ⟨rfl, z12⟩
  clear p0 q0 r0 p1 q1 r1 a1 b1 c1 d1 e1 a2 b2 c2 d2 e2 v0 u0 v1 u1
  replace T0 := V0.below z12
  replace T1 := V1.below z12
  replace G1 := (G1.put R6).below z12
  replace G2 := (G2.other N12.symm (.int .u64 (ub R6.1)) (.int .u64 (ub R6.2))).below z12
  replace B := ((B.setCell (p := ⟨w1.heap.size, 0, none⟩) K1 (.int .u64 (ub R6.1))).setCell (p := ⟨w1.heap.size, 1, none⟩) K1 (.int .u64 (ub R6.2))).trans (z12.mono (by simp; exact B.size))
  clear z12
  clear V0 V1
  have p0 := T0.1
  have q0 := T0.2.1
  have r0 := T0.2.2
  have p1 := T1.1
  have q1 := T1.2.1
  have r1 := T1.2.2
  have a1 := G1.1.1
  have b1 := G1.1.2.1
  have c1 := G1.1.2.2
  have d1 := G1.2.1
  have e1 := G1.2.2
  have a2 := G2.1.1
  have b2 := G2.1.2.1
  have c2 := G2.1.2.2
  have d2 := G2.2.1
  have e2 := G2.2.2
  have V0 := T0.put (c := w2.heap.size) M02 (.int .u64 (ub R6.1)) (.int .u64 (ub R6.2))
  have v0 := V0.2.1
  have u0 := V0.2.2
  clear V0
  have V1 := T1.put (c := w2.heap.size) M12 (.int .u64 (ub R6.1)) (.int .u64 (ub R6.2))
  have v1 := V1.2.1
  have u1 := V1.2.2
  clear V1
  have f1 := (G1.other N12 (.int .u64 (ub R6.1)) (.int .u64 (ub R6.2))).1.2.1
  have f2 := (G1.other N12 (.int .u64 (ub R6.1)) (.int .u64 (ub R6.2))).1.2.2
  go_wp2_with fail
  refine (HAW.out _).mono ?_
  rintro e w13 ⟨rfl, z13⟩
  clear p0 q0 r0 p1 q1 r1 a1 b1 c1 d1 e1 a2 b2 c2 d2 e2 v0 u0 v1 u1 f1 f2
  replace G1 := (G1.other N12 (.int .u64 (ub R6.1)) (.int .u64 (ub R6.2))).below z13
  replace G2 := (G2.put R6).below z13
  replace B := ((B.setCell (p := ⟨w2.heap.size, 0, none⟩) K2 (.int .u64 (ub R6.1))).setCell (p := ⟨w2.heap.size, 1, none⟩) K2 (.int .u64 (ub R6.2))).trans (z13.mono (by simp; exact B.size))
  have b1 := G1.1.2.1
  have c1 := G1.1.2.2
  have b2 := G2.1.2.1
  have c2 := G2.1.2.2
  have HB := hid B
  clear z13 B G1 G2 T0 T1
  go_wp2
  go_ret
  exact ⟨rfl, HB.out⟩
end Go.Proofs.Ytodmikjpmcabiaa
