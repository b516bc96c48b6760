/-
  TnumShifts: what is shifted and cut is the document's.
-/
import Derived.Test.YtbinbjfpjielkaaTnY
import Derived.Test.YtbinbjfpjielkaaTnW
namespace Go.Proofs.Ytbinbjfpjielkaa
set_option linter.unusedSimpArgs false
set_option linter.unusedVariables false
open Go.ChangeShapes Go.WideShapes Go.ChangeAt Go.RowKit

set_option maxHeartbeats 4000000 in
theorem shifts_walk (a : Tn) (n size : Int) (w : World) : Calls Try.prog 6 #[tv a, .int .i64 n, .int .i64 size] w fun e w' => e = .returned (.bool true) ∧ Below w.heap.size w w' := by
  have X1 := fun W => tLsh_any a n W
  have Y1 := fun W => rLsh_any a n W
  generalize shT a (fun x => x <<< n.toNat) n 64 = R1 at X1 Y1
  generalize shE a n 64 = E1 at X1 Y1
  have X2 := fun W => tRsh_any a n W
  have Y2 := fun W => rRsh_any a n W
  generalize shT a (fun x => x >>> n.toNat) n 64 = R2 at X2 Y2
  generalize shE a n 64 = E2 at X2 Y2
  have X3 := fun W => tArsh_any a n size W
  have Y3 := fun W => rArsh_any a n size W
  generalize arshT a n size = R3 at X3 Y3
  generalize arshE a n size = E3 at X3 Y3
  have X4 := fun W => tCut_any a size W
  have Y4 := fun W => rCut_any a size W
  generalize cutT a size = R4 at X4 Y4
  generalize cutE a size = E4 at X4 Y4
  unfold tv at X1 Y1
  have HX1 := hid X1
  have HY1 := hid Y1
  clear X1 Y1
  unfold tv at X2 Y2
  have HX2 := hid X2
  have HY2 := hid Y2
  clear X2 Y2
  unfold tv at X3 Y3
  have HX3 := hid X3
  have HY3 := hid Y3
  clear X3 Y3
  unfold tv at X4 Y4
  have HX4 := hid X4
  have HY4 := hid Y4
  clear X4 Y4
  have HAW := hid awake_true
  unfold tv
  go_enter Try.func6, Try.ntmps6
  go_wp2_with fail
  refine (HX1.out _).mono ?_
  rintro e w1 ⟨rfl, z1⟩
  have T0 : TC w1 (w.heap.size) a := (TC.new rfl).below z1
  have B : Below w.heap.size w w1 := ((Below.refl _ _).alloc (Nat.le_refl _) _).trans (z1.mono (by simp))
  have J0 := T0.1
  clear z1
  have p0 := T0.1
  have q0 := T0.2.1
  have r0 := T0.2.2
  go_wp2_with fail
  refine (HY1.out _).mono ?_
  rintro e w2 ⟨rfl, z2⟩
  clear p0 q0 r0
  replace T0 := (T0.alloc (.cells #[.int .u64 (ub R1.1), .int .u64 (ub R1.2)] 24)).below z2
  have G1 : TB w2 w1.heap.size R1 := (TB.new rfl).below z2
  have K1 := B.size
  replace B : Below w.heap.size w w2 := (B.alloc B.size (.cells #[.int .u64 (ub R1.1), .int .u64 (ub R1.2)] 24)).trans (z2.mono (by simp; exact Nat.le_succ_of_le B.size))
  have L12 : w1.heap.size < w2.heap.size := by have := z2.size; simp at this; omega
  clear z2
  have p0 := T0.1
  have q0 := T0.2.1
  have r0 := T0.2.2
  have a1 := G1.1.1
  have b1 := G1.1.2.1
  have c1 := G1.1.2.2
  have d1 := G1.2.1
  have e1 := G1.2.2
  go_wp2_with fail
  refine (HX2.out _).mono ?_
  rintro e w3 ⟨rfl, z3⟩
  clear p0 q0 r0 a1 b1 c1 d1 e1
  replace T0 := (T0.alloc (.cells #[.int .u64 (ub R1.1), .int .u64 (ub R1.2)] 24)).below z3
  replace G1 := (G1.below ((Below.refl _ _).alloc (Nat.le_refl _) (.cells #[.int .u64 (ub R1.1), .int .u64 (ub R1.2)] 24))).below z3
  have G2 : TB w3 w2.heap.size R1 := (TB.new rfl).below z3
  have K2 := B.size
  have N12 : w1.heap.size ≠ w2.heap.size := by have := L12; omega
  replace B : Below w.heap.size w w3 := (B.alloc B.size (.cells #[.int .u64 (ub R1.1), .int .u64 (ub R1.2)] 24)).trans (z3.mono (by simp; exact Nat.le_succ_of_le B.size))
  have M01 : w.heap.size ≠ w1.heap.size := by omega
  have M02 : w.heap.size ≠ w2.heap.size := by omega
  clear z3
  have p0 := T0.1
  have q0 := T0.2.1
  have r0 := T0.2.2
  have a1 := G1.1.1
  have b1 := G1.1.2.1
  have c1 := G1.1.2.2
  have d1 := G1.2.1
  have e1 := G1.2.2
  have a2 := G2.1.1
  have b2 := G2.1.2.1
  have c2 := G2.1.2.2
  have d2 := G2.2.1
  have e2 := G2.2.2
  have V0 := T0.put (c := w1.heap.size) M01 (.int .u64 (ub R2.1)) (.int .u64 (ub R2.2))
  have v0 := V0.2.1
  have u0 := V0.2.2
  go_wp2_with fail
  refine (HY2.out _).mono ?_
  rintro e w4 ⟨rfl, z4⟩
  clear p0 q0 r0 a1 b1 c1 d1 e1 a2 b2 c2 d2 e2 v0 u0
  replace T0 := V0.below z4
  replace G1 := (G1.put R2).below z4
  replace G2 := (G2.other N12.symm (.int .u64 (ub R2.1)) (.int .u64 (ub R2.2))).below z4
  replace B := ((B.setCell (p := ⟨w1.heap.size, 0, none⟩) K1 (.int .u64 (ub R2.1))).setCell (p := ⟨w1.heap.size, 1, none⟩) K1 (.int .u64 (ub R2.2))).trans (z4.mono (by simp; exact B.size))
  clear z4
  clear V0
  have p0 := T0.1
  have q0 := T0.2.1
  have r0 := T0.2.2
  have a1 := G1.1.1
  have b1 := G1.1.2.1
  have c1 := G1.1.2.2
  have d1 := G1.2.1
  have e1 := G1.2.2
  have a2 := G2.1.1
  have b2 := G2.1.2.1
  have c2 := G2.1.2.2
  have d2 := G2.2.1
  have e2 := G2.2.2
  have V0 := T0.put (c := w2.heap.size) M02 (.int .u64 (ub R2.1)) (.int .u64 (ub R2.2))
  have v0 := V0.2.1
  have u0 := V0.2.2
  clear V0
  have f1 := (G1.other N12 (.int .u64 (ub R2.1)) (.int .u64 (ub R2.2))).1.2.1
  have f2 := (G1.other N12 (.int .u64 (ub R2.1)) (.int .u64 (ub R2.2))).1.2.2
  go_wp2_with fail
  refine (HX3.out _).mono ?_
  rintro e w5 ⟨rfl, z5⟩
  clear p0 q0 r0 a1 b1 c1 d1 e1 a2 b2 c2 d2 e2 v0 u0 f1 f2
  replace G1 := (G1.other N12 (.int .u64 (ub R2.1)) (.int .u64 (ub R2.2))).below z5
  replace G2 := (G2.put R2).below z5
  replace T0 := (T0.put (c := w2.heap.size) M02 (.int .u64 (ub R2.1)) (.int .u64 (ub R2.2))).below z5
  replace B := ((B.setCell (p := ⟨w2.heap.size, 0, none⟩) K2 (.int .u64 (ub R2.1))).setCell (p := ⟨w2.heap.size, 1, none⟩) K2 (.int .u64 (ub R2.2))).trans (z5.mono (by simp; exact B.size))
  clear z5
  have p0 := T0.1
  have q0 := T0.2.1
  have r0 := T0.2.2
  have a1 := G1.1.1
  have b1 := G1.1.2.1
  have c1 := G1.1.2.2
  have d1 := G1.2.1
  have e1 := G1.2.2
  have a2 := G2.1.1
  have b2 := G2.1.2.1
  have c2 := G2.1.2.2
  have d2 := G2.2.1
  have e2 := G2.2.2
  have V0 := T0.put (c := w1.heap.size) M01 (.int .u64 (ub R3.1)) (.int .u64 (ub R3.2))
  have v0 := V0.2.1
  have u0 := V0.2.2
  go_wp2_with fail
  refine (HY3.out _).mono ?_
  rintro e w6 ⟨rfl, z6⟩
  clear p0 q0 r0 a1 b1 c1 d1 e1 a2 b2 c2 d2 e2 v0 u0
  replace T0 := V0.below z6
  replace G1 := (G1.put R3).below z6
  replace G2 := (G2.other N12.symm (.int .u64 (ub R3.1)) (.int .u64 (ub R3.2))).below z6
  replace B := ((B.setCell (p := ⟨w1.heap.size, 0, none⟩) K1 (.int .u64 (ub R3.1))).setCell (p := ⟨w1.heap.size, 1, none⟩) K1 (.int .u64 (ub R3.2))).trans (z6.mono (by simp; exact B.size))
  clear z6
  clear V0
  have p0 := T0.1
  have q0 := T0.2.1
  have r0 := T0.2.2
  have a1 := G1.1.1
  have b1 := G1.1.2.1
  have c1 := G1.1.2.2
  have d1 := G1.2.1
  have e1 := G1.2.2
  have a2 := G2.1.1
  have b2 := G2.1.2.1
  have c2 := G2.1.2.2
  have d2 := G2.2.1
  have e2 := G2.2.2
  have V0 := T0.put (c := w2.heap.size) M02 (.int .u64 (ub R3.1)) (.int .u64 (ub R3.2))
  have v0 := V0.2.1
  have u0 := V0.2.2
  clear V0
  have f1 := (G1.other N12 (.int .u64 (ub R3.1)) (.int .u64 (ub R3.2))).1.2.1
  have f2 := (G1.other N12 (.int .u64 (ub R3.1)) (.int .u64 (ub R3.2))).1.2.2
  go_wp2_with fail
  refine (HX4.out _).mono ?_
  rintro e w7 ⟨rfl, z7⟩
  clear p0 q0 r0 a1 b1 c1 d1 e1 a2 b2 c2 d2 e2 v0 u0 f1 f2
  replace G1 := (G1.other N12 (.int .u64 (ub R3.1)) (.int .u64 (ub R3.2))).below z7
  replace G2 := (G2.put R3).below z7
  replace T0 := (T0.put (c := w2.heap.size) M02 (.int .u64 (ub R3.1)) (.int .u64 (ub R3.2))).below z7
  replace B := ((B.setCell (p := ⟨w2.heap.size, 0, none⟩) K2 (.int .u64 (ub R3.1))).setCell (p := ⟨w2.heap.size, 1, none⟩) K2 (.int .u64 (ub R3.2))).trans (z7.mono (by simp; exact B.size))
  clear z7
  have p0 := T0.1
  have q0 := T0.2.1
  have r0 := T0.2.2
  have a1 := G1.1.1
  have b1 := G1.1.2.1
  have c1 := G1.1.2.2
  have d1 := G1.2.1
  have e1 := G1.2.2
  have a2 := G2.1.1
  have b2 := G2.1.2.1
  have c2 := G2.1.2.2
  have d2 := G2.2.1
  have e2 := G2.2.2
  have V0 := T0.put (c := w1.heap.size) M01 (.int .u64 (ub R4.1)) (.int .u64 (ub R4.2))
  have v0 := V0.2.1
  have u0 := V0.2.2
  go_wp2_with fail
  refine (HY4.out _).mono ?_
  rintro e w8 ⟨rfl, z8⟩
  clear p0 q0 r0 a1 b1 c1 d1 e1 a2 b2 c2 d2 e2 v0 u0
  replace T0 := V0.below z8
  replace G1 := (G1.put R4).below z8
  replace G2 := (G2.other N12.symm (.int .u64 (ub R4.1)) (.int .u64 (ub R4.2))).below z8
  replace B := ((B.setCell (p := ⟨w1.heap.size, 0, none⟩) K1 (.int .u64 (ub R4.1))).setCell (p := ⟨w1.heap.size, 1, none⟩) K1 (.int .u64 (ub R4.2))).trans (z8.mono (by simp; exact B.size))
  clear z8
  clear V0
  have p0 := T0.1
  have q0 := T0.2.1
  have r0 := T0.2.2
  have a1 := G1.1.1
  have b1 := G1.1.2.1
  have c1 := G1.1.2.2
  have d1 := G1.2.1
  have e1 := G1.2.2
  have a2 := G2.1.1
  have b2 := G2.1.2.1
  have c2 := G2.1.2.2
  have d2 := G2.2.1
  have e2 := G2.2.2
  have V0 := T0.put (c := w2.heap.size) M02 (.int .u64 (ub R4.1)) (.int .u64 (ub R4.2))
  have v0 := V0.2.1
  have u0 := V0.2.2
  clear V0
  have f1 := (G1.other N12 (.int .u64 (ub R4.1)) (.int .u64 (ub R4.2))).1.2.1
  have f2 := (G1.other N12 (.int .u64 (ub R4.1)) (.int .u64 (ub R4.2))).1.2.2
  go_wp2_with fail
  refine (HAW.out _).mono ?_
  rintro e w9 ⟨rfl, z9⟩
  clear p0 q0 r0 a1 b1 c1 d1 e1 a2 b2 c2 d2 e2 v0 u0 f1 f2
  replace G1 := (G1.other N12 (.int .u64 (ub R4.1)) (.int .u64 (ub R4.2))).below z9
  replace G2 := (G2.put R4).below z9
  replace B := ((B.setCell (p := ⟨w2.heap.size, 0, none⟩) K2 (.int .u64 (ub R4.1))).setCell (p := ⟨w2.heap.size, 1, none⟩) K2 (.int .u64 (ub R4.2))).trans (z9.mono (by simp; exact B.size))
  have b1 := G1.1.2.1
  have c1 := G1.1.2.2
  have b2 := G2.1.2.1
  have c2 := G2.1.2.2
  have HB := hid B
  clear z9 B G1 G2 T0
  go_wp2
  go_ret
  exact ⟨rfl, HB.out⟩
end Go.Proofs.Ytbinbjfpjielkaa
