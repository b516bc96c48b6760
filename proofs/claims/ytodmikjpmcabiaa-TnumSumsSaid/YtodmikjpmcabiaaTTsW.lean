/-
  The laws' awake (layer 9): true, by contracts.
-/
import Derived.Test.YtodmikjpmcabiaaTTnH
import Derived.Test.YtodmikjpmcabiaaTScA
namespace Go.Proofs.Ytodmikjpmcabiaa
set_option linter.unusedSimpArgs false
set_option linter.unusedVariables false
set_option maxRecDepth 100000
set_option maxRecDepth 100000
open Go.ChangeShapes Go.WideShapes Go.ChangeAt Go.RowKit

def LB (w : World) (b : Nat) (v m : Int) : Prop := b < w.heap.size ∧ w.cell? ⟨b, 0, none⟩ = some (.int .u64 v) ∧ w.cell? ⟨b, 1, none⟩ = some (.int .u64 m)
theorem LB.below {w w' : World} {b : Nat} {v m : Int} (h : LB w b v m) (z : Below w.heap.size w w') : LB w' b v m := ⟨Nat.lt_of_lt_of_le h.1 z.size, (z.cell h.1).trans h.2.1, (z.cell h.1).trans h.2.2⟩
theorem LB.new (w : World) (v m : Int) (t : TypeId) : LB (w.alloc (.cells #[.int .u64 v, .int .u64 m] t)) w.heap.size v m := ⟨by simp, by simp, by simp⟩
theorem aw_O1 (W : World) : Calls Try.prog 62 #[.int .u64 1] W fun e w' => e = .returned (.agg #[.int .u64 1, .int .u64 0]) ∧ Below W.heap.size W w' := by
  have h := tOf_any 1#64 W
  unfold tv at h
  try dsimp only at h
  simp only [show ub 0#64 = 0 from rfl, show ub 1#64 = 1 from rfl, show ub 2#64 = 2 from rfl, show ub 3#64 = 3 from rfl, show ub 4#64 = 4 from rfl, show ub 5#64 = 5 from rfl, show ub 6#64 = 6 from rfl, show ub 7#64 = 7 from rfl, show ub 2147483648#64 = 2147483648 from rfl, show ub 4160749568#64 = 4160749568 from rfl] at h
  exact h
theorem aw_XA (W : World) : Calls Try.prog 13 #[.agg #[.int .u64 1, .int .u64 0], .agg #[.int .u64 0, .int .u64 3]] W fun e w' => e = .returned (.tuple #[.agg #[.int .u64 0, .int .u64 7], .int .i64 0]) ∧ Below W.heap.size W w' := by
  have h := tAdd_any ((1#64, 0#64) : Tn) ((0#64, 3#64) : Tn) W
  unfold tv at h
  rw [show bothT ((1#64, 0#64) : Tn) ((0#64, 3#64) : Tn) (sumT ((1#64, 0#64) : Tn) ((0#64, 3#64) : Tn)) = ((0#64, 7#64) : Tn) by decide +kernel] at h
  rw [show bothE ((1#64, 0#64) : Tn) ((0#64, 3#64) : Tn) = 0 by decide +kernel] at h
  try dsimp only at h
  simp only [show ub 0#64 = 0 from rfl, show ub 1#64 = 1 from rfl, show ub 2#64 = 2 from rfl, show ub 3#64 = 3 from rfl, show ub 4#64 = 4 from rfl, show ub 5#64 = 5 from rfl, show ub 6#64 = 6 from rfl, show ub 7#64 = 7 from rfl, show ub 2147483648#64 = 2147483648 from rfl, show ub 4160749568#64 = 4160749568 from rfl] at h
  exact h
theorem aw_O4 (W : World) : Calls Try.prog 62 #[.int .u64 4] W fun e w' => e = .returned (.agg #[.int .u64 4, .int .u64 0]) ∧ Below W.heap.size W w' := by
  have h := tOf_any 4#64 W
  unfold tv at h
  try dsimp only at h
  simp only [show ub 0#64 = 0 from rfl, show ub 1#64 = 1 from rfl, show ub 2#64 = 2 from rfl, show ub 3#64 = 3 from rfl, show ub 4#64 = 4 from rfl, show ub 5#64 = 5 from rfl, show ub 6#64 = 6 from rfl, show ub 7#64 = 7 from rfl, show ub 2147483648#64 = 2147483648 from rfl, show ub 4160749568#64 = 4160749568 from rfl] at h
  exact h
theorem aw_O6 (W : World) : Calls Try.prog 62 #[.int .u64 6] W fun e w' => e = .returned (.agg #[.int .u64 6, .int .u64 0]) ∧ Below W.heap.size W w' := by
  have h := tOf_any 6#64 W
  unfold tv at h
  try dsimp only at h
  simp only [show ub 0#64 = 0 from rfl, show ub 1#64 = 1 from rfl, show ub 2#64 = 2 from rfl, show ub 3#64 = 3 from rfl, show ub 4#64 = 4 from rfl, show ub 5#64 = 5 from rfl, show ub 6#64 = 6 from rfl, show ub 7#64 = 7 from rfl, show ub 2147483648#64 = 2147483648 from rfl, show ub 4160749568#64 = 4160749568 from rfl] at h
  exact h
theorem aw_XJ (W : World) : Calls Try.prog 70 #[.agg #[.int .u64 4, .int .u64 0], .agg #[.int .u64 6, .int .u64 0]] W fun e w' => e = .returned (.tuple #[.agg #[.int .u64 4, .int .u64 2], .int .i64 0]) ∧ Below W.heap.size W w' := by
  have h := tJoin_any ((4#64, 0#64) : Tn) ((6#64, 0#64) : Tn) W
  unfold tv at h
  rw [show bothT ((4#64, 0#64) : Tn) ((6#64, 0#64) : Tn) (joinT ((4#64, 0#64) : Tn) ((6#64, 0#64) : Tn)) = ((4#64, 2#64) : Tn) by decide +kernel] at h
  rw [show bothE ((4#64, 0#64) : Tn) ((6#64, 0#64) : Tn) = 0 by decide +kernel] at h
  try dsimp only at h
  simp only [show ub 0#64 = 0 from rfl, show ub 1#64 = 1 from rfl, show ub 2#64 = 2 from rfl, show ub 3#64 = 3 from rfl, show ub 4#64 = 4 from rfl, show ub 5#64 = 5 from rfl, show ub 6#64 = 6 from rfl, show ub 7#64 = 7 from rfl, show ub 2147483648#64 = 2147483648 from rfl, show ub 4160749568#64 = 4160749568 from rfl] at h
  exact h
theorem aw_O3 (W : World) : Calls Try.prog 62 #[.int .u64 3] W fun e w' => e = .returned (.agg #[.int .u64 3, .int .u64 0]) ∧ Below W.heap.size W w' := by
  have h := tOf_any 3#64 W
  unfold tv at h
  try dsimp only at h
  simp only [show ub 0#64 = 0 from rfl, show ub 1#64 = 1 from rfl, show ub 2#64 = 2 from rfl, show ub 3#64 = 3 from rfl, show ub 4#64 = 4 from rfl, show ub 5#64 = 5 from rfl, show ub 6#64 = 6 from rfl, show ub 7#64 = 7 from rfl, show ub 2147483648#64 = 2147483648 from rfl, show ub 4160749568#64 = 4160749568 from rfl] at h
  exact h
theorem aw_XM (W : World) : Calls Try.prog 17 #[.agg #[.int .u64 3, .int .u64 0], .agg #[.int .u64 0, .int .u64 2]] W fun e w' => e = .returned (.tuple #[.agg #[.int .u64 0, .int .u64 6], .int .i64 0]) ∧ Below W.heap.size W w' := by
  have h := tMul_any ((3#64, 0#64) : Tn) ((0#64, 2#64) : Tn) W
  unfold tv at h
  rw [show bothT ((3#64, 0#64) : Tn) ((0#64, 2#64) : Tn) (mulT ((3#64, 0#64) : Tn) ((0#64, 2#64) : Tn)) = ((0#64, 6#64) : Tn) by decide +kernel] at h
  rw [show bothE ((3#64, 0#64) : Tn) ((0#64, 2#64) : Tn) = 0 by decide +kernel] at h
  try dsimp only at h
  simp only [show ub 0#64 = 0 from rfl, show ub 1#64 = 1 from rfl, show ub 2#64 = 2 from rfl, show ub 3#64 = 3 from rfl, show ub 4#64 = 4 from rfl, show ub 5#64 = 5 from rfl, show ub 6#64 = 6 from rfl, show ub 7#64 = 7 from rfl, show ub 2147483648#64 = 2147483648 from rfl, show ub 4160749568#64 = 4160749568 from rfl] at h
  exact h
theorem aw_XR (W : World) : Calls Try.prog 71 #[.agg #[.int .u64 0, .int .u64 2147483648], .int .i64 4, .int .i64 32] W fun e w' => e = .returned (.tuple #[.agg #[.int .u64 0, .int .u64 4160749568], .int .i64 0]) ∧ Below W.heap.size W w' := by
  have h := tArsh_any ((0#64, 2147483648#64) : Tn) 4 32 W
  unfold tv at h
  rw [show arshT ((0#64, 2147483648#64) : Tn) 4 32 = ((0#64, 4160749568#64) : Tn) by decide +kernel] at h
  rw [show arshE ((0#64, 2147483648#64) : Tn) 4 32 = 0 by decide +kernel] at h
  try dsimp only at h
  simp only [show ub 0#64 = 0 from rfl, show ub 1#64 = 1 from rfl, show ub 2#64 = 2 from rfl, show ub 3#64 = 3 from rfl, show ub 4#64 = 4 from rfl, show ub 5#64 = 5 from rfl, show ub 6#64 = 6 from rfl, show ub 7#64 = 7 from rfl, show ub 2147483648#64 = 2147483648 from rfl, show ub 4160749568#64 = 4160749568 from rfl] at h
  exact h
theorem aw_H6 (W : World) : Calls Try.prog 72 #[.agg #[.int .u64 4, .int .u64 2], .int .u64 6] W fun e w' => e = .returned (.bool true) ∧ Below W.heap.size W w' := by
  have h := tHas_any ((4#64, 2#64) : Tn) 6#64 W
  unfold tv at h
  rw [show thas ((4#64, 2#64) : Tn) 6#64 = true by decide +kernel] at h
  try dsimp only at h
  simp only [show ub 0#64 = 0 from rfl, show ub 1#64 = 1 from rfl, show ub 2#64 = 2 from rfl, show ub 3#64 = 3 from rfl, show ub 4#64 = 4 from rfl, show ub 5#64 = 5 from rfl, show ub 6#64 = 6 from rfl, show ub 7#64 = 7 from rfl, show ub 2147483648#64 = 2147483648 from rfl, show ub 4160749568#64 = 4160749568 from rfl] at h
  exact h
theorem aw_H5 (W : World) : Calls Try.prog 72 #[.agg #[.int .u64 4, .int .u64 2], .int .u64 5] W fun e w' => e = .returned (.bool false) ∧ Below W.heap.size W w' := by
  have h := tHas_any ((4#64, 2#64) : Tn) 5#64 W
  unfold tv at h
  rw [show thas ((4#64, 2#64) : Tn) 5#64 = false by decide +kernel] at h
  try dsimp only at h
  simp only [show ub 0#64 = 0 from rfl, show ub 1#64 = 1 from rfl, show ub 2#64 = 2 from rfl, show ub 3#64 = 3 from rfl, show ub 4#64 = 4 from rfl, show ub 5#64 = 5 from rfl, show ub 6#64 = 6 from rfl, show ub 7#64 = 7 from rfl, show ub 2147483648#64 = 2147483648 from rfl, show ub 4160749568#64 = 4160749568 from rfl] at h
  exact h
set_option maxHeartbeats 8000000 in
theorem awake_true (w : World) : Calls Try.prog 23 #[] w fun e w' => e = .returned (.bool true) ∧ Below w.heap.size w w' := by
  have O1 := hid aw_O1
  have XA := hid aw_XA
  have O4 := hid aw_O4
  have O6 := hid aw_O6
  have XJ := hid aw_XJ
  have O3 := hid aw_O3
  have XM := hid aw_XM
  have XR := hid aw_XR
  have H6 := hid aw_H6
  have H5 := hid aw_H5
  go_enter Try.func23, Try.ntmps23
  go_wp2_with fail
  refine (O1.out _).mono ?_
  rintro e w1 ⟨rfl, z⟩
  have B : Below w.heap.size w w1 := z
  clear z
  go_wp2_with fail
  refine (XA.out _).mono ?_
  rintro e w2 ⟨rfl, z⟩
  replace B := B.trans (z.mono B.size)
  clear z
  go_wp2_with fail
  refine (O4.out _).mono ?_
  rintro e w3 ⟨rfl, z⟩
  have J0 : LB w3 w2.heap.size 0 7 := (LB.new w2 0 7 24).below z
  replace B : Below w.heap.size w w3 := (B.alloc B.size (.cells #[.int .u64 0, .int .u64 7] 24)).trans (z.mono (by simp; exact Nat.le_succ_of_le B.size))
  clear z
  have p0 := J0.1
  have q0 := J0.2.1
  have r0 := J0.2.2
  go_wp2_with fail
  refine (O6.out _).mono ?_
  rintro e w4 ⟨rfl, z⟩
  clear p0 q0 r0
  replace J0 := J0.below z
  replace B := B.trans (z.mono B.size)
  clear z
  have p0 := J0.1
  have q0 := J0.2.1
  have r0 := J0.2.2
  go_wp2_with fail
  refine (XJ.out _).mono ?_
  rintro e w5 ⟨rfl, z⟩
  clear p0 q0 r0
  replace J0 := J0.below z
  replace B := B.trans (z.mono B.size)
  clear z
  have p0 := J0.1
  have q0 := J0.2.1
  have r0 := J0.2.2
  go_wp2_with fail
  refine (O3.out _).mono ?_
  rintro e w6 ⟨rfl, z⟩
  clear p0 q0 r0
  replace J0 := (J0.below ((Below.refl _ _).alloc (Nat.le_refl _) (.cells #[.int .u64 4, .int .u64 2] 24))).below z
  have J1 : LB w6 w5.heap.size 4 2 := (LB.new w5 4 2 24).below z
  replace B : Below w.heap.size w w6 := (B.alloc B.size (.cells #[.int .u64 4, .int .u64 2] 24)).trans (z.mono (by simp; exact Nat.le_succ_of_le B.size))
  clear z
  have p0 := J0.1
  have q0 := J0.2.1
  have r0 := J0.2.2
  have p1 := J1.1
  have q1 := J1.2.1
  have r1 := J1.2.2
  go_wp2_with fail
  refine (XM.out _).mono ?_
  rintro e w7 ⟨rfl, z⟩
  clear p0 q0 r0 p1 q1 r1
  replace J0 := J0.below z
  replace J1 := J1.below z
  replace B := B.trans (z.mono B.size)
  clear z
  have p0 := J0.1
  have q0 := J0.2.1
  have r0 := J0.2.2
  have p1 := J1.1
  have q1 := J1.2.1
  have r1 := J1.2.2
  go_wp2_with fail
  refine (XR.out _).mono ?_
  rintro e w8 ⟨rfl, z⟩
  clear p0 q0 r0 p1 q1 r1
  replace J0 := (J0.below ((Below.refl _ _).alloc (Nat.le_refl _) (.cells #[.int .u64 0, .int .u64 6] 24))).below z
  replace J1 := (J1.below ((Below.refl _ _).alloc (Nat.le_refl _) (.cells #[.int .u64 0, .int .u64 6] 24))).below z
  have J2 : LB w8 w7.heap.size 0 6 := (LB.new w7 0 6 24).below z
  replace B : Below w.heap.size w w8 := (B.alloc B.size (.cells #[.int .u64 0, .int .u64 6] 24)).trans (z.mono (by simp; exact Nat.le_succ_of_le B.size))
  clear z
  have p0 := J0.1
  have q0 := J0.2.1
  have r0 := J0.2.2
  have p1 := J1.1
  have q1 := J1.2.1
  have r1 := J1.2.2
  have p2 := J2.1
  have q2 := J2.2.1
  have r2 := J2.2.2
  go_wp2_with fail
  refine (H6.out _).mono ?_
  rintro e w9 ⟨rfl, z⟩
  clear p0 q0 r0 p1 q1 r1 p2 q2 r2
  replace J0 := (J0.below ((Below.refl _ _).alloc (Nat.le_refl _) (.cells #[.int .u64 0, .int .u64 4160749568] 24))).below z
  replace J1 := (J1.below ((Below.refl _ _).alloc (Nat.le_refl _) (.cells #[.int .u64 0, .int .u64 4160749568] 24))).below z
  replace J2 := (J2.below ((Below.refl _ _).alloc (Nat.le_refl _) (.cells #[.int .u64 0, .int .u64 4160749568] 24))).below z
  have J3 : LB w9 w8.heap.size 0 4160749568 := (LB.new w8 0 4160749568 24).below z
  replace B : Below w.heap.size w w9 := (B.alloc B.size (.cells #[.int .u64 0, .int .u64 4160749568] 24)).trans (z.mono (by simp; exact Nat.le_succ_of_le B.size))
  clear z
  have p0 := J0.1
  have q0 := J0.2.1
  have r0 := J0.2.2
  have p1 := J1.1
  have q1 := J1.2.1
  have r1 := J1.2.2
  have p2 := J2.1
  have q2 := J2.2.1
  have r2 := J2.2.2
  have p3 := J3.1
  have q3 := J3.2.1
  have r3 := J3.2.2
  go_wp2_with fail
  refine (H5.out _).mono ?_
  rintro e w10 ⟨rfl, z⟩
  clear p0 q0 r0 p1 q1 r1 p2 q2 r2 p3 q3 r3
  replace J0 := J0.below z
  replace J1 := J1.below z
  replace J2 := J2.below z
  replace J3 := J3.below z
  replace B := B.trans (z.mono B.size)
  clear z
  have p0 := J0.1
  have q0 := J0.2.1
  have r0 := J0.2.2
  have p1 := J1.1
  have q1 := J1.2.1
  have r1 := J1.2.2
  have p2 := J2.1
  have q2 := J2.2.1
  have r2 := J2.2.2
  have p3 := J3.1
  have q3 := J3.2.1
  have r3 := J3.2.2
  have HB := hid B
  clear B
  go_wp2
  go_ret
  exact ⟨rfl, HB.out⟩
end Go.Proofs.Ytodmikjpmcabiaa
