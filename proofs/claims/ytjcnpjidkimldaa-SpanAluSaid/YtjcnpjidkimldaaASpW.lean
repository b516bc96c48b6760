/-
  The laws' own wakes: true.
-/
import Derived.Test.YtjcnpjidkimldaaASpR
namespace Go.Proofs.Ytjcnpjidkimldaa
set_option linter.unusedSimpArgs false
set_option linter.unusedVariables false
set_option maxRecDepth 100000
open Go.ChangeShapes Go.WideShapes Go.ChangeAt Go.RowKit

theorem wk0 (W : World) : Calls Try.prog 5 #[.int .i64 0, .bool true, .agg #[.int .u64 1, .int .u64 5], .agg #[.int .u64 10, .int .u64 20]] W fun e W' => e = .returned (.tuple #[.agg #[.int .u64 11, .int .u64 25], .int .i64 0]) ∧ Below W.heap.size W W' := by
  have h := sAlu_any 0 true (1#64, 5#64) (10#64, 20#64) W
  rw [show aluT 0 true (1#64, 5#64) (10#64, 20#64) = (11#64, 25#64) by decide +kernel, show aluE 0 (1#64, 5#64) (10#64, 20#64) = 0 by decide +kernel] at h
  exact h
theorem wk1 (W : World) : Calls Try.prog 5 #[.int .i64 1, .bool true, .agg #[.int .u64 1, .int .u64 5], .agg #[.int .u64 2, .int .u64 3]] W fun e W' => e = .returned (.tuple #[.agg #[.int .u64 0, .int .u64 18446744073709551615], .int .i64 0]) ∧ Below W.heap.size W W' := by
  have h := sAlu_any 1 true (1#64, 5#64) (2#64, 3#64) W
  rw [show aluT 1 true (1#64, 5#64) (2#64, 3#64) = (0#64, 18446744073709551615#64) by decide +kernel, show aluE 1 (1#64, 5#64) (2#64, 3#64) = 0 by decide +kernel] at h
  exact h
theorem wk2 (W : World) : Calls Try.prog 5 #[.int .i64 4, .bool true, .agg #[.int .u64 8, .int .u64 12], .agg #[.int .u64 3, .int .u64 6]] W fun e W' => e = .returned (.tuple #[.agg #[.int .u64 11, .int .u64 15], .int .i64 0]) ∧ Below W.heap.size W W' := by
  have h := sAlu_any 4 true (8#64, 12#64) (3#64, 6#64) W
  rw [show aluT 4 true (8#64, 12#64) (3#64, 6#64) = (11#64, 15#64) by decide +kernel, show aluE 4 (8#64, 12#64) (3#64, 6#64) = 0 by decide +kernel] at h
  exact h
theorem wk3 (W : World) : Calls Try.prog 5 #[.int .i64 13, .bool true, .agg #[.int .u64 11, .int .u64 25], .agg #[.int .u64 11, .int .u64 25]] W fun e W' => e = .returned (.tuple #[.agg #[.int .u64 0, .int .u64 0], .int .i64 1]) ∧ Below W.heap.size W W' := by
  have h := sAlu_any 13 true (11#64, 25#64) (11#64, 25#64) W
  rw [show aluT 13 true (11#64, 25#64) (11#64, 25#64) = (0#64, 0#64) by decide +kernel, show aluE 13 (11#64, 25#64) (11#64, 25#64) = 1 by decide +kernel] at h
  exact h
theorem allS (W : World) : Calls Try.prog 28 #[] W fun e W' => e = .returned (.agg #[.int .u64 0, .int .u64 18446744073709551615]) ∧ Below W.heap.size W W' := sAll_any W
theorem BCn {w : World} {x y : Int} {t : TypeId} {b : Nat} (hb : b = w.heap.size) : b < (w.alloc (.cells #[.int .u64 x, .int .u64 y] t)).heap.size ∧ (w.alloc (.cells #[.int .u64 x, .int .u64 y] t)).cell? ⟨b, 0, none⟩ = some (.int .u64 x) ∧ (w.alloc (.cells #[.int .u64 x, .int .u64 y] t)).cell? ⟨b, 1, none⟩ = some (.int .u64 y) := by
  subst hb
  exact ⟨by simp, by simp, by simp⟩
/-- A box with two numbers. -/
def B2 (w : World) (b : Nat) (x y : Int) : Prop := b < w.heap.size ∧ w.cell? ⟨b, 0, none⟩ = some (.int .u64 x) ∧ w.cell? ⟨b, 1, none⟩ = some (.int .u64 y)
theorem B2.below {w w' : World} {b : Nat} {x y : Int} (h : B2 w b x y) (hb : Below w.heap.size w w') : B2 w' b x y := ⟨Nat.lt_of_lt_of_le h.1 hb.size, (hb.cell h.1).trans h.2.1, (hb.cell h.1).trans h.2.2⟩
set_option maxRecDepth 20000 in
set_option maxHeartbeats 4000000 in
theorem wakes_true (w : World) : Calls Try.prog 7 #[] w fun e w' => e = .returned (.bool true) ∧ Below w.heap.size w w' := by
  have H0 := hid wk0
  have H1 := hid wk1
  have H2 := hid wk2
  have H3 := hid wk3
  have HL := hid allS
  go_enter Try.func7, Try.ntmps7
  go_wp2_with fail
  refine (H0.out _).mono ?_
  rintro e w1 ⟨rfl, z1⟩
  have A1 : B2 (w1.alloc (.cells #[.int .u64 11, .int .u64 25] 24)) w1.heap.size 11 25 := BCn rfl
  have B := z1.alloc z1.size (.cells #[.int .u64 11, .int .u64 25] 24)
  clear z1
  go_wp2_with fail
  generalize w1.alloc (.cells #[.int .u64 11, .int .u64 25] 24) = u1 at *
  generalize w1.heap.size = g1 at *
  refine (H1.out _).mono ?_
  rintro e w2 ⟨rfl, z2⟩
  replace A1 := (A1.below z2).below ((Below.refl _ _).alloc (Nat.le_refl _) (.cells #[.int .u64 0, .int .u64 18446744073709551615] 24))
  have A2 : B2 (w2.alloc (.cells #[.int .u64 0, .int .u64 18446744073709551615] 24)) w2.heap.size 0 18446744073709551615 := BCn rfl
  replace B := (B.trans (z2.mono B.size)).alloc (Nat.le_trans B.size z2.size) (.cells #[.int .u64 0, .int .u64 18446744073709551615] 24)
  clear z2
  go_wp2_with fail
  generalize w2.alloc (.cells #[.int .u64 0, .int .u64 18446744073709551615] 24) = u2 at *
  generalize w2.heap.size = g2 at *
  refine (H2.out _).mono ?_
  rintro e w3 ⟨rfl, z3⟩
  replace A1 := (A1.below z3).below ((Below.refl _ _).alloc (Nat.le_refl _) (.cells #[.int .u64 11, .int .u64 15] 24))
  replace A2 := (A2.below z3).below ((Below.refl _ _).alloc (Nat.le_refl _) (.cells #[.int .u64 11, .int .u64 15] 24))
  have A3 : B2 (w3.alloc (.cells #[.int .u64 11, .int .u64 15] 24)) w3.heap.size 11 15 := BCn rfl
  replace B := (B.trans (z3.mono B.size)).alloc (Nat.le_trans B.size z3.size) (.cells #[.int .u64 11, .int .u64 15] 24)
  clear z3
  have a0 := A1.1
  have a1 := A1.2.1
  have a2 := A1.2.2
  go_wp2_with fail
  generalize w3.alloc (.cells #[.int .u64 11, .int .u64 15] 24) = u3 at *
  generalize w3.heap.size = g3 at *
  refine (H3.out _).mono ?_
  rintro e w4 ⟨rfl, z4⟩
  clear a0 a1 a2
  replace A1 := (A1.below z4).below ((Below.refl _ _).alloc (Nat.le_refl _) (.cells #[.int .u64 0, .int .u64 0] 24))
  replace A2 := (A2.below z4).below ((Below.refl _ _).alloc (Nat.le_refl _) (.cells #[.int .u64 0, .int .u64 0] 24))
  replace A3 := (A3.below z4).below ((Below.refl _ _).alloc (Nat.le_refl _) (.cells #[.int .u64 0, .int .u64 0] 24))
  replace B := (B.trans (z4.mono B.size)).alloc (Nat.le_trans B.size z4.size) (.cells #[.int .u64 0, .int .u64 0] 24)
  clear z4
  go_wp2_with fail
  generalize w4.alloc (.cells #[.int .u64 0, .int .u64 0] 24) = w0 at *
  have a1 := A1.2.1
  have a2 := A1.2.2
  have a3 := A2.2.1
  have a4 := A2.2.2
  have a5 := A3.2.1
  have a6 := A3.2.2
  clear A1 A2 A3
  have e0 : ∀ W : World, (binOp .eql 24 (.agg #[.int .u64 11, .int .u64 25]) (.agg #[.int .u64 11, .int .u64 25])).run Try.prog W = .ok (.bool true) W := by intro W; kernel_rfl
  have e1 : ∀ W : World, (binOp .eql 24 (.agg #[.int .u64 0, .int .u64 18446744073709551615]) (.agg #[.int .u64 0, .int .u64 18446744073709551615])).run Try.prog W = .ok (.bool true) W := by intro W; kernel_rfl
  have e2 : ∀ W : World, (binOp .eql 24 (.agg #[.int .u64 11, .int .u64 15]) (.agg #[.int .u64 11, .int .u64 15])).run Try.prog W = .ok (.bool true) W := by intro W; kernel_rfl
  go_region_held3 (fun w' => w'.cell? ⟨g1, 0, none⟩ = some (.int .u64 11) ∧ w'.cell? ⟨g1, 1, none⟩ = some (.int .u64 25) ∧ w'.cell? ⟨g2, 0, none⟩ = some (.int .u64 0) ∧ w'.cell? ⟨g2, 1, none⟩ = some (.int .u64 18446744073709551615) ∧ w'.cell? ⟨g3, 0, none⟩ = some (.int .u64 11) ∧ w'.cell? ⟨g3, 1, none⟩ = some (.int .u64 15) ∧ Below w.heap.size w w')
    (first
      | (go_split_ands; exact ⟨by with_reducible assumption, by with_reducible assumption, by with_reducible assumption, by with_reducible assumption, by with_reducible assumption, by with_reducible assumption, by with_reducible assumption⟩)
      | exact ⟨cn bq (by with_reducible assumption), cn bq (by with_reducible assumption), cn bq (by with_reducible assumption), cn bq (by with_reducible assumption), cn bq (by with_reducible assumption), cn bq (by with_reducible assumption), Below.trans (by with_reducible assumption) (bq.mono (Below.size (by with_reducible assumption)))⟩
      | exact ⟨cn (below_dr w0) a1, cn (below_dr w0) a2, cn (below_dr w0) a3, cn (below_dr w0) a4, cn (below_dr w0) a5, cn (below_dr w0) a6, B.drew⟩)
    (first | (go_at_call 28; go_split_ands; (with_reducible refine (HL.out _).mono ?_); rintro e wq ⟨rfl, bq⟩))
  go_split_ands
  have HB : Hid (Below w.heap.size w wq) := hid (by assumption)
  go_wp2
  go_ret
  exact ⟨rfl, HB.out⟩
end Go.Proofs.Ytjcnpjidkimldaa
