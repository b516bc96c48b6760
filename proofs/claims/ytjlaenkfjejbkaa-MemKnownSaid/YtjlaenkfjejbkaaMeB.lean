/-
  Contracts of May, onStack, bitsOf, as the landed code has them; the comparison of two values.
-/
import Derived.Test.YtjlaenkfjejbkaaMeA
namespace Go.Proofs.Ytjlaenkfjejbkaa
set_option linter.unusedSimpArgs false
set_option linter.unusedVariables false
open Go.ChangeShapes Go.WideShapes Go.ChangeAt Go.RowKit

def vB (a b : Vl) : Bool := a.k == b.k && (a.m == b.m && (a.n == b.n && a.o == b.o))
theorem vB_iff (a b : Vl) : vB a b = true ↔ a = b := by
  cases a; cases b
  simp [vB]
theorem eq_v (a b : Vl) (W : World) : (binOp .eql 25 (vV a) (vV b)).run Try.prog W = .ok (.bool (vB a b)) W := by
  unfold vB vV
  cases h0 : (a.k == b.k) <;> cases h1 : (a.m == b.m) <;> cases h2 : (a.n == b.n) <;> cases h3 : (a.o == b.o) <;> simp [go_sem, h0, h1, h2, h3]
theorem neq_v (a b : Vl) (W : World) : (binOp .neq 25 (vV a) (vV b)).run Try.prog W = .ok (.bool (!vB a b)) W := by
  unfold vB vV
  cases h0 : (a.k == b.k) <;> cases h1 : (a.m == b.m) <;> cases h2 : (a.n == b.n) <;> cases h3 : (a.o == b.o) <;> simp [go_sem, h0, h1, h2, h3]

theorem bld_v0 (W : World) : (Instr.build 25 #[]).run Try.prog W = .ok (.agg #[.int .u8 0, .int .i64 0, .int .u64 0, .int .i64 0]) W := by kernel_rfl
theorem bld_v01 (k m : Int) (W : World) : (Instr.build 25 #[(0, .int .u8 k), (1, .int .i64 m)]).run Try.prog W = .ok (.agg #[.int .u8 k, .int .i64 m, .int .u64 0, .int .i64 0]) W := by kernel_rfl
theorem bld_v02 (k n : Int) (W : World) : (Instr.build 25 #[(0, .int .u8 k), (2, .int .u64 n)]).run Try.prog W = .ok (.agg #[.int .u8 k, .int .i64 0, .int .u64 n, .int .i64 0]) W := by kernel_rfl
theorem bld_v03 (k o : Int) (W : World) : (Instr.build 25 #[(0, .int .u8 k), (3, .int .i64 o)]).run Try.prog W = .ok (.agg #[.int .u8 k, .int .i64 0, .int .u64 0, .int .i64 o]) W := by kernel_rfl

theorem may_any (v : Vl) (w : World) : Calls Try.prog 20 #[vV v] w fun e w' => e = .returned (.bool (mayB v)) ∧ Below w.heap.size w w' := by
  obtain ⟨k, m, n, o⟩ := v
  have hB : Below w.heap.size w (w.alloc (.cells #[.int .u8 k, .int .i64 m, .int .u64 n, .int .i64 o] 25)) := (Below.refl _ _).alloc (Nat.le_refl _) _
  by_cases h0 : k = 0
  · subst h0
    have E := fun W => eq_v ⟨0, m, n, o⟩ ⟨0, 0, 0, 0⟩ W
    have BL := bld_v0
    have hv : mayB ⟨0, m, n, o⟩ = vB ⟨0, m, n, o⟩ ⟨0, 0, 0, 0⟩ := by simp [mayB, vB]
    rw [hv]
    clear hv
    generalize vB ⟨0, m, n, o⟩ ⟨0, 0, 0, 0⟩ = r at E ⊢
    unfold vV at E ⊢
    dsimp only at E ⊢
    go_enter Try.func20, Try.ntmps20
    go_wp2
    go_ret
    exact ⟨rfl, hB⟩
  have e0 : (k == 0) = false := by simpa using h0
  by_cases h1 : k = 1
  · subst h1
    have E := fun W => eq_v ⟨1, m, n, o⟩ ⟨1, 0, n, 0⟩ W
    have BL := bld_v02 1 n
    have hv : mayB ⟨1, m, n, o⟩ = vB ⟨1, m, n, o⟩ ⟨1, 0, n, 0⟩ := by simp [mayB, vB]
    rw [hv]
    clear hv
    generalize vB ⟨1, m, n, o⟩ ⟨1, 0, n, 0⟩ = r at E ⊢
    unfold vV at E ⊢
    dsimp only at E ⊢
    go_enter Try.func20, Try.ntmps20
    go_wp2
    go_ret
    exact ⟨rfl, hB⟩
  have e1 : (k == 1) = false := by simpa using h1
  by_cases h2 : k = 2 ∨ k = 3 ∨ k = 4
  · have E := fun W => eq_v ⟨k, m, n, o⟩ ⟨k, 0, 0, o⟩ W
    have BL := fun a => bld_v03 a o
    have hv : mayB ⟨k, m, n, o⟩ = vB ⟨k, m, n, o⟩ ⟨k, 0, 0, o⟩ := by simp [mayB, vB, h0, h1, h2]
    rw [hv]
    clear hv
    generalize vB ⟨k, m, n, o⟩ ⟨k, 0, 0, o⟩ = r at E ⊢
    unfold vV at E ⊢
    dsimp only at E ⊢
    rcases h2 with rfl | rfl | rfl
    all_goals
      go_enter Try.func20, Try.ntmps20
      go_wp2
      go_ret
      exact ⟨rfl, hB⟩
  have e2 : (k == 2) = false := by simp; omega
  have e3 : (k == 3) = false := by simp; omega
  have e4 : (k == 4) = false := by simp; omega
  by_cases h5 : k = 5
  · subst h5
    have E := fun W => eq_v ⟨5, m, n, o⟩ ⟨5, m, 0, 0⟩ W
    have BL := bld_v01 5 m
    have hv : mayB ⟨5, m, n, o⟩ = (decide (0 ≤ m) && vB ⟨5, m, n, o⟩ ⟨5, m, 0, 0⟩) := by simp [mayB, vB]
    rw [hv]
    clear hv
    generalize vB ⟨5, m, n, o⟩ ⟨5, m, 0, 0⟩ = r at E ⊢
    unfold vV at E ⊢
    dsimp only at E ⊢
    cases hm : decide (0 ≤ m)
    all_goals
      go_enter Try.func20, Try.ntmps20
      go_wp2
      go_ret
      exact ⟨rfl, hB⟩
  have e5 : (k == 5) = false := by simpa using h5
  by_cases h6 : k = 6
  · subst h6
    have hv : mayB ⟨6, m, n, o⟩ = (decide (0 ≤ m) && decide (1 ≤ n)) := by simp [mayB]
    rw [hv]
    clear hv
    unfold vV
    dsimp only
    cases hm : decide (0 ≤ m) <;> cases hn : decide (1 ≤ n)
    all_goals
      go_enter Try.func20, Try.ntmps20
      go_wp2
      go_ret
      exact ⟨rfl, hB⟩
  have e6 : (k == 6) = false := by simpa using h6
  have hv : mayB ⟨k, m, n, o⟩ = false := by simp [mayB, h0, h1, h5, h6]; omega
  rw [hv]
  clear hv h0 h1 h2 h5 h6
  unfold vV
  dsimp only
  go_enter Try.func20, Try.ntmps20
  go_wp2
  go_ret
  exact ⟨rfl, hB⟩

end Go.Proofs.Ytjlaenkfjejbkaa
