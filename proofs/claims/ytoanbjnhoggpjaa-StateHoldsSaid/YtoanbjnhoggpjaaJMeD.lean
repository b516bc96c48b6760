/-
  The document's May.
-/
import Derived.Test.YtoanbjnhoggpjaaJMeG
namespace Go.Proofs.Ytoanbjnhoggpjaa.Me
set_option linter.unusedSimpArgs false
set_option linter.unusedVariables false
set_option maxRecDepth 100000
open Go.ChangeShapes Go.WideShapes Go.ChangeAt Go.RowKit

set_option maxHeartbeats 3200000 in
theorem rmay_any (v : Vl) (w : World) : Calls Try.prog 81 #[vV v] w fun e w' => e = .returned (.bool (mayB v)) ∧ Below w.heap.size w w' := by
  obtain ⟨k, m, n, o⟩ := v
  have hB : Below w.heap.size w (w.alloc (.cells #[.int .u8 k, .int .i64 m, .int .u64 n, .int .i64 o] 44)) := (Below.refl _ _).alloc (Nat.le_refl _) _
  unfold mayB vV
  dsimp only
  by_cases h0 : k = 0
  · subst h0
    simp only [if_true]
    cases hm : (m == 0) <;> cases hn : (n == 0) <;> cases ho : (o == 0) <;> (go_enter Try.func81, Try.ntmps81; go_wp2; go_ret; exact ⟨rfl, hB⟩)
  have e0 : (k == 0) = false := by simpa using h0
  by_cases h1 : k = 1
  · subst h1
    simp only [if_true, Int.reduceEq, if_false]
    cases hm : (m == 0) <;> cases ho : (o == 0) <;> (go_enter Try.func81, Try.ntmps81; go_wp2; go_ret; exact ⟨rfl, hB⟩)
  have e1 : (k == 1) = false := by simpa using h1
  by_cases h2 : k = 2 ∨ k = 3 ∨ k = 4
  · simp only [h0, h1, h2, if_true, if_false]
    rcases h2 with rfl | rfl | rfl <;> cases hm : (m == 0) <;> cases hn : (n == 0) <;> (go_enter Try.func81, Try.ntmps81; go_wp2; go_ret; exact ⟨rfl, hB⟩)
  have e2 : (k == 2) = false := by simp; omega
  have e3 : (k == 3) = false := by simp; omega
  have e4 : (k == 4) = false := by simp; omega
  by_cases h5 : k = 5
  · subst h5
    simp only [Int.reduceEq, or_self, if_true, if_false]
    cases hm : decide (0 ≤ m) <;> cases hn : (n == 0) <;> cases ho : (o == 0) <;> (go_enter Try.func81, Try.ntmps81; go_wp2; go_ret; exact ⟨rfl, hB⟩)
  have e5 : (k == 5) = false := by simpa using h5
  by_cases h6 : k = 6
  · subst h6
    simp only [Int.reduceEq, or_self, if_true, if_false]
    cases hm : decide (0 ≤ m) <;> cases hn : decide (1 ≤ n) <;> (go_enter Try.func81, Try.ntmps81; go_wp2; go_ret; exact ⟨rfl, hB⟩)
  have e6 : (k == 6) = false := by simpa using h6
  simp only [h0, h1, h2, h5, h6, if_false]
  clear h0 h1 h2 h5 h6
  (go_enter Try.func81, Try.ntmps81; go_wp2; go_ret; exact ⟨rfl, hB⟩)

end Go.Proofs.Ytoanbjnhoggpjaa.Me
