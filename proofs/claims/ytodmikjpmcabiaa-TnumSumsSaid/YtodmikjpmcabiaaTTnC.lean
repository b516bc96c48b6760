/-
  Contracts of package tnum's questions, of Range, and of what is shifted and cut, as the landed code has them.
-/
import Derived.Test.YtodmikjpmcabiaaTTnC0
namespace Go.Proofs.Ytodmikjpmcabiaa
set_option linter.unusedSimpArgs false
set_option linter.unusedVariables false
set_option maxRecDepth 100000
open Go.ChangeShapes Go.WideShapes Go.ChangeAt Go.RowKit

theorem tHas_any (a : Tn) (n : B64) (w : World) : Calls Try.prog 72 #[tv a, .int .u64 (ub n)] w fun e w' => e = .returned (.bool (thas a n)) ∧ Below w.heap.size w w' := by
  have HA := hid (tMay_any a)
  obtain ⟨v, m⟩ := a
  unfold thas
  unfold tv at HA ⊢
  cases ha : tmay (v, m) <;> rw [ha] at HA <;> clear ha
  · go_enter Try.func72, Try.ntmps72
    go_wp2_with fail
    refine (HA.out _).mono ?_
    rintro e w1 ⟨rfl, b1⟩
    have hb : Below w.heap.size w w1 := ((Below.refl _ _).alloc (Nat.le_refl _) _).trans (b1.mono (by simp))
    obtain ⟨hc, hf⟩ := bcell b1
    have hz : w.heap.size < w1.heap.size := by have := b1.size; simp at this; omega
    have HB := hid hb
    clear b1 hb
    go_wp2
    go_ret
    exact ⟨rfl, HB.out⟩
  · go_enter Try.func72, Try.ntmps72
    go_wp2_with fail
    refine (HA.out _).mono ?_
    rintro e w1 ⟨rfl, b1⟩
    have hb : Below w.heap.size w w1 := ((Below.refl _ _).alloc (Nat.le_refl _) _).trans (b1.mono (by simp))
    obtain ⟨hc, hf⟩ := bcell b1
    have hz : w.heap.size < w1.heap.size := by have := b1.size; simp at this; omega
    have HB := hid hb
    clear b1 hb
    go_wp2
    go_ret
    exact ⟨rfl, HB.out⟩
end Go.Proofs.Ytodmikjpmcabiaa
