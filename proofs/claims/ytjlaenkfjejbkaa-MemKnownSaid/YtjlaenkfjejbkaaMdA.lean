/-
  The document's Place, Address, Has.
-/
import Derived.Test.YtjlaenkfjejbkaaMeW
import Derived.Test.YtjlaenkfjejbkaaMcG
namespace Go.Proofs.Ytjlaenkfjejbkaa
set_option linter.unusedSimpArgs false
set_option linter.unusedVariables false
open Go.ChangeShapes Go.WideShapes Go.ChangeAt Go.RowKit

theorem rplace_any (off n : Int) (w : World) (hs : sizeB n = true) (ho : -9223372036854775808 ≤ off ∧ off < 9223372036854775808) : Calls Try.prog 33 #[.int .i64 off, .int .i64 n] w fun e w' => e = .returned (.int .i64 (placeE off n)) ∧ w = w' := by
  have hb : 1 ≤ n ∧ n ≤ 8 := by rcases size_cases hs with h | h | h | h <;> omega
  obtain ⟨hb1, hb2⟩ := hb
  obtain ⟨ho1, ho2⟩ := ho
  unfold placeE withinB
  by_cases h0 : off < 0
  · have d0 : decide (off < 0) = true := decide_eq_true h0
    rw [decide_eq_false (show ¬ 0 ≤ off by omega)]
    simp only [Bool.false_and, if_true]
    go_enter Try.func33, Try.ntmps33
    go_wp2
    go_ret
    exact ⟨rfl, rfl⟩
  · have d0 : decide (off < 0) = false := decide_eq_false h0
    have h0' : 0 ≤ off := by omega
    rw [decide_eq_true h0']
    by_cases h1 : 512 - n < off
    · have d1 : decide (512 - n < off) = true := decide_eq_true h1
      rw [decide_eq_false (show ¬ off ≤ 512 - n by omega)]
      simp only [Bool.true_and, if_true]
      go_enter Try.func33, Try.ntmps33
      go_wp2
      go_ret
      exact ⟨rfl, rfl⟩
    · have d1 : decide (512 - n < off) = false := decide_eq_false h1
      have h1' : off ≤ 512 - n := by omega
      rw [decide_eq_true h1']
      simp only [Bool.true_and, Bool.true_eq_false, if_false]
      have hr0 : 0 ≤ off % n := Int.emod_nonneg _ (by omega)
      by_cases hr : off % n = 0
      · have d2 : decide (0 < off % n) = false := decide_eq_false (by omega)
        rw [if_pos hr]
        clear hr
        go_enter Try.func33, Try.ntmps33
        go_wp2
        go_ret
        exact ⟨rfl, rfl⟩
      · have d2 : decide (0 < off % n) = true := decide_eq_true (by omega)
        rw [if_neg hr]
        clear hr
        go_enter Try.func33, Try.ntmps33
        go_wp2
        go_ret
        exact ⟨rfl, rfl⟩
def radrB (v : Vl) : Bool := decide (2 ≤ v.k) && decide (v.k ≤ 6)
theorem raddr_any (v : Vl) (w : World) : Calls Try.prog 34 #[vV v] w fun e w' => e = .returned (.bool (radrB v)) ∧ Below w.heap.size w w' := by
  unfold radrB vV
  cases h1 : decide (2 ≤ v.k) <;> cases h2 : decide (v.k ≤ 6) <;>
  (go_enter Try.func34, Try.ntmps34
   go_wp2
   go_ret
   exact ⟨rfl, (Below.refl _ _).alloc (Nat.le_refl _) _⟩)
theorem radr_may {v : Vl} (h : mayB v = true) : radrB v = adrB v := by
  unfold mayB at h
  unfold radrB adrB
  by_cases h0 : v.k = 0
  · simp [h0]
  · by_cases h1 : v.k = 1
    · simp [h1]
    · rw [if_neg h0, if_neg h1] at h
      by_cases h2 : v.k = 2 ∨ v.k = 3 ∨ v.k = 4
      · rcases h2 with e | e | e <;> simp [e]
      · rw [if_neg h2] at h
        by_cases h5 : v.k = 5
        · simp [h5]
        · rw [if_neg h5] at h
          by_cases h6 : v.k = 6
          · simp [h6]
          · rw [if_neg h6] at h
            exact absurd h (by simp)
theorem rhas_any (s : Sl) (j : Nat) (w : World) (hs : SOk s) (hj : j < 8) : Calls Try.prog 35 #[sV s, .int .i64 (j : Int)] w fun e w' => e = .returned (.bool (hasB s.h j)) ∧ Below w.heap.size w w' := by
  obtain ⟨h, l, v⟩ := s
  obtain ⟨a, b, c, d, e, f, g, i, rfl⟩ := eight hs.2.1
  rw [sV_eight]
  obtain ⟨h0, h1⟩ := hs.1
  dsimp only at h0 h1 ⊢
  have hp : (0 : Int) < 2 ^ j := Int.pow_pos (by decide)
  have q0 : 0 ≤ h / 2 ^ j := Int.ediv_nonneg h0 (by omega)
  have q1 : h / 2 ^ j < 256 := Int.lt_of_le_of_lt (Int.ediv_le_self _ h0) h1
  unfold hasB
  generalize hr : (h / 2 ^ j % 2 == 1) = r
  clear hs
  go_enter Try.func35, Try.ntmps35
  go_wp2
  go_ret
  exact ⟨rfl, (Below.refl _ _).alloc (Nat.le_refl _) _⟩

end Go.Proofs.Ytjlaenkfjejbkaa
