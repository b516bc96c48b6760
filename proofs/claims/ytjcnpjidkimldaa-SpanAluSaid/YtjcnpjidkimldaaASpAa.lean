/-
  Contracts of the document's apart, times, rest, Counts.
-/
import Derived.Test.YtjcnpjidkimldaaASpS
import Derived.Test.YtjcnpjidkimldaaASpR
namespace Go.Proofs.Ytjcnpjidkimldaa
set_option linter.unusedSimpArgs false
set_option linter.unusedVariables false
set_option maxRecDepth 100000
open Go.ChangeShapes Go.WideShapes Go.ChangeAt Go.RowKit

theorem ub_pos (x : B64) : (0 < ub x) = ¬ x = 0#64 := by
  rw [toNat_zero_iff]; unfold ub; exact propext (by omega)
theorem times_is (x y T : B64) (hy : ¬ y = 0#64) : decide (ub (T / y) < ub x) = decide (T.toNat < x.toNat * y.toNat) := by
  have hy' : 0 < y.toNat := by rw [toNat_zero_iff] at hy; omega
  rw [Bool.eq_iff_iff, decide_eq_true_eq, decide_eq_true_eq, ub_ltN, BitVec.toNat_udiv, Nat.div_lt_iff_lt_mul hy']
theorem qTimes_any (x y T : B64) (w : World) : Calls Try.prog 23 #[.int .u64 (ub x), .int .u64 (ub y), .int .u64 (ub T)] w fun e w' => e = .returned (.bool (decide (T.toNat < x.toNat * y.toNat))) ∧ w' = w := by
  by_cases h : y = 0#64
  · have h0 : ¬ 0 < ub y := by rw [ub_pos]; exact fun k => k h
    rw [show decide (T.toNat < x.toNat * y.toNat) = false by rw [h]; simp]
    go_enter Try.func23, Try.ntmps23
    go_wp2
    go_ret
    exact ⟨rfl, rfl⟩
  · have h0 : 0 < ub y := by rw [ub_pos]; exact h
    have y1 := ub_ne0 h
    rw [← times_is x y T h]
    go_enter Try.func23, Try.ntmps23
    go_wp2
    go_ret
    exact ⟨rfl, rfl⟩
def apartS (a b : Tn) (T : B64) : Tn :=
  if (decide (ub a.1 < ub b.2) != decide (ub a.2 < ub b.1)) = true then (0#64, T) else ((a.1 - b.2) &&& T, (a.2 - b.1) &&& T)
theorem apart_is (c : Bool) (a b : Tn) (ha : a.1.toNat ≤ a.2.toNat) (hb : b.1.toNat ≤ b.2.toNat) (la : a.2.toNat < modW c) (lb : b.2.toNat < modW c) : apartS a b (topW c) = sumS c a (negS b) := by
  have hT := topW_toNat c
  have hF : ((a.1 + (negS b).1) &&& topW c).toNat = (a.1.toNat + (18446744073709551616 - b.2.toNat)) % modW c := by
    rw [and_top, add64, (negS_toNat b).1]
    have := b.2.isLt
    rcases modW_two c with h | h <;> rw [h] <;> omega
  have g1 : (a.2 - a.1).toNat = a.2.toNat - a.1.toNat := width a ha
  have g2 : ((negS b).2 - (negS b).1).toNat = b.2.toNat - b.1.toNat := width_neg b hb
  have f1 : ((a.1 - b.2) &&& topW c) = ((a.1 + (negS b).1) &&& topW c) := by
    apply BitVec.eq_of_toNat_eq
    rw [hF, and_top, sub64]
    have := b.2.isLt
    rcases modW_two c with h | h <;> rw [h] <;> omega
  have hD : (topW c - ((a.1 + (negS b).1) &&& topW c)).toNat = modW c - 1 - (a.1.toNat + (18446744073709551616 - b.2.toNat)) % modW c := by
    rw [sub64, hT, hF]
    rcases modW_two c with h | h <;> rw [h] <;> omega
  have hm : ((a.2 - a.1) + ((negS b).2 - (negS b).1)).toNat = (a.2.toNat - a.1.toNat + (b.2.toNat - b.1.toNat)) % 18446744073709551616 := by rw [add64, g1, g2]
  unfold apartS sumS
  rw [g1, g2, hD, hm]
  have q : (decide (ub a.1 < ub b.2) != decide (ub a.2 < ub b.1)) = true ↔ (18446744073709551616 ≤ a.2.toNat - a.1.toNat + (b.2.toNat - b.1.toNat) ∨ modW c - 1 - (a.1.toNat + (18446744073709551616 - b.2.toNat)) % modW c < (a.2.toNat - a.1.toNat + (b.2.toNat - b.1.toNat)) % 18446744073709551616) := by
    rw [bne_iff_ne, ne_eq, decide_eq_decide, ub_ltN, ub_ltN]
    have := a.2.isLt
    have := b.2.isLt
    have hw := modW_two c
    clear hT hF f1 hD hm g1 g2
    generalize modW c = M at *
    rcases hw with rfl | rfl
    · omega
    · omega
  by_cases hc : (decide (ub a.1 < ub b.2) != decide (ub a.2 < ub b.1)) = true
  · rw [if_pos hc, if_pos (q.1 hc)]
  · rw [if_neg hc, if_neg (fun h => hc (q.2 h))]
    refine Prod.ext f1 ?_
    apply BitVec.eq_of_toNat_eq
    dsimp only
    rw [add64, hF, hm, and_top, sub64]
    have hq : ¬ (18446744073709551616 ≤ a.2.toNat - a.1.toNat + (b.2.toNat - b.1.toNat) ∨ modW c - 1 - (a.1.toNat + (18446744073709551616 - b.2.toNat)) % modW c < (a.2.toNat - a.1.toNat + (b.2.toNat - b.1.toNat)) % 18446744073709551616) := fun h => hc (q.2 h)
    have := a.2.isLt
    have := b.2.isLt
    have hw := modW_two c
    clear hT hF f1 hD hm g1 g2 q hc
    generalize modW c = M at *
    rcases hw with rfl | rfl
    · omega
    · omega
theorem qApart_any (a b : Tn) (T : B64) (w : World) : Calls Try.prog 22 #[tv a, tv b, .int .u64 (ub T)] w fun e w' => e = .returned (tv (apartS a b T)) ∧ Below w.heap.size w w' := by
  unfold apartS
  by_cases h1 : ub a.1 < ub b.2
  case pos =>
    rw [decide_eq_true h1]
    by_cases h2 : ub a.2 < ub b.1
    case pos =>
      rw [decide_eq_true h2]
      rw [if_neg (by decide)]
      unfold tv
      go_enter Try.func22, Try.ntmps22
      go_wp2
      exact bodyPost_ret (v := tv ((a.1 - b.2) &&& T, (a.2 - b.1) &&& T)) (by simp [results, Try.results22, go_sem]; try rfl) rfl ⟨rfl, ((((Below.refl _ _).alloc (Nat.le_refl _) _).alloc (by simp) _).alloc (by simp <;> omega) _)⟩
    case neg =>
      rw [decide_eq_false h2]
      rw [if_pos (by decide)]
      unfold tv
      go_enter Try.func22, Try.ntmps22
      go_wp2
      exact bodyPost_ret (v := tv (0#64, T)) (by simp [results, Try.results22, go_sem]; try rfl) rfl ⟨rfl, ((((Below.refl _ _).alloc (Nat.le_refl _) _).alloc (by simp) _).alloc (by simp <;> omega) _)⟩
  case neg =>
    rw [decide_eq_false h1]
    by_cases h2 : ub a.2 < ub b.1
    case pos =>
      rw [decide_eq_true h2]
      rw [if_pos (by decide)]
      unfold tv
      go_enter Try.func22, Try.ntmps22
      go_wp2
      exact bodyPost_ret (v := tv (0#64, T)) (by simp [results, Try.results22, go_sem]; try rfl) rfl ⟨rfl, ((((Below.refl _ _).alloc (Nat.le_refl _) _).alloc (by simp) _).alloc (by simp <;> omega) _)⟩
    case neg =>
      rw [decide_eq_false h2]
      rw [if_neg (by decide)]
      unfold tv
      go_enter Try.func22, Try.ntmps22
      go_wp2
      exact bodyPost_ret (v := tv ((a.1 - b.2) &&& T, (a.2 - b.1) &&& T)) (by simp [results, Try.results22, go_sem]; try rfl) rfl ⟨rfl, ((((Below.refl _ _).alloc (Nat.le_refl _) _).alloc (by simp) _).alloc (by simp <;> omega) _)⟩
end Go.Proofs.Ytjcnpjidkimldaa
