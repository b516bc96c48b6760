/-
  Contracts of Meet, Join, In, Cut, All, as the landed code has them.
-/
import Derived.Test.YtjcnpjidkimldaaASpA
namespace Go.Proofs.Ytjcnpjidkimldaa
set_option linter.unusedSimpArgs false
set_option linter.unusedVariables false
set_option maxRecDepth 100000
open Go.ChangeShapes Go.WideShapes Go.ChangeAt Go.RowKit

theorem sMeet_any (a b : Tn) (w : World) : Calls Try.prog 85 #[tv a, tv b] w fun e w' => e = .returned (.tuple #[tv (meetS a b), .bool (mayS (meetP a b))]) ∧ Below w.heap.size w w' := by
  have HM := fun W => sMay_any (meetP a b) W
  by_cases h : mayS (meetP a b) = true
  · rw [show meetS a b = meetP a b from if_pos h, h]
    rw [h] at HM
    clear h
    obtain ⟨v, m⟩ := a
    obtain ⟨v', m'⟩ := b
    unfold tv at HM ⊢
    dsimp only [meetP] at HM ⊢
    replace HM := hid HM
    go_enter Try.func85, Try.ntmps85
    go_wp2_with fail
    refine (HM.out _).mono ?_
    rintro e w1 ⟨rfl, b1⟩
    have hb : Below w.heap.size w w1 := (((((Below.refl _ _).alloc (Nat.le_refl _) _).alloc (by simp) _).alloc (by simp <;> omega) _).alloc (by simp <;> omega) _).trans (b1.mono (by simp; omega))
    obtain ⟨hc1, hf1⟩ := bcell b1
    have hz1_0 : w.heap.size < w1.heap.size := by have := b1.size; simp at this; omega
    have hz1_1 : w.heap.size + 1 < w1.heap.size := by have := b1.size; simp at this; omega
    have hz1_2 : w.heap.size + 1 + 1 < w1.heap.size := by have := b1.size; simp at this; omega
    have hz1_3 : w.heap.size + 1 + 1 + 1 < w1.heap.size := by have := b1.size; simp at this; omega
    have HB1 := hid hb
    clear b1 hb
    go_wp2
    exact bodyPost_ret (v := .tuple #[tv (bmax v v', bmin m m'), .bool true]) (by simp [results, Try.results85, go_sem, hc1, hf1, hz1_0, hz1_1, hz1_2, hz1_3]; try rfl) rfl ⟨rfl, (HB1.out.setCell (by simp <;> omega) _).setCell (by simp <;> omega) _⟩
  · rw [show meetS a b = t0 from if_neg h, Bool.eq_false_iff.2 h]
    rw [Bool.eq_false_iff.2 h] at HM
    clear h
    obtain ⟨v, m⟩ := a
    obtain ⟨v', m'⟩ := b
    unfold tv at HM ⊢
    dsimp only [meetP] at HM ⊢
    replace HM := hid HM
    go_enter Try.func85, Try.ntmps85
    go_wp2_with fail
    refine (HM.out _).mono ?_
    rintro e w1 ⟨rfl, b1⟩
    have hb : Below w.heap.size w w1 := (((((Below.refl _ _).alloc (Nat.le_refl _) _).alloc (by simp) _).alloc (by simp <;> omega) _).alloc (by simp <;> omega) _).trans (b1.mono (by simp; omega))
    obtain ⟨hc1, hf1⟩ := bcell b1
    have hz1_0 : w.heap.size < w1.heap.size := by have := b1.size; simp at this; omega
    have hz1_1 : w.heap.size + 1 < w1.heap.size := by have := b1.size; simp at this; omega
    have hz1_2 : w.heap.size + 1 + 1 < w1.heap.size := by have := b1.size; simp at this; omega
    have hz1_3 : w.heap.size + 1 + 1 + 1 < w1.heap.size := by have := b1.size; simp at this; omega
    have HB1 := hid hb
    clear b1 hb
    go_wp2
    exact bodyPost_ret (v := .tuple #[tv t0, .bool false]) (by simp [results, Try.results85, go_sem, hc1, hf1, hz1_0, hz1_1, hz1_2, hz1_3]; try rfl) rfl ⟨rfl, (HB1.out.setCell (by simp <;> omega) _).setCell (by simp <;> omega) _⟩
theorem sAll_any (w : World) : Calls Try.prog 28 #[] w fun e w' => e = .returned (tv (0#64, 18446744073709551615#64)) ∧ Below w.heap.size w w' := by
  have HL := hid fun W => sLow_any 64 W (by decide)
  go_enter Try.func28, Try.ntmps28
  go_wp2_with fail
  refine (HL.out _).mono ?_
  rintro e w1 ⟨rfl, rfl⟩
  go_wp2
  exact bodyPost_ret (v := tv (0#64, 18446744073709551615#64)) (by simp [results, Try.results28, go_sem]; try rfl) rfl ⟨rfl, (Below.refl _ _).alloc (Nat.le_refl _) _⟩
end Go.Proofs.Ytjcnpjidkimldaa
