/-
  Contracts of Join, In, Cut, as the landed code has them.
-/
import Derived.Test.YtjcnpjidkimldaaASpB
namespace Go.Proofs.Ytjcnpjidkimldaa
set_option linter.unusedSimpArgs false
set_option linter.unusedVariables false
set_option maxRecDepth 100000
open Go.ChangeShapes Go.WideShapes Go.ChangeAt Go.RowKit

def clampN (bits : Int) : Nat := (min (max bits 0) 64).toNat
def cutK (s : Tn) (k : Nat) : Tn :=
  if mayS s = true then (if s.1 &&& ~~~(1#64 <<< k - 1#64) = s.2 &&& ~~~(1#64 <<< k - 1#64) then (s.1 &&& (1#64 <<< k - 1#64), s.2 &&& (1#64 <<< k - 1#64)) else (0#64, 1#64 <<< k - 1#64)) else t0
theorem clamp_is (bits : Int) : ((clampN bits : Nat) : Int) = min (max bits 0) 64 ∧ clampN bits ≤ 64 := by unfold clampN; omega
theorem sCut_any (a : Tn) (bits : Int) (w : World) : Calls Try.prog 18 #[tv a, .int .i64 bits] w fun e w' => e = .returned (tv (cutK a (clampN bits))) ∧ Below w.heap.size w w' := by
  have HA := fun W => sMay_any a W
  have HL := hid fun W => sLow_any (clampN bits) W (clamp_is bits).2
  rw [(clamp_is bits).1] at HL
  unfold cutK
  generalize 1#64 <<< clampN bits - 1#64 = L at *
  by_cases ha : mayS a = true
  · rw [if_pos ha]
    rw [ha] at HA
    clear ha
    by_cases h1 : a.1 &&& ~~~L = a.2 &&& ~~~L
    · rw [if_pos h1]
      have hx : (a.1 &&& ~~~L == a.2 &&& ~~~L) = true := by simp [h1]
      clear h1
      obtain ⟨v, m⟩ := a
      unfold tv at HA ⊢
      dsimp only at HA ⊢
      dsimp only at hx
      replace HA := hid HA
      go_enter Try.func18, Try.ntmps18
      go_wp2_with fail
      refine (HA.out _).mono ?_
      rintro e w1 ⟨rfl, b1⟩
      have hb : Below w.heap.size w w1 := (((Below.refl _ _).alloc (Nat.le_refl _) _).alloc (by simp) _).trans (b1.mono (by simp; omega))
      obtain ⟨hc1, hf1⟩ := bcell b1
      have hz1_0 : w.heap.size < w1.heap.size := by have := b1.size; simp at this; omega
      have hz1_1 : w.heap.size + 1 < w1.heap.size := by have := b1.size; simp at this; omega
      have HB1 := hid hb
      clear b1 hb
      go_wp2_with fail
      refine (HL.out _).mono ?_
      rintro e w2 ⟨rfl, rfl⟩
      go_wp2
      exact bodyPost_ret (v := tv (v &&& L, m &&& L)) (by simp [results, Try.results18, go_sem, hc1, hf1, hz1_0, hz1_1]; try rfl) rfl ⟨rfl, (HB1.out.setCell (by simp <;> omega) _).setCell (by simp <;> omega) _⟩
    · rw [if_neg h1]
      have hx : (a.1 &&& ~~~L == a.2 &&& ~~~L) = false := by simp [h1]
      clear h1
      obtain ⟨v, m⟩ := a
      unfold tv at HA ⊢
      dsimp only at HA ⊢
      dsimp only at hx
      replace HA := hid HA
      go_enter Try.func18, Try.ntmps18
      go_wp2_with fail
      refine (HA.out _).mono ?_
      rintro e w1 ⟨rfl, b1⟩
      have hb : Below w.heap.size w w1 := (((Below.refl _ _).alloc (Nat.le_refl _) _).alloc (by simp) _).trans (b1.mono (by simp; omega))
      obtain ⟨hc1, hf1⟩ := bcell b1
      have hz1_0 : w.heap.size < w1.heap.size := by have := b1.size; simp at this; omega
      have hz1_1 : w.heap.size + 1 < w1.heap.size := by have := b1.size; simp at this; omega
      have HB1 := hid hb
      clear b1 hb
      go_wp2_with fail
      refine (HL.out _).mono ?_
      rintro e w2 ⟨rfl, rfl⟩
      go_wp2
      exact bodyPost_ret (v := tv (0#64, L)) (by simp [results, Try.results18, go_sem, hc1, hf1, hz1_0, hz1_1]; try rfl) rfl ⟨rfl, (HB1.out.setCell (by simp <;> omega) _).setCell (by simp <;> omega) _⟩
  · rw [if_neg ha]
    rw [Bool.eq_false_iff.2 ha] at HA
    clear ha
    obtain ⟨v, m⟩ := a
    unfold tv at HA ⊢
    dsimp only at HA ⊢
    replace HA := hid HA
    go_enter Try.func18, Try.ntmps18
    go_wp2_with fail
    refine (HA.out _).mono ?_
    rintro e w1 ⟨rfl, b1⟩
    have hb : Below w.heap.size w w1 := (((Below.refl _ _).alloc (Nat.le_refl _) _).alloc (by simp) _).trans (b1.mono (by simp; omega))
    obtain ⟨hc1, hf1⟩ := bcell b1
    have hz1_0 : w.heap.size < w1.heap.size := by have := b1.size; simp at this; omega
    have hz1_1 : w.heap.size + 1 < w1.heap.size := by have := b1.size; simp at this; omega
    have HB1 := hid hb
    clear b1 hb
    go_wp2
    exact bodyPost_ret (v := tv t0) (by simp [results, Try.results18, go_sem, hc1, hf1, hz1_0, hz1_1]; try rfl) rfl ⟨rfl, (HB1.out.setCell (by simp <;> omega) _).setCell (by simp <;> omega) _⟩
end Go.Proofs.Ytjcnpjidkimldaa
