/-
  Contracts of Join, In, Cut, as the landed code has them.
-/
import Derived.Test.YtodmikjpmcabiaaGreatZSpB
namespace Go.Proofs.YtodmikjpmcabiaaGreat
set_option linter.unusedSimpArgs false
set_option linter.unusedVariables false
set_option maxRecDepth 100000
open Go.ChangeShapes Go.WideShapes Go.ChangeAt Go.RowKit

def joinSp (a b : Tn) : Tn := if mayS a = true then (if mayS b = true then (bmin a.1 b.1, bmax a.2 b.2) else a) else if mayS b = true then b else t0
def inSp (a b : Tn) : Bool := mayS a && decide (b.1.toNat ≤ a.1.toNat) && decide (a.2.toNat ≤ b.2.toNat)
def clampN (bits : Int) : Nat := (min (max bits 0) 64).toNat
def cutK (s : Tn) (k : Nat) : Tn :=
  if mayS s = true then (if s.1 &&& ~~~(1#64 <<< k - 1#64) = s.2 &&& ~~~(1#64 <<< k - 1#64) then (s.1 &&& (1#64 <<< k - 1#64), s.2 &&& (1#64 <<< k - 1#64)) else (0#64, 1#64 <<< k - 1#64)) else t0
theorem sJoin_any (a b : Tn) (w : World) : Calls Tryz.prog 42 #[tv a, tv b] w fun e w' => e = .returned (tv (joinSp a b)) ∧ Below w.heap.size w w' := by
  have HA := fun W => sMay_any a W
  have HC := fun W => sMay_any b W
  unfold joinSp
  by_cases ha : mayS a = true
  · rw [if_pos ha]
    rw [ha] at HA
    clear ha
    by_cases hb : mayS b = true
    · rw [if_pos hb]
      rw [hb] at HC
      clear hb
      obtain ⟨v, m⟩ := a
      obtain ⟨v', m'⟩ := b
      unfold tv at HA HC ⊢
      dsimp only at HA HC ⊢
      replace HA := hid HA
      replace HC := hid HC
      go_enter Tryz.func42, Tryz.ntmps42
      go_wp2_with fail
      refine (HA.out _).mono ?_
      rintro e w1 ⟨rfl, b1⟩
      have hb : Below w.heap.size w w1 := ((((Below.refl _ _).alloc (Nat.le_refl _) _).alloc (by simp) _).alloc (by simp <;> omega) _).trans (b1.mono (by simp; omega))
      obtain ⟨hc1, hf1⟩ := bcell b1
      have hz1_0 : w.heap.size < w1.heap.size := by have := b1.size; simp at this; omega
      have hz1_1 : w.heap.size + 1 < w1.heap.size := by have := b1.size; simp at this; omega
      have hz1_2 : w.heap.size + 1 + 1 < w1.heap.size := by have := b1.size; simp at this; omega
      have HB1 := hid hb
      clear b1 hb
      go_wp2_with fail
      refine (HC.out _).mono ?_
      rintro e w2 ⟨rfl, b2⟩
      have hb : Below w.heap.size w w2 := HB1.out.trans (b2.mono (by omega))
      obtain ⟨hc2, hf2⟩ := bcell b2
      have hz2_0 : w.heap.size < w2.heap.size := by have := b2.size; omega
      have hz2_1 : w.heap.size + 1 < w2.heap.size := by have := b2.size; omega
      have hz2_2 : w.heap.size + 1 + 1 < w2.heap.size := by have := b2.size; omega
      have HB2 := hid hb
      clear b2 hb
      go_wp2
      exact bodyPost_ret (v := tv (bmin v v', bmax m m')) (by simp [results, Tryz.results42, go_sem, hc1, hf1, hz1_0, hz1_1, hz1_2, hc2, hf2, hz2_0, hz2_1, hz2_2]; try rfl) rfl ⟨rfl, (HB2.out.setCell (by simp <;> omega) _).setCell (by simp <;> omega) _⟩
    · rw [if_neg hb]
      rw [Bool.eq_false_iff.2 hb] at HC
      clear hb
      obtain ⟨v, m⟩ := a
      obtain ⟨v', m'⟩ := b
      unfold tv at HA HC ⊢
      dsimp only at HA HC ⊢
      replace HA := hid HA
      replace HC := hid HC
      go_enter Tryz.func42, Tryz.ntmps42
      go_wp2_with fail
      refine (HA.out _).mono ?_
      rintro e w1 ⟨rfl, b1⟩
      have hb : Below w.heap.size w w1 := ((((Below.refl _ _).alloc (Nat.le_refl _) _).alloc (by simp) _).alloc (by simp <;> omega) _).trans (b1.mono (by simp; omega))
      obtain ⟨hc1, hf1⟩ := bcell b1
      have hz1_0 : w.heap.size < w1.heap.size := by have := b1.size; simp at this; omega
      have hz1_1 : w.heap.size + 1 < w1.heap.size := by have := b1.size; simp at this; omega
      have hz1_2 : w.heap.size + 1 + 1 < w1.heap.size := by have := b1.size; simp at this; omega
      have HB1 := hid hb
      clear b1 hb
      go_wp2_with fail
      refine (HC.out _).mono ?_
      rintro e w2 ⟨rfl, b2⟩
      have hb : Below w.heap.size w w2 := HB1.out.trans (b2.mono (by omega))
      obtain ⟨hc2, hf2⟩ := bcell b2
      have hz2_0 : w.heap.size < w2.heap.size := by have := b2.size; omega
      have hz2_1 : w.heap.size + 1 < w2.heap.size := by have := b2.size; omega
      have hz2_2 : w.heap.size + 1 + 1 < w2.heap.size := by have := b2.size; omega
      have HB2 := hid hb
      clear b2 hb
      go_wp2_with fail
      refine (HA.out _).mono ?_
      rintro e w3 ⟨rfl, b3⟩
      have hb : Below w.heap.size w w3 := HB2.out.trans (b3.mono (by omega))
      obtain ⟨hc3, hf3⟩ := bcell b3
      have hz3_0 : w.heap.size < w3.heap.size := by have := b3.size; omega
      have hz3_1 : w.heap.size + 1 < w3.heap.size := by have := b3.size; omega
      have hz3_2 : w.heap.size + 1 + 1 < w3.heap.size := by have := b3.size; omega
      have HB3 := hid hb
      clear b3 hb
      go_wp2
      exact bodyPost_ret (v := tv (v, m)) (by simp [results, Tryz.results42, go_sem, hc1, hf1, hz1_0, hz1_1, hz1_2, hc2, hf2, hz2_0, hz2_1, hz2_2, hc3, hf3, hz3_0, hz3_1, hz3_2]; try rfl) rfl ⟨rfl, (HB3.out.setCell (by simp <;> omega) _).setCell (by simp <;> omega) _⟩
  · rw [if_neg ha]
    rw [Bool.eq_false_iff.2 ha] at HA
    clear ha
    by_cases hb : mayS b = true
    · rw [if_pos hb]
      rw [hb] at HC
      clear hb
      obtain ⟨v, m⟩ := a
      obtain ⟨v', m'⟩ := b
      unfold tv at HA HC ⊢
      dsimp only at HA HC ⊢
      replace HA := hid HA
      replace HC := hid HC
      go_enter Tryz.func42, Tryz.ntmps42
      go_wp2_with fail
      refine (HA.out _).mono ?_
      rintro e w1 ⟨rfl, b1⟩
      have hb : Below w.heap.size w w1 := ((((Below.refl _ _).alloc (Nat.le_refl _) _).alloc (by simp) _).alloc (by simp <;> omega) _).trans (b1.mono (by simp; omega))
      obtain ⟨hc1, hf1⟩ := bcell b1
      have hz1_0 : w.heap.size < w1.heap.size := by have := b1.size; simp at this; omega
      have hz1_1 : w.heap.size + 1 < w1.heap.size := by have := b1.size; simp at this; omega
      have hz1_2 : w.heap.size + 1 + 1 < w1.heap.size := by have := b1.size; simp at this; omega
      have HB1 := hid hb
      clear b1 hb
      go_wp2_with fail
      refine (HA.out _).mono ?_
      rintro e w2 ⟨rfl, b2⟩
      have hb : Below w.heap.size w w2 := HB1.out.trans (b2.mono (by omega))
      obtain ⟨hc2, hf2⟩ := bcell b2
      have hz2_0 : w.heap.size < w2.heap.size := by have := b2.size; omega
      have hz2_1 : w.heap.size + 1 < w2.heap.size := by have := b2.size; omega
      have hz2_2 : w.heap.size + 1 + 1 < w2.heap.size := by have := b2.size; omega
      have HB2 := hid hb
      clear b2 hb
      go_wp2_with fail
      refine (HC.out _).mono ?_
      rintro e w3 ⟨rfl, b3⟩
      have hb : Below w.heap.size w w3 := HB2.out.trans (b3.mono (by omega))
      obtain ⟨hc3, hf3⟩ := bcell b3
      have hz3_0 : w.heap.size < w3.heap.size := by have := b3.size; omega
      have hz3_1 : w.heap.size + 1 < w3.heap.size := by have := b3.size; omega
      have hz3_2 : w.heap.size + 1 + 1 < w3.heap.size := by have := b3.size; omega
      have HB3 := hid hb
      clear b3 hb
      go_wp2
      exact bodyPost_ret (v := tv (v', m')) (by simp [results, Tryz.results42, go_sem, hc1, hf1, hz1_0, hz1_1, hz1_2, hc2, hf2, hz2_0, hz2_1, hz2_2, hc3, hf3, hz3_0, hz3_1, hz3_2]; try rfl) rfl ⟨rfl, (HB3.out.setCell (by simp <;> omega) _).setCell (by simp <;> omega) _⟩
    · rw [if_neg hb]
      rw [Bool.eq_false_iff.2 hb] at HC
      clear hb
      obtain ⟨v, m⟩ := a
      obtain ⟨v', m'⟩ := b
      unfold tv at HA HC ⊢
      dsimp only at HA HC ⊢
      replace HA := hid HA
      replace HC := hid HC
      go_enter Tryz.func42, Tryz.ntmps42
      go_wp2_with fail
      refine (HA.out _).mono ?_
      rintro e w1 ⟨rfl, b1⟩
      have hb : Below w.heap.size w w1 := ((((Below.refl _ _).alloc (Nat.le_refl _) _).alloc (by simp) _).alloc (by simp <;> omega) _).trans (b1.mono (by simp; omega))
      obtain ⟨hc1, hf1⟩ := bcell b1
      have hz1_0 : w.heap.size < w1.heap.size := by have := b1.size; simp at this; omega
      have hz1_1 : w.heap.size + 1 < w1.heap.size := by have := b1.size; simp at this; omega
      have hz1_2 : w.heap.size + 1 + 1 < w1.heap.size := by have := b1.size; simp at this; omega
      have HB1 := hid hb
      clear b1 hb
      go_wp2_with fail
      refine (HA.out _).mono ?_
      rintro e w2 ⟨rfl, b2⟩
      have hb : Below w.heap.size w w2 := HB1.out.trans (b2.mono (by omega))
      obtain ⟨hc2, hf2⟩ := bcell b2
      have hz2_0 : w.heap.size < w2.heap.size := by have := b2.size; omega
      have hz2_1 : w.heap.size + 1 < w2.heap.size := by have := b2.size; omega
      have hz2_2 : w.heap.size + 1 + 1 < w2.heap.size := by have := b2.size; omega
      have HB2 := hid hb
      clear b2 hb
      go_wp2_with fail
      refine (HC.out _).mono ?_
      rintro e w3 ⟨rfl, b3⟩
      have hb : Below w.heap.size w w3 := HB2.out.trans (b3.mono (by omega))
      obtain ⟨hc3, hf3⟩ := bcell b3
      have hz3_0 : w.heap.size < w3.heap.size := by have := b3.size; omega
      have hz3_1 : w.heap.size + 1 < w3.heap.size := by have := b3.size; omega
      have hz3_2 : w.heap.size + 1 + 1 < w3.heap.size := by have := b3.size; omega
      have HB3 := hid hb
      clear b3 hb
      go_wp2
      exact bodyPost_ret (v := tv t0) (by simp [results, Tryz.results42, go_sem, hc1, hf1, hz1_0, hz1_1, hz1_2, hc2, hf2, hz2_0, hz2_1, hz2_2, hc3, hf3, hz3_0, hz3_1, hz3_2]; try rfl) rfl ⟨rfl, (HB3.out.setCell (by simp <;> omega) _).setCell (by simp <;> omega) _⟩
theorem sIn_any (a b : Tn) (w : World) : Calls Tryz.prog 58 #[tv a, tv b] w fun e w' => e = .returned (.bool (inSp a b)) ∧ Below w.heap.size w w' := by
  have HA := fun W => sMay_any a W
  unfold inSp
  rw [dec_le, dec_le]
  by_cases ha : mayS a = true
  · rw [ha] at HA ⊢
    clear ha
    by_cases h1 : ub b.1 ≤ ub a.1
    · rw [decide_eq_true h1]
      simp only [Bool.true_and, Bool.false_and, Bool.and_false]
      obtain ⟨v, m⟩ := a
      obtain ⟨v', m'⟩ := b
      unfold tv at HA ⊢
      dsimp only at HA ⊢
      dsimp only at h1
      replace HA := hid HA
      go_enter Tryz.func58, Tryz.ntmps58
      go_wp2_with fail
      refine (HA.out _).mono ?_
      rintro e w1 ⟨rfl, b1⟩
      have hb : Below w.heap.size w w1 := (((Below.refl _ _).alloc (Nat.le_refl _) _).alloc (by simp) _).trans (b1.mono (by simp; omega))
      obtain ⟨hc1, hf1⟩ := bcell b1
      have hz1_0 : w.heap.size < w1.heap.size := by have := b1.size; simp at this; omega
      have hz1_1 : w.heap.size + 1 < w1.heap.size := by have := b1.size; simp at this; omega
      have HB1 := hid hb
      clear b1 hb
      go_wp2
      go_ret
      exact ⟨rfl, HB1.out⟩
    · rw [decide_eq_false h1]
      simp only [Bool.true_and, Bool.false_and, Bool.and_false]
      obtain ⟨v, m⟩ := a
      obtain ⟨v', m'⟩ := b
      unfold tv at HA ⊢
      dsimp only at HA ⊢
      dsimp only at h1
      replace HA := hid HA
      go_enter Tryz.func58, Tryz.ntmps58
      go_wp2_with fail
      refine (HA.out _).mono ?_
      rintro e w1 ⟨rfl, b1⟩
      have hb : Below w.heap.size w w1 := (((Below.refl _ _).alloc (Nat.le_refl _) _).alloc (by simp) _).trans (b1.mono (by simp; omega))
      obtain ⟨hc1, hf1⟩ := bcell b1
      have hz1_0 : w.heap.size < w1.heap.size := by have := b1.size; simp at this; omega
      have hz1_1 : w.heap.size + 1 < w1.heap.size := by have := b1.size; simp at this; omega
      have HB1 := hid hb
      clear b1 hb
      go_wp2
      go_ret
      exact ⟨rfl, HB1.out⟩
  · rw [Bool.eq_false_iff.2 ha] at HA ⊢
    clear ha
    simp only [Bool.false_and]
    obtain ⟨v, m⟩ := a
    obtain ⟨v', m'⟩ := b
    unfold tv at HA ⊢
    dsimp only at HA ⊢
    replace HA := hid HA
    go_enter Tryz.func58, Tryz.ntmps58
    go_wp2_with fail
    refine (HA.out _).mono ?_
    rintro e w1 ⟨rfl, b1⟩
    have hb : Below w.heap.size w w1 := (((Below.refl _ _).alloc (Nat.le_refl _) _).alloc (by simp) _).trans (b1.mono (by simp; omega))
    obtain ⟨hc1, hf1⟩ := bcell b1
    have hz1_0 : w.heap.size < w1.heap.size := by have := b1.size; simp at this; omega
    have hz1_1 : w.heap.size + 1 < w1.heap.size := by have := b1.size; simp at this; omega
    have HB1 := hid hb
    clear b1 hb
    go_wp2
    go_ret
    exact ⟨rfl, HB1.out⟩
theorem clamp_is (bits : Int) : ((clampN bits : Nat) : Int) = min (max bits 0) 64 ∧ clampN bits ≤ 64 := by unfold clampN; omega
theorem sCut_any (a : Tn) (bits : Int) (w : World) : Calls Tryz.prog 53 #[tv a, .int .i64 bits] w fun e w' => e = .returned (tv (cutK a (clampN bits))) ∧ Below w.heap.size w w' := by
  have HA := fun W => sMay_any a W
  have HL := hid fun W => sLow_any (clampN bits) W (clamp_is bits).2
  rw [(clamp_is bits).1] at HL
  unfold cutK
  generalize 1#64 <<< clampN bits - 1#64 = L at *
  by_cases ha : mayS a = true
  · rw [if_pos ha]
    rw [ha] at HA
    clear ha
    by_cases h1 : a.1 &&& ~~~L = a.2 &&& ~~~L
    · rw [if_pos h1]
      have hx : (a.1 &&& ~~~L == a.2 &&& ~~~L) = true := by simp [h1]
      clear h1
      obtain ⟨v, m⟩ := a
      unfold tv at HA ⊢
      dsimp only at HA ⊢
      dsimp only at hx
      replace HA := hid HA
      go_enter Tryz.func53, Tryz.ntmps53
      go_wp2_with fail
      refine (HA.out _).mono ?_
      rintro e w1 ⟨rfl, b1⟩
      have hb : Below w.heap.size w w1 := (((Below.refl _ _).alloc (Nat.le_refl _) _).alloc (by simp) _).trans (b1.mono (by simp; omega))
      obtain ⟨hc1, hf1⟩ := bcell b1
      have hz1_0 : w.heap.size < w1.heap.size := by have := b1.size; simp at this; omega
      have hz1_1 : w.heap.size + 1 < w1.heap.size := by have := b1.size; simp at this; omega
      have HB1 := hid hb
      clear b1 hb
      go_wp2_with fail
      refine (HL.out _).mono ?_
      rintro e w2 ⟨rfl, rfl⟩
      go_wp2
      exact bodyPost_ret (v := tv (v &&& L, m &&& L)) (by simp [results, Tryz.results53, go_sem, hc1, hf1, hz1_0, hz1_1]; try rfl) rfl ⟨rfl, (HB1.out.setCell (by simp <;> omega) _).setCell (by simp <;> omega) _⟩
    · rw [if_neg h1]
      have hx : (a.1 &&& ~~~L == a.2 &&& ~~~L) = false := by simp [h1]
      clear h1
      obtain ⟨v, m⟩ := a
      unfold tv at HA ⊢
      dsimp only at HA ⊢
      dsimp only at hx
      replace HA := hid HA
      go_enter Tryz.func53, Tryz.ntmps53
      go_wp2_with fail
      refine (HA.out _).mono ?_
      rintro e w1 ⟨rfl, b1⟩
      have hb : Below w.heap.size w w1 := (((Below.refl _ _).alloc (Nat.le_refl _) _).alloc (by simp) _).trans (b1.mono (by simp; omega))
      obtain ⟨hc1, hf1⟩ := bcell b1
      have hz1_0 : w.heap.size < w1.heap.size := by have := b1.size; simp at this; omega
      have hz1_1 : w.heap.size + 1 < w1.heap.size := by have := b1.size; simp at this; omega
      have HB1 := hid hb
      clear b1 hb
      go_wp2_with fail
      refine (HL.out _).mono ?_
      rintro e w2 ⟨rfl, rfl⟩
      go_wp2
      exact bodyPost_ret (v := tv (0#64, L)) (by simp [results, Tryz.results53, go_sem, hc1, hf1, hz1_0, hz1_1]; try rfl) rfl ⟨rfl, (HB1.out.setCell (by simp <;> omega) _).setCell (by simp <;> omega) _⟩
  · rw [if_neg ha]
    rw [Bool.eq_false_iff.2 ha] at HA
    clear ha
    obtain ⟨v, m⟩ := a
    unfold tv at HA ⊢
    dsimp only at HA ⊢
    replace HA := hid HA
    go_enter Tryz.func53, Tryz.ntmps53
    go_wp2_with fail
    refine (HA.out _).mono ?_
    rintro e w1 ⟨rfl, b1⟩
    have hb : Below w.heap.size w w1 := (((Below.refl _ _).alloc (Nat.le_refl _) _).alloc (by simp) _).trans (b1.mono (by simp; omega))
    obtain ⟨hc1, hf1⟩ := bcell b1
    have hz1_0 : w.heap.size < w1.heap.size := by have := b1.size; simp at this; omega
    have hz1_1 : w.heap.size + 1 < w1.heap.size := by have := b1.size; simp at this; omega
    have HB1 := hid hb
    clear b1 hb
    go_wp2
    exact bodyPost_ret (v := tv t0) (by simp [results, Tryz.results53, go_sem, hc1, hf1, hz1_0, hz1_1]; try rfl) rfl ⟨rfl, (HB1.out.setCell (by simp <;> omega) _).setCell (by simp <;> omega) _⟩
end Go.Proofs.YtodmikjpmcabiaaGreat
