/-
  Contracts of sum, product, rest, counts, as the landed code has them.
-/
import Derived.Test.YtoanbjnhoggpjaaSpD
namespace Go.Proofs.Ytoanbjnhoggpjaa
set_option linter.unusedSimpArgs false
set_option linter.unusedVariables false
set_option maxRecDepth 100000
open Go.ChangeShapes Go.WideShapes Go.ChangeAt Go.RowKit

theorem sSum_any (c : Bool) (a b : Tn) (w : World) : Calls Try.prog 162 #[.int .i64 (szI c), tv a, tv b] w fun e w' => e = .returned (tv (sumS c a b)) ∧ Below w.heap.size w w' := by
  have HT := hid fun W => sTop_any c W
  have HA := fun W => add64_run (a.2 - a.1) (b.2 - b.1) W
  unfold sumS
  generalize topW c = T at *
  generalize szI c = SZ at *
  by_cases h1 : 18446744073709551616 ≤ (a.2 - a.1).toNat + (b.2 - b.1).toNat
  · rw [if_pos (Or.inl h1)]
    have hq : (((a.2 - a.1).toNat + (b.2 - b.1).toNat) / 18446744073709551616 : Nat) = 1 := by have := (a.2 - a.1).isLt; have := (b.2 - b.1).isLt; omega
    rw [hq] at HA
    clear h1 hq
    obtain ⟨v, m⟩ := a
    obtain ⟨v', m'⟩ := b
    unfold tv
    dsimp only at *
    go_enter Try.func162, Try.ntmps162
    go_wp2_with fail
    refine (HT.out _).mono ?_
    rintro e w1 ⟨rfl, rfl⟩
    go_wp2
    exact bodyPost_ret (v := tv (0#64, T)) (by simp [results, Try.results162, go_sem]; try rfl) rfl ⟨rfl, ((((Below.refl _ _).alloc (Nat.le_refl _) _).alloc (by simp) _).alloc (by simp <;> omega) _)⟩
  · have hq : (((a.2 - a.1).toNat + (b.2 - b.1).toNat) / 18446744073709551616 : Nat) = 0 := by omega
    by_cases h2 : (T - ((a.1 + b.1) &&& T)).toNat < ((a.2 - a.1) + (b.2 - b.1)).toNat
    · rw [if_pos (Or.inr h2)]
      rw [hq] at HA
      clear h1 hq
      replace h2 := of_ltn h2
      obtain ⟨v, m⟩ := a
      obtain ⟨v', m'⟩ := b
      unfold tv
      dsimp only at *
      go_enter Try.func162, Try.ntmps162
      go_wp2_with fail
      refine (HT.out _).mono ?_
      rintro e w1 ⟨rfl, rfl⟩
      go_wp2
      exact bodyPost_ret (v := tv (0#64, T)) (by simp [results, Try.results162, go_sem]; try rfl) rfl ⟨rfl, ((((Below.refl _ _).alloc (Nat.le_refl _) _).alloc (by simp) _).alloc (by simp <;> omega) _)⟩
    · rw [if_neg (by omega)]
      rw [hq] at HA
      clear h1 hq
      replace h2 := of_nltn h2
      obtain ⟨v, m⟩ := a
      obtain ⟨v', m'⟩ := b
      unfold tv
      dsimp only at *
      go_enter Try.func162, Try.ntmps162
      go_wp2_with fail
      refine (HT.out _).mono ?_
      rintro e w1 ⟨rfl, rfl⟩
      go_wp2
      exact bodyPost_ret (v := tv ((v + v') &&& T, ((v + v') &&& T) + ((m - v) + (m' - v')))) (by simp [results, Try.results162, go_sem]; try rfl) rfl ⟨rfl, ((((Below.refl _ _).alloc (Nat.le_refl _) _).alloc (by simp) _).alloc (by simp <;> omega) _)⟩
theorem sProd_any (c : Bool) (a b : Tn) (w : World) : Calls Try.prog 165 #[.int .i64 (szI c), tv a, tv b] w fun e w' => e = .returned (tv (prodS c a b)) ∧ Below w.heap.size w w' := by
  have HT := hid fun W => sTop_any c W
  have HA := fun W => sMul64_any a.2 b.2 W
  have hi := hiB_toNat a.2 b.2
  unfold prodS
  generalize topW c = T at *
  generalize szI c = SZ at *
  generalize hiB a.2 b.2 = hh at *
  by_cases h1 : 18446744073709551616 ≤ a.2.toNat * b.2.toNat
  · rw [if_pos (Or.inl h1)]
    have hq : (hh == 0#64) = false := by rw [beq_eq_false_iff_ne]; intro e; rw [toNat_zero_iff] at e; omega
    clear h1 hi
    obtain ⟨v, m⟩ := a
    obtain ⟨v', m'⟩ := b
    unfold tv
    dsimp only at *
    replace HA := hid HA
    go_enter Try.func165, Try.ntmps165
    go_wp2_with fail
    refine (HA.out _).mono ?_
    rintro e w1 ⟨rfl, rfl⟩
    go_wp2_with fail
    refine (HT.out _).mono ?_
    rintro e w1 ⟨rfl, rfl⟩
    go_wp2
    exact bodyPost_ret (v := tv (0#64, T)) (by simp [results, Try.results165, go_sem]; try rfl) rfl ⟨rfl, ((((Below.refl _ _).alloc (Nat.le_refl _) _).alloc (by simp) _).alloc (by simp <;> omega) _)⟩
  · have hq : (hh == 0#64) = true := by rw [beq_iff_eq, toNat_zero_iff]; omega
    by_cases h2 : T.toNat < (a.2 * b.2).toNat
    · rw [if_pos (Or.inr h2)]
      clear h1 hi
      replace h2 := of_ltn h2
      obtain ⟨v, m⟩ := a
      obtain ⟨v', m'⟩ := b
      unfold tv
      dsimp only at *
      replace HA := hid HA
      go_enter Try.func165, Try.ntmps165
      go_wp2_with fail
      refine (HA.out _).mono ?_
      rintro e w1 ⟨rfl, rfl⟩
      go_wp2_with fail
      refine (HT.out _).mono ?_
      rintro e w1 ⟨rfl, rfl⟩
      go_wp2_with fail
      refine (HT.out _).mono ?_
      rintro e w1 ⟨rfl, rfl⟩
      go_wp2
      exact bodyPost_ret (v := tv (0#64, T)) (by simp [results, Try.results165, go_sem]; try rfl) rfl ⟨rfl, ((((Below.refl _ _).alloc (Nat.le_refl _) _).alloc (by simp) _).alloc (by simp <;> omega) _)⟩
    · rw [if_neg (by omega)]
      clear h1 hi
      replace h2 := of_nltn h2
      obtain ⟨v, m⟩ := a
      obtain ⟨v', m'⟩ := b
      unfold tv
      dsimp only at *
      replace HA := hid HA
      go_enter Try.func165, Try.ntmps165
      go_wp2_with fail
      refine (HA.out _).mono ?_
      rintro e w1 ⟨rfl, rfl⟩
      go_wp2_with fail
      refine (HT.out _).mono ?_
      rintro e w1 ⟨rfl, rfl⟩
      go_wp2
      exact bodyPost_ret (v := tv (v * v', m * m')) (by simp [results, Try.results165, go_sem]; try rfl) rfl ⟨rfl, ((((Below.refl _ _).alloc (Nat.le_refl _) _).alloc (by simp) _).alloc (by simp <;> omega) _)⟩
theorem sRest_any (a b : Tn) (w : World) : Calls Try.prog 168 #[tv a, tv b] w fun e w' => e = .returned (tv (restS a b)) ∧ Below w.heap.size w w' := by
  unfold restS
  by_cases h1 : b.2 = 0#64
  · rw [if_pos (Or.inl h1)]
    have x1 : (b.2 == 0#64) = true := by simp [h1]
    clear h1
    obtain ⟨v, m⟩ := a
    obtain ⟨v', m'⟩ := b
    unfold tv
    dsimp only at *
    go_enter Try.func168, Try.ntmps168
    go_wp2
    exact bodyPost_ret (v := tv (v, m)) (by simp [results, Try.results168, go_sem]; try rfl) rfl ⟨rfl, ((((Below.refl _ _).alloc (Nat.le_refl _) _).alloc (by simp) _).alloc (by simp <;> omega) _)⟩
  · have x1 : (b.2 == 0#64) = false := by simp [h1]
    have y1 := ub_ne0 h1
    by_cases h2 : a.2.toNat < b.1.toNat
    · rw [if_pos (Or.inr h2)]
      clear h1
      replace h2 := of_ltn h2
      obtain ⟨v, m⟩ := a
      obtain ⟨v', m'⟩ := b
      unfold tv
      dsimp only at *
      go_enter Try.func168, Try.ntmps168
      go_wp2
      exact bodyPost_ret (v := tv (v, m)) (by simp [results, Try.results168, go_sem]; try rfl) rfl ⟨rfl, ((((Below.refl _ _).alloc (Nat.le_refl _) _).alloc (by simp) _).alloc (by simp <;> omega) _)⟩
    · rw [if_neg (fun h => h.elim h1 h2)]
      clear h1
      replace h2 := of_nltn h2
      by_cases h3 : b.1 = b.2
      · have x3 : (b.1 == b.2) = true := by simp [h3]
        by_cases h4 : a.1 / b.2 = a.2 / b.2
        · rw [if_pos ⟨h3, h4⟩]
          have x4 : (a.1 / b.2 == a.2 / b.2) = true := by simp [h4]
          clear h3 h4
          obtain ⟨v, m⟩ := a
          obtain ⟨v', m'⟩ := b
          unfold tv
          dsimp only at *
          go_enter Try.func168, Try.ntmps168
          go_wp2_with fail
          go_region
          go_wp2_with fail
          go_region
          go_wp2
          exact bodyPost_ret (v := tv (v % m', m % m')) (by simp [results, Try.results168, go_sem]; try rfl) rfl ⟨rfl, ((((Below.refl _ _).alloc (Nat.le_refl _) _).alloc (by simp) _).alloc (by simp <;> omega) _).drew.drew⟩
        · rw [if_neg (fun h => h4 h.2)]
          have x4 : (a.1 / b.2 == a.2 / b.2) = false := by simp [h4]
          have h5 : ¬ b.1 = 0#64 := by rw [h3]; intro e; rw [e] at x1; simp at x1
          rw [if_neg h5]
          have x5 : (b.1 == 0#64) = false := by simp [h5]
          clear h3 h4 h5
          obtain ⟨v, m⟩ := a
          obtain ⟨v', m'⟩ := b
          unfold tv
          dsimp only at *
          go_enter Try.func168, Try.ntmps168
          go_wp2_with fail
          go_region
          go_wp2
          exact bodyPost_ret (v := tv (0#64, bmin m (m' - 1#64))) (by simp [results, Try.results168, go_sem]; try rfl) rfl ⟨rfl, ((((Below.refl _ _).alloc (Nat.le_refl _) _).alloc (by simp) _).alloc (by simp <;> omega) _).drew⟩
      · have x3 : (b.1 == b.2) = false := by simp [h3]
        rw [if_neg (fun h => h3 h.1)]
        by_cases h5 : b.1 = 0#64
        · rw [if_pos h5]
          have x5 : (b.1 == 0#64) = true := by simp [h5]
          clear h3 h5
          obtain ⟨v, m⟩ := a
          obtain ⟨v', m'⟩ := b
          unfold tv
          dsimp only at *
          go_enter Try.func168, Try.ntmps168
          go_wp2_with fail
          go_region
          go_wp2
          exact bodyPost_ret (v := tv (0#64, m)) (by simp [results, Try.results168, go_sem]; try rfl) rfl ⟨rfl, ((((Below.refl _ _).alloc (Nat.le_refl _) _).alloc (by simp) _).alloc (by simp <;> omega) _).drew⟩
        · rw [if_neg h5]
          have x5 : (b.1 == 0#64) = false := by simp [h5]
          clear h3 h5
          obtain ⟨v, m⟩ := a
          obtain ⟨v', m'⟩ := b
          unfold tv
          dsimp only at *
          go_enter Try.func168, Try.ntmps168
          go_wp2_with fail
          go_region
          go_wp2
          exact bodyPost_ret (v := tv (0#64, bmin m (m' - 1#64))) (by simp [results, Try.results168, go_sem]; try rfl) rfl ⟨rfl, ((((Below.refl _ _).alloc (Nat.le_refl _) _).alloc (by simp) _).alloc (by simp <;> omega) _).drew⟩
@[go_sem] theorem szI_wrap (c : Bool) : IntKind.u64.wrap (szI c) = ub (sizeB c) := by cases c <;> kernel_rfl
theorem sCounts_any (c : Bool) (b : Tn) (w : World) : Calls Try.prog 164 #[.int .i64 (szI c), tv b] w fun e w' => e = .returned (tv (countS c b)) ∧ Below w.heap.size w w' := by
  have HM := fun W => sMay_any (b.1 % sizeB c, b.2 % sizeB c) W
  have y1 : ¬ ub (sizeB c) = 0 := by cases c <;> decide
  have e0 := szI_wrap c
  unfold countS
  generalize sizeB c = Z at *
  generalize szI c = SZ at *
  by_cases h1 : (Z - 1#64).toNat ≤ (b.2 - b.1).toNat
  · rw [if_pos (Or.inl h1)]
    replace h1 := of_le h1
    obtain ⟨v, m⟩ := b
    unfold tv at HM ⊢
    dsimp only at *
    replace HM := hid HM
    go_enter Try.func164, Try.ntmps164
    go_wp2_with fail
    go_region
    go_wp2
    exact bodyPost_ret (v := tv (0#64, Z - 1#64)) (by simp [results, Try.results164, go_sem]; try rfl) rfl ⟨rfl, ((((Below.refl _ _).alloc (Nat.le_refl _) _).alloc (by simp) _).alloc (by simp <;> omega) _).drew⟩
  · have h1u := of_nle h1
    by_cases h2 : (b.2 % Z).toNat < (b.1 % Z).toNat
    · rw [if_pos (Or.inr h2)]
      rw [show mayS (b.1 % Z, b.2 % Z) = false from decide_eq_false (by dsimp only; omega)] at HM
      obtain ⟨v, m⟩ := b
      unfold tv at HM ⊢
      dsimp only at *
      replace HM := hid HM
      go_enter Try.func164, Try.ntmps164
      go_wp2_with fail
      go_region
      go_wp2_with fail
      refine (HM.out _).mono ?_
      rintro e w1 ⟨rfl, b1⟩
      have hb : Below w.heap.size w w1 := ((((Below.refl _ _).alloc (Nat.le_refl _) _).alloc (by simp) _).alloc (by simp <;> omega) _).drew.trans (b1.mono (by simp; omega))
      obtain ⟨hc1, hf1⟩ := bcell b1
      have hz1_0 : w.heap.size < w1.heap.size := by have := b1.size; simp at this; omega
      have hz1_1 : w.heap.size + 1 < w1.heap.size := by have := b1.size; simp at this; omega
      have hz1_2 : w.heap.size + 1 + 1 < w1.heap.size := by have := b1.size; simp at this; omega
      have HB1 := hid hb
      clear b1 hb
      go_wp2
      exact bodyPost_ret (v := tv (0#64, Z - 1#64)) (by simp [results, Try.results164, go_sem, hc1, hf1, hz1_0, hz1_1, hz1_2]; try rfl) rfl ⟨rfl, (HB1.out.setCell (by simp <;> omega) _).setCell (by simp <;> omega) _⟩
    · rw [if_neg (by omega)]
      rw [show mayS (b.1 % Z, b.2 % Z) = true from decide_eq_true (by dsimp only; omega)] at HM
      obtain ⟨v, m⟩ := b
      unfold tv at HM ⊢
      dsimp only at *
      replace HM := hid HM
      go_enter Try.func164, Try.ntmps164
      go_wp2_with fail
      go_region
      go_wp2_with fail
      refine (HM.out _).mono ?_
      rintro e w1 ⟨rfl, b1⟩
      have hb : Below w.heap.size w w1 := ((((Below.refl _ _).alloc (Nat.le_refl _) _).alloc (by simp) _).alloc (by simp <;> omega) _).drew.trans (b1.mono (by simp; omega))
      obtain ⟨hc1, hf1⟩ := bcell b1
      have hz1_0 : w.heap.size < w1.heap.size := by have := b1.size; simp at this; omega
      have hz1_1 : w.heap.size + 1 < w1.heap.size := by have := b1.size; simp at this; omega
      have hz1_2 : w.heap.size + 1 + 1 < w1.heap.size := by have := b1.size; simp at this; omega
      have HB1 := hid hb
      clear b1 hb
      go_wp2
      exact bodyPost_ret (v := tv (v % Z, m % Z)) (by simp [results, Try.results164, go_sem, hc1, hf1, hz1_0, hz1_1, hz1_2]; try rfl) rfl ⟨rfl, (HB1.out.setCell (by simp <;> omega) _).setCell (by simp <;> omega) _⟩
end Go.Proofs.Ytoanbjnhoggpjaa
