/-
  Contracts of package span's small functions, as the landed code has them. Contracts of Meet, Join, In, Cut, All, as the landed code has them. Contracts of Join, In, Cut, as the landed code has them.
-/
import Derived.Test.YtjcnpjidkimldaaGreatDoorChecked
import Derived.Test.YtjcnpjidkimldaaGreatDoorASpMo
import Derived.Test.YtjcnpjidkimldaaGreatDoorATnH
import Derived.ProofKit
import Derived.Below
import Derived.Outline
import Derived.OneCell
import Derived.Deep.QuietTactic
import Derived.BigQuiet
import Derived.BigRegion
import Derived.Lib.MinMax
namespace Go.Proofs.YtjcnpjidkimldaaGreatDoor
set_option linter.unusedSimpArgs false
set_option linter.unusedVariables false
set_option maxRecDepth 100000
open Go.ChangeShapes Go.WideShapes Go.ChangeAt Go.RowKit

theorem ub_le (x y : B64) : (ub x ≤ ub y) = (x.toNat ≤ y.toNat) := by unfold ub; exact propext (by omega)
@[go_sem] theorem ub_max (x y : B64) : max (ub x) (ub y) = ub (bmax x y) := by unfold ub; rw [bmax_toNat]; omega
theorem max_is : IntKind.u64.max = ub 18446744073709551615#64 := by kernel_rfl
@[go_sem] theorem ub_not (x : B64) : bits .xor .u64 IntKind.u64.max (ub x) = ub (~~~x) := by rw [max_is, ub_xor, show (18446744073709551615#64 : B64) = BitVec.allOnes 64 from rfl, BitVec.allOnes_xor]
@[go_sem] theorem ub_nei (x y : B64) : (ub x != ub y) = !(x == y) := by rw [bne, ub_eqi]
@[go_sem] theorem ub_nez (x : B64) : (ub x != 0) = !(x == 0#64) := by rw [bne, ub_eqz]
attribute [go_sem] ub_nat
@[go_sem] theorem ub_tdiv (x y : B64) : IntKind.u64.wrap ((ub x).tdiv (ub y)) = ub (x / y) := by
  have h : (ub x).tdiv (ub y) = ub (x / y) := by
    rw [Int.tdiv_eq_ediv_of_nonneg (ub_ge x)]; unfold ub; rw [BitVec.toNat_udiv]; exact (Int.natCast_ediv _ _).symm
  rw [h, ub_wrap]
@[go_sem] theorem ub_tmod (x y : B64) : IntKind.u64.wrap ((ub x).tmod (ub y)) = ub (x % y) := by
  have h : (ub x).tmod (ub y) = ub (x % y) := by
    rw [Int.tmod_eq_emod_of_nonneg (ub_ge x)]; unfold ub; rw [BitVec.toNat_umod]; exact (Int.natCast_emod _ _).symm
  rw [h, ub_wrap]
theorem dec_le (x y : B64) : decide (x.toNat ≤ y.toNat) = decide (ub x ≤ ub y) := by rw [Bool.eq_iff_iff, decide_eq_true_eq, decide_eq_true_eq, ub_le]
@[go_sem] theorem ub_min (x y : B64) : min (ub x) (ub y) = ub (bmin x y) := by unfold ub; rw [bmin_toNat]; omega

theorem sMay_any (a : Tn) (w : World) : Calls Tryz.prog 331 #[tv a] w fun e w' => e = .returned (.bool (mayS a)) ∧ Below w.heap.size w w' := by
  obtain ⟨v, m⟩ := a
  have e : mayS (v, m) = decide (ub v ≤ ub m) := by unfold mayS; rw [dec_le]
  rw [e]
  unfold tv
  go_enter Tryz.func331, Tryz.ntmps331
  go_wp2
  go_ret
  exact ⟨rfl, (Below.refl _ _).alloc (Nat.le_refl _) _⟩
theorem sOf_any (n : B64) (w : World) : Calls Tryz.prog 42 #[.int .u64 (ub n)] w fun e w' => e = .returned (tv (n, n)) ∧ Below w.heap.size w w' := by
  go_enter Tryz.func42, Tryz.ntmps42
  go_wp2
  exact bodyPost_ret (v := tv (n, n)) (by simp [results, Tryz.results42, go_sem]; try rfl) rfl ⟨rfl, (Below.refl _ _).alloc (Nat.le_refl _) _⟩
theorem sLow_any (n : Nat) (w : World) (h : n ≤ 64) : Calls Tryz.prog 339 #[.int .i64 (n : Int)] w fun e w' => e = .returned (.int .u64 (ub (1#64 <<< n - 1#64))) ∧ w' = w := by
  have h0 : ¬ ((n : Int) < 0) := by omega
  go_enter Tryz.func339, Tryz.ntmps339
  go_wp2
  go_ret
  exact ⟨rfl, rfl⟩
end Go.Proofs.YtjcnpjidkimldaaGreatDoor

namespace Go.Proofs.YtjcnpjidkimldaaGreatDoor
set_option linter.unusedSimpArgs false
set_option linter.unusedVariables false
set_option maxRecDepth 100000
open Go.ChangeShapes Go.WideShapes Go.ChangeAt Go.RowKit

theorem sMeet_any (a b : Tn) (w : World) : Calls Tryz.prog 284 #[tv a, tv b] w fun e w' => e = .returned (.tuple #[tv (meetS a b), .bool (mayS (meetP a b))]) ∧ Below w.heap.size w w' := by
  have HM := fun W => sMay_any (meetP a b) W
  by_cases h : mayS (meetP a b) = true
  · rw [show meetS a b = meetP a b from if_pos h, h]
    rw [h] at HM
    clear h
    obtain ⟨v, m⟩ := a
    obtain ⟨v', m'⟩ := b
    unfold tv at HM ⊢
    dsimp only [meetP] at HM ⊢
    replace HM := hid HM
    go_enter Tryz.func284, Tryz.ntmps284
    go_wp2_with fail
    refine (HM.out _).mono ?_
    rintro e w1 ⟨rfl, b1⟩
    have hb : Below w.heap.size w w1 := (((((Below.refl _ _).alloc (Nat.le_refl _) _).alloc (by simp) _).alloc (by simp <;> omega) _).alloc (by simp <;> omega) _).trans (b1.mono (by simp; omega))
    obtain ⟨hc1, hf1⟩ := bcell b1
    have hz1_0 : w.heap.size < w1.heap.size := by have := b1.size; simp at this; omega
    have hz1_1 : w.heap.size + 1 < w1.heap.size := by have := b1.size; simp at this; omega
    have hz1_2 : w.heap.size + 1 + 1 < w1.heap.size := by have := b1.size; simp at this; omega
    have hz1_3 : w.heap.size + 1 + 1 + 1 < w1.heap.size := by have := b1.size; simp at this; omega
    have HB1 := hid hb
    clear b1 hb
    go_wp2
    exact bodyPost_ret (v := .tuple #[tv (bmax v v', bmin m m'), .bool true]) (by simp [results, Tryz.results284, go_sem, hc1, hf1, hz1_0, hz1_1, hz1_2, hz1_3]; try rfl) rfl ⟨rfl, (HB1.out.setCell (by simp <;> omega) _).setCell (by simp <;> omega) _⟩
  · rw [show meetS a b = t0 from if_neg h, Bool.eq_false_iff.2 h]
    rw [Bool.eq_false_iff.2 h] at HM
    clear h
    obtain ⟨v, m⟩ := a
    obtain ⟨v', m'⟩ := b
    unfold tv at HM ⊢
    dsimp only [meetP] at HM ⊢
    replace HM := hid HM
    go_enter Tryz.func284, Tryz.ntmps284
    go_wp2_with fail
    refine (HM.out _).mono ?_
    rintro e w1 ⟨rfl, b1⟩
    have hb : Below w.heap.size w w1 := (((((Below.refl _ _).alloc (Nat.le_refl _) _).alloc (by simp) _).alloc (by simp <;> omega) _).alloc (by simp <;> omega) _).trans (b1.mono (by simp; omega))
    obtain ⟨hc1, hf1⟩ := bcell b1
    have hz1_0 : w.heap.size < w1.heap.size := by have := b1.size; simp at this; omega
    have hz1_1 : w.heap.size + 1 < w1.heap.size := by have := b1.size; simp at this; omega
    have hz1_2 : w.heap.size + 1 + 1 < w1.heap.size := by have := b1.size; simp at this; omega
    have hz1_3 : w.heap.size + 1 + 1 + 1 < w1.heap.size := by have := b1.size; simp at this; omega
    have HB1 := hid hb
    clear b1 hb
    go_wp2
    exact bodyPost_ret (v := .tuple #[tv t0, .bool false]) (by simp [results, Tryz.results284, go_sem, hc1, hf1, hz1_0, hz1_1, hz1_2, hz1_3]; try rfl) rfl ⟨rfl, (HB1.out.setCell (by simp <;> omega) _).setCell (by simp <;> omega) _⟩
theorem sAll_any (w : World) : Calls Tryz.prog 295 #[] w fun e w' => e = .returned (tv (0#64, 18446744073709551615#64)) ∧ Below w.heap.size w w' := by
  have HL := hid fun W => sLow_any 64 W (by decide)
  go_enter Tryz.func295, Tryz.ntmps295
  go_wp2_with fail
  refine (HL.out _).mono ?_
  rintro e w1 ⟨rfl, rfl⟩
  go_wp2
  exact bodyPost_ret (v := tv (0#64, 18446744073709551615#64)) (by simp [results, Tryz.results295, go_sem]; try rfl) rfl ⟨rfl, (Below.refl _ _).alloc (Nat.le_refl _) _⟩
end Go.Proofs.YtjcnpjidkimldaaGreatDoor

namespace Go.Proofs.YtjcnpjidkimldaaGreatDoor
set_option linter.unusedSimpArgs false
set_option linter.unusedVariables false
set_option maxRecDepth 100000
open Go.ChangeShapes Go.WideShapes Go.ChangeAt Go.RowKit

def inSp (a b : Tn) : Bool := mayS a && decide (b.1.toNat ≤ a.1.toNat) && decide (a.2.toNat ≤ b.2.toNat)
theorem sIn_any (a b : Tn) (w : World) : Calls Tryz.prog 306 #[tv a, tv b] w fun e w' => e = .returned (.bool (inSp a b)) ∧ Below w.heap.size w w' := by
  have HA := fun W => sMay_any a W
  unfold inSp
  rw [dec_le, dec_le]
  by_cases ha : mayS a = true
  · rw [ha] at HA ⊢
    clear ha
    by_cases h1 : ub b.1 ≤ ub a.1
    · rw [decide_eq_true h1]
      simp only [Bool.true_and, Bool.false_and, Bool.and_false]
      obtain ⟨v, m⟩ := a
      obtain ⟨v', m'⟩ := b
      unfold tv at HA ⊢
      dsimp only at HA ⊢
      dsimp only at h1
      replace HA := hid HA
      go_enter Tryz.func306, Tryz.ntmps306
      go_wp2_with fail
      refine (HA.out _).mono ?_
      rintro e w1 ⟨rfl, b1⟩
      have hb : Below w.heap.size w w1 := (((Below.refl _ _).alloc (Nat.le_refl _) _).alloc (by simp) _).trans (b1.mono (by simp; omega))
      obtain ⟨hc1, hf1⟩ := bcell b1
      have hz1_0 : w.heap.size < w1.heap.size := by have := b1.size; simp at this; omega
      have hz1_1 : w.heap.size + 1 < w1.heap.size := by have := b1.size; simp at this; omega
      have HB1 := hid hb
      clear b1 hb
      go_wp2
      go_ret
      exact ⟨rfl, HB1.out⟩
    · rw [decide_eq_false h1]
      simp only [Bool.true_and, Bool.false_and, Bool.and_false]
      obtain ⟨v, m⟩ := a
      obtain ⟨v', m'⟩ := b
      unfold tv at HA ⊢
      dsimp only at HA ⊢
      dsimp only at h1
      replace HA := hid HA
      go_enter Tryz.func306, Tryz.ntmps306
      go_wp2_with fail
      refine (HA.out _).mono ?_
      rintro e w1 ⟨rfl, b1⟩
      have hb : Below w.heap.size w w1 := (((Below.refl _ _).alloc (Nat.le_refl _) _).alloc (by simp) _).trans (b1.mono (by simp; omega))
      obtain ⟨hc1, hf1⟩ := bcell b1
      have hz1_0 : w.heap.size < w1.heap.size := by have := b1.size; simp at this; omega
      have hz1_1 : w.heap.size + 1 < w1.heap.size := by have := b1.size; simp at this; omega
      have HB1 := hid hb
      clear b1 hb
      go_wp2
      go_ret
      exact ⟨rfl, HB1.out⟩
  · rw [Bool.eq_false_iff.2 ha] at HA ⊢
    clear ha
    simp only [Bool.false_and]
    obtain ⟨v, m⟩ := a
    obtain ⟨v', m'⟩ := b
    unfold tv at HA ⊢
    dsimp only at HA ⊢
    replace HA := hid HA
    go_enter Tryz.func306, Tryz.ntmps306
    go_wp2_with fail
    refine (HA.out _).mono ?_
    rintro e w1 ⟨rfl, b1⟩
    have hb : Below w.heap.size w w1 := (((Below.refl _ _).alloc (Nat.le_refl _) _).alloc (by simp) _).trans (b1.mono (by simp; omega))
    obtain ⟨hc1, hf1⟩ := bcell b1
    have hz1_0 : w.heap.size < w1.heap.size := by have := b1.size; simp at this; omega
    have hz1_1 : w.heap.size + 1 < w1.heap.size := by have := b1.size; simp at this; omega
    have HB1 := hid hb
    clear b1 hb
    go_wp2
    go_ret
    exact ⟨rfl, HB1.out⟩
end Go.Proofs.YtjcnpjidkimldaaGreatDoor
