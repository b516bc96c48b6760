/-
  Contracts of package span's small functions, as the landed code has them.
-/
import Derived.Test.YtjcnpjidkimldaaChecked
import Derived.Test.YtjcnpjidkimldaaASpQ
import Derived.Test.YtjcnpjidkimldaaATnF
import Derived.ProofKit
import Derived.Below
import Derived.Outline
import Derived.OneCell
import Derived.Deep.QuietTactic
import Derived.BigQuiet
import Derived.BigRegion
import Derived.Lib.MinMax
namespace Go.Proofs.Ytjcnpjidkimldaa
set_option linter.unusedSimpArgs false
set_option linter.unusedVariables false
set_option maxRecDepth 100000
open Go.ChangeShapes Go.WideShapes Go.ChangeAt Go.RowKit

theorem ub_le (x y : B64) : (ub x ≤ ub y) = (x.toNat ≤ y.toNat) := by unfold ub; exact propext (by omega)
theorem ub_ltN (x y : B64) : (ub x < ub y) = (x.toNat < y.toNat) := by unfold ub; exact propext (by omega)
@[go_sem] theorem ub_max (x y : B64) : max (ub x) (ub y) = ub (bmax x y) := by unfold ub; rw [bmax_toNat]; omega
theorem max_is : IntKind.u64.max = ub 18446744073709551615#64 := by kernel_rfl
@[go_sem] theorem ub_not (x : B64) : bits .xor .u64 IntKind.u64.max (ub x) = ub (~~~x) := by rw [max_is, ub_xor, show (18446744073709551615#64 : B64) = BitVec.allOnes 64 from rfl, BitVec.allOnes_xor]
@[go_sem] theorem ub_nei (x y : B64) : (ub x != ub y) = !(x == y) := by rw [bne, ub_eqi]
@[go_sem] theorem ub_nez (x : B64) : (ub x != 0) = !(x == 0#64) := by rw [bne, ub_eqz]
attribute [go_sem] ub_nat
@[go_sem] theorem ub_tdiv (x y : B64) : IntKind.u64.wrap ((ub x).tdiv (ub y)) = ub (x / y) := by
  have h : (ub x).tdiv (ub y) = ub (x / y) := by
    rw [Int.tdiv_eq_ediv_of_nonneg (ub_ge x)]; unfold ub; rw [BitVec.toNat_udiv]; exact (Int.natCast_ediv _ _).symm
  rw [h, ub_wrap]
@[go_sem] theorem ub_tmod (x y : B64) : IntKind.u64.wrap ((ub x).tmod (ub y)) = ub (x % y) := by
  have h : (ub x).tmod (ub y) = ub (x % y) := by
    rw [Int.tmod_eq_emod_of_nonneg (ub_ge x)]; unfold ub; rw [BitVec.toNat_umod]; exact (Int.natCast_emod _ _).symm
  rw [h, ub_wrap]
theorem dec_le (x y : B64) : decide (x.toNat ≤ y.toNat) = decide (ub x ≤ ub y) := by rw [Bool.eq_iff_iff, decide_eq_true_eq, decide_eq_true_eq, ub_le]
theorem of_le {x y : B64} (h : x.toNat ≤ y.toNat) : ub x ≤ ub y := by rw [ub_le]; exact h
theorem of_nle {x y : B64} (h : ¬ x.toNat ≤ y.toNat) : ¬ ub x ≤ ub y := by rw [ub_le]; exact h
theorem of_ltn {x y : B64} (h : x.toNat < y.toNat) : ub x < ub y := by rw [ub_ltN]; exact h
theorem of_nltn {x y : B64} (h : ¬ x.toNat < y.toNat) : ¬ ub x < ub y := by rw [ub_ltN]; exact h
theorem ub_ne0 {x : B64} (h : ¬ x = 0#64) : ¬ ub x = 0 := fun e => h (ub_inj.1 e)
@[go_sem] theorem ub_min (x y : B64) : min (ub x) (ub y) = ub (bmin x y) := by unfold ub; rw [bmin_toNat]; omega

theorem sMay_any (a : Tn) (w : World) : Calls Try.prog 16 #[tv a] w fun e w' => e = .returned (.bool (mayS a)) ∧ Below w.heap.size w w' := by
  obtain ⟨v, m⟩ := a
  have e : mayS (v, m) = decide (ub v ≤ ub m) := by unfold mayS; rw [dec_le]
  rw [e]
  unfold tv
  go_enter Try.func16, Try.ntmps16
  go_wp2
  go_ret
  exact ⟨rfl, (Below.refl _ _).alloc (Nat.le_refl _) _⟩
theorem qMay_any (a : Tn) (w : World) : Calls Try.prog 19 #[tv a] w fun e w' => e = .returned (.bool (mayS a)) ∧ Below w.heap.size w w' := by
  obtain ⟨v, m⟩ := a
  have e : mayS (v, m) = decide (ub v ≤ ub m) := by unfold mayS; rw [dec_le]
  rw [e]
  unfold tv
  go_enter Try.func19, Try.ntmps19
  go_wp2
  go_ret
  exact ⟨rfl, (Below.refl _ _).alloc (Nat.le_refl _) _⟩
theorem sOf_any (n : B64) (w : World) : Calls Try.prog 44 #[.int .u64 (ub n)] w fun e w' => e = .returned (tv (n, n)) ∧ Below w.heap.size w w' := by
  go_enter Try.func44, Try.ntmps44
  go_wp2
  exact bodyPost_ret (v := tv (n, n)) (by simp [results, Try.results44, go_sem]; try rfl) rfl ⟨rfl, (Below.refl _ _).alloc (Nat.le_refl _) _⟩
theorem sTurned_any (a : Tn) (w : World) : Calls Try.prog 78 #[tv a] w fun e w' => e = .returned (tv (turnS a)) ∧ Below w.heap.size w w' := by
  obtain ⟨v, m⟩ := a
  unfold tv
  go_enter Try.func78, Try.ntmps78
  go_wp2
  exact bodyPost_ret (v := tv (turnS (v, m))) (by simp [results, Try.results78, go_sem]; try rfl) rfl ⟨rfl, ((Below.refl _ _).alloc (Nat.le_refl _) _).alloc (by simp) _⟩
theorem sLow_any (n : Nat) (w : World) (h : n ≤ 64) : Calls Try.prog 53 #[.int .i64 (n : Int)] w fun e w' => e = .returned (.int .u64 (ub (1#64 <<< n - 1#64))) ∧ w' = w := by
  have h0 : ¬ ((n : Int) < 0) := by omega
  go_enter Try.func53, Try.ntmps53
  go_wp2
  go_ret
  exact ⟨rfl, rfl⟩
end Go.Proofs.Ytjcnpjidkimldaa
