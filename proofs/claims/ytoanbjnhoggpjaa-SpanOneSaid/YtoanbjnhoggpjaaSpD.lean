/-
  Contracts of sums, products, quotients, rests, counts, as the landed code has them.
-/
import Derived.Test.YtoanbjnhoggpjaaSpC
import Derived.Laws.Externs
import Derived.Lib.Mul64
namespace Go.Proofs.Ytoanbjnhoggpjaa
set_option linter.unusedSimpArgs false
set_option linter.unusedVariables false
set_option maxRecDepth 100000
open Go.ChangeShapes Go.WideShapes Go.ChangeAt Go.RowKit

def szI (w : Bool) : Int := if w then 64 else 32
theorem szI_nat (w : Bool) : szI w = ((sizeW w : Nat) : Int) := by cases w <;> rfl
theorem sTop_any (c : Bool) (w : World) : Calls Try.prog 161 #[.int .i64 (szI c)] w fun e w' => e = .returned (.int .u64 (ub (topW c))) ∧ w' = w := by
  have h := sLow_any (sizeW c) w (sizeW_le c)
  rw [← szI_nat] at h
  rw [show topW c = 1#64 <<< sizeW c - 1#64 by cases c <;> rfl]
  exact h
theorem add64_run (x y : B64) (w : World) : (callFunc 195 #[.int .u64 (ub x), .int .u64 (ub y), .int .u64 0]).run Try.prog w =
    .ok (.value (.tuple #[.int .u64 (ub (x + y)), .int .u64 (((x.toNat + y.toNat) / 18446744073709551616 : Nat) : Int)])) w := by
  rw [run_callFunc_extern Try.func195 (by kernel_rfl) (by kernel_rfl) (by kernel_rfl) (e := add64Entry) (by kernel_rfl)]
  rw [run_add64 (P := Try.prog) (ub x) (ub y) 0 (ub_ge x) (ub_ge y) (by decide) (by decide) w]
  simp only [Result.andThen]
  congr 5
theorem ub_m32 (x : B64) : bits .and .u64 (ub x) 4294967295 = ub (x &&& 4294967295#64) := by rw [← ub_and, show ub 4294967295#64 = 4294967295 by kernel_rfl]
attribute [go_sem] ub_m32
def hiB (x y : B64) : B64 := BitVec.ofNat 64 (x.toNat * y.toNat / 18446744073709551616)
theorem hiB_toNat (x y : B64) : (hiB x y).toNat = x.toNat * y.toNat / 18446744073709551616 := by
  unfold hiB
  rw [BitVec.toNat_ofNat, Nat.mod_eq_of_lt]
  have : x.toNat * y.toNat ≤ 18446744073709551615 * 18446744073709551615 := Nat.mul_le_mul (by have := x.isLt; omega) (by have := y.isLt; omega)
  omega
theorem hi_is (x y : B64) : x >>> 32 * y >>> 32 + (x >>> 32 * (y &&& 4294967295#64) + ((x &&& 4294967295#64) * (y &&& 4294967295#64)) >>> 32) >>> 32 +
      ((x >>> 32 * (y &&& 4294967295#64) + ((x &&& 4294967295#64) * (y &&& 4294967295#64)) >>> 32 &&& 4294967295#64) + (x &&& 4294967295#64) * y >>> 32) >>> 32 = hiB x y := by
  apply BitVec.eq_of_toNat_eq
  rw [hiB_toNat]
  have an : ∀ z : B64, (z &&& 4294967295#64).toNat = z.toNat % 4294967296 := fun z => and_top z false
  have sh : ∀ z : B64, (z >>> 32).toNat = z.toNat / 4294967296 := fun z => by rw [BitVec.toNat_ushiftRight, Nat.shiftRight_eq_div_pow]
  have ml : ∀ z u : B64, z.toNat * u.toNat < 18446744073709551616 → (z * u).toNat = z.toNat * u.toNat := fun z u h => by rw [BitVec.toNat_mul]; exact Nat.mod_eq_of_lt h
  obtain ⟨m1, m2, m3, m4⟩ := Lib.mul64_hi x.toNat y.toNat x.isLt y.isLt
  have hx := x.isLt
  have hy := y.isLt
  have b1 := Lib.half_mul_le (a := x.toNat / 4294967296) (b := y.toNat / 4294967296) (by omega) (by omega)
  have b2 := Lib.half_mul_le (a := x.toNat / 4294967296) (b := y.toNat % 4294967296) (by omega) (by omega)
  have b3 := Lib.half_mul_le (a := x.toNat % 4294967296) (b := y.toNat / 4294967296) (by omega) (by omega)
  have e1 : ((x &&& 4294967295#64) * (y &&& 4294967295#64)).toNat = (x.toNat % 4294967296) * (y.toNat % 4294967296) := by rw [ml _ _ (by rw [an, an]; exact m1), an, an]
  have e2 : (x >>> 32 * (y &&& 4294967295#64)).toNat = (x.toNat / 4294967296) * (y.toNat % 4294967296) := by rw [ml _ _ (by rw [an, sh]; omega), an, sh]
  have e3 : ((x &&& 4294967295#64) * y >>> 32).toNat = (x.toNat % 4294967296) * (y.toNat / 4294967296) := by rw [ml _ _ (by rw [an, sh]; omega), an, sh]
  have e4 : (x >>> 32 * y >>> 32).toNat = (x.toNat / 4294967296) * (y.toNat / 4294967296) := by rw [ml _ _ (by rw [sh, sh]; omega), sh, sh]
  rw [add64, add64, sh, sh, add64, e4, add64, sh, an, add64, sh, e1, e2, e3, ← m4]
  generalize (x.toNat / 4294967296) * (y.toNat / 4294967296) = a at *
  generalize (x.toNat / 4294967296) * (y.toNat % 4294967296) = b at *
  generalize (x.toNat % 4294967296) * (y.toNat / 4294967296) = c at *
  generalize (x.toNat % 4294967296) * (y.toNat % 4294967296) = d at *
  omega
theorem sMul64_any (x y : B64) (w : World) : Calls Try.prog 196 #[.int .u64 (ub x), .int .u64 (ub y)] w fun e w' => e = .returned (.tuple #[.int .u64 (ub (hiB x y)), .int .u64 (ub (x * y))]) ∧ w' = w := by
  go_enter Try.func196, Try.ntmps196
  go_wp2
  exact bodyPost_ret (v := .tuple #[.int .u64 (ub (hiB x y)), .int .u64 (ub (x * y))]) (by simp [results, Try.results196, go_sem, hi_is]) rfl ⟨rfl, rfl⟩
theorem sPowers_any (a : Tn) (w : World) (h1 : a.1.toNat < 64) (h2 : a.2.toNat < 64) : Calls Try.prog 163 #[tv a] w fun e w' => e = .returned (tv (powS a)) ∧ Below w.heap.size w w' := by
  obtain ⟨v, m⟩ := a
  dsimp only at h1 h2
  have k1 : 0 ≤ ub v := ub_ge v
  have k2 : ub v ≤ 64 := by unfold ub; omega
  have k3 : 0 ≤ ub m := ub_ge m
  have k4 : ub m ≤ 64 := by unfold ub; omega
  unfold tv
  go_enter Try.func163, Try.ntmps163
  go_wp2
  exact bodyPost_ret (v := tv (powS (v, m))) (by simp [results, Try.results163, go_sem]; try rfl) rfl ⟨rfl, ((Below.refl _ _).alloc (Nat.le_refl _) _).alloc (by simp) _⟩
theorem sQuot_any (a b : Tn) (w : World) : Calls Try.prog 166 #[tv a, tv b] w fun e w' => e = .returned (tv (quotS a b)) ∧ Below w.heap.size w w' := by
  have HO := fun W => sOf_any 0#64 W
  have z0 : ub 0#64 = 0 := rfl
  unfold quotS
  by_cases h1 : b.2 = 0#64
  · rw [if_pos h1]
    have x1 : (b.2 == 0#64) = true := by simp [h1]
    clear h1
    obtain ⟨v, m⟩ := a
    obtain ⟨v', m'⟩ := b
    unfold tv at HO ⊢
    dsimp only at HO x1 ⊢
    rw [z0] at HO
    replace HO := hid HO
    go_enter Try.func166, Try.ntmps166
    go_wp2_with fail
    refine (HO.out _).mono ?_
    rintro e w1 ⟨rfl, b1⟩
    have hb : Below w.heap.size w w1 := ((((Below.refl _ _).alloc (Nat.le_refl _) _).alloc (by simp) _).alloc (by simp <;> omega) _).trans (b1.mono (by simp; omega))
    obtain ⟨hc1, hf1⟩ := bcell b1
    have hz1_0 : w.heap.size < w1.heap.size := by have := b1.size; simp at this; omega
    have hz1_1 : w.heap.size + 1 < w1.heap.size := by have := b1.size; simp at this; omega
    have hz1_2 : w.heap.size + 1 + 1 < w1.heap.size := by have := b1.size; simp at this; omega
    have HB1 := hid hb
    clear b1 hb
    go_wp2
    exact bodyPost_ret (v := tv (0#64, 0#64)) (by simp [results, Try.results166, go_sem, hc1, hf1, hz1_0, hz1_1, hz1_2]; try rfl) rfl ⟨rfl, (HB1.out.setCell (by simp <;> omega) _).setCell (by simp <;> omega) _⟩
  · rw [if_neg h1]
    have x1 : (b.2 == 0#64) = false := by simp [h1]
    have y1 := ub_ne0 h1
    clear h1
    by_cases h2 : b.1 = 0#64
    · rw [if_pos h2]
      have x2 : (b.1 == 0#64) = true := by simp [h2]
      clear h2
      obtain ⟨v, m⟩ := a
      obtain ⟨v', m'⟩ := b
      dsimp only at x1 x2 y1
      unfold tv
      go_enter Try.func166, Try.ntmps166
      go_wp2
      exact bodyPost_ret (v := tv (0#64, m)) (by simp [results, Try.results166, go_sem]; try rfl) rfl ⟨rfl, ((((Below.refl _ _).alloc (Nat.le_refl _) _).alloc (by simp) _).alloc (by simp <;> omega) _)⟩
    · rw [if_neg h2]
      have x2 : (b.1 == 0#64) = false := by simp [h2]
      have y2 := ub_ne0 h2
      clear h2
      obtain ⟨v, m⟩ := a
      obtain ⟨v', m'⟩ := b
      dsimp only at x1 x2 y1 y2
      unfold tv
      go_enter Try.func166, Try.ntmps166
      go_wp2_with fail
      go_region
      go_wp2
      exact bodyPost_ret (v := tv (v / m', m / v')) (by simp [results, Try.results166, go_sem]; try rfl) rfl ⟨rfl, ((((Below.refl _ _).alloc (Nat.le_refl _) _).alloc (by simp) _).alloc (by simp <;> omega) _).drew⟩
end Go.Proofs.Ytoanbjnhoggpjaa
