/-
  Contracts of sums, products, quotients, rests, counts, as the landed code has them. Contracts of sum, product, rest, counts, as the landed code has them. Contracts of the document's Top, Power, Drawn, One, and of the laws' pick. Contract of the document's One: an operation of two numbers. Contracts of half and of the closure that chooses a way, as the landed code has them. The closure that chooses a way, as the landed code has it. Contracts of fromTop, least, bitwise, as the landed code has them. Contracts of bitwise and of the shifts with the sign, as the landed code has them. Contracts of the shifts with the sign, as the landed code has them. Contract of signed, as the landed code has it. Contracts of the operations of spans, as the landed code has them. Contracts of Alu, as the landed code has it. Contract of Alu, as the landed code has it.
-/
import Derived.Test.YtjcnpjidkimldaaASpC
import Derived.Laws.Externs
import Derived.Lib.Mul64
import Derived.Deep.RegionHeld3
import Derived.Deep.RegionLaw
namespace Go.Proofs.Ytjcnpjidkimldaa
set_option linter.unusedSimpArgs false
set_option linter.unusedVariables false
set_option maxRecDepth 100000
open Go.ChangeShapes Go.WideShapes Go.ChangeAt Go.RowKit

def szI (w : Bool) : Int := if w then 64 else 32
theorem szI_nat (w : Bool) : szI w = ((sizeW w : Nat) : Int) := by cases w <;> rfl
theorem sTop_any (c : Bool) (w : World) : Calls Try.prog 53 #[.int .i64 (szI c)] w fun e w' => e = .returned (.int .u64 (ub (topW c))) ∧ w' = w := by
  have h := sLow_any (sizeW c) w (sizeW_le c)
  rw [← szI_nat] at h
  rw [show topW c = 1#64 <<< sizeW c - 1#64 by cases c <;> rfl]
  exact h
theorem add64_run (x y : B64) (w : World) : (callFunc 71 #[.int .u64 (ub x), .int .u64 (ub y), .int .u64 0]).run Try.prog w =
    .ok (.value (.tuple #[.int .u64 (ub (x + y)), .int .u64 (((x.toNat + y.toNat) / 18446744073709551616 : Nat) : Int)])) w := by
  rw [run_callFunc_extern Try.func71 (by kernel_rfl) (by kernel_rfl) (by kernel_rfl) (e := add64Entry) (by kernel_rfl)]
  rw [run_add64 (P := Try.prog) (ub x) (ub y) 0 (ub_ge x) (ub_ge y) (by decide) (by decide) w]
  simp only [Result.andThen]
  congr 5
theorem ub_m32 (x : B64) : bits .and .u64 (ub x) 4294967295 = ub (x &&& 4294967295#64) := by rw [← ub_and, show ub 4294967295#64 = 4294967295 by kernel_rfl]
attribute [go_sem] ub_m32
def hiB (x y : B64) : B64 := BitVec.ofNat 64 (x.toNat * y.toNat / 18446744073709551616)
theorem hiB_toNat (x y : B64) : (hiB x y).toNat = x.toNat * y.toNat / 18446744073709551616 := by
  unfold hiB
  rw [BitVec.toNat_ofNat, Nat.mod_eq_of_lt]
  have : x.toNat * y.toNat ≤ 18446744073709551615 * 18446744073709551615 := Nat.mul_le_mul (by have := x.isLt; omega) (by have := y.isLt; omega)
  omega
theorem hi_is (x y : B64) : x >>> 32 * y >>> 32 + (x >>> 32 * (y &&& 4294967295#64) + ((x &&& 4294967295#64) * (y &&& 4294967295#64)) >>> 32) >>> 32 +
      ((x >>> 32 * (y &&& 4294967295#64) + ((x &&& 4294967295#64) * (y &&& 4294967295#64)) >>> 32 &&& 4294967295#64) + (x &&& 4294967295#64) * y >>> 32) >>> 32 = hiB x y := by
  apply BitVec.eq_of_toNat_eq
  rw [hiB_toNat]
  have an : ∀ z : B64, (z &&& 4294967295#64).toNat = z.toNat % 4294967296 := fun z => and_top z false
  have sh : ∀ z : B64, (z >>> 32).toNat = z.toNat / 4294967296 := fun z => by rw [BitVec.toNat_ushiftRight, Nat.shiftRight_eq_div_pow]
  have ml : ∀ z u : B64, z.toNat * u.toNat < 18446744073709551616 → (z * u).toNat = z.toNat * u.toNat := fun z u h => by rw [BitVec.toNat_mul]; exact Nat.mod_eq_of_lt h
  obtain ⟨m1, m2, m3, m4⟩ := Lib.mul64_hi x.toNat y.toNat x.isLt y.isLt
  have hx := x.isLt
  have hy := y.isLt
  have b1 := Lib.half_mul_le (a := x.toNat / 4294967296) (b := y.toNat / 4294967296) (by omega) (by omega)
  have b2 := Lib.half_mul_le (a := x.toNat / 4294967296) (b := y.toNat % 4294967296) (by omega) (by omega)
  have b3 := Lib.half_mul_le (a := x.toNat % 4294967296) (b := y.toNat / 4294967296) (by omega) (by omega)
  have e1 : ((x &&& 4294967295#64) * (y &&& 4294967295#64)).toNat = (x.toNat % 4294967296) * (y.toNat % 4294967296) := by rw [ml _ _ (by rw [an, an]; exact m1), an, an]
  have e2 : (x >>> 32 * (y &&& 4294967295#64)).toNat = (x.toNat / 4294967296) * (y.toNat % 4294967296) := by rw [ml _ _ (by rw [an, sh]; omega), an, sh]
  have e3 : ((x &&& 4294967295#64) * y >>> 32).toNat = (x.toNat % 4294967296) * (y.toNat / 4294967296) := by rw [ml _ _ (by rw [an, sh]; omega), an, sh]
  have e4 : (x >>> 32 * y >>> 32).toNat = (x.toNat / 4294967296) * (y.toNat / 4294967296) := by rw [ml _ _ (by rw [sh, sh]; omega), sh, sh]
  rw [add64, add64, sh, sh, add64, e4, add64, sh, an, add64, sh, e1, e2, e3, ← m4]
  generalize (x.toNat / 4294967296) * (y.toNat / 4294967296) = a at *
  generalize (x.toNat / 4294967296) * (y.toNat % 4294967296) = b at *
  generalize (x.toNat % 4294967296) * (y.toNat / 4294967296) = c at *
  generalize (x.toNat % 4294967296) * (y.toNat % 4294967296) = d at *
  omega
theorem sMul64_any (x y : B64) (w : World) : Calls Try.prog 72 #[.int .u64 (ub x), .int .u64 (ub y)] w fun e w' => e = .returned (.tuple #[.int .u64 (ub (hiB x y)), .int .u64 (ub (x * y))]) ∧ w' = w := by
  go_enter Try.func72, Try.ntmps72
  go_wp2
  exact bodyPost_ret (v := .tuple #[.int .u64 (ub (hiB x y)), .int .u64 (ub (x * y))]) (by simp [results, Try.results72, go_sem, hi_is]) rfl ⟨rfl, rfl⟩
theorem sPowers_any (a : Tn) (w : World) (h1 : a.1.toNat < 64) (h2 : a.2.toNat < 64) : Calls Try.prog 46 #[tv a] w fun e w' => e = .returned (tv (powS a)) ∧ Below w.heap.size w w' := by
  obtain ⟨v, m⟩ := a
  dsimp only at h1 h2
  have k1 : 0 ≤ ub v := ub_ge v
  have k2 : ub v ≤ 64 := by unfold ub; omega
  have k3 : 0 ≤ ub m := ub_ge m
  have k4 : ub m ≤ 64 := by unfold ub; omega
  unfold tv
  go_enter Try.func46, Try.ntmps46
  go_wp2
  exact bodyPost_ret (v := tv (powS (v, m))) (by simp [results, Try.results46, go_sem]; try rfl) rfl ⟨rfl, ((Below.refl _ _).alloc (Nat.le_refl _) _).alloc (by simp) _⟩
theorem sQuot_any (a b : Tn) (w : World) : Calls Try.prog 49 #[tv a, tv b] w fun e w' => e = .returned (tv (quotS a b)) ∧ Below w.heap.size w w' := by
  have HO := fun W => sOf_any 0#64 W
  have z0 : ub 0#64 = 0 := rfl
  unfold quotS
  by_cases h1 : b.2 = 0#64
  · rw [if_pos h1]
    have x1 : (b.2 == 0#64) = true := by simp [h1]
    clear h1
    obtain ⟨v, m⟩ := a
    obtain ⟨v', m'⟩ := b
    unfold tv at HO ⊢
    dsimp only at HO x1 ⊢
    rw [z0] at HO
    replace HO := hid HO
    go_enter Try.func49, Try.ntmps49
    go_wp2_with fail
    refine (HO.out _).mono ?_
    rintro e w1 ⟨rfl, b1⟩
    have hb : Below w.heap.size w w1 := ((((Below.refl _ _).alloc (Nat.le_refl _) _).alloc (by simp) _).alloc (by simp <;> omega) _).trans (b1.mono (by simp; omega))
    obtain ⟨hc1, hf1⟩ := bcell b1
    have hz1_0 : w.heap.size < w1.heap.size := by have := b1.size; simp at this; omega
    have hz1_1 : w.heap.size + 1 < w1.heap.size := by have := b1.size; simp at this; omega
    have hz1_2 : w.heap.size + 1 + 1 < w1.heap.size := by have := b1.size; simp at this; omega
    have HB1 := hid hb
    clear b1 hb
    go_wp2
    exact bodyPost_ret (v := tv (0#64, 0#64)) (by simp [results, Try.results49, go_sem, hc1, hf1, hz1_0, hz1_1, hz1_2]; try rfl) rfl ⟨rfl, (HB1.out.setCell (by simp <;> omega) _).setCell (by simp <;> omega) _⟩
  · rw [if_neg h1]
    have x1 : (b.2 == 0#64) = false := by simp [h1]
    have y1 := ub_ne0 h1
    clear h1
    by_cases h2 : b.1 = 0#64
    · rw [if_pos h2]
      have x2 : (b.1 == 0#64) = true := by simp [h2]
      clear h2
      obtain ⟨v, m⟩ := a
      obtain ⟨v', m'⟩ := b
      dsimp only at x1 x2 y1
      unfold tv
      go_enter Try.func49, Try.ntmps49
      go_wp2
      exact bodyPost_ret (v := tv (0#64, m)) (by simp [results, Try.results49, go_sem]; try rfl) rfl ⟨rfl, ((((Below.refl _ _).alloc (Nat.le_refl _) _).alloc (by simp) _).alloc (by simp <;> omega) _)⟩
    · rw [if_neg h2]
      have x2 : (b.1 == 0#64) = false := by simp [h2]
      have y2 := ub_ne0 h2
      clear h2
      obtain ⟨v, m⟩ := a
      obtain ⟨v', m'⟩ := b
      dsimp only at x1 x2 y1 y2
      unfold tv
      go_enter Try.func49, Try.ntmps49
      go_wp2_with fail
      go_region
      go_wp2
      exact bodyPost_ret (v := tv (v / m', m / v')) (by simp [results, Try.results49, go_sem]; try rfl) rfl ⟨rfl, ((((Below.refl _ _).alloc (Nat.le_refl _) _).alloc (by simp) _).alloc (by simp <;> omega) _).drew⟩
end Go.Proofs.Ytjcnpjidkimldaa

namespace Go.Proofs.Ytjcnpjidkimldaa
set_option linter.unusedSimpArgs false
set_option linter.unusedVariables false
set_option maxRecDepth 100000
open Go.ChangeShapes Go.WideShapes Go.ChangeAt Go.RowKit

theorem sSum_any (c : Bool) (a b : Tn) (w : World) : Calls Try.prog 45 #[.int .i64 (szI c), tv a, tv b] w fun e w' => e = .returned (tv (sumS c a b)) ∧ Below w.heap.size w w' := by
  have HT := hid fun W => sTop_any c W
  have HA := fun W => add64_run (a.2 - a.1) (b.2 - b.1) W
  unfold sumS
  generalize topW c = T at *
  generalize szI c = SZ at *
  by_cases h1 : 18446744073709551616 ≤ (a.2 - a.1).toNat + (b.2 - b.1).toNat
  · rw [if_pos (Or.inl h1)]
    have hq : (((a.2 - a.1).toNat + (b.2 - b.1).toNat) / 18446744073709551616 : Nat) = 1 := by have := (a.2 - a.1).isLt; have := (b.2 - b.1).isLt; omega
    rw [hq] at HA
    clear h1 hq
    obtain ⟨v, m⟩ := a
    obtain ⟨v', m'⟩ := b
    unfold tv
    dsimp only at *
    go_enter Try.func45, Try.ntmps45
    go_wp2_with fail
    refine (HT.out _).mono ?_
    rintro e w1 ⟨rfl, rfl⟩
    go_wp2
    exact bodyPost_ret (v := tv (0#64, T)) (by simp [results, Try.results45, go_sem]; try rfl) rfl ⟨rfl, ((((Below.refl _ _).alloc (Nat.le_refl _) _).alloc (by simp) _).alloc (by simp <;> omega) _)⟩
  · have hq : (((a.2 - a.1).toNat + (b.2 - b.1).toNat) / 18446744073709551616 : Nat) = 0 := by omega
    by_cases h2 : (T - ((a.1 + b.1) &&& T)).toNat < ((a.2 - a.1) + (b.2 - b.1)).toNat
    · rw [if_pos (Or.inr h2)]
      rw [hq] at HA
      clear h1 hq
      replace h2 := of_ltn h2
      obtain ⟨v, m⟩ := a
      obtain ⟨v', m'⟩ := b
      unfold tv
      dsimp only at *
      go_enter Try.func45, Try.ntmps45
      go_wp2_with fail
      refine (HT.out _).mono ?_
      rintro e w1 ⟨rfl, rfl⟩
      go_wp2
      exact bodyPost_ret (v := tv (0#64, T)) (by simp [results, Try.results45, go_sem]; try rfl) rfl ⟨rfl, ((((Below.refl _ _).alloc (Nat.le_refl _) _).alloc (by simp) _).alloc (by simp <;> omega) _)⟩
    · rw [if_neg (by omega)]
      rw [hq] at HA
      clear h1 hq
      replace h2 := of_nltn h2
      obtain ⟨v, m⟩ := a
      obtain ⟨v', m'⟩ := b
      unfold tv
      dsimp only at *
      go_enter Try.func45, Try.ntmps45
      go_wp2_with fail
      refine (HT.out _).mono ?_
      rintro e w1 ⟨rfl, rfl⟩
      go_wp2
      exact bodyPost_ret (v := tv ((v + v') &&& T, ((v + v') &&& T) + ((m - v) + (m' - v')))) (by simp [results, Try.results45, go_sem]; try rfl) rfl ⟨rfl, ((((Below.refl _ _).alloc (Nat.le_refl _) _).alloc (by simp) _).alloc (by simp <;> omega) _)⟩
theorem sProd_any (c : Bool) (a b : Tn) (w : World) : Calls Try.prog 48 #[.int .i64 (szI c), tv a, tv b] w fun e w' => e = .returned (tv (prodS c a b)) ∧ Below w.heap.size w w' := by
  have HT := hid fun W => sTop_any c W
  have HA := fun W => sMul64_any a.2 b.2 W
  have hi := hiB_toNat a.2 b.2
  unfold prodS
  generalize topW c = T at *
  generalize szI c = SZ at *
  generalize hiB a.2 b.2 = hh at *
  by_cases h1 : 18446744073709551616 ≤ a.2.toNat * b.2.toNat
  · rw [if_pos (Or.inl h1)]
    have hq : (hh == 0#64) = false := by rw [beq_eq_false_iff_ne]; intro e; rw [toNat_zero_iff] at e; omega
    clear h1 hi
    obtain ⟨v, m⟩ := a
    obtain ⟨v', m'⟩ := b
    unfold tv
    dsimp only at *
    replace HA := hid HA
    go_enter Try.func48, Try.ntmps48
    go_wp2_with fail
    refine (HA.out _).mono ?_
    rintro e w1 ⟨rfl, rfl⟩
    go_wp2_with fail
    refine (HT.out _).mono ?_
    rintro e w1 ⟨rfl, rfl⟩
    go_wp2
    exact bodyPost_ret (v := tv (0#64, T)) (by simp [results, Try.results48, go_sem]; try rfl) rfl ⟨rfl, ((((Below.refl _ _).alloc (Nat.le_refl _) _).alloc (by simp) _).alloc (by simp <;> omega) _)⟩
  · have hq : (hh == 0#64) = true := by rw [beq_iff_eq, toNat_zero_iff]; omega
    by_cases h2 : T.toNat < (a.2 * b.2).toNat
    · rw [if_pos (Or.inr h2)]
      clear h1 hi
      replace h2 := of_ltn h2
      obtain ⟨v, m⟩ := a
      obtain ⟨v', m'⟩ := b
      unfold tv
      dsimp only at *
      replace HA := hid HA
      go_enter Try.func48, Try.ntmps48
      go_wp2_with fail
      refine (HA.out _).mono ?_
      rintro e w1 ⟨rfl, rfl⟩
      go_wp2_with fail
      refine (HT.out _).mono ?_
      rintro e w1 ⟨rfl, rfl⟩
      go_wp2_with fail
      refine (HT.out _).mono ?_
      rintro e w1 ⟨rfl, rfl⟩
      go_wp2
      exact bodyPost_ret (v := tv (0#64, T)) (by simp [results, Try.results48, go_sem]; try rfl) rfl ⟨rfl, ((((Below.refl _ _).alloc (Nat.le_refl _) _).alloc (by simp) _).alloc (by simp <;> omega) _)⟩
    · rw [if_neg (by omega)]
      clear h1 hi
      replace h2 := of_nltn h2
      obtain ⟨v, m⟩ := a
      obtain ⟨v', m'⟩ := b
      unfold tv
      dsimp only at *
      replace HA := hid HA
      go_enter Try.func48, Try.ntmps48
      go_wp2_with fail
      refine (HA.out _).mono ?_
      rintro e w1 ⟨rfl, rfl⟩
      go_wp2_with fail
      refine (HT.out _).mono ?_
      rintro e w1 ⟨rfl, rfl⟩
      go_wp2
      exact bodyPost_ret (v := tv (v * v', m * m')) (by simp [results, Try.results48, go_sem]; try rfl) rfl ⟨rfl, ((((Below.refl _ _).alloc (Nat.le_refl _) _).alloc (by simp) _).alloc (by simp <;> omega) _)⟩
theorem sRest_any (a b : Tn) (w : World) : Calls Try.prog 51 #[tv a, tv b] w fun e w' => e = .returned (tv (restS a b)) ∧ Below w.heap.size w w' := by
  unfold restS
  by_cases h1 : b.2 = 0#64
  · rw [if_pos (Or.inl h1)]
    have x1 : (b.2 == 0#64) = true := by simp [h1]
    clear h1
    obtain ⟨v, m⟩ := a
    obtain ⟨v', m'⟩ := b
    unfold tv
    dsimp only at *
    go_enter Try.func51, Try.ntmps51
    go_wp2
    exact bodyPost_ret (v := tv (v, m)) (by simp [results, Try.results51, go_sem]; try rfl) rfl ⟨rfl, ((((Below.refl _ _).alloc (Nat.le_refl _) _).alloc (by simp) _).alloc (by simp <;> omega) _)⟩
  · have x1 : (b.2 == 0#64) = false := by simp [h1]
    have y1 := ub_ne0 h1
    by_cases h2 : a.2.toNat < b.1.toNat
    · rw [if_pos (Or.inr h2)]
      clear h1
      replace h2 := of_ltn h2
      obtain ⟨v, m⟩ := a
      obtain ⟨v', m'⟩ := b
      unfold tv
      dsimp only at *
      go_enter Try.func51, Try.ntmps51
      go_wp2
      exact bodyPost_ret (v := tv (v, m)) (by simp [results, Try.results51, go_sem]; try rfl) rfl ⟨rfl, ((((Below.refl _ _).alloc (Nat.le_refl _) _).alloc (by simp) _).alloc (by simp <;> omega) _)⟩
    · rw [if_neg (fun h => h.elim h1 h2)]
      clear h1
      replace h2 := of_nltn h2
      by_cases h3 : b.1 = b.2
      · have x3 : (b.1 == b.2) = true := by simp [h3]
        by_cases h4 : a.1 / b.2 = a.2 / b.2
        · rw [if_pos ⟨h3, h4⟩]
          have x4 : (a.1 / b.2 == a.2 / b.2) = true := by simp [h4]
          clear h3 h4
          obtain ⟨v, m⟩ := a
          obtain ⟨v', m'⟩ := b
          unfold tv
          dsimp only at *
          go_enter Try.func51, Try.ntmps51
          go_wp2_with fail
          go_region
          go_wp2_with fail
          go_region
          go_wp2
          exact bodyPost_ret (v := tv (v % m', m % m')) (by simp [results, Try.results51, go_sem]; try rfl) rfl ⟨rfl, ((((Below.refl _ _).alloc (Nat.le_refl _) _).alloc (by simp) _).alloc (by simp <;> omega) _).drew.drew⟩
        · rw [if_neg (fun h => h4 h.2)]
          have x4 : (a.1 / b.2 == a.2 / b.2) = false := by simp [h4]
          have h5 : ¬ b.1 = 0#64 := by rw [h3]; intro e; rw [e] at x1; simp at x1
          rw [if_neg h5]
          have x5 : (b.1 == 0#64) = false := by simp [h5]
          clear h3 h4 h5
          obtain ⟨v, m⟩ := a
          obtain ⟨v', m'⟩ := b
          unfold tv
          dsimp only at *
          go_enter Try.func51, Try.ntmps51
          go_wp2_with fail
          go_region
          go_wp2
          exact bodyPost_ret (v := tv (0#64, bmin m (m' - 1#64))) (by simp [results, Try.results51, go_sem]; try rfl) rfl ⟨rfl, ((((Below.refl _ _).alloc (Nat.le_refl _) _).alloc (by simp) _).alloc (by simp <;> omega) _).drew⟩
      · have x3 : (b.1 == b.2) = false := by simp [h3]
        rw [if_neg (fun h => h3 h.1)]
        by_cases h5 : b.1 = 0#64
        · rw [if_pos h5]
          have x5 : (b.1 == 0#64) = true := by simp [h5]
          clear h3 h5
          obtain ⟨v, m⟩ := a
          obtain ⟨v', m'⟩ := b
          unfold tv
          dsimp only at *
          go_enter Try.func51, Try.ntmps51
          go_wp2_with fail
          go_region
          go_wp2
          exact bodyPost_ret (v := tv (0#64, m)) (by simp [results, Try.results51, go_sem]; try rfl) rfl ⟨rfl, ((((Below.refl _ _).alloc (Nat.le_refl _) _).alloc (by simp) _).alloc (by simp <;> omega) _).drew⟩
        · rw [if_neg h5]
          have x5 : (b.1 == 0#64) = false := by simp [h5]
          clear h3 h5
          obtain ⟨v, m⟩ := a
          obtain ⟨v', m'⟩ := b
          unfold tv
          dsimp only at *
          go_enter Try.func51, Try.ntmps51
          go_wp2_with fail
          go_region
          go_wp2
          exact bodyPost_ret (v := tv (0#64, bmin m (m' - 1#64))) (by simp [results, Try.results51, go_sem]; try rfl) rfl ⟨rfl, ((((Below.refl _ _).alloc (Nat.le_refl _) _).alloc (by simp) _).alloc (by simp <;> omega) _).drew⟩
@[go_sem] theorem szI_wrap (c : Bool) : IntKind.u64.wrap (szI c) = ub (sizeB c) := by cases c <;> kernel_rfl
theorem sCounts_any (c : Bool) (b : Tn) (w : World) : Calls Try.prog 47 #[.int .i64 (szI c), tv b] w fun e w' => e = .returned (tv (countS c b)) ∧ Below w.heap.size w w' := by
  have HM := fun W => sMay_any (b.1 % sizeB c, b.2 % sizeB c) W
  have y1 : ¬ ub (sizeB c) = 0 := by cases c <;> decide
  have e0 := szI_wrap c
  unfold countS
  generalize sizeB c = Z at *
  generalize szI c = SZ at *
  by_cases h1 : (Z - 1#64).toNat ≤ (b.2 - b.1).toNat
  · rw [if_pos (Or.inl h1)]
    replace h1 := of_le h1
    obtain ⟨v, m⟩ := b
    unfold tv at HM ⊢
    dsimp only at *
    replace HM := hid HM
    go_enter Try.func47, Try.ntmps47
    go_wp2_with fail
    go_region
    go_wp2
    exact bodyPost_ret (v := tv (0#64, Z - 1#64)) (by simp [results, Try.results47, go_sem]; try rfl) rfl ⟨rfl, ((((Below.refl _ _).alloc (Nat.le_refl _) _).alloc (by simp) _).alloc (by simp <;> omega) _).drew⟩
  · have h1u := of_nle h1
    by_cases h2 : (b.2 % Z).toNat < (b.1 % Z).toNat
    · rw [if_pos (Or.inr h2)]
      rw [show mayS (b.1 % Z, b.2 % Z) = false from decide_eq_false (by dsimp only; omega)] at HM
      obtain ⟨v, m⟩ := b
      unfold tv at HM ⊢
      dsimp only at *
      replace HM := hid HM
      go_enter Try.func47, Try.ntmps47
      go_wp2_with fail
      go_region
      go_wp2_with fail
      refine (HM.out _).mono ?_
      rintro e w1 ⟨rfl, b1⟩
      have hb : Below w.heap.size w w1 := ((((Below.refl _ _).alloc (Nat.le_refl _) _).alloc (by simp) _).alloc (by simp <;> omega) _).drew.trans (b1.mono (by simp; omega))
      obtain ⟨hc1, hf1⟩ := bcell b1
      have hz1_0 : w.heap.size < w1.heap.size := by have := b1.size; simp at this; omega
      have hz1_1 : w.heap.size + 1 < w1.heap.size := by have := b1.size; simp at this; omega
      have hz1_2 : w.heap.size + 1 + 1 < w1.heap.size := by have := b1.size; simp at this; omega
      have HB1 := hid hb
      clear b1 hb
      go_wp2
      exact bodyPost_ret (v := tv (0#64, Z - 1#64)) (by simp [results, Try.results47, go_sem, hc1, hf1, hz1_0, hz1_1, hz1_2]; try rfl) rfl ⟨rfl, (HB1.out.setCell (by simp <;> omega) _).setCell (by simp <;> omega) _⟩
    · rw [if_neg (by omega)]
      rw [show mayS (b.1 % Z, b.2 % Z) = true from decide_eq_true (by dsimp only; omega)] at HM
      obtain ⟨v, m⟩ := b
      unfold tv at HM ⊢
      dsimp only at *
      replace HM := hid HM
      go_enter Try.func47, Try.ntmps47
      go_wp2_with fail
      go_region
      go_wp2_with fail
      refine (HM.out _).mono ?_
      rintro e w1 ⟨rfl, b1⟩
      have hb : Below w.heap.size w w1 := ((((Below.refl _ _).alloc (Nat.le_refl _) _).alloc (by simp) _).alloc (by simp <;> omega) _).drew.trans (b1.mono (by simp; omega))
      obtain ⟨hc1, hf1⟩ := bcell b1
      have hz1_0 : w.heap.size < w1.heap.size := by have := b1.size; simp at this; omega
      have hz1_1 : w.heap.size + 1 < w1.heap.size := by have := b1.size; simp at this; omega
      have hz1_2 : w.heap.size + 1 + 1 < w1.heap.size := by have := b1.size; simp at this; omega
      have HB1 := hid hb
      clear b1 hb
      go_wp2
      exact bodyPost_ret (v := tv (v % Z, m % Z)) (by simp [results, Try.results47, go_sem, hc1, hf1, hz1_0, hz1_1, hz1_2]; try rfl) rfl ⟨rfl, (HB1.out.setCell (by simp <;> omega) _).setCell (by simp <;> omega) _⟩
end Go.Proofs.Ytjcnpjidkimldaa

namespace Go.Proofs.Ytjcnpjidkimldaa
set_option linter.unusedSimpArgs false
set_option linter.unusedVariables false
set_option maxRecDepth 100000
open Go.ChangeShapes Go.WideShapes Go.ChangeAt Go.RowKit

@[go_sem] theorem ub_2mul (x : B64) : IntKind.u64.wrap (2 * ub x) = ub (2#64 * x) := ub_wmul 2#64 x
@[go_sem] theorem ub_succ (x : B64) : IntKind.u64.wrap (ub x + 1) = ub (x + 1#64) := ub_wadd x 1#64
@[go_sem] theorem ub_tdiv2 (x : B64) : IntKind.u64.wrap ((ub x).tdiv 2) = ub (x / 2#64) := ub_tdiv x 2#64
@[go_sem] theorem ub_tmod64 (x : B64) : IntKind.u64.wrap ((ub x).tmod 64) = ub (x % 64#64) := ub_tmod x 64#64
@[go_sem] theorem ub_tmod32 (x : B64) : IntKind.u64.wrap ((ub x).tmod 32) = ub (x % 32#64) := ub_tmod x 32#64
@[go_sem] theorem ub_negO (x : B64) : IntKind.u64.wrap (-(ub x)) = ub (0#64 - x) := by
  have h := ub_wsub 0#64 x
  rw [show ub 0#64 = 0 from rfl, Int.zero_sub] at h
  exact h
theorem tmod_is (x y : B64) : (ub x).tmod (ub y) = ub (x % y) := by
  rw [Int.tmod_eq_emod_of_nonneg (ub_ge x)]; unfold ub; rw [BitVec.toNat_umod]; exact (Int.natCast_emod _ _).symm
@[go_sem] theorem ub_sub0 (x : B64) : IntKind.u64.wrap (0 - ub x) = ub (0#64 - x) := ub_wsub 0#64 x
theorem low_step (i : Nat) (h : i < 64) : 2#64 * (1#64 <<< i - 1#64) + 1#64 = 1#64 <<< (i + 1) - 1#64 := by
  apply BitVec.eq_of_toNat_eq
  rw [add64, BitVec.toNat_mul, toNat_low i (by omega), toNat_low (i + 1) (by omega), Nat.pow_succ, show (2#64 : B64).toNat = 2 from rfl, show (1#64 : B64).toNat = 1 from rfl]
  have h1 : 2 ^ i ≤ 2 ^ 63 := Nat.pow_le_pow_right (by decide) (by omega)
  have h2 := Nat.two_pow_pos i
  omega
theorem pow_step (i : Nat) : 2#64 * (1#64 <<< i) = 1#64 <<< (i + 1) := by
  apply BitVec.eq_of_toNat_eq
  rw [BitVec.toNat_mul, BitVec.toNat_shiftLeft, BitVec.toNat_shiftLeft, Nat.shiftLeft_eq, Nat.shiftLeft_eq, show (2#64 : B64).toNat = 2 from rfl, show (1#64 : B64).toNat = 1 from rfl, Nat.pow_succ]
  omega
theorem qTop_any (k : Nat) (w : World) (hk : k ≤ 64) : Calls Try.prog 21 #[.int .i64 (k : Int)] w fun e w' => e = .returned (.int .u64 (ub (1#64 <<< k - 1#64))) ∧ w' = w := by
  obtain ⟨R, HR⟩ : ∃ R : B64, R = 1#64 <<< k - 1#64 := ⟨_, rfl⟩
  rw [← HR]
  replace HR := hid HR
  go_enter Try.func21, Try.ntmps21
  go_wp2_with fail
  go_loopw [3, 4] (fun n i wr => ∃ j : Nat, j ≤ k ∧ i = .int .i64 j ∧ n = .int .u64 (ub (1#64 <<< j - 1#64)) ∧ Hid (wr = w)) (fun n i _ => k - (intOf i).toNat)
  case atStart => exact ⟨0, by omega, rfl, rfl, hid rfl⟩
  case round =>
    obtain ⟨j, hj, rfl, rfl, HI⟩ := hrel
    by_cases hlt : j < k
    · have hlt' : (j : Int) < k := by omega
      have HS := hid (low_step j (by omega))
      generalize 1#64 <<< j - 1#64 = n at *
      go_wp2
      go_roundw
      case rel => exact ⟨j + 1, by omega, by go_num, by rw [HS.out], HI⟩
      case measure => simp [intOf]; omega
    · have hlt' : ¬ (j : Int) < k := by omega
      obtain rfl : j = k := by omega
      rw [← HR.out]
      obtain rfl := HI.out
      go_wp2
      go_ret
      exact ⟨rfl, rfl⟩
theorem qPower_any (k : Nat) (w : World) (hk : k ≤ 64) : Calls Try.prog 55 #[.int .i64 (k : Int)] w fun e w' => e = .returned (.int .u64 (ub (1#64 <<< k))) ∧ w' = w := by
  obtain ⟨R, HR⟩ : ∃ R : B64, R = 1#64 <<< k := ⟨_, rfl⟩
  rw [← HR]
  replace HR := hid HR
  go_enter Try.func55, Try.ntmps55
  go_wp2_with fail
  go_loopw [3, 4] (fun n i wr => ∃ j : Nat, j ≤ k ∧ i = .int .i64 j ∧ n = .int .u64 (ub (1#64 <<< j)) ∧ Hid (wr = w)) (fun n i _ => k - (intOf i).toNat)
  case atStart => exact ⟨0, by omega, rfl, rfl, hid rfl⟩
  case round =>
    obtain ⟨j, hj, rfl, rfl, HI⟩ := hrel
    by_cases hlt : j < k
    · have hlt' : (j : Int) < k := by omega
      have HS := hid (pow_step j)
      generalize 1#64 <<< j = n at *
      go_wp2
      go_roundw
      case rel => exact ⟨j + 1, by omega, by go_num, by rw [HS.out], HI⟩
      case measure => simp [intOf]; omega
    · have hlt' : ¬ (j : Int) < k := by omega
      obtain rfl : j = k := by omega
      rw [← HR.out]
      obtain rfl := HI.out
      go_wp2
      go_ret
      exact ⟨rfl, rfl⟩
def drB (p x : B64) : Nat → B64
  | 0 => x
  | k + 1 => drB p x k / 2#64 + (drB p x k &&& p)
theorem qDrawn_any (c : Bool) (x : B64) (k : Nat) (w : World) (hk : k ≤ 64) : Calls Try.prog 56 #[.int .u64 (ub x), .int .i64 (k : Int), .int .i64 (szI c)] w fun e w' => e = .returned (.int .u64 (ub (drB (1#64 <<< (sizeW c - 1)) x k))) ∧ w' = w := by
  have HP := fun W => qPower_any (sizeW c - 1) W (by have := sizeW_le c; omega)
  obtain ⟨R, HR⟩ : ∃ R : B64, R = drB (1#64 <<< (sizeW c - 1)) x k := ⟨_, rfl⟩
  rw [← HR]
  generalize 1#64 <<< (sizeW c - 1) = P at *
  replace HR := hid HR
  have e1 : IntKind.i64.wrap (szI c - 1) = ((sizeW c - 1 : Nat) : Int) := by cases c <;> kernel_rfl
  generalize ((sizeW c - 1 : Nat) : Int) = Q at *
  generalize szI c = SZ at *
  replace HP := hid HP
  go_enter Try.func56, Try.ntmps56
  go_wp2_with fail
  go_loopw [0, 7] (fun n i wr => ∃ j : Nat, j ≤ k ∧ i = .int .i64 j ∧ n = .int .u64 (ub (drB P x j)) ∧ Hid (wr = w)) (fun n i _ => k - (intOf i).toNat)
  case atStart => exact ⟨0, by omega, rfl, rfl, hid rfl⟩
  case round =>
    obtain ⟨j, hj, rfl, rfl, HI⟩ := hrel
    by_cases hlt : j < k
    · have hlt' : (j : Int) < k := by omega
      have HS := hid (show drB P x (j + 1) = drB P x j / 2#64 + (drB P x j &&& P) from rfl)
      generalize drB P x j = n at *
      go_wp2_with fail
      refine (HP.out _).mono ?_
      rintro e w1 ⟨rfl, rfl⟩
      go_wp2
      go_roundw
      case rel => exact ⟨j + 1, by omega, by go_num, by rw [HS.out], HI⟩
      case measure => simp [intOf]; omega
    · have hlt' : ¬ (j : Int) < k := by omega
      obtain rfl : j = k := by omega
      rw [← HR.out]
      obtain rfl := HI.out
      go_wp2
      go_ret
      exact ⟨rfl, rfl⟩
theorem max64 : (18446744073709551615 : Int) = ub 18446744073709551615#64 := by kernel_rfl
@[go_sem] theorem ub_eqmax (x : B64) : (ub x == 18446744073709551615) = (x == 18446744073709551615#64) := by rw [max64, ub_eqi]
end Go.Proofs.Ytjcnpjidkimldaa

namespace Go.Proofs.Ytjcnpjidkimldaa
set_option linter.unusedSimpArgs false
set_option linter.unusedVariables false
set_option maxRecDepth 100000
open Go.ChangeShapes Go.WideShapes Go.ChangeAt Go.RowKit

theorem ib_small (x : B64) (h : x.toNat < 9223372036854775808) : ib x = ((x.toNat : Nat) : Int) := by
  unfold ib
  rw [BitVec.toInt_eq_toNat_cond]
  split <;> omega
def shB (c : Bool) (y : B64) : Nat := (y % sizeB c).toNat
theorem shB_lt (c : Bool) (y : B64) : shB c y < sizeW c := by
  unfold shB
  rw [BitVec.toNat_umod]
  cases c
  · exact Nat.mod_lt _ (by decide)
  · exact Nat.mod_lt _ (by decide)
/-- An operation of two numbers that are cut. -/
def oneC (op : Nat) (c : Bool) (x y : B64) : B64 :=
  match op with
  | 0 => (x + y) &&& topW c
  | 1 => (x - y) &&& topW c
  | 2 => (x * y) &&& topW c
  | 3 => if y = 0#64 then 0#64 else x / y
  | 4 => x ||| y
  | 5 => x &&& y
  | 6 => (x * (1#64 <<< shB c y)) &&& topW c
  | 7 => x / (1#64 <<< shB c y)
  | 8 => (0#64 - x) &&& topW c
  | 9 => if y = 0#64 then x else x % y
  | 10 => x ^^^ y
  | 11 => y
  | _ => drB (1#64 <<< (sizeW c - 1)) x (shB c y)
def oneB (op : Nat) (c : Bool) (x y : B64) : B64 := oneC op c (x &&& topW c) (y &&& topW c)
theorem and_pow (y n : Nat) : y &&& 2 ^ n = if y.testBit n = true then 2 ^ n else 0 := by
  apply Nat.eq_of_testBit_eq
  intro i
  rw [Nat.testBit_and, Nat.testBit_two_pow]
  by_cases h : n = i
  · subst h
    cases hb : y.testBit n <;> simp
  · cases hb : y.testBit n <;> simp [h, Nat.testBit_two_pow]
theorem drB_is (c : Bool) (x : B64) (hx : x.toNat < modW c) (k : Nat) : (drB (1#64 <<< (sizeW c - 1)) x k).toNat = drawN c x.toNat k := by
  have hp : (1#64 <<< (sizeW c - 1)).toNat = 2 ^ (sizeW c - 1) := by
    have h1 := sizeW_le c
    have h2 : 0 < sizeW c := by cases c <;> decide
    exact toNat_bit _ (by omega)
  have hM : modW c / 2 = 2 ^ (sizeW c - 1) ∧ modW c = 2 * 2 ^ (sizeW c - 1) := by cases c <;> decide
  have hle := modW_le c
  have an : ∀ y : B64, y.toNat < modW c → (y &&& 1#64 <<< (sizeW c - 1)).toNat = if y.toNat < modW c / 2 then 0 else modW c / 2 := by
    intro y hy
    rw [BitVec.toNat_and, hp, and_pow]
    by_cases h : y.toNat < modW c / 2
    · rw [if_pos h, Nat.testBit_lt_two_pow (by omega)]; simp
    · rw [if_neg h]
      have : y.toNat.testBit (sizeW c - 1) = true := by
        rw [Nat.testBit_eq_decide_div_mod_eq]
        have : y.toNat / 2 ^ (sizeW c - 1) = 1 := by
          rw [Nat.div_eq_iff (Nat.two_pow_pos _)]
          omega
        rw [this]; rfl
      rw [this, hM.1]; simp
  have bd : ∀ k, drawN c x.toNat k < modW c ∧ (x.toNat < modW c / 2 ↔ drawN c x.toNat k < modW c / 2) := by
    intro k
    unfold drawN
    have d1 := Nat.div_le_self x.toNat (2 ^ k)
    have d2 := Nat.div_le_self (modW c - 1 - x.toNat) (2 ^ k)
    generalize x.toNat / 2 ^ k = p at *
    generalize (modW c - 1 - x.toNat) / 2 ^ k = q at *
    split <;> omega
  induction k with
  | zero =>
    show x.toNat = _
    unfold drawN
    simp only [Nat.pow_zero, Nat.div_one]
    split <;> omega
  | succ k ih =>
    have b := bd k
    show (drB (1#64 <<< (sizeW c - 1)) x k / 2#64 + (drB (1#64 <<< (sizeW c - 1)) x k &&& 1#64 <<< (sizeW c - 1))).toNat = _
    rw [add64, BitVec.toNat_udiv, an _ (by rw [ih]; exact b.1), ih, show (2#64 : B64).toNat = 2 from rfl]
    by_cases h : x.toNat < modW c / 2
    · rw [if_pos (b.2.1 h)]
      have e1 : drawN c x.toNat k = x.toNat / 2 ^ k := if_pos h
      have e2 : drawN c x.toNat (k + 1) = x.toNat / 2 ^ k / 2 := by
        rw [Nat.div_div_eq_div_mul, ← Nat.pow_succ]; exact if_pos h
      rw [e2, e1]
      have := b.1
      omega
    · rw [if_neg (fun hh => h (b.2.2 hh))]
      have e1 : drawN c x.toNat k = modW c - 1 - (modW c - 1 - x.toNat) / 2 ^ k := if_neg h
      have e2 : drawN c x.toNat (k + 1) = modW c - 1 - (modW c - 1 - x.toNat) / 2 ^ k / 2 := by
        rw [Nat.div_div_eq_div_mul, ← Nat.pow_succ]; exact if_neg h
      have d2 := Nat.div_le_self (modW c - 1 - x.toNat) (2 ^ k)
      rw [e2, e1]
      generalize (modW c - 1 - x.toNat) / 2 ^ k = q at *
      omega
end Go.Proofs.Ytjcnpjidkimldaa

namespace Go.Proofs.Ytjcnpjidkimldaa
set_option linter.unusedSimpArgs false
set_option linter.unusedVariables false
set_option maxRecDepth 100000
open Go.ChangeShapes Go.WideShapes Go.ChangeAt Go.RowKit

@[go_sem] theorem ub_dbl (x : B64) : IntKind.u64.wrap (ub x * 2) = ub (x <<< 1) := by have h := ub_wshl x 1; rw [Int.pow_succ, Int.pow_zero, Int.one_mul] at h; exact h
theorem sHalf_any (a : Tn) (bit is : B64) (w : World) : Calls Try.prog 84 #[tv a, .int .u64 (ub bit), .int .u64 (ub is)] w fun e w' => e = .returned (.tuple #[tv (halfS a bit is), .bool (halfOk a bit is)]) ∧ Below w.heap.size w w' := by
  have HM := fun W => sMeet_any a (halfP a bit is) W
  rw [show meetS a (halfP a bit is) = halfS a bit is from rfl, show mayS (meetP a (halfP a bit is)) = halfOk a bit is from rfl] at HM
  generalize halfS a bit is = R at *
  generalize halfOk a bit is = B at *
  obtain ⟨v, m⟩ := a
  unfold halfP firstS at HM
  unfold tv at HM ⊢
  dsimp only at HM ⊢
  replace HM := hid HM
  go_enter Try.func84, Try.ntmps84
  go_wp2_with fail
  refine (HM.out _).mono ?_
  rintro e w1 ⟨rfl, b1⟩
  have hb : Below w.heap.size w w1 := (((Below.refl _ _).alloc (Nat.le_refl _) _).alloc (by simp) _).trans (b1.mono (by simp; omega))
  obtain ⟨hc1, hf1⟩ := bcell b1
  have hz1_0 : w.heap.size < w1.heap.size := by have := b1.size; simp at this; omega
  have hz1_1 : w.heap.size + 1 < w1.heap.size := by have := b1.size; simp at this; omega
  have HB1 := hid hb
  clear b1 hb
  go_wp2
  exact bodyPost_ret (v := .tuple #[tv R, .bool B]) (by simp [results, Try.results84, go_sem, hc1, hf1, hz1_0, hz1_1]; try rfl) rfl ⟨rfl, (HB1.out.setCell (by simp <;> omega) _).setCell (by simp <;> omega) _⟩
theorem cOrS (x y : B64) (w : World) : Calls Try.prog 74 #[.int .u64 (ub x), .int .u64 (ub y)] w fun e w' => e = .returned (.int .u64 (ub (x ||| y))) ∧ w' = w := by
  go_enter Try.func74, Try.ntmps74
  go_wp2
  go_ret
  exact ⟨rfl, rfl⟩
theorem cAndS (x y : B64) (w : World) : Calls Try.prog 75 #[.int .u64 (ub x), .int .u64 (ub y)] w fun e w' => e = .returned (.int .u64 (ub (x &&& y))) ∧ w' = w := by
  go_enter Try.func75, Try.ntmps75
  go_wp2
  go_ret
  exact ⟨rfl, rfl⟩
theorem cXorS (x y : B64) (w : World) : Calls Try.prog 76 #[.int .u64 (ub x), .int .u64 (ub y)] w fun e w' => e = .returned (.int .u64 (ub (x ^^^ y))) ∧ w' = w := by
  go_enter Try.func76, Try.ntmps76
  go_wp2
  go_ret
  exact ⟨rfl, rfl⟩
/-- Two spans' cells, one behind the other. -/
def pv (K : Tn × Tn) : Value := .agg #[.int .u64 (ub K.1.1), .int .u64 (ub K.1.2), .int .u64 (ub K.2.1), .int .u64 (ub K.2.2)]
def PC (w : World) (b : Nat) (K : Tn × Tn) : Prop := b < w.heap.size ∧ w.cell? ⟨b, 0, none⟩ = some (.int .u64 (ub K.1.1)) ∧ w.cell? ⟨b, 1, none⟩ = some (.int .u64 (ub K.1.2)) ∧ w.cell? ⟨b, 2, none⟩ = some (.int .u64 (ub K.2.1)) ∧ w.cell? ⟨b, 3, none⟩ = some (.int .u64 (ub K.2.2)) ∧
  w.frozen? ⟨b, 0, none⟩ = false ∧ w.frozen? ⟨b, 1, none⟩ = false ∧ w.frozen? ⟨b, 2, none⟩ = false ∧ w.frozen? ⟨b, 3, none⟩ = false
theorem PC.below {w w' : World} {b : Nat} {K : Tn × Tn} (h : PC w b K) (hb : Below w.heap.size w w') : PC w' b K := by
  obtain ⟨h0, h1, h2, h3, h4, f1, f2, f3, f4⟩ := h
  exact ⟨Nat.lt_of_lt_of_le h0 hb.size, (hb.cell h0).trans h1, (hb.cell h0).trans h2, (hb.cell h0).trans h3, (hb.cell h0).trans h4,
    (hb.frozen (p := ⟨b, 0, none⟩) h0).trans f1, (hb.frozen (p := ⟨b, 1, none⟩) h0).trans f2, (hb.frozen (p := ⟨b, 2, none⟩) h0).trans f3, (hb.frozen (p := ⟨b, 3, none⟩) h0).trans f4⟩
theorem PC.new {w : World} {K : Tn × Tn} {t : TypeId} {b : Nat} (hb : b = w.heap.size) : PC (w.alloc (.cells #[.int .u64 (ub K.1.1), .int .u64 (ub K.1.2), .int .u64 (ub K.2.1), .int .u64 (ub K.2.2)] t)) b K := by
  subst hb
  refine ⟨by simp, ?_, ?_, ?_, ?_, ?_, ?_, ?_, ?_⟩ <;> simp
def put4 (w : World) (b : Nat) (K : Tn × Tn) : World := (((w.setCell ⟨b, 0, none⟩ (.int .u64 (ub K.1.1))).setCell ⟨b, 1, none⟩ (.int .u64 (ub K.1.2))).setCell ⟨b, 2, none⟩ (.int .u64 (ub K.2.1))).setCell ⟨b, 3, none⟩ (.int .u64 (ub K.2.2))
theorem put4_heap (w : World) (b : Nat) (K : Tn × Tn) {b' : Nat} (h : b' ≠ b) : (put4 w b K).heap[b']? = w.heap[b']? :=
  (((Below.heap_setCell _ _ _ _ h).trans (Below.heap_setCell _ _ _ _ h)).trans (Below.heap_setCell _ _ _ _ h)).trans (Below.heap_setCell _ _ _ _ h)
theorem put4_below {n : Nat} {w w1 : World} {b : Nat} (K : Tn × Tn) (h : Below n w w1) (hb : n ≤ b) : Below n w (put4 w1 b K) :=
  (((h.setCell (p := ⟨b, 0, none⟩) hb _).setCell (p := ⟨b, 1, none⟩) hb _).setCell (p := ⟨b, 2, none⟩) hb _).setCell (p := ⟨b, 3, none⟩) hb _
theorem put4_size (w : World) (b : Nat) (K : Tn × Tn) : (put4 w b K).heap.size = w.heap.size := by unfold put4; simp
theorem PC.put {w : World} {b : Nat} {K : Tn × Tn} (h : PC w b K) (U : Tn × Tn) : PC (put4 w b U) b U := by
  obtain ⟨h0, h1, h2, h3, h4, f1, f2, f3, f4⟩ := h
  have o : ∀ (w : World) (i j : Nat) (v : Value), i ≠ j → (w.setCell ⟨b, j, none⟩ v).cell? ⟨b, i, none⟩ = w.cell? ⟨b, i, none⟩ := fun w i j v hij => World.cell?_setCell_other _ _ _ _ (fun h => hij (congrArg Addr.off h).symm)
  unfold put4
  refine ⟨by simp; exact h0, ?_, ?_, ?_, ?_, by simp; exact f1, by simp; exact f2, by simp; exact f3, by simp; exact f4⟩
  · rw [o _ 0 3 _ (by decide), o _ 0 2 _ (by decide), o _ 0 1 _ (by decide)]; exact World.cell?_setCell_same _ _ _ h1
  · rw [o _ 1 3 _ (by decide), o _ 1 2 _ (by decide)]; exact World.cell?_setCell_same _ _ _ ((o _ 1 0 _ (by decide)).trans h2)
  · rw [o _ 2 3 _ (by decide)]; exact World.cell?_setCell_same _ _ _ ((o _ 2 1 _ (by decide)).trans ((o _ 2 0 _ (by decide)).trans h3))
  · exact World.cell?_setCell_same _ _ _ ((o _ 3 2 _ (by decide)).trans ((o _ 3 1 _ (by decide)).trans ((o _ 3 0 _ (by decide)).trans h4)))
theorem PC.other {w : World} {b c : Nat} {K : Tn × Tn} (h : PC w b K) (hbc : b ≠ c) (U : Tn × Tn) : PC (put4 w c U) b K := by
  obtain ⟨h0, h1, h2, h3, h4, f1, f2, f3, f4⟩ := h
  have e := put4_heap w c U hbc
  exact ⟨by rw [put4_size]; exact h0, (World.cell?_of_block (w := w) (a := ⟨b, 0, none⟩) e).trans h1, (World.cell?_of_block (w := w) (a := ⟨b, 1, none⟩) e).trans h2, (World.cell?_of_block (w := w) (a := ⟨b, 2, none⟩) e).trans h3, (World.cell?_of_block (w := w) (a := ⟨b, 3, none⟩) e).trans h4,
    (World.frozen?_of_block (w := w) (a := ⟨b, 0, none⟩) e).trans f1, (World.frozen?_of_block (w := w) (a := ⟨b, 1, none⟩) e).trans f2, (World.frozen?_of_block (w := w) (a := ⟨b, 2, none⟩) e).trans f3, (World.frozen?_of_block (w := w) (a := ⟨b, 3, none⟩) e).trans f4⟩
/-- One cell that holds a function. -/
def FC (w : World) (q : Nat) (D : FuncId) : Prop := q < w.heap.size ∧ w.cell? ⟨q, 0, none⟩ = some (.func (.func D) #[] #[])
theorem FC.below {w w' : World} {q : Nat} {D : FuncId} (h : FC w q D) (hb : Below w.heap.size w w') : FC w' q D := ⟨Nat.lt_of_lt_of_le h.1 hb.size, (hb.cell h.1).trans h.2⟩
theorem FC.other {w : World} {q c : Nat} {D : FuncId} (h : FC w q D) (hqc : q ≠ c) (U : Tn × Tn) : FC (put4 w c U) q D :=
  ⟨by rw [put4_size]; exact h.1, (World.cell?_of_block (w := w) (a := ⟨q, 0, none⟩) (put4_heap w c U hqc)).trans h.2⟩
def wx (bit : B64) (k : Nat) : B64 := if k < 2 then bit else 0#64
def wy (bit : B64) (k : Nat) : B64 := if k = 0 ∨ k = 2 then bit else 0#64
def stN (f : B64 → B64 → B64) (K : Tn × Tn) (bit : B64) : Nat → (Tn × Tn) × B64
  | 0 => (K, 18446744073709551615#64)
  | k + 1 => wayS f K bit (stN f K bit k) (wx bit k) (wy bit k)
theorem stN_four (f : B64 → B64 → B64) (K : Tn × Tn) (bit : B64) : (stN f K bit 4).1 = stepS f K bit := rfl
structure LeI (w : World) (q : Nat) (D : FuncId) (K : Tn × Tn) (st : Tn × Tn) (wr : World) : Prop where
  kc : PC wr w.heap.size K
  bc : PC wr (w.heap.size + 2) st
  rc : PC wr (w.heap.size + 1) (t0, t0)
  fc : FC wr q D
  bel : Below w.heap.size w wr
theorem LeI.next {w : World} {q : Nat} {D : FuncId} {K st : Tn × Tn} {wr w' : World} (h : LeI w q D K st wr) (hb : Below wr.heap.size wr w') : LeI w q D K st w' :=
  ⟨h.kc.below hb, h.bc.below hb, h.rc.below hb, h.fc.below hb, h.bel.trans (hb.mono h.bel.size)⟩
theorem LeI.put {w : World} {q : Nat} {D : FuncId} {K st : Tn × Tn} {wr : World} (h : LeI w q D K st wr) (hq : q < w.heap.size) (U : Tn × Tn) : LeI w q D K U (put4 wr (w.heap.size + 2) U) :=
  ⟨h.kc.other (by omega) U, h.bc.put U, h.rc.other (by omega) U, h.fc.other (by omega) U, put4_below U h.bel (by omega)⟩
/-- A way's cells. -/
def WC (w : World) (b : Nat) (x y : B64) : Prop := b < w.heap.size ∧ w.cell? ⟨b, 0, none⟩ = some (.int .u64 (ub x)) ∧ w.cell? ⟨b, 1, none⟩ = some (.int .u64 (ub y))
theorem WC.below {w w' : World} {b : Nat} {x y : B64} (h : WC w b x y) (hb : Below w.heap.size w w') : WC w' b x y := ⟨Nat.lt_of_lt_of_le h.1 hb.size, (hb.cell h.1).trans h.2.1, (hb.cell h.1).trans h.2.2⟩
theorem WC.new {w : World} {x y : B64} {t : TypeId} {b : Nat} (hb : b = w.heap.size) : WC (w.alloc (.cells #[.int .u64 (ub x), .int .u64 (ub y)] t)) b x y := by
  subst hb
  refine ⟨by simp, ?_, ?_⟩ <;> simp
end Go.Proofs.Ytjcnpjidkimldaa

namespace Go.Proofs.Ytjcnpjidkimldaa
set_option linter.unusedSimpArgs false
set_option linter.unusedVariables false
set_option maxRecDepth 100000
open Go.ChangeShapes Go.WideShapes Go.ChangeAt Go.RowKit

theorem way_at (bit : B64) (k : Nat) (hk : k < 4) (w : World) : (Instr.index 98 (.agg #[.int .u64 (ub bit), .int .u64 (ub bit), .int .u64 (ub bit), .int .u64 0, .int .u64 0, .int .u64 (ub bit), .int .u64 0, .int .u64 0]) (.int .i64 (k : Int))).run Try.prog w = .ok (.agg #[.int .u64 (ub (wx bit k)), .int .u64 (ub (wy bit k))]) w := by
  obtain rfl | rfl | rfl | rfl : k = 0 ∨ k = 1 ∨ k = 2 ∨ k = 3 := by omega
  · kernel_rfl
  · kernel_rfl
  · kernel_rfl
  · kernel_rfl
set_option maxRecDepth 20000 in
set_option maxHeartbeats 4000000 in
theorem cWay (D : FuncId) (f : B64 → B64 → B64) (HE0 : ∀ (args : Array Value) (w : World), (callFunc D args).run Try.prog w = .ok (.enter D args) w) (HD0 : ∀ x y W, Calls Try.prog D #[.int .u64 (ub x), .int .u64 (ub y)] W fun e w' => e = .returned (.int .u64 (ub (f x y))) ∧ w' = W)
    (K : Tn × Tn) (bit : B64) (q : Nat) (w : World) (hf : FC w q D) :
    Calls Try.prog 83 #[pv K, .int .u64 (ub bit), .pointer (some ⟨q, 0, none⟩)] w fun e w' => e = .returned (pv (stepS f K bit)) ∧ Below w.heap.size w w' := by
  have HD := hid HD0
  have HE := hid HE0
  clear HD0 HE0
  have hq := hf.1
  have HF := hid hf
  clear hf
  rw [← stN_four]
  have HX := hid (way_at bit)
  obtain ⟨R, HR⟩ : ∃ R : Tn × Tn, R = (stN f K bit 4).1 := ⟨_, rfl⟩
  rw [← HR]
  replace HR := hid HR
  unfold pv
  go_enter Try.func83, Try.ntmps83
  go_wp2_with fail
  go_loopw [7, 25] (fun l i wr => ∃ k : Nat, k ≤ 4 ∧ i = .int .i64 k ∧ l = .int .u64 (ub (stN f K bit k).2) ∧ Hid (LeI w q D K (stN f K bit k).1 wr)) (fun l i _ => 4 - (intOf i).toNat)
  case atStart =>
    refine ⟨0, by omega, rfl, rfl, hid ?_⟩
    have e1 := PC.new (w := w) (K := K) (t := 95) rfl
    have s1 : (w.alloc (.cells #[.int .u64 (ub K.1.1), .int .u64 (ub K.1.2), .int .u64 (ub K.2.1), .int .u64 (ub K.2.2)] 95)).heap.size = w.heap.size + 1 := by simp
    have e2 := PC.new (w := w.alloc (.cells #[.int .u64 (ub K.1.1), .int .u64 (ub K.1.2), .int .u64 (ub K.2.1), .int .u64 (ub K.2.2)] 95)) (K := (t0, t0)) (t := 95) s1.symm
    have b1 : Below w.heap.size w (w.alloc (.cells #[.int .u64 (ub K.1.1), .int .u64 (ub K.1.2), .int .u64 (ub K.2.1), .int .u64 (ub K.2.2)] 95)) := (Below.refl _ _).alloc (Nat.le_refl _) _
    generalize w.alloc (.cells #[.int .u64 (ub K.1.1), .int .u64 (ub K.1.2), .int .u64 (ub K.2.1), .int .u64 (ub K.2.2)] 95) = u1 at *
    have b2 : Below u1.heap.size u1 (u1.alloc (.cells #[.int .u64 0, .int .u64 0, .int .u64 0, .int .u64 0] 95)) := (Below.refl _ _).alloc (Nat.le_refl _) _
    have s2 : (u1.alloc (.cells #[.int .u64 0, .int .u64 0, .int .u64 0, .int .u64 0] 95)).heap.size = w.heap.size + 2 := by simp; omega
    have e2' : PC (u1.alloc (.cells #[.int .u64 0, .int .u64 0, .int .u64 0, .int .u64 0] 95)) (w.heap.size + 1) (t0, t0) := e2
    generalize u1.alloc (.cells #[.int .u64 0, .int .u64 0, .int .u64 0, .int .u64 0] 95) = u2 at *
    have e3 := PC.new (w := u2) (K := K) (t := 95) s2.symm
    have b3 : Below u2.heap.size u2 (u2.alloc (.cells #[.int .u64 (ub K.1.1), .int .u64 (ub K.1.2), .int .u64 (ub K.2.1), .int .u64 (ub K.2.2)] 95)) := (Below.refl _ _).alloc (Nat.le_refl _) _
    exact ⟨(e1.below b2).below b3, e3, e2'.below b3, ((HF.out.below b1).below b2).below b3, (b1.trans (b2.mono b1.size)).trans (b3.mono (by omega))⟩
  case round =>
    obtain ⟨k, hk, rfl, rfl, HI⟩ := hrel
    obtain ⟨wo, rfl⟩ : ∃ wo : World, wo = wr := ⟨_, rfl⟩
    by_cases hlt : k < 4
    · have hlt' : (k : Int) < 4 := by omega
      have HXk := HX.out k hlt
      have HS : stN f K bit (k + 1) = wayS f K bit (stN f K bit k) (wx bit k) (wy bit k) := rfl
      generalize stN f K bit k = st at *
      obtain ⟨st', hst⟩ : ∃ st', st' = stN f K bit (k + 1) := ⟨_, rfl⟩
      rw [← hst] at HS
      have HST := hid hst
      clear hst
      generalize wx bit k = x at *
      generalize wy bit k = y at *
      have H1 := fun W => sHalf_any K.1 bit x W
      have H2 := fun W => sHalf_any K.2 bit y W
      unfold wayS at HS
      generalize halfS K.1 bit x = h1 at *
      generalize halfS K.2 bit y = h2 at *
      generalize halfOk K.1 bit x = c1 at *
      generalize halfOk K.2 bit y = c2 at *
      unfold tv at H1 H2
      replace H1 := hid H1
      replace H2 := hid H2
      replace HXk := hid HXk
      replace HS := hid HS
      have HDxy := hid (HD.out x y)
      generalize f x y = n at *
      have k1 := HI.out.kc.1
      have k2 := HI.out.kc.2.1
      have k3 := HI.out.kc.2.2.1
      have hX := HXk.out
      go_wp2_with fail
      refine (H1.out _).mono ?_
      rintro e w1 ⟨rfl, z1⟩
      have ba : Below wo.heap.size wo (wo.alloc (.cells #[.int .u64 (ub x), .int .u64 (ub y)] 97)) := (Below.refl _ _).alloc (Nat.le_refl _) _
      have W1 : WC w1 wo.heap.size x y := (WC.new rfl).below z1
      have I1 := (HI.out.next ba).next z1
      have n1 : w.heap.size + 2 < wo.heap.size := HI.out.bc.1
      clear k1 k2 k3 HI ba z1
      generalize wo.heap.size = g9 at *
      have k1 := I1.kc.1
      have k2 := I1.kc.2.2.2.1
      have k3 := I1.kc.2.2.2.2.1
      have v1 := W1.1
      have v2 := W1.2.1
      have v3 := W1.2.2
      go_wp2_with fail
      refine (H2.out _).mono ?_
      rintro e w2 ⟨rfl, z2⟩
      have ba : Below w1.heap.size w1 (w1.alloc (.cells #[.int .u64 (ub h1.1), .int .u64 (ub h1.2)] 24)) := (Below.refl _ _).alloc (Nat.le_refl _) _
      have W2 := (W1.below ba).below z2
      have X2 : WC w2 w1.heap.size h1.1 h1.2 := (WC.new rfl).below z2
      have I2 := (I1.next ba).next z2
      have n2 : w.heap.size + 2 < w1.heap.size := by omega
      clear k1 k2 k3 v1 v2 v3 I1 W1 ba z2
      generalize w1.heap.size = g10 at *
      have ba : Below w2.heap.size w2 (w2.alloc (.cells #[.int .u64 (ub h2.1), .int .u64 (ub h2.2)] 24)) := (Below.refl _ _).alloc (Nat.le_refl _) _
      have f1 := I2.fc.1
      have f2 := I2.fc.2
      have v1 := W2.1
      have v2 := W2.2.1
      have v3 := W2.2.2
      go_wp2_with fail
      rw [HE.out, Oper.upon_enter]
      refine (HDxy.out _).mono ?_
      rintro e w3 ⟨rfl, rfl⟩
      have I3 := I2.next ba
      have X3 := X2.below ba
      have Y3 : WC (w2.alloc (.cells #[.int .u64 (ub h2.1), .int .u64 (ub h2.2)] 24)) w2.heap.size h2.1 h2.2 := WC.new rfl
      have n3 : w.heap.size + 2 < w2.heap.size := I2.bc.1
      clear f1 f2 v1 v2 v3 I2 W2 X2 ba
      generalize w2.alloc (.cells #[.int .u64 (ub h2.1), .int .u64 (ub h2.2)] 24) = w4 at *
      generalize w2.heap.size = g12 at *
      cases c1
      · have hs : st' = st := HS.out
        clear HS
        go_wp2
        go_roundw
        case rel => exact ⟨k + 1, by omega, by go_num, by rw [← HST.out, hs], hid (by rw [← HST.out, hs]; exact I3)⟩
        case measure => simp [intOf]; omega
      · cases c2
        · have hs : st' = st := HS.out
          clear HS
          go_wp2
          go_roundw
          case rel => exact ⟨k + 1, by omega, by go_num, by rw [← HST.out, hs], hid (by rw [← HST.out, hs]; exact I3)⟩
          case measure => simp [intOf]; omega
        · by_cases hn : n.toNat < st.2.toNat
          · have hs : st' = ((h1, h2), n) := by rw [HS.out, decide_eq_true hn]; rfl
            have hn' := of_ltn hn
            clear HS hn
            have i0 := I3.bc.1
            obtain ⟨b0, b1, b2, b3, b4, b5, b6, b7, b8⟩ := I3.bc
            have x0 := X3.1
            have x1 := X3.2.1
            have x2 := X3.2.2
            have y0 := Y3.1
            have y1 := Y3.2.1
            have y2 := Y3.2.2
            have I4 := hid (I3.put hq (h1, h2))
            clear I3 X3 Y3
            go_wp2
            go_roundw
            case rel => exact ⟨k + 1, by omega, by go_num, by rw [← HST.out, hs], hid (by rw [← HST.out, hs]; exact I4.out)⟩
            case measure => simp [intOf]; omega
          · have hs : st' = st := by rw [HS.out, decide_eq_false hn]; rfl
            have hn' := of_nltn hn
            clear HS hn
            go_wp2
            go_roundw
            case rel => exact ⟨k + 1, by omega, by go_num, by rw [← HST.out, hs], hid (by rw [← HST.out, hs]; exact I3)⟩
            case measure => simp [intOf]; omega
    · obtain rfl : k = 4 := by omega
      have hlt' : ¬ ((4 : Nat) : Int) < 4 := by decide
      have I := HI.out
      have e1 : (stN f K bit 4).1 = R := HR.out.symm
      rw [e1] at I
      have c1 := I.bc.2.1
      have c2 := I.bc.2.2.1
      have c3 := I.bc.2.2.2.1
      have c4 := I.bc.2.2.2.2.1
      obtain ⟨r0, r1, r2, r3, r4, r5, r6, r7, r8⟩ := I.rc
      have HB := hid I.bel
      clear I HI e1 HR
      go_wp2
      refine bodyPost_ret (v := pv R) (by simp [results, Try.results83, go_sem, r0, r5, r6, r7, r8, r1, r2, r3, r4]; try rfl) rfl ⟨rfl, ?_⟩
      exact put4_below R HB.out (by omega)
end Go.Proofs.Ytjcnpjidkimldaa

namespace Go.Proofs.Ytjcnpjidkimldaa
set_option linter.unusedSimpArgs false
set_option linter.unusedVariables false
set_option maxRecDepth 100000
open Go.ChangeShapes Go.WideShapes Go.ChangeAt Go.RowKit

theorem bitAt_lt (j : Nat) (h : j < 64) : (bitAt j == 0#64) = false ∧ (ub (bitAt (j + 1))).toNat < (ub (bitAt j)).toNat ∧ bitAt (j + 1) = bitAt j >>> 1 := by
  have e := toNat_bit (63 - j) (by omega)
  rw [← bitAt_eq j h] at e
  have hp := Nat.two_pow_pos (63 - j)
  have e3 : bitAt (j + 1) = bitAt j >>> 1 := by unfold bitAt; rw [BitVec.shiftRight_add]
  refine ⟨by rw [beq_eq_false_iff_ne]; intro h0; rw [h0] at e; simp at e; omega, ?_, e3⟩
  rw [e3, ub_nat, ub_nat, BitVec.toNat_ushiftRight, Nat.shiftRight_eq_div_pow]
  omega
structure TpI (w : World) (q : Nat) (D : FuncId) (K : Tn × Tn) (wr : World) : Prop where
  kc : PC wr w.heap.size K
  rc : PC wr (w.heap.size + 1) (t0, t0)
  fc : FC wr q D
  bel : Below w.heap.size w wr
theorem TpI.next {w : World} {q : Nat} {D : FuncId} {K : Tn × Tn} {wr w' : World} (h : TpI w q D K wr) (hb : Below wr.heap.size wr w') : TpI w q D K w' :=
  ⟨h.kc.below hb, h.rc.below hb, h.fc.below hb, h.bel.trans (hb.mono h.bel.size)⟩
theorem TpI.put {w : World} {q : Nat} {D : FuncId} {K : Tn × Tn} {wr : World} (h : TpI w q D K wr) (hq : q < w.heap.size) (U : Tn × Tn) : TpI w q D U (put4 wr w.heap.size U) :=
  ⟨h.kc.put U, h.rc.other (by omega) U, h.fc.other (by omega) U, put4_below U h.bel (Nat.le_refl _)⟩
set_option maxRecDepth 20000 in
set_option maxHeartbeats 4000000 in
theorem sTopAll_any (D : FuncId) (f : B64 → B64 → B64) (HE0 : ∀ (args : Array Value) (w : World), (callFunc D args).run Try.prog w = .ok (.enter D args) w) (HD0 : ∀ x y W, Calls Try.prog D #[.int .u64 (ub x), .int .u64 (ub y)] W fun e w' => e = .returned (.int .u64 (ub (f x y))) ∧ w' = W)
    (K : Tn × Tn) (q : Nat) (w : World) (hf : FC w q D) :
    Calls Try.prog 82 #[pv K, .func (.func 83) #[] #[.pointer (some ⟨q, 0, none⟩)]] w fun e w' => e = .returned (pv (topS f K 64)) ∧ Below w.heap.size w w' := by
  have HC := hid fun K' bit W (h : FC W q D) => cWay D f HE0 HD0 K' bit q W h
  clear HE0 HD0
  have hq := hf.1
  have HF := hid hf
  clear hf
  obtain ⟨R, HR⟩ : ∃ R : Tn × Tn, R = topS f K 64 := ⟨_, rfl⟩
  rw [← HR]
  replace HR := hid HR
  unfold pv at HC ⊢
  go_enter Try.func82, Try.ntmps82
  go_wp2_with fail
  go_loopw [5] (fun b wr => ∃ j : Nat, j ≤ 64 ∧ b = .int .u64 (ub (bitAt j)) ∧ Hid (TpI w q D (topS f K j) wr)) (fun b _ => (intOf b).toNat)
  case atStart =>
    refine ⟨0, by omega, rfl, hid ?_⟩
    have e1 := PC.new (w := w) (K := K) (t := 95) rfl
    have s1 : (w.alloc (.cells #[.int .u64 (ub K.1.1), .int .u64 (ub K.1.2), .int .u64 (ub K.2.1), .int .u64 (ub K.2.2)] 95)).heap.size = w.heap.size + 1 := by simp
    have e2 := PC.new (w := w.alloc (.cells #[.int .u64 (ub K.1.1), .int .u64 (ub K.1.2), .int .u64 (ub K.2.1), .int .u64 (ub K.2.2)] 95)) (K := (t0, t0)) (t := 95) s1.symm
    have b1 : Below w.heap.size w (w.alloc (.cells #[.int .u64 (ub K.1.1), .int .u64 (ub K.1.2), .int .u64 (ub K.2.1), .int .u64 (ub K.2.2)] 95)) := (Below.refl _ _).alloc (Nat.le_refl _) _
    generalize w.alloc (.cells #[.int .u64 (ub K.1.1), .int .u64 (ub K.1.2), .int .u64 (ub K.2.1), .int .u64 (ub K.2.2)] 95) = u1 at *
    have b2 : Below u1.heap.size u1 (u1.alloc (.cells #[.int .u64 0, .int .u64 0, .int .u64 0, .int .u64 0] 95)) := (Below.refl _ _).alloc (Nat.le_refl _) _
    exact ⟨e1.below b2, e2, (HF.out.below b1).below b2, b1.trans (b2.mono b1.size)⟩
  case round =>
    obtain ⟨j, hj, rfl, HI⟩ := hrel
    obtain ⟨wo, rfl⟩ : ∃ wo : World, wo = wr := ⟨_, rfl⟩
    by_cases hlt : j < 64
    · obtain ⟨hb0, hb1, hb2⟩ := bitAt_lt j hlt
      have HS := hid (show topS f K (j + 1) = stepS f (topS f K j) (bitAt j) from rfl)
      replace hb1 := hid hb1
      replace hb2 := hid hb2
      generalize topS f K j = Kj at *
      have HCj := hid (fun W h => HC.out Kj (bitAt j) W h)
      obtain ⟨b, hbb⟩ : ∃ b, b = bitAt j := ⟨_, rfl⟩
      rw [← hbb] at hb0 HCj HS hb1 hb2 ⊢
      clear hbb
      generalize stepS f Kj b = Kn at *
      obtain ⟨k0, k1, k2, k3, k4, f1, f2, f3, f4⟩ := HI.out.kc
      go_wp2_with fail
      refine (HCj.out _ HI.out.fc).mono ?_
      rintro e w1 ⟨rfl, z1⟩
      have I1 := HI.out.next z1
      clear k0 k1 k2 k3 k4 f1 f2 f3 f4 HI z1
      obtain ⟨k0, k1, k2, k3, k4, f1, f2, f3, f4⟩ := I1.kc
      have I2 := hid (I1.put hq Kn)
      clear I1
      go_wp2
      go_roundw
      case rel => exact ⟨j + 1, by omega, by rw [hb2.out], hid (by rw [HS.out]; exact I2.out)⟩
      case measure => have := hb1.out; rw [hb2.out] at this; simpa [intOf] using this
    · obtain rfl : j = 64 := by omega
      have hb0 : (bitAt 64 == 0#64) = true := by decide
      generalize bitAt 64 = b at *
      have I := HI.out
      have e1 : topS f K 64 = R := HR.out.symm
      rw [e1] at I
      obtain ⟨k0, k1, k2, k3, k4, f1, f2, f3, f4⟩ := I.kc
      obtain ⟨r0, r1, r2, r3, r4, r5, r6, r7, r8⟩ := I.rc
      have HB := hid I.bel
      clear I HI e1 HR
      go_wp2
      refine bodyPost_ret (v := pv R) (by simp [results, Try.results82, go_sem, r0, r5, r6, r7, r8, r1, r2, r3, r4]; try rfl) rfl ⟨rfl, ?_⟩
      exact put4_below R HB.out (by omega)
theorem FC.new {w : World} {D : FuncId} {t : TypeId} {b : Nat} (hb : b = w.heap.size) : FC (w.alloc (.cells #[.func (.func D) #[] #[]] t)) b D := by
  subst hb
  exact ⟨by simp, by simp⟩
set_option maxRecDepth 20000 in
set_option maxHeartbeats 4000000 in
theorem sLeast_any (D : FuncId) (f : B64 → B64 → B64) (HE0 : ∀ (args : Array Value) (w : World), (callFunc D args).run Try.prog w = .ok (.enter D args) w) (HD0 : ∀ x y W, Calls Try.prog D #[.int .u64 (ub x), .int .u64 (ub y)] W fun e w' => e = .returned (.int .u64 (ub (f x y))) ∧ w' = W)
    (a b : Tn) (w : World) :
    Calls Try.prog 77 #[tv a, tv b, .func (.func D) #[] #[]] w fun e w' => e = .returned (.int .u64 (ub (leastS f a b))) ∧ Below w.heap.size w w' := by
  have HT := hid fun q W (h : FC W q D) => sTopAll_any D f HE0 HD0 (a, b) q W h
  have HE := hid HE0
  have HD := hid (HD0 (topS f (a, b) 64).1.1 (topS f (a, b) 64).2.1)
  rw [show f (topS f (a, b) 64).1.1 (topS f (a, b) 64).2.1 = leastS f a b from rfl] at HD
  clear HD0 HE0
  generalize leastS f a b = R at *
  generalize topS f (a, b) 64 = K at *
  obtain ⟨v, m⟩ := a
  obtain ⟨v', m'⟩ := b
  unfold pv at HT
  unfold tv
  dsimp only at HT ⊢
  go_enter Try.func77, Try.ntmps77
  go_wp2_with fail
  refine Calls.mono (HT.out _ _ ?_) ?_
  · exact FC.new (by simp)
  rintro e w1 ⟨rfl, z1⟩
  have hb : Below w.heap.size w w1 := ((((Below.refl _ _).alloc (Nat.le_refl _) _).alloc (by simp) _).alloc (by simp <;> omega) _).trans (z1.mono (by simp <;> omega))
  have F1 : FC w1 (w.heap.size + 1 + 1) D := (FC.new (by simp)).below z1
  have c0 := F1.1
  have c1 := F1.2
  clear z1 F1
  go_wp2_with fail
  rw [HE.out, Oper.upon_enter]
  refine (HD.out _).mono ?_
  rintro e w2 ⟨rfl, rfl⟩
  have HB := hid (hb.alloc hb.size (.cells #[.int .u64 (ub K.1.1), .int .u64 (ub K.1.2), .int .u64 (ub K.2.1), .int .u64 (ub K.2.2)] 95))
  clear hb
  go_wp2
  go_ret
  exact ⟨rfl, HB.out⟩
end Go.Proofs.Ytjcnpjidkimldaa

namespace Go.Proofs.Ytjcnpjidkimldaa
set_option linter.unusedSimpArgs false
set_option linter.unusedVariables false
set_option maxRecDepth 100000
open Go.ChangeShapes Go.WideShapes Go.ChangeAt Go.RowKit

/-- A span's cells in a block of the call's own. -/
structure BC (w : World) (b : Nat) (t : Tn) : Prop where
  lt : b < w.heap.size
  c0 : w.cell? ⟨b, 0, none⟩ = some (.int .u64 (ub t.1))
  c1 : w.cell? ⟨b, 1, none⟩ = some (.int .u64 (ub t.2))
  f0 : w.frozen? ⟨b, 0, none⟩ = false
  f1 : w.frozen? ⟨b, 1, none⟩ = false
theorem BC.below {w w' : World} {b : Nat} {t : Tn} (h : BC w b t) (hb : Below w.heap.size w w') : BC w' b t :=
  ⟨Nat.lt_of_lt_of_le h.lt hb.size, (hb.cell h.lt).trans h.c0, (hb.cell h.lt).trans h.c1, (hb.frozen (p := ⟨b, 0, none⟩) h.lt).trans h.f0, (hb.frozen (p := ⟨b, 1, none⟩) h.lt).trans h.f1⟩
theorem BC.new {w : World} {a : Tn} {t : TypeId} {b : Nat} (hb : b = w.heap.size) : BC (w.alloc (.cells #[.int .u64 (ub a.1), .int .u64 (ub a.2)] t)) b a := by
  subst hb
  exact ⟨by simp, by simp, by simp, by simp, by simp⟩
def put2 (w : World) (b : Nat) (u : Tn) : World := (w.setCell ⟨b, 0, none⟩ (.int .u64 (ub u.1))).setCell ⟨b, 1, none⟩ (.int .u64 (ub u.2))
theorem put2_heap (w : World) (b : Nat) (u : Tn) {b' : Nat} (h : b' ≠ b) : (put2 w b u).heap[b']? = w.heap[b']? := (Below.heap_setCell _ _ _ _ h).trans (Below.heap_setCell _ _ _ _ h)
theorem put2_below {n : Nat} {w w1 : World} {b : Nat} (u : Tn) (h : Below n w w1) (hb : n ≤ b) : Below n w (put2 w1 b u) := (h.setCell (p := ⟨b, 0, none⟩) hb _).setCell (p := ⟨b, 1, none⟩) hb _
theorem put2_size (w : World) (b : Nat) (u : Tn) : (put2 w b u).heap.size = w.heap.size := by unfold put2; simp
theorem BC.put {w : World} {b : Nat} {t : Tn} (h : BC w b t) (u : Tn) : BC (put2 w b u) b u := by
  unfold put2
  refine ⟨by simp; exact h.lt, ?_, ?_, by simp; exact h.f0, by simp; exact h.f1⟩
  · exact (World.cell?_setCell_other _ _ _ _ (by simp)).trans (World.cell?_setCell_same _ _ _ h.c0)
  · exact World.cell?_setCell_same _ _ _ ((World.cell?_setCell_other _ _ _ _ (by simp)).trans h.c1)
theorem BC.other {w : World} {b c : Nat} {t : Tn} (h : BC w b t) (hbc : b ≠ c) (u : Tn) : BC (put2 w c u) b t := by
  have e := put2_heap w c u hbc
  exact ⟨by rw [put2_size]; exact h.lt, (World.cell?_of_block (w := w) (a := ⟨b, 0, none⟩) e).trans h.c0, (World.cell?_of_block (w := w) (a := ⟨b, 1, none⟩) e).trans h.c1,
    (World.frozen?_of_block (w := w) (a := ⟨b, 0, none⟩) e).trans h.f0, (World.frozen?_of_block (w := w) (a := ⟨b, 1, none⟩) e).trans h.f1⟩
/-- The boxes of two spans, and of a result. -/
structure RI (w : World) (a b : Tn) (w' : World) : Prop where
  ca : BC w' w.heap.size a
  cb : BC w' (w.heap.size + 1) b
  rc : BC w' (w.heap.size + 1 + 1) t0
  bel : Below w.heap.size w w'
theorem RI.next {w : World} {a b : Tn} {w' w2 : World} (h : RI w a b w') (hb : Below w'.heap.size w' w2) : RI w a b w2 :=
  ⟨h.ca.below hb, h.cb.below hb, h.rc.below hb, h.bel.trans (hb.mono h.bel.size)⟩
theorem RI.putb {w : World} {a b : Tn} {w' : World} (h : RI w a b w') (u : Tn) : RI w a u (put2 w' (w.heap.size + 1) u) :=
  ⟨h.ca.other (by omega) u, h.cb.put u, h.rc.other (by omega) u, put2_below u h.bel (by omega)⟩
theorem RI.puta {w : World} {a b : Tn} {w' : World} (h : RI w a b w') (u : Tn) : RI w u b (put2 w' w.heap.size u) :=
  ⟨h.ca.put u, h.cb.other (by omega) u, h.rc.other (by omega) u, put2_below u h.bel (by omega)⟩
theorem RI.start (w : World) (a b : Tn) (t t' t'' : TypeId) : RI w a b (((w.alloc (.cells #[.int .u64 (ub a.1), .int .u64 (ub a.2)] t)).alloc (.cells #[.int .u64 (ub b.1), .int .u64 (ub b.2)] t')).alloc (.cells #[.int .u64 0, .int .u64 0] t'')) := by
  have e1 := BC.new (w := w) (a := a) (t := t) rfl
  have s1 : (w.alloc (.cells #[.int .u64 (ub a.1), .int .u64 (ub a.2)] t)).heap.size = w.heap.size + 1 := by simp
  have b1 : Below w.heap.size w (w.alloc (.cells #[.int .u64 (ub a.1), .int .u64 (ub a.2)] t)) := (Below.refl _ _).alloc (Nat.le_refl _) _
  generalize w.alloc (.cells #[.int .u64 (ub a.1), .int .u64 (ub a.2)] t) = u1 at *
  have e2 := BC.new (w := u1) (a := b) (t := t') s1.symm
  have b2 : Below u1.heap.size u1 (u1.alloc (.cells #[.int .u64 (ub b.1), .int .u64 (ub b.2)] t')) := (Below.refl _ _).alloc (Nat.le_refl _) _
  have s2 : (u1.alloc (.cells #[.int .u64 (ub b.1), .int .u64 (ub b.2)] t')).heap.size = w.heap.size + 1 + 1 := by simp; omega
  generalize u1.alloc (.cells #[.int .u64 (ub b.1), .int .u64 (ub b.2)] t') = u2 at *
  have e3 : BC (u2.alloc (.cells #[.int .u64 0, .int .u64 0] t'')) (w.heap.size + 1 + 1) t0 := BC.new (w := u2) (a := t0) (t := t'') s2.symm
  have b3 : Below u2.heap.size u2 (u2.alloc (.cells #[.int .u64 0, .int .u64 0] t'')) := (Below.refl _ _).alloc (Nat.le_refl _) _
  exact ⟨(e1.below b2).below b3, e2.below b3, e3, (b1.trans (b2.mono b1.size)).trans (b3.mono (by omega))⟩
/-- A block that takes a result. -/
structure RsI (w : World) (r : Nat) (w' : World) : Prop where
  lt : r < w'.heap.size
  c0 : ∃ c, w'.cell? ⟨r, 0, none⟩ = some c
  c1 : ∃ c, w'.cell? ⟨r, 1, none⟩ = some c
  f0 : w'.frozen? ⟨r, 0, none⟩ = false
  f1 : w'.frozen? ⟨r, 1, none⟩ = false
  le : w.heap.size ≤ r
  bel : Below w.heap.size w w'
theorem RsI.next {w : World} {r : Nat} {w' w2 : World} (h : RsI w r w') (hb : Below w'.heap.size w' w2) : RsI w r w2 := by
  obtain ⟨h0, ⟨c0, h1⟩, ⟨c1, h2⟩, h3, h4, h6, h5⟩ := h
  exact ⟨Nat.lt_of_lt_of_le h0 hb.size, ⟨c0, (hb.cell h0).trans h1⟩, ⟨c1, (hb.cell h0).trans h2⟩, (hb.frozen (p := ⟨r, 0, none⟩) h0).trans h3, (hb.frozen (p := ⟨r, 1, none⟩) h0).trans h4, h6, h5.trans (hb.mono h5.size)⟩
theorem RsI.put {w : World} {r : Nat} {w' : World} (h : RsI w r w') (u v : Int) : RsI w r ((w'.setCell ⟨r, 0, none⟩ (.int .u64 u)).setCell ⟨r, 1, none⟩ (.int .u64 v)) := by
  obtain ⟨h0, ⟨c0, h1⟩, ⟨c1, h2⟩, h3, h4, h6, h5⟩ := h
  refine ⟨by simp; exact h0, ⟨.int .u64 u, ?_⟩, ⟨.int .u64 v, ?_⟩, by simp; exact h3, by simp; exact h4, h6, (h5.setCell (p := ⟨r, 0, none⟩) h6 _).setCell (p := ⟨r, 1, none⟩) h6 _⟩
  · exact (World.cell?_setCell_other _ _ _ _ (by simp)).trans (World.cell?_setCell_same _ _ _ h1)
  · exact World.cell?_setCell_same _ _ _ ((World.cell?_setCell_other _ _ _ _ (by simp)).trans h2)
theorem RI.res {w : World} {a b : Tn} {w' : World} (h : RI w a b w') : RsI w (w.heap.size + 1 + 1) w' := ⟨h.rc.lt, ⟨_, h.rc.c0⟩, ⟨_, h.rc.c1⟩, h.rc.f0, h.rc.f1, by omega, h.bel⟩
theorem cs3 {w : World} {p : Addr} {q : Nat} {u u' c : Value} (h : w.cell? p = some c) (hq : p.block ≠ q) : ((w.setCell ⟨q, 0, none⟩ u).setCell ⟨q, 1, none⟩ u').cell? p = some c :=
  (World.cell?_of_block (w := w) (a := p) ((Below.heap_setCell _ _ _ _ hq).trans (Below.heap_setCell _ _ _ _ hq))).trans h
set_option maxRecDepth 20000 in
set_option maxHeartbeats 4000000 in
theorem sBitw_any (op : Nat) (a b : Tn) (w : World) (hop : op = 4 ∨ op = 5 ∨ op = 10) : Calls Try.prog 52 #[.int .i64 (op : Int), tv a, tv b] w fun e w' => e = .returned (tv (bitwS op a b)) ∧ Below w.heap.size w w' := by
  have HO := fun a b W => sLeast_any 74 (· ||| ·) (fun _ _ => by kernel_rfl) cOrS a b W
  have HA := fun a b W => sLeast_any 75 (· &&& ·) (fun _ _ => by kernel_rfl) cAndS a b W
  have HX := fun a b W => sLeast_any 76 (· ^^^ ·) (fun _ _ => by kernel_rfl) cXorS a b W
  have HT1 := fun W => sTurned_any a W
  have HT2 := fun W => sTurned_any b W
  rcases hop with rfl | rfl | rfl
  · have H1 := fun W => HO a b W
    have H2 := fun W => HA (turnS a) (turnS b) W
    clear HO HA HX
    rw [show bitwS 4 a b = (leastS (· ||| ·) a b, ~~~(leastS (· &&& ·) (turnS a) (turnS b))) from rfl]
    generalize leastS (· ||| ·) a b = R1 at *
    generalize leastS (· &&& ·) (turnS a) (turnS b) = R2 at *
    generalize turnS a = A at *
    generalize turnS b = B at *
    unfold tv at H1 H2 HT1 HT2 ⊢
    dsimp only at H1 H2 HT1 HT2 ⊢
    replace H1 := hid H1
    replace H2 := hid H2
    replace HT1 := hid HT1
    replace HT2 := hid HT2
    have I0 := RI.start w a b 24 24 24
    go_enter Try.func52, Try.ntmps52
    go_wp2_with fail
    generalize ((w.alloc (.cells #[.int .u64 (ub a.1), .int .u64 (ub a.2)] 24)).alloc (.cells #[.int .u64 (ub b.1), .int .u64 (ub b.2)] 24)).alloc (.cells #[.int .u64 0, .int .u64 0] 24) = w0 at I0 ⊢
    have q0 := I0.ca.c0
    have q1 := I0.ca.c1
    have q2 := I0.cb.c0
    have q3 := I0.cb.c1
    have q4 := I0.res
    clear I0
    go_region_held3 (fun w' => w'.cell? ⟨w.heap.size, 0, none⟩ = some (.int .u64 (ub a.1)) ∧ w'.cell? ⟨w.heap.size, 1, none⟩ = some (.int .u64 (ub a.2)) ∧ w'.cell? ⟨w.heap.size + 1, 0, none⟩ = some (.int .u64 (ub b.1)) ∧ w'.cell? ⟨w.heap.size + 1, 1, none⟩ = some (.int .u64 (ub b.2)) ∧ RsI w (w.heap.size + 1 + 1) w')
      (first
        | (go_split_ands; exact ⟨by with_reducible assumption, by with_reducible assumption, by with_reducible assumption, by with_reducible assumption, by with_reducible assumption⟩)
        | exact ⟨cn bq (by with_reducible assumption), cn bq (by with_reducible assumption), cn bq (by with_reducible assumption), cn bq (by with_reducible assumption), RsI.next (by with_reducible assumption) bq⟩
        | exact ⟨cn (below_dr w0) q0, cn (below_dr w0) q1, cn (below_dr w0) q2, cn (below_dr w0) q3, q4.next (below_dr w0)⟩
        | (go_split_ands; exact ⟨cs3 (by with_reducible assumption) (by dsimp only; omega), cs3 (by with_reducible assumption) (by dsimp only; omega), cs3 (by with_reducible assumption) (by dsimp only; omega), cs3 (by with_reducible assumption) (by dsimp only; omega), RsI.put (by with_reducible assumption) _ _⟩))
      (first | (go_at_call 77; go_split_ands; (with_reducible refine (H1.out _).mono ?_); rintro e wq ⟨rfl, bq⟩; have Rq := RsI.next (by with_reducible assumption) bq; have rq0 := Rq.lt; obtain ⟨cq0, rq1⟩ := Rq.c0; obtain ⟨cq1, rq2⟩ := Rq.c1; have rq3 := Rq.f0; have rq4 := Rq.f1; have aq0 := cn bq (by with_reducible assumption : _ = some (Value.int IntKind.u64 (ub a.1))); have aq1 := cn bq (by with_reducible assumption : _ = some (Value.int IntKind.u64 (ub a.2))); have aq2 := cn bq (by with_reducible assumption : _ = some (Value.int IntKind.u64 (ub b.1))); have aq3 := cn bq (by with_reducible assumption : _ = some (Value.int IntKind.u64 (ub b.2)))) | (go_at_call 78; go_split_ands; (with_reducible refine (HT1.out _).mono ?_); rintro e wq ⟨rfl, bq⟩; have Rq := RsI.next (by with_reducible assumption) bq; have rq0 := Rq.lt; obtain ⟨cq0, rq1⟩ := Rq.c0; obtain ⟨cq1, rq2⟩ := Rq.c1; have rq3 := Rq.f0; have rq4 := Rq.f1; have aq0 := cn bq (by with_reducible assumption : _ = some (Value.int IntKind.u64 (ub a.1))); have aq1 := cn bq (by with_reducible assumption : _ = some (Value.int IntKind.u64 (ub a.2))); have aq2 := cn bq (by with_reducible assumption : _ = some (Value.int IntKind.u64 (ub b.1))); have aq3 := cn bq (by with_reducible assumption : _ = some (Value.int IntKind.u64 (ub b.2)))) | (go_at_call 78; go_split_ands; (with_reducible refine (HT2.out _).mono ?_); rintro e wq ⟨rfl, bq⟩; have Rq := RsI.next (by with_reducible assumption) bq; have rq0 := Rq.lt; obtain ⟨cq0, rq1⟩ := Rq.c0; obtain ⟨cq1, rq2⟩ := Rq.c1; have rq3 := Rq.f0; have rq4 := Rq.f1; have aq0 := cn bq (by with_reducible assumption : _ = some (Value.int IntKind.u64 (ub a.1))); have aq1 := cn bq (by with_reducible assumption : _ = some (Value.int IntKind.u64 (ub a.2))); have aq2 := cn bq (by with_reducible assumption : _ = some (Value.int IntKind.u64 (ub b.1))); have aq3 := cn bq (by with_reducible assumption : _ = some (Value.int IntKind.u64 (ub b.2)))) | (go_at_call 77; go_split_ands; (with_reducible refine (H2.out _).mono ?_); rintro e wq ⟨rfl, bq⟩; have Rq := RsI.next (by with_reducible assumption) bq; have rq0 := Rq.lt; obtain ⟨cq0, rq1⟩ := Rq.c0; obtain ⟨cq1, rq2⟩ := Rq.c1; have rq3 := Rq.f0; have rq4 := Rq.f1; have aq0 := cn bq (by with_reducible assumption : _ = some (Value.int IntKind.u64 (ub a.1))); have aq1 := cn bq (by with_reducible assumption : _ = some (Value.int IntKind.u64 (ub a.2))); have aq2 := cn bq (by with_reducible assumption : _ = some (Value.int IntKind.u64 (ub b.1))); have aq3 := cn bq (by with_reducible assumption : _ = some (Value.int IntKind.u64 (ub b.2)))))
    have HB := hid Rq.bel
    have hle := Rq.le
    clear HB
    have HB := hid (Rq.put (ub R1) (ub (~~~R2))).bel
    clear Rq bq
    go_wp2
    exact bodyPost_ret (v := tv (R1, ~~~R2)) (by simp [results, Try.results52, go_sem, rq0, rq1, rq2, rq3, rq4]; try rfl) rfl ⟨rfl, by simpa [go_sem] using HB.out⟩
  · have H1 := fun W => HA a b W
    have H2 := fun W => HO (turnS a) (turnS b) W
    clear HO HA HX
    rw [show bitwS 5 a b = (leastS (· &&& ·) a b, ~~~(leastS (· ||| ·) (turnS a) (turnS b))) from rfl]
    generalize leastS (· &&& ·) a b = R1 at *
    generalize leastS (· ||| ·) (turnS a) (turnS b) = R2 at *
    generalize turnS a = A at *
    generalize turnS b = B at *
    unfold tv at H1 H2 HT1 HT2 ⊢
    dsimp only at H1 H2 HT1 HT2 ⊢
    replace H1 := hid H1
    replace H2 := hid H2
    replace HT1 := hid HT1
    replace HT2 := hid HT2
    have I0 := RI.start w a b 24 24 24
    go_enter Try.func52, Try.ntmps52
    go_wp2_with fail
    generalize ((w.alloc (.cells #[.int .u64 (ub a.1), .int .u64 (ub a.2)] 24)).alloc (.cells #[.int .u64 (ub b.1), .int .u64 (ub b.2)] 24)).alloc (.cells #[.int .u64 0, .int .u64 0] 24) = w0 at I0 ⊢
    have q0 := I0.ca.c0
    have q1 := I0.ca.c1
    have q2 := I0.cb.c0
    have q3 := I0.cb.c1
    have q4 := I0.res
    clear I0
    go_region_held3 (fun w' => w'.cell? ⟨w.heap.size, 0, none⟩ = some (.int .u64 (ub a.1)) ∧ w'.cell? ⟨w.heap.size, 1, none⟩ = some (.int .u64 (ub a.2)) ∧ w'.cell? ⟨w.heap.size + 1, 0, none⟩ = some (.int .u64 (ub b.1)) ∧ w'.cell? ⟨w.heap.size + 1, 1, none⟩ = some (.int .u64 (ub b.2)) ∧ RsI w (w.heap.size + 1 + 1) w')
      (first
        | (go_split_ands; exact ⟨by with_reducible assumption, by with_reducible assumption, by with_reducible assumption, by with_reducible assumption, by with_reducible assumption⟩)
        | exact ⟨cn bq (by with_reducible assumption), cn bq (by with_reducible assumption), cn bq (by with_reducible assumption), cn bq (by with_reducible assumption), RsI.next (by with_reducible assumption) bq⟩
        | exact ⟨cn (below_dr w0) q0, cn (below_dr w0) q1, cn (below_dr w0) q2, cn (below_dr w0) q3, q4.next (below_dr w0)⟩
        | (go_split_ands; exact ⟨cs3 (by with_reducible assumption) (by dsimp only; omega), cs3 (by with_reducible assumption) (by dsimp only; omega), cs3 (by with_reducible assumption) (by dsimp only; omega), cs3 (by with_reducible assumption) (by dsimp only; omega), RsI.put (by with_reducible assumption) _ _⟩))
      (first | (go_at_call 77; go_split_ands; (with_reducible refine (H1.out _).mono ?_); rintro e wq ⟨rfl, bq⟩; have Rq := RsI.next (by with_reducible assumption) bq; have rq0 := Rq.lt; obtain ⟨cq0, rq1⟩ := Rq.c0; obtain ⟨cq1, rq2⟩ := Rq.c1; have rq3 := Rq.f0; have rq4 := Rq.f1; have aq0 := cn bq (by with_reducible assumption : _ = some (Value.int IntKind.u64 (ub a.1))); have aq1 := cn bq (by with_reducible assumption : _ = some (Value.int IntKind.u64 (ub a.2))); have aq2 := cn bq (by with_reducible assumption : _ = some (Value.int IntKind.u64 (ub b.1))); have aq3 := cn bq (by with_reducible assumption : _ = some (Value.int IntKind.u64 (ub b.2)))) | (go_at_call 78; go_split_ands; (with_reducible refine (HT1.out _).mono ?_); rintro e wq ⟨rfl, bq⟩; have Rq := RsI.next (by with_reducible assumption) bq; have rq0 := Rq.lt; obtain ⟨cq0, rq1⟩ := Rq.c0; obtain ⟨cq1, rq2⟩ := Rq.c1; have rq3 := Rq.f0; have rq4 := Rq.f1; have aq0 := cn bq (by with_reducible assumption : _ = some (Value.int IntKind.u64 (ub a.1))); have aq1 := cn bq (by with_reducible assumption : _ = some (Value.int IntKind.u64 (ub a.2))); have aq2 := cn bq (by with_reducible assumption : _ = some (Value.int IntKind.u64 (ub b.1))); have aq3 := cn bq (by with_reducible assumption : _ = some (Value.int IntKind.u64 (ub b.2)))) | (go_at_call 78; go_split_ands; (with_reducible refine (HT2.out _).mono ?_); rintro e wq ⟨rfl, bq⟩; have Rq := RsI.next (by with_reducible assumption) bq; have rq0 := Rq.lt; obtain ⟨cq0, rq1⟩ := Rq.c0; obtain ⟨cq1, rq2⟩ := Rq.c1; have rq3 := Rq.f0; have rq4 := Rq.f1; have aq0 := cn bq (by with_reducible assumption : _ = some (Value.int IntKind.u64 (ub a.1))); have aq1 := cn bq (by with_reducible assumption : _ = some (Value.int IntKind.u64 (ub a.2))); have aq2 := cn bq (by with_reducible assumption : _ = some (Value.int IntKind.u64 (ub b.1))); have aq3 := cn bq (by with_reducible assumption : _ = some (Value.int IntKind.u64 (ub b.2)))) | (go_at_call 77; go_split_ands; (with_reducible refine (H2.out _).mono ?_); rintro e wq ⟨rfl, bq⟩; have Rq := RsI.next (by with_reducible assumption) bq; have rq0 := Rq.lt; obtain ⟨cq0, rq1⟩ := Rq.c0; obtain ⟨cq1, rq2⟩ := Rq.c1; have rq3 := Rq.f0; have rq4 := Rq.f1; have aq0 := cn bq (by with_reducible assumption : _ = some (Value.int IntKind.u64 (ub a.1))); have aq1 := cn bq (by with_reducible assumption : _ = some (Value.int IntKind.u64 (ub a.2))); have aq2 := cn bq (by with_reducible assumption : _ = some (Value.int IntKind.u64 (ub b.1))); have aq3 := cn bq (by with_reducible assumption : _ = some (Value.int IntKind.u64 (ub b.2)))))
    have HB := hid Rq.bel
    have hle := Rq.le
    clear HB
    have HB := hid (Rq.put (ub R1) (ub (~~~R2))).bel
    clear Rq bq
    go_wp2
    exact bodyPost_ret (v := tv (R1, ~~~R2)) (by simp [results, Try.results52, go_sem, rq0, rq1, rq2, rq3, rq4]; try rfl) rfl ⟨rfl, by simpa [go_sem] using HB.out⟩
  · have H1 := fun W => HX a b W
    have H2 := fun W => HX (turnS a) (b) W
    clear HO HA HX
    rw [show bitwS 10 a b = (leastS (· ^^^ ·) a b, ~~~(leastS (· ^^^ ·) (turnS a) (b))) from rfl]
    generalize leastS (· ^^^ ·) a b = R1 at *
    generalize leastS (· ^^^ ·) (turnS a) (b) = R2 at *
    generalize turnS a = A at *
    generalize turnS b = B at *
    unfold tv at H1 H2 HT1 HT2 ⊢
    dsimp only at H1 H2 HT1 HT2 ⊢
    replace H1 := hid H1
    replace H2 := hid H2
    replace HT1 := hid HT1
    replace HT2 := hid HT2
    have I0 := RI.start w a b 24 24 24
    go_enter Try.func52, Try.ntmps52
    go_wp2_with fail
    generalize ((w.alloc (.cells #[.int .u64 (ub a.1), .int .u64 (ub a.2)] 24)).alloc (.cells #[.int .u64 (ub b.1), .int .u64 (ub b.2)] 24)).alloc (.cells #[.int .u64 0, .int .u64 0] 24) = w0 at I0 ⊢
    have q0 := I0.ca.c0
    have q1 := I0.ca.c1
    have q2 := I0.cb.c0
    have q3 := I0.cb.c1
    have q4 := I0.res
    clear I0
    go_region_held3 (fun w' => w'.cell? ⟨w.heap.size, 0, none⟩ = some (.int .u64 (ub a.1)) ∧ w'.cell? ⟨w.heap.size, 1, none⟩ = some (.int .u64 (ub a.2)) ∧ w'.cell? ⟨w.heap.size + 1, 0, none⟩ = some (.int .u64 (ub b.1)) ∧ w'.cell? ⟨w.heap.size + 1, 1, none⟩ = some (.int .u64 (ub b.2)) ∧ RsI w (w.heap.size + 1 + 1) w')
      (first
        | (go_split_ands; exact ⟨by with_reducible assumption, by with_reducible assumption, by with_reducible assumption, by with_reducible assumption, by with_reducible assumption⟩)
        | exact ⟨cn bq (by with_reducible assumption), cn bq (by with_reducible assumption), cn bq (by with_reducible assumption), cn bq (by with_reducible assumption), RsI.next (by with_reducible assumption) bq⟩
        | exact ⟨cn (below_dr w0) q0, cn (below_dr w0) q1, cn (below_dr w0) q2, cn (below_dr w0) q3, q4.next (below_dr w0)⟩
        | (go_split_ands; exact ⟨cs3 (by with_reducible assumption) (by dsimp only; omega), cs3 (by with_reducible assumption) (by dsimp only; omega), cs3 (by with_reducible assumption) (by dsimp only; omega), cs3 (by with_reducible assumption) (by dsimp only; omega), RsI.put (by with_reducible assumption) _ _⟩))
      (first | (go_at_call 77; go_split_ands; (with_reducible refine (H1.out _).mono ?_); rintro e wq ⟨rfl, bq⟩; have Rq := RsI.next (by with_reducible assumption) bq; have rq0 := Rq.lt; obtain ⟨cq0, rq1⟩ := Rq.c0; obtain ⟨cq1, rq2⟩ := Rq.c1; have rq3 := Rq.f0; have rq4 := Rq.f1; have aq0 := cn bq (by with_reducible assumption : _ = some (Value.int IntKind.u64 (ub a.1))); have aq1 := cn bq (by with_reducible assumption : _ = some (Value.int IntKind.u64 (ub a.2))); have aq2 := cn bq (by with_reducible assumption : _ = some (Value.int IntKind.u64 (ub b.1))); have aq3 := cn bq (by with_reducible assumption : _ = some (Value.int IntKind.u64 (ub b.2)))) | (go_at_call 78; go_split_ands; (with_reducible refine (HT1.out _).mono ?_); rintro e wq ⟨rfl, bq⟩; have Rq := RsI.next (by with_reducible assumption) bq; have rq0 := Rq.lt; obtain ⟨cq0, rq1⟩ := Rq.c0; obtain ⟨cq1, rq2⟩ := Rq.c1; have rq3 := Rq.f0; have rq4 := Rq.f1; have aq0 := cn bq (by with_reducible assumption : _ = some (Value.int IntKind.u64 (ub a.1))); have aq1 := cn bq (by with_reducible assumption : _ = some (Value.int IntKind.u64 (ub a.2))); have aq2 := cn bq (by with_reducible assumption : _ = some (Value.int IntKind.u64 (ub b.1))); have aq3 := cn bq (by with_reducible assumption : _ = some (Value.int IntKind.u64 (ub b.2)))) | (go_at_call 78; go_split_ands; (with_reducible refine (HT2.out _).mono ?_); rintro e wq ⟨rfl, bq⟩; have Rq := RsI.next (by with_reducible assumption) bq; have rq0 := Rq.lt; obtain ⟨cq0, rq1⟩ := Rq.c0; obtain ⟨cq1, rq2⟩ := Rq.c1; have rq3 := Rq.f0; have rq4 := Rq.f1; have aq0 := cn bq (by with_reducible assumption : _ = some (Value.int IntKind.u64 (ub a.1))); have aq1 := cn bq (by with_reducible assumption : _ = some (Value.int IntKind.u64 (ub a.2))); have aq2 := cn bq (by with_reducible assumption : _ = some (Value.int IntKind.u64 (ub b.1))); have aq3 := cn bq (by with_reducible assumption : _ = some (Value.int IntKind.u64 (ub b.2)))) | (go_at_call 77; go_split_ands; (with_reducible refine (H2.out _).mono ?_); rintro e wq ⟨rfl, bq⟩; have Rq := RsI.next (by with_reducible assumption) bq; have rq0 := Rq.lt; obtain ⟨cq0, rq1⟩ := Rq.c0; obtain ⟨cq1, rq2⟩ := Rq.c1; have rq3 := Rq.f0; have rq4 := Rq.f1; have aq0 := cn bq (by with_reducible assumption : _ = some (Value.int IntKind.u64 (ub a.1))); have aq1 := cn bq (by with_reducible assumption : _ = some (Value.int IntKind.u64 (ub a.2))); have aq2 := cn bq (by with_reducible assumption : _ = some (Value.int IntKind.u64 (ub b.1))); have aq3 := cn bq (by with_reducible assumption : _ = some (Value.int IntKind.u64 (ub b.2)))))
    have HB := hid Rq.bel
    have hle := Rq.le
    clear HB
    have HB := hid (Rq.put (ub R1) (ub (~~~R2))).bel
    clear Rq bq
    go_wp2
    exact bodyPost_ret (v := tv (R1, ~~~R2)) (by simp [results, Try.results52, go_sem, rq0, rq1, rq2, rq3, rq4]; try rfl) rfl ⟨rfl, by simpa [go_sem] using HB.out⟩
end Go.Proofs.Ytjcnpjidkimldaa

namespace Go.Proofs.Ytjcnpjidkimldaa
set_option linter.unusedSimpArgs false
set_option linter.unusedVariables false
set_option maxRecDepth 100000
open Go.ChangeShapes Go.WideShapes Go.ChangeAt Go.RowKit

attribute [go_sem] ib_of2
def drawU (u : Nat) (T n : B64) (below above : Nat) : B64 := if ((n <<< u).sshiftRight u).toInt < 0 then ((n <<< u).sshiftRight u).sshiftRight above &&& T else n >>> below
theorem drawU_is (c : Bool) (n : B64) (below above : Nat) : drawB c n below above = drawU (if c then 0 else 32) (topW c) n below above := by
  cases c
  · simp only [drawB, drawU, Bool.false_eq_true, if_false]
  · simp only [drawB, drawU, if_true, BitVec.shiftLeft_zero, BitVec.sshiftRight_zero]
set_option maxHeartbeats 1000000 in
theorem cSign (p q : Nat) (u : Nat) (c : Bool) (n below above : B64) (w : World) (hu : u < 64) (hb : below.toNat < 64) (ha : above.toNat < 64) (hp : w.cell? ⟨p, 0, none⟩ = some (.int .i64 (u : Int))) (hq : w.cell? ⟨q, 0, none⟩ = some (.int .i64 (szI c))) :
    Calls Try.prog 73 #[.int .u64 (ub n), .int .u64 (ub below), .int .u64 (ub above), .pointer (some ⟨p, 0, none⟩), .pointer (some ⟨q, 0, none⟩)] w fun e w' => e = .returned (.int .u64 (ub (drawU u (topW c) n below.toNat above.toNat))) ∧ w.drew = w' := by
  have HL := hid fun W => sTop_any c W
  generalize szI c = SZ at *
  generalize topW c = T at *
  have k1 : 0 ≤ ub below := ub_ge below
  have k2 : ub below ≤ 64 := by unfold ub; omega
  have k3 : 0 ≤ ub above := ub_ge above
  have k4 : ub above ≤ 64 := by unfold ub; omega
  unfold drawU
  by_cases hn : ((n <<< u).sshiftRight u).toInt < 0
  · rw [if_pos hn]
    have hn' : ib ((n <<< u).sshiftRight u) < 0 := hn
    clear hn
    go_enter Try.func73, Try.ntmps73
    go_wp2_with fail
    go_region_held3 (fun w' => w'.cell? ⟨p, 0, none⟩ = some (.int .i64 (u : Int)) ∧ Below w.heap.size w w')
      (first | (go_split_ands; exact ⟨by assumption, by assumption⟩) | exact ⟨cn (below_dr w) hp, below_dr w⟩)
      (fail)
    have hq' := cn (below_dr w) hq
    go_wp2_with fail
    refine (HL.out _).mono ?_
    rintro e wq ⟨rfl, rfl⟩
    go_wp2
    go_ret
    refine ⟨congrArg Ending.returned (congrArg (Value.int IntKind.u64) ?_), rfl⟩
    simp only [ib_of2, ib_shr, ib_wrap, ub_and]
  · rw [if_neg hn]
    have hn' : ¬ ib ((n <<< u).sshiftRight u) < 0 := hn
    clear hn
    go_enter Try.func73, Try.ntmps73
    go_wp2_with fail
    go_region_held3 (fun w' => w'.cell? ⟨p, 0, none⟩ = some (.int .i64 (u : Int)) ∧ Below w.heap.size w w')
      (first | (go_split_ands; exact ⟨by assumption, by assumption⟩) | exact ⟨cn (below_dr w) hp, below_dr w⟩)
      (fail)
    go_wp2
    go_ret
    exact ⟨rfl, rfl⟩
end Go.Proofs.Ytjcnpjidkimldaa

namespace Go.Proofs.Ytjcnpjidkimldaa
set_option linter.unusedSimpArgs false
set_option linter.unusedVariables false
set_option maxRecDepth 100000
open Go.ChangeShapes Go.WideShapes Go.ChangeAt Go.RowKit

theorem cell1 {w : World} {u : Value} {t : TypeId} {b : Nat} (hb : b = w.heap.size) : (w.alloc (.cells #[u] t)).cell? ⟨b, 0, none⟩ = some u := by
  subst hb
  simp
theorem sg_start (w : World) (a b : Tn) (SZ UP : Int) (t1 t2 t3 t4 t5 : TypeId) :
    let W := ((((w.alloc (.cells #[.int .i64 SZ] t1)).alloc (.cells #[.int .u64 (ub a.1), .int .u64 (ub a.2)] t2)).alloc (.cells #[.int .u64 (ub b.1), .int .u64 (ub b.2)] t3)).alloc (.cells #[.int .u64 0, .int .u64 0] t4)).alloc (.cells #[.int .i64 UP] t5)
    W.cell? ⟨w.heap.size + 1, 0, none⟩ = some (.int .u64 (ub a.1)) ∧ W.cell? ⟨w.heap.size + 1, 1, none⟩ = some (.int .u64 (ub a.2)) ∧ W.cell? ⟨w.heap.size + 1 + 1, 0, none⟩ = some (.int .u64 (ub b.1)) ∧ W.cell? ⟨w.heap.size + 1 + 1, 1, none⟩ = some (.int .u64 (ub b.2)) ∧
      W.cell? ⟨w.heap.size + 1 + 1 + 1 + 1, 0, none⟩ = some (.int .i64 UP) ∧ W.cell? ⟨w.heap.size, 0, none⟩ = some (.int .i64 SZ) ∧ RsI w (w.heap.size + 1 + 1 + 1) W := by
  intro W
  have e1 := cell1 (w := w) (u := .int .i64 SZ) (t := t1) rfl
  have s1 : (w.alloc (.cells #[.int .i64 SZ] t1)).heap.size = w.heap.size + 1 := by simp
  have b1 : Below w.heap.size w (w.alloc (.cells #[.int .i64 SZ] t1)) := (Below.refl _ _).alloc (Nat.le_refl _) _
  have hW : W = ((((w.alloc (.cells #[.int .i64 SZ] t1)).alloc (.cells #[.int .u64 (ub a.1), .int .u64 (ub a.2)] t2)).alloc (.cells #[.int .u64 (ub b.1), .int .u64 (ub b.2)] t3)).alloc (.cells #[.int .u64 0, .int .u64 0] t4)).alloc (.cells #[.int .i64 UP] t5) := rfl
  clear_value W
  generalize w.alloc (.cells #[.int .i64 SZ] t1) = u1 at *
  have e2 := BC.new (w := u1) (a := a) (t := t2) s1.symm
  have b2 : Below u1.heap.size u1 (u1.alloc (.cells #[.int .u64 (ub a.1), .int .u64 (ub a.2)] t2)) := (Below.refl _ _).alloc (Nat.le_refl _) _
  have s2 : (u1.alloc (.cells #[.int .u64 (ub a.1), .int .u64 (ub a.2)] t2)).heap.size = w.heap.size + 1 + 1 := by simp; omega
  generalize u1.alloc (.cells #[.int .u64 (ub a.1), .int .u64 (ub a.2)] t2) = u2 at *
  have e3 := BC.new (w := u2) (a := b) (t := t3) s2.symm
  have b3 : Below u2.heap.size u2 (u2.alloc (.cells #[.int .u64 (ub b.1), .int .u64 (ub b.2)] t3)) := (Below.refl _ _).alloc (Nat.le_refl _) _
  have s3 : (u2.alloc (.cells #[.int .u64 (ub b.1), .int .u64 (ub b.2)] t3)).heap.size = w.heap.size + 1 + 1 + 1 := by simp; omega
  generalize u2.alloc (.cells #[.int .u64 (ub b.1), .int .u64 (ub b.2)] t3) = u3 at *
  have e4 : BC (u3.alloc (.cells #[.int .u64 0, .int .u64 0] t4)) (w.heap.size + 1 + 1 + 1) t0 := BC.new (w := u3) (a := t0) (t := t4) s3.symm
  have b4 : Below u3.heap.size u3 (u3.alloc (.cells #[.int .u64 0, .int .u64 0] t4)) := (Below.refl _ _).alloc (Nat.le_refl _) _
  have s4 : (u3.alloc (.cells #[.int .u64 0, .int .u64 0] t4)).heap.size = w.heap.size + 1 + 1 + 1 + 1 := by simp; omega
  generalize u3.alloc (.cells #[.int .u64 0, .int .u64 0] t4) = u4 at *
  have e5 := cell1 (w := u4) (u := .int .i64 UP) (t := t5) s4.symm
  have b5 : Below u4.heap.size u4 (u4.alloc (.cells #[.int .i64 UP] t5)) := (Below.refl _ _).alloc (Nat.le_refl _) _
  rw [← hW] at e5 b5
  have f2 := ((e2.below b3).below b4).below b5
  have f3 := (e3.below b4).below b5
  have f4 := e4.below b5
  exact ⟨f2.c0, f2.c1, f3.c0, f3.c1, e5, cn b5 (cn b4 (cn b3 (cn b2 e1))), f4.lt, ⟨_, f4.c0⟩, ⟨_, f4.c1⟩, f4.f0, f4.f1, by omega, (((b1.trans (b2.mono b1.size)).trans (b3.mono (by omega))).trans (b4.mono (by omega))).trans (b5.mono (by omega))⟩
set_option maxRecDepth 20000 in
set_option maxHeartbeats 4000000 in
theorem sSigned_any (c : Bool) (a b : Tn) (w : World) (h1 : b.1.toNat < 64) (h2 : b.2.toNat < 64) : Calls Try.prog 50 #[.int .i64 (szI c), tv a, tv b] w fun e w' => e = .returned (tv (signS c a b)) ∧ Below w.heap.size w w' := by
  have HC := fun p q u n below above W => cSign p q u c n below above W
  rw [show signS c a b = (drawB c a.1 b.2.toNat b.1.toNat, drawB c a.2 b.1.toNat b.2.toNat) from rfl, drawU_is, drawU_is]
  cases c
  · rw [show (if (false : Bool) = true then 0 else 32 : Nat) = 32 from rfl, show szI false = 32 from rfl]
    have H1 := hid fun W (hp : W.cell? ⟨w.heap.size + 1 + 1 + 1 + 1, 0, none⟩ = some (.int .i64 32)) (hq : W.cell? ⟨w.heap.size, 0, none⟩ = some (.int .i64 32)) =>
      (HC (w.heap.size + 1 + 1 + 1 + 1) w.heap.size 32 a.1 b.2 b.1 W (by decide) h2 h1 hp hq).mono (fun e W' h => (⟨h.1, h.2 ▸ below_dr W⟩ : e = .returned (.int .u64 (ub (drawU 32 (topW false) a.1 b.2.toNat b.1.toNat))) ∧ Below W.heap.size W W'))
    have H2 := hid fun W (hp : W.cell? ⟨w.heap.size + 1 + 1 + 1 + 1, 0, none⟩ = some (.int .i64 32)) (hq : W.cell? ⟨w.heap.size, 0, none⟩ = some (.int .i64 32)) =>
      (HC (w.heap.size + 1 + 1 + 1 + 1) w.heap.size 32 a.2 b.1 b.2 W (by decide) h1 h2 hp hq).mono (fun e W' h => (⟨h.1, h.2 ▸ below_dr W⟩ : e = .returned (.int .u64 (ub (drawU 32 (topW false) a.2 b.1.toNat b.2.toNat))) ∧ Below W.heap.size W W'))
    clear HC h1 h2
    generalize drawU 32 (topW false) a.1 b.2.toNat b.1.toNat = R1 at *
    generalize drawU 32 (topW false) a.2 b.1.toNat b.2.toNat = R2 at *
    unfold tv
    go_enter Try.func50, Try.ntmps50
    go_wp2_with fail
    obtain ⟨q0, q1, q2, q3, q4, q5, q6⟩ := sg_start w a b 32 32 3 24 24 24 3
    generalize ((((w.alloc (.cells #[.int .i64 32] 3)).alloc (.cells #[.int .u64 (ub a.1), .int .u64 (ub a.2)] 24)).alloc (.cells #[.int .u64 (ub b.1), .int .u64 (ub b.2)] 24)).alloc (.cells #[.int .u64 0, .int .u64 0] 24)).alloc (.cells #[.int .i64 32] 3) = w0 at *
    go_region_held3 (fun w' => w'.cell? ⟨w.heap.size + 1, 0, none⟩ = some (.int .u64 (ub a.1)) ∧ w'.cell? ⟨w.heap.size + 1, 1, none⟩ = some (.int .u64 (ub a.2)) ∧ w'.cell? ⟨w.heap.size + 1 + 1, 0, none⟩ = some (.int .u64 (ub b.1)) ∧ w'.cell? ⟨w.heap.size + 1 + 1, 1, none⟩ = some (.int .u64 (ub b.2)) ∧ w'.cell? ⟨w.heap.size + 1 + 1 + 1 + 1, 0, none⟩ = some (.int .i64 32) ∧ w'.cell? ⟨w.heap.size, 0, none⟩ = some (.int .i64 32) ∧ RsI w (w.heap.size + 1 + 1 + 1) w')
      (first
        | (go_split_ands; exact ⟨by with_reducible assumption, by with_reducible assumption, by with_reducible assumption, by with_reducible assumption, by with_reducible assumption, by with_reducible assumption, by with_reducible assumption⟩)
        | exact ⟨cn bq (by with_reducible assumption), cn bq (by with_reducible assumption), cn bq (by with_reducible assumption), cn bq (by with_reducible assumption), cn bq (by with_reducible assumption), cn bq (by with_reducible assumption), RsI.next (by with_reducible assumption) bq⟩
        | exact ⟨cn (below_dr w0) q0, cn (below_dr w0) q1, cn (below_dr w0) q2, cn (below_dr w0) q3, cn (below_dr w0) q4, cn (below_dr w0) q5, q6.next (below_dr w0)⟩
        | (go_split_ands; exact ⟨cs3 (by with_reducible assumption) (by dsimp only; omega), cs3 (by with_reducible assumption) (by dsimp only; omega), cs3 (by with_reducible assumption) (by dsimp only; omega), cs3 (by with_reducible assumption) (by dsimp only; omega), cs3 (by with_reducible assumption) (by dsimp only; omega), cs3 (by with_reducible assumption) (by dsimp only; omega), RsI.put (by with_reducible assumption) _ _⟩))
      (first | (go_at_call 73; go_split_ands; (with_reducible refine (H1.out _ (by with_reducible assumption) (by with_reducible assumption)).mono ?_); rintro e wq ⟨rfl, bq⟩; have Rq := RsI.next (by with_reducible assumption) bq; have rq0 := Rq.lt; obtain ⟨cq0, rq1⟩ := Rq.c0; obtain ⟨cq1, rq2⟩ := Rq.c1; have rq3 := Rq.f0; have rq4 := Rq.f1) | (go_at_call 73; go_split_ands; (with_reducible refine (H2.out _ (by with_reducible assumption) (by with_reducible assumption)).mono ?_); rintro e wq ⟨rfl, bq⟩; have Rq := RsI.next (by with_reducible assumption) bq; have rq0 := Rq.lt; obtain ⟨cq0, rq1⟩ := Rq.c0; obtain ⟨cq1, rq2⟩ := Rq.c1; have rq3 := Rq.f0; have rq4 := Rq.f1))
    go_split_ands
    have hle := Rq.le
    have HB := hid (Rq.put (ub R1) (ub R2)).bel
    clear Rq bq
    go_wp2
    exact bodyPost_ret (v := tv (R1, R2)) (by simp [results, Try.results50, go_sem, rq0, rq1, rq2, rq3, rq4]; try rfl) rfl ⟨rfl, by simpa [go_sem] using HB.out⟩
  · rw [show (if (true : Bool) = true then 0 else 32 : Nat) = 0 from rfl, show szI true = 64 from rfl]
    have H1 := hid fun W (hp : W.cell? ⟨w.heap.size + 1 + 1 + 1 + 1, 0, none⟩ = some (.int .i64 0)) (hq : W.cell? ⟨w.heap.size, 0, none⟩ = some (.int .i64 64)) =>
      (HC (w.heap.size + 1 + 1 + 1 + 1) w.heap.size 0 a.1 b.2 b.1 W (by decide) h2 h1 hp hq).mono (fun e W' h => (⟨h.1, h.2 ▸ below_dr W⟩ : e = .returned (.int .u64 (ub (drawU 0 (topW true) a.1 b.2.toNat b.1.toNat))) ∧ Below W.heap.size W W'))
    have H2 := hid fun W (hp : W.cell? ⟨w.heap.size + 1 + 1 + 1 + 1, 0, none⟩ = some (.int .i64 0)) (hq : W.cell? ⟨w.heap.size, 0, none⟩ = some (.int .i64 64)) =>
      (HC (w.heap.size + 1 + 1 + 1 + 1) w.heap.size 0 a.2 b.1 b.2 W (by decide) h1 h2 hp hq).mono (fun e W' h => (⟨h.1, h.2 ▸ below_dr W⟩ : e = .returned (.int .u64 (ub (drawU 0 (topW true) a.2 b.1.toNat b.2.toNat))) ∧ Below W.heap.size W W'))
    clear HC h1 h2
    generalize drawU 0 (topW true) a.1 b.2.toNat b.1.toNat = R1 at *
    generalize drawU 0 (topW true) a.2 b.1.toNat b.2.toNat = R2 at *
    unfold tv
    go_enter Try.func50, Try.ntmps50
    go_wp2_with fail
    obtain ⟨q0, q1, q2, q3, q4, q5, q6⟩ := sg_start w a b 64 0 3 24 24 24 3
    generalize ((((w.alloc (.cells #[.int .i64 64] 3)).alloc (.cells #[.int .u64 (ub a.1), .int .u64 (ub a.2)] 24)).alloc (.cells #[.int .u64 (ub b.1), .int .u64 (ub b.2)] 24)).alloc (.cells #[.int .u64 0, .int .u64 0] 24)).alloc (.cells #[.int .i64 0] 3) = w0 at *
    go_region_held3 (fun w' => w'.cell? ⟨w.heap.size + 1, 0, none⟩ = some (.int .u64 (ub a.1)) ∧ w'.cell? ⟨w.heap.size + 1, 1, none⟩ = some (.int .u64 (ub a.2)) ∧ w'.cell? ⟨w.heap.size + 1 + 1, 0, none⟩ = some (.int .u64 (ub b.1)) ∧ w'.cell? ⟨w.heap.size + 1 + 1, 1, none⟩ = some (.int .u64 (ub b.2)) ∧ w'.cell? ⟨w.heap.size + 1 + 1 + 1 + 1, 0, none⟩ = some (.int .i64 0) ∧ w'.cell? ⟨w.heap.size, 0, none⟩ = some (.int .i64 64) ∧ RsI w (w.heap.size + 1 + 1 + 1) w')
      (first
        | (go_split_ands; exact ⟨by with_reducible assumption, by with_reducible assumption, by with_reducible assumption, by with_reducible assumption, by with_reducible assumption, by with_reducible assumption, by with_reducible assumption⟩)
        | exact ⟨cn bq (by with_reducible assumption), cn bq (by with_reducible assumption), cn bq (by with_reducible assumption), cn bq (by with_reducible assumption), cn bq (by with_reducible assumption), cn bq (by with_reducible assumption), RsI.next (by with_reducible assumption) bq⟩
        | exact ⟨cn (below_dr w0) q0, cn (below_dr w0) q1, cn (below_dr w0) q2, cn (below_dr w0) q3, cn (below_dr w0) q4, cn (below_dr w0) q5, q6.next (below_dr w0)⟩
        | (go_split_ands; exact ⟨cs3 (by with_reducible assumption) (by dsimp only; omega), cs3 (by with_reducible assumption) (by dsimp only; omega), cs3 (by with_reducible assumption) (by dsimp only; omega), cs3 (by with_reducible assumption) (by dsimp only; omega), cs3 (by with_reducible assumption) (by dsimp only; omega), cs3 (by with_reducible assumption) (by dsimp only; omega), RsI.put (by with_reducible assumption) _ _⟩))
      (first | (go_at_call 73; go_split_ands; (with_reducible refine (H1.out _ (by with_reducible assumption) (by with_reducible assumption)).mono ?_); rintro e wq ⟨rfl, bq⟩; have Rq := RsI.next (by with_reducible assumption) bq; have rq0 := Rq.lt; obtain ⟨cq0, rq1⟩ := Rq.c0; obtain ⟨cq1, rq2⟩ := Rq.c1; have rq3 := Rq.f0; have rq4 := Rq.f1) | (go_at_call 73; go_split_ands; (with_reducible refine (H2.out _ (by with_reducible assumption) (by with_reducible assumption)).mono ?_); rintro e wq ⟨rfl, bq⟩; have Rq := RsI.next (by with_reducible assumption) bq; have rq0 := Rq.lt; obtain ⟨cq0, rq1⟩ := Rq.c0; obtain ⟨cq1, rq2⟩ := Rq.c1; have rq3 := Rq.f0; have rq4 := Rq.f1))
    go_split_ands
    have hle := Rq.le
    have HB := hid (Rq.put (ub R1) (ub R2)).bel
    clear Rq bq
    go_wp2
    exact bodyPost_ret (v := tv (R1, R2)) (by simp [results, Try.results50, go_sem, rq0, rq1, rq2, rq3, rq4]; try rfl) rfl ⟨rfl, by simpa [go_sem] using HB.out⟩
end Go.Proofs.Ytjcnpjidkimldaa

namespace Go.Proofs.Ytjcnpjidkimldaa
set_option linter.unusedSimpArgs false
set_option linter.unusedVariables false
set_option maxRecDepth 100000
open Go.ChangeShapes Go.WideShapes Go.ChangeAt Go.RowKit

@[go_sem] theorem ub_neg (x : B64) : IntKind.u64.wrap (-(ub x)) = ub (0#64 - x) := by
  have h := ub_wsub 0#64 x
  rw [show ub 0#64 = 0 from rfl, Int.zero_sub] at h
  exact h
@[go_sem] theorem ub_neg1 (x : B64) : IntKind.u64.wrap (-1 * ub x) = ub (0#64 - x) := by rw [← ub_neg, Int.neg_one_mul]
set_option maxRecDepth 20000 in
set_option maxHeartbeats 4000000 in
theorem sRes0 (c : Bool) (a b : Tn) (w : World) : Calls Try.prog 17 #[.int .i64 0, .int .i64 (szI c), tv a, tv b] w fun e w' => e = .returned (tv (resS 0 c a b)) ∧ Below w.heap.size w w' := by
  have H := fun W => sSum_any c a b W
  rw [show resS 0 c a b = sumS c a b from rfl]
  generalize sumS c a b = R at *
  generalize szI c = SZ at *
  obtain ⟨v, m⟩ := a
  obtain ⟨v', m'⟩ := b
  unfold tv at H ⊢
  dsimp only at H ⊢
  replace H := hid H
  go_enter Try.func17, Try.ntmps17
  go_wp2_with fail
  refine (H.out _).mono ?_
  rintro e w1 ⟨rfl, b1⟩
  have hb : Below w.heap.size w w1 := ((((Below.refl _ _).alloc (Nat.le_refl _) _).alloc (by simp) _).alloc (by simp <;> omega) _).trans (b1.mono (by simp; omega))
  obtain ⟨hc1, hf1⟩ := bcell b1
  have hz1_0 : w.heap.size < w1.heap.size := by have := b1.size; simp at this; omega
  have hz1_1 : w.heap.size + 1 < w1.heap.size := by have := b1.size; simp at this; omega
  have hz1_2 : w.heap.size + 1 + 1 < w1.heap.size := by have := b1.size; simp at this; omega
  have HB1 := hid hb
  clear b1 hb
  go_wp2
  exact bodyPost_ret (v := tv R) (by simp [results, Try.results17, go_sem, hc1, hf1, hz1_0, hz1_1, hz1_2]; try rfl) rfl ⟨rfl, (HB1.out.setCell (by simp <;> omega) _).setCell (by simp <;> omega) _⟩
set_option maxRecDepth 20000 in
set_option maxHeartbeats 4000000 in
theorem sRes2 (c : Bool) (a b : Tn) (w : World) : Calls Try.prog 17 #[.int .i64 2, .int .i64 (szI c), tv a, tv b] w fun e w' => e = .returned (tv (resS 2 c a b)) ∧ Below w.heap.size w w' := by
  have H := fun W => sProd_any c a b W
  rw [show resS 2 c a b = prodS c a b from rfl]
  generalize prodS c a b = R at *
  generalize szI c = SZ at *
  obtain ⟨v, m⟩ := a
  obtain ⟨v', m'⟩ := b
  unfold tv at H ⊢
  dsimp only at H ⊢
  replace H := hid H
  go_enter Try.func17, Try.ntmps17
  go_wp2_with fail
  refine (H.out _).mono ?_
  rintro e w1 ⟨rfl, b1⟩
  have hb : Below w.heap.size w w1 := ((((Below.refl _ _).alloc (Nat.le_refl _) _).alloc (by simp) _).alloc (by simp <;> omega) _).trans (b1.mono (by simp; omega))
  obtain ⟨hc1, hf1⟩ := bcell b1
  have hz1_0 : w.heap.size < w1.heap.size := by have := b1.size; simp at this; omega
  have hz1_1 : w.heap.size + 1 < w1.heap.size := by have := b1.size; simp at this; omega
  have hz1_2 : w.heap.size + 1 + 1 < w1.heap.size := by have := b1.size; simp at this; omega
  have HB1 := hid hb
  clear b1 hb
  go_wp2
  exact bodyPost_ret (v := tv R) (by simp [results, Try.results17, go_sem, hc1, hf1, hz1_0, hz1_1, hz1_2]; try rfl) rfl ⟨rfl, (HB1.out.setCell (by simp <;> omega) _).setCell (by simp <;> omega) _⟩
set_option maxRecDepth 20000 in
set_option maxHeartbeats 4000000 in
theorem sRes3 (c : Bool) (a b : Tn) (w : World) : Calls Try.prog 17 #[.int .i64 3, .int .i64 (szI c), tv a, tv b] w fun e w' => e = .returned (tv (resS 3 c a b)) ∧ Below w.heap.size w w' := by
  have H := fun W => sQuot_any a b W
  rw [show resS 3 c a b = quotS a b from rfl]
  generalize quotS a b = R at *
  generalize szI c = SZ at *
  obtain ⟨v, m⟩ := a
  obtain ⟨v', m'⟩ := b
  unfold tv at H ⊢
  dsimp only at H ⊢
  replace H := hid H
  go_enter Try.func17, Try.ntmps17
  go_wp2_with fail
  refine (H.out _).mono ?_
  rintro e w1 ⟨rfl, b1⟩
  have hb : Below w.heap.size w w1 := ((((Below.refl _ _).alloc (Nat.le_refl _) _).alloc (by simp) _).alloc (by simp <;> omega) _).trans (b1.mono (by simp; omega))
  obtain ⟨hc1, hf1⟩ := bcell b1
  have hz1_0 : w.heap.size < w1.heap.size := by have := b1.size; simp at this; omega
  have hz1_1 : w.heap.size + 1 < w1.heap.size := by have := b1.size; simp at this; omega
  have hz1_2 : w.heap.size + 1 + 1 < w1.heap.size := by have := b1.size; simp at this; omega
  have HB1 := hid hb
  clear b1 hb
  go_wp2
  exact bodyPost_ret (v := tv R) (by simp [results, Try.results17, go_sem, hc1, hf1, hz1_0, hz1_1, hz1_2]; try rfl) rfl ⟨rfl, (HB1.out.setCell (by simp <;> omega) _).setCell (by simp <;> omega) _⟩
set_option maxRecDepth 20000 in
set_option maxHeartbeats 4000000 in
theorem sRes9 (c : Bool) (a b : Tn) (w : World) : Calls Try.prog 17 #[.int .i64 9, .int .i64 (szI c), tv a, tv b] w fun e w' => e = .returned (tv (resS 9 c a b)) ∧ Below w.heap.size w w' := by
  have H := fun W => sRest_any a b W
  rw [show resS 9 c a b = restS a b from rfl]
  generalize restS a b = R at *
  generalize szI c = SZ at *
  obtain ⟨v, m⟩ := a
  obtain ⟨v', m'⟩ := b
  unfold tv at H ⊢
  dsimp only at H ⊢
  replace H := hid H
  go_enter Try.func17, Try.ntmps17
  go_wp2_with fail
  refine (H.out _).mono ?_
  rintro e w1 ⟨rfl, b1⟩
  have hb : Below w.heap.size w w1 := ((((Below.refl _ _).alloc (Nat.le_refl _) _).alloc (by simp) _).alloc (by simp <;> omega) _).trans (b1.mono (by simp; omega))
  obtain ⟨hc1, hf1⟩ := bcell b1
  have hz1_0 : w.heap.size < w1.heap.size := by have := b1.size; simp at this; omega
  have hz1_1 : w.heap.size + 1 < w1.heap.size := by have := b1.size; simp at this; omega
  have hz1_2 : w.heap.size + 1 + 1 < w1.heap.size := by have := b1.size; simp at this; omega
  have HB1 := hid hb
  clear b1 hb
  go_wp2
  exact bodyPost_ret (v := tv R) (by simp [results, Try.results17, go_sem, hc1, hf1, hz1_0, hz1_1, hz1_2]; try rfl) rfl ⟨rfl, (HB1.out.setCell (by simp <;> omega) _).setCell (by simp <;> omega) _⟩
set_option maxRecDepth 20000 in
set_option maxHeartbeats 4000000 in
theorem sRes4 (c : Bool) (a b : Tn) (w : World) : Calls Try.prog 17 #[.int .i64 4, .int .i64 (szI c), tv a, tv b] w fun e w' => e = .returned (tv (resS 4 c a b)) ∧ Below w.heap.size w w' := by
  have H := fun W => sBitw_any 4 a b W (by decide)
  rw [show resS 4 c a b = bitwS 4 a b from rfl]
  generalize bitwS 4 a b = R at *
  generalize szI c = SZ at *
  obtain ⟨v, m⟩ := a
  obtain ⟨v', m'⟩ := b
  unfold tv at H ⊢
  dsimp only at H ⊢
  replace H := hid H
  go_enter Try.func17, Try.ntmps17
  go_wp2_with fail
  refine (H.out _).mono ?_
  rintro e w1 ⟨rfl, b1⟩
  have hb : Below w.heap.size w w1 := ((((Below.refl _ _).alloc (Nat.le_refl _) _).alloc (by simp) _).alloc (by simp <;> omega) _).trans (b1.mono (by simp; omega))
  obtain ⟨hc1, hf1⟩ := bcell b1
  have hz1_0 : w.heap.size < w1.heap.size := by have := b1.size; simp at this; omega
  have hz1_1 : w.heap.size + 1 < w1.heap.size := by have := b1.size; simp at this; omega
  have hz1_2 : w.heap.size + 1 + 1 < w1.heap.size := by have := b1.size; simp at this; omega
  have HB1 := hid hb
  clear b1 hb
  go_wp2
  exact bodyPost_ret (v := tv R) (by simp [results, Try.results17, go_sem, hc1, hf1, hz1_0, hz1_1, hz1_2]; try rfl) rfl ⟨rfl, (HB1.out.setCell (by simp <;> omega) _).setCell (by simp <;> omega) _⟩
set_option maxRecDepth 20000 in
set_option maxHeartbeats 4000000 in
theorem sRes5 (c : Bool) (a b : Tn) (w : World) : Calls Try.prog 17 #[.int .i64 5, .int .i64 (szI c), tv a, tv b] w fun e w' => e = .returned (tv (resS 5 c a b)) ∧ Below w.heap.size w w' := by
  have H := fun W => sBitw_any 5 a b W (by decide)
  rw [show resS 5 c a b = bitwS 5 a b from rfl]
  generalize bitwS 5 a b = R at *
  generalize szI c = SZ at *
  obtain ⟨v, m⟩ := a
  obtain ⟨v', m'⟩ := b
  unfold tv at H ⊢
  dsimp only at H ⊢
  replace H := hid H
  go_enter Try.func17, Try.ntmps17
  go_wp2_with fail
  refine (H.out _).mono ?_
  rintro e w1 ⟨rfl, b1⟩
  have hb : Below w.heap.size w w1 := ((((Below.refl _ _).alloc (Nat.le_refl _) _).alloc (by simp) _).alloc (by simp <;> omega) _).trans (b1.mono (by simp; omega))
  obtain ⟨hc1, hf1⟩ := bcell b1
  have hz1_0 : w.heap.size < w1.heap.size := by have := b1.size; simp at this; omega
  have hz1_1 : w.heap.size + 1 < w1.heap.size := by have := b1.size; simp at this; omega
  have hz1_2 : w.heap.size + 1 + 1 < w1.heap.size := by have := b1.size; simp at this; omega
  have HB1 := hid hb
  clear b1 hb
  go_wp2
  exact bodyPost_ret (v := tv R) (by simp [results, Try.results17, go_sem, hc1, hf1, hz1_0, hz1_1, hz1_2]; try rfl) rfl ⟨rfl, (HB1.out.setCell (by simp <;> omega) _).setCell (by simp <;> omega) _⟩
set_option maxRecDepth 20000 in
set_option maxHeartbeats 4000000 in
theorem sRes10 (c : Bool) (a b : Tn) (w : World) : Calls Try.prog 17 #[.int .i64 10, .int .i64 (szI c), tv a, tv b] w fun e w' => e = .returned (tv (resS 10 c a b)) ∧ Below w.heap.size w w' := by
  have H := fun W => sBitw_any 10 a b W (by decide)
  rw [show resS 10 c a b = bitwS 10 a b from rfl]
  generalize bitwS 10 a b = R at *
  generalize szI c = SZ at *
  obtain ⟨v, m⟩ := a
  obtain ⟨v', m'⟩ := b
  unfold tv at H ⊢
  dsimp only at H ⊢
  replace H := hid H
  go_enter Try.func17, Try.ntmps17
  go_wp2_with fail
  refine (H.out _).mono ?_
  rintro e w1 ⟨rfl, b1⟩
  have hb : Below w.heap.size w w1 := ((((Below.refl _ _).alloc (Nat.le_refl _) _).alloc (by simp) _).alloc (by simp <;> omega) _).trans (b1.mono (by simp; omega))
  obtain ⟨hc1, hf1⟩ := bcell b1
  have hz1_0 : w.heap.size < w1.heap.size := by have := b1.size; simp at this; omega
  have hz1_1 : w.heap.size + 1 < w1.heap.size := by have := b1.size; simp at this; omega
  have hz1_2 : w.heap.size + 1 + 1 < w1.heap.size := by have := b1.size; simp at this; omega
  have HB1 := hid hb
  clear b1 hb
  go_wp2
  exact bodyPost_ret (v := tv R) (by simp [results, Try.results17, go_sem, hc1, hf1, hz1_0, hz1_1, hz1_2]; try rfl) rfl ⟨rfl, (HB1.out.setCell (by simp <;> omega) _).setCell (by simp <;> omega) _⟩
set_option maxRecDepth 20000 in
set_option maxHeartbeats 4000000 in
theorem sRes11 (c : Bool) (a b : Tn) (w : World) : Calls Try.prog 17 #[.int .i64 11, .int .i64 (szI c), tv a, tv b] w fun e w' => e = .returned (tv (resS 11 c a b)) ∧ Below w.heap.size w w' := by
  rw [show resS 11 c a b = b from rfl]
  generalize szI c = SZ at *
  obtain ⟨v, m⟩ := a
  obtain ⟨v', m'⟩ := b
  unfold tv
  go_enter Try.func17, Try.ntmps17
  go_wp2
  exact bodyPost_ret (v := tv (v', m')) (by simp [results, Try.results17, go_sem]; try rfl) rfl ⟨rfl, ((((Below.refl _ _).alloc (Nat.le_refl _) _).alloc (by simp) _).alloc (by simp <;> omega) _)⟩
set_option maxRecDepth 20000 in
set_option maxHeartbeats 4000000 in
theorem sRes1 (c : Bool) (a b : Tn) (w : World) : Calls Try.prog 17 #[.int .i64 1, .int .i64 (szI c), tv a, tv b] w fun e w' => e = .returned (tv (resS 1 c a b)) ∧ Below w.heap.size w w' := by
  have H := fun W => sSum_any c a (negS b) W
  rw [show resS 1 c a b = sumS c a (negS b) from rfl]
  generalize sumS c a (negS b) = R at *
  generalize szI c = SZ at *
  unfold negS at H
  obtain ⟨v, m⟩ := a
  obtain ⟨v', m'⟩ := b
  unfold tv at H ⊢
  dsimp only at H ⊢
  replace H := hid H
  go_enter Try.func17, Try.ntmps17
  go_wp2_with fail
  refine (H.out _).mono ?_
  rintro e w1 ⟨rfl, b1⟩
  have hb : Below w.heap.size w w1 := ((((Below.refl _ _).alloc (Nat.le_refl _) _).alloc (by simp) _).alloc (by simp <;> omega) _).trans (b1.mono (by simp; omega))
  obtain ⟨hc1, hf1⟩ := bcell b1
  have hz1_0 : w.heap.size < w1.heap.size := by have := b1.size; simp at this; omega
  have hz1_1 : w.heap.size + 1 < w1.heap.size := by have := b1.size; simp at this; omega
  have hz1_2 : w.heap.size + 1 + 1 < w1.heap.size := by have := b1.size; simp at this; omega
  have HB1 := hid hb
  clear b1 hb
  go_wp2
  exact bodyPost_ret (v := tv R) (by simp [results, Try.results17, go_sem, hc1, hf1, hz1_0, hz1_1, hz1_2]; try rfl) rfl ⟨rfl, (HB1.out.setCell (by simp <;> omega) _).setCell (by simp <;> omega) _⟩
set_option maxRecDepth 20000 in
set_option maxHeartbeats 4000000 in
theorem sRes6 (c : Bool) (a b : Tn) (w : World) (hb : b.1.toNat ≤ b.2.toNat) : Calls Try.prog 17 #[.int .i64 6, .int .i64 (szI c), tv a, tv b] w fun e w' => e = .returned (tv (resS 6 c a b)) ∧ Below w.heap.size w w' := by
  obtain ⟨_, l2, l3⟩ := count_ok c b hb
  have hs := sizeW_le c
  have HC := fun W => sCounts_any c b W
  have HP := fun W => sPowers_any (countS c b) W (by omega) (by omega)
  rw [show resS 6 c a b = prodS c a (powS (countS c b)) from rfl]
  have HX := fun W => sProd_any c a (powS (countS c b)) W
  generalize prodS c a (powS (countS c b)) = R at *
  generalize powS (countS c b) = Q at *
  clear l2 l3 hb hs
  generalize countS c b = C at *
  generalize szI c = SZ at *
  unfold tv at HC HP HX ⊢
  replace HC := hid HC
  replace HP := hid HP
  replace HX := hid HX
  have I := RI.start w a b 24 24 24
  go_enter Try.func17, Try.ntmps17
  go_wp2_with fail
  refine (HC.out _).mono ?_
  rintro e w1 ⟨rfl, b1⟩
  replace I := I.next b1
  clear b1
  go_wp2_with fail
  refine (HP.out _).mono ?_
  rintro e w2 ⟨rfl, b2⟩
  replace I := I.next b2
  clear b2
  have p0 := I.ca.c0
  have p1 := I.ca.c1
  have p2 := I.cb.c0
  have p3 := I.cb.c1
  have p4 := I.cb.f0
  have p5 := I.cb.f1
  replace I := I.putb Q
  go_wp2_with fail
  refine (HX.out _).mono ?_
  rintro e w3 ⟨rfl, b3⟩
  replace I := I.next b3
  clear b3 p0 p1 p2 p3 p4 p5
  have r0 := I.rc.lt
  have r1 := I.rc.c0
  have r2 := I.rc.c1
  have r3 := I.rc.f0
  have r4 := I.rc.f1
  have HB := hid (put2_below R I.bel (by omega : w.heap.size ≤ w.heap.size + 1 + 1))
  clear I
  go_wp2
  exact bodyPost_ret (v := tv R) (by simp [results, Try.results17, go_sem, r0, r1, r2, r3, r4]; try rfl) rfl ⟨rfl, HB.out⟩
set_option maxRecDepth 20000 in
set_option maxHeartbeats 4000000 in
theorem sRes7 (c : Bool) (a b : Tn) (w : World) (hb : b.1.toNat ≤ b.2.toNat) : Calls Try.prog 17 #[.int .i64 7, .int .i64 (szI c), tv a, tv b] w fun e w' => e = .returned (tv (resS 7 c a b)) ∧ Below w.heap.size w w' := by
  obtain ⟨_, l2, l3⟩ := count_ok c b hb
  have hs := sizeW_le c
  have HC := fun W => sCounts_any c b W
  have HP := fun W => sPowers_any (countS c b) W (by omega) (by omega)
  rw [show resS 7 c a b = quotS a (powS (countS c b)) from rfl]
  have HX := fun W => sQuot_any a (powS (countS c b)) W
  generalize quotS a (powS (countS c b)) = R at *
  generalize powS (countS c b) = Q at *
  clear l2 l3 hb hs
  generalize countS c b = C at *
  generalize szI c = SZ at *
  unfold tv at HC HP HX ⊢
  replace HC := hid HC
  replace HP := hid HP
  replace HX := hid HX
  have I := RI.start w a b 24 24 24
  go_enter Try.func17, Try.ntmps17
  go_wp2_with fail
  refine (HC.out _).mono ?_
  rintro e w1 ⟨rfl, b1⟩
  replace I := I.next b1
  clear b1
  go_wp2_with fail
  refine (HP.out _).mono ?_
  rintro e w2 ⟨rfl, b2⟩
  replace I := I.next b2
  clear b2
  have p0 := I.ca.c0
  have p1 := I.ca.c1
  have p2 := I.cb.c0
  have p3 := I.cb.c1
  have p4 := I.cb.f0
  have p5 := I.cb.f1
  replace I := I.putb Q
  go_wp2_with fail
  refine (HX.out _).mono ?_
  rintro e w3 ⟨rfl, b3⟩
  replace I := I.next b3
  clear b3 p0 p1 p2 p3 p4 p5
  have r0 := I.rc.lt
  have r1 := I.rc.c0
  have r2 := I.rc.c1
  have r3 := I.rc.f0
  have r4 := I.rc.f1
  have HB := hid (put2_below R I.bel (by omega : w.heap.size ≤ w.heap.size + 1 + 1))
  clear I
  go_wp2
  exact bodyPost_ret (v := tv R) (by simp [results, Try.results17, go_sem, r0, r1, r2, r3, r4]; try rfl) rfl ⟨rfl, HB.out⟩
end Go.Proofs.Ytjcnpjidkimldaa

namespace Go.Proofs.Ytjcnpjidkimldaa
set_option linter.unusedSimpArgs false
set_option linter.unusedVariables false
set_option maxRecDepth 100000
open Go.ChangeShapes Go.WideShapes Go.ChangeAt Go.RowKit

set_option maxRecDepth 20000 in
set_option maxHeartbeats 4000000 in
theorem sRes12 (c : Bool) (a b : Tn) (w : World) (hb : b.1.toNat ≤ b.2.toNat) : Calls Try.prog 17 #[.int .i64 12, .int .i64 (szI c), tv a, tv b] w fun e w' => e = .returned (tv (resS 12 c a b)) ∧ Below w.heap.size w w' := by
    obtain ⟨_, l2, l3⟩ := count_ok c b hb
    have hs := sizeW_le c
    have HC := fun W => sCounts_any c b W
    have HS := fun W => sSigned_any c a (countS c b) W (by omega) (by omega)
    rw [show resS 12 c a b = signS c a (countS c b) from rfl]
    generalize signS c a (countS c b) = R at *
    clear l2 l3 hb hs
    generalize countS c b = C at *
    generalize szI c = SZ at *
    unfold tv at HC HS ⊢
    replace HC := hid HC
    replace HS := hid HS
    have I0 := RI.start w a b 24 24 24
    go_enter Try.func17, Try.ntmps17
    go_wp2_with fail
    generalize ((w.alloc (.cells #[.int .u64 (ub a.1), .int .u64 (ub a.2)] 24)).alloc (.cells #[.int .u64 (ub b.1), .int .u64 (ub b.2)] 24)).alloc (.cells #[.int .u64 0, .int .u64 0] 24) = w0 at I0 ⊢
    have q0 := I0.ca.c0
    have q1 := I0.ca.c1
    have q2 := I0.cb.c0
    have q3 := I0.cb.c1
    have q4 := I0.res
    clear I0
    go_region_held3 (fun w' => w'.cell? ⟨w.heap.size, 0, none⟩ = some (.int .u64 (ub a.1)) ∧ w'.cell? ⟨w.heap.size, 1, none⟩ = some (.int .u64 (ub a.2)) ∧ w'.cell? ⟨w.heap.size + 1, 0, none⟩ = some (.int .u64 (ub b.1)) ∧ w'.cell? ⟨w.heap.size + 1, 1, none⟩ = some (.int .u64 (ub b.2)) ∧ RsI w (w.heap.size + 1 + 1) w')
      (first
        | (go_split_ands; exact ⟨by with_reducible assumption, by with_reducible assumption, by with_reducible assumption, by with_reducible assumption, by with_reducible assumption⟩)
        | exact ⟨cn bq (by with_reducible assumption), cn bq (by with_reducible assumption), cn bq (by with_reducible assumption), cn bq (by with_reducible assumption), RsI.next (by with_reducible assumption) bq⟩
        | exact ⟨cn (below_dr w0) q0, cn (below_dr w0) q1, cn (below_dr w0) q2, cn (below_dr w0) q3, q4.next (below_dr w0)⟩
        | (go_split_ands; exact ⟨cs3 (by with_reducible assumption) (by dsimp only; omega), cs3 (by with_reducible assumption) (by dsimp only; omega), cs3 (by with_reducible assumption) (by dsimp only; omega), cs3 (by with_reducible assumption) (by dsimp only; omega), RsI.put (by with_reducible assumption) _ _⟩))
      (first | (go_at_call 47; go_split_ands; (with_reducible refine (HC.out _).mono ?_); rintro e wq ⟨rfl, bq⟩; have Rq := RsI.next (by with_reducible assumption) bq; have rq0 := Rq.lt; obtain ⟨cq0, rq1⟩ := Rq.c0; obtain ⟨cq1, rq2⟩ := Rq.c1; have rq3 := Rq.f0; have rq4 := Rq.f1; have aq0 := cn bq (by with_reducible assumption : _ = some (Value.int IntKind.u64 (ub a.1))); have aq1 := cn bq (by with_reducible assumption : _ = some (Value.int IntKind.u64 (ub a.2))); have aq2 := cn bq (by with_reducible assumption : _ = some (Value.int IntKind.u64 (ub b.1))); have aq3 := cn bq (by with_reducible assumption : _ = some (Value.int IntKind.u64 (ub b.2)))) | (go_at_call 50; go_split_ands; (with_reducible refine (HS.out _).mono ?_); rintro e wq ⟨rfl, bq⟩; have Rq := RsI.next (by with_reducible assumption) bq; have rq0 := Rq.lt; obtain ⟨cq0, rq1⟩ := Rq.c0; obtain ⟨cq1, rq2⟩ := Rq.c1; have rq3 := Rq.f0; have rq4 := Rq.f1; have aq0 := cn bq (by with_reducible assumption : _ = some (Value.int IntKind.u64 (ub a.1))); have aq1 := cn bq (by with_reducible assumption : _ = some (Value.int IntKind.u64 (ub a.2))); have aq2 := cn bq (by with_reducible assumption : _ = some (Value.int IntKind.u64 (ub b.1))); have aq3 := cn bq (by with_reducible assumption : _ = some (Value.int IntKind.u64 (ub b.2)))))
    go_split_ands
    have hle := Rq.le
    have HB := hid (Rq.put (ub R.1) (ub R.2)).bel
    clear Rq bq
    go_wp2
    exact bodyPost_ret (v := tv R) (by simp [results, Try.results17, go_sem, rq0, rq1, rq2, rq3, rq4]; try rfl) rfl ⟨rfl, by simpa [go_sem] using HB.out⟩
set_option maxRecDepth 20000 in
set_option maxHeartbeats 4000000 in
theorem sRes8 (c : Bool) (a b : Tn) (w : World) : Calls Try.prog 17 #[.int .i64 8, .int .i64 (szI c), tv a, tv b] w fun e w' => e = .returned (tv (resS 8 c a b)) ∧ Below w.heap.size w w' := by
    have HO := fun W => sOf_any 0#64 W
    have HX := fun W => sSum_any c (0#64, 0#64) (negS a) W
    rw [show resS 8 c a b = sumS c (0#64, 0#64) (negS a) from rfl]
    generalize sumS c (0#64, 0#64) (negS a) = R at *
    generalize szI c = SZ at *
    unfold negS at HX
    unfold tv at HO HX ⊢
    dsimp only at HO HX ⊢
    rw [show ub 0#64 = 0 from rfl] at HO HX
    replace HO := hid HO
    replace HX := hid HX
    have I0 := RI.start w a b 24 24 24
    go_enter Try.func17, Try.ntmps17
    go_wp2_with fail
    generalize ((w.alloc (.cells #[.int .u64 (ub a.1), .int .u64 (ub a.2)] 24)).alloc (.cells #[.int .u64 (ub b.1), .int .u64 (ub b.2)] 24)).alloc (.cells #[.int .u64 0, .int .u64 0] 24) = w0 at I0 ⊢
    have q0 := I0.ca.c0
    have q1 := I0.ca.c1
    have Id := I0.next (below_dr w0)
    have d0 := Id.ca.c0
    have d1 := Id.ca.c1
    go_region_law (first | (go_simp; go_at_call 44; (with_reducible refine (HO.out _).mono ?_); rintro e wq ⟨rfl, bq⟩; have Iq := Id.next bq; have a0 := Iq.ca.c0; have a1 := Iq.ca.c1; have a2 := Iq.ca.f0; have a3 := Iq.ca.f1; have a4 := Iq.cb.c0; have a5 := Iq.cb.c1; have a6 := Iq.cb.f0; have a7 := Iq.cb.f1))
    all_goals
      have I5 := (Iq.puta (0#64, 0#64)).putb a
      clear a0 a1 a2 a3 a4 a5 a6 a7 Iq bq
      have I6 : RI w (0#64, 0#64) a ((((wq.setCell ⟨w.heap.size, 0, none⟩ (.int .u64 0)).setCell ⟨w.heap.size, 1, none⟩ (.int .u64 0)).setCell ⟨w.heap.size + 1, 0, none⟩ (.int .u64 (ub a.1))).setCell ⟨w.heap.size + 1, 1, none⟩ (.int .u64 (ub a.2))) := I5
      clear I5
      generalize (((wq.setCell ⟨w.heap.size, 0, none⟩ (.int .u64 0)).setCell ⟨w.heap.size, 1, none⟩ (.int .u64 0)).setCell ⟨w.heap.size + 1, 0, none⟩ (.int .u64 (ub a.1))).setCell ⟨w.heap.size + 1, 1, none⟩ (.int .u64 (ub a.2)) = w5 at I6 ⊢
      clear q0 q1 d0 d1 Id I0
      have p0 : w5.cell? ⟨w.heap.size, 0, none⟩ = some (.int .u64 0) := I6.ca.c0
      have p1 : w5.cell? ⟨w.heap.size, 1, none⟩ = some (.int .u64 0) := I6.ca.c1
      have p2 := I6.cb.c0
      have p3 := I6.cb.c1
      have p4 := I6.cb.f0
      have p5 := I6.cb.f1
      have I := I6.putb (0#64 - a.2, 0#64 - a.1)
      clear I6
      go_wp2_with fail
      refine (HX.out _).mono ?_
      rintro e w7 ⟨rfl, b7⟩
      replace I := I.next b7
      clear b7 p0 p1 p2 p3 p4 p5
      have r0 := I.rc.lt
      have r1 := I.rc.c0
      have r2 := I.rc.c1
      have r3 := I.rc.f0
      have r4 := I.rc.f1
      have HB := hid (put2_below R I.bel (by omega : w.heap.size ≤ w.heap.size + 1 + 1))
      clear I
      go_wp2
      exact bodyPost_ret (v := tv R) (by simp [results, Try.results17, go_sem, r0, r1, r2, r3, r4]; try rfl) rfl ⟨rfl, HB.out⟩
/-- The operations, one by one. -/
theorem sRes_any (k : Nat) (hk : k ≤ 12) (c : Bool) (a b : Tn) (w : World) (hb : b.1.toNat ≤ b.2.toNat) : Calls Try.prog 17 #[.int .i64 (k : Int), .int .i64 (szI c), tv a, tv b] w fun e w' => e = .returned (tv (resS k c a b)) ∧ Below w.heap.size w w' := by
  rcases twelve hk with rfl | rfl | rfl | rfl | rfl | rfl | rfl | rfl | rfl | rfl | rfl | rfl | rfl
  · exact sRes0 c a b w
  · exact sRes1 c a b w
  · exact sRes2 c a b w
  · exact sRes3 c a b w
  · exact sRes4 c a b w
  · exact sRes5 c a b w
  · exact sRes6 c a b w hb
  · exact sRes7 c a b w hb
  · exact sRes8 c a b w
  · exact sRes9 c a b w
  · exact sRes10 c a b w
  · exact sRes11 c a b w
  · exact sRes12 c a b w hb
end Go.Proofs.Ytjcnpjidkimldaa

namespace Go.Proofs.Ytjcnpjidkimldaa
set_option linter.unusedSimpArgs false
set_option linter.unusedVariables false
set_option maxRecDepth 100000
open Go.ChangeShapes Go.WideShapes Go.ChangeAt Go.RowKit

theorem low_is (x : B64) (k : Nat) (hk : k ≤ 64) : (x &&& (1#64 <<< k - 1#64)).toNat = x.toNat % 2 ^ k := by
  rw [BitVec.toNat_and, toNat_low k hk]; exact Nat.and_two_pow_sub_one_eq_mod _ _
/-- What a span holds, cut to so many bits. -/
theorem cut_ok (s : Tn) (k : Nat) (hk : k ≤ 64) (h : s.1.toNat ≤ s.2.toNat) :
    (cutK s k).1.toNat ≤ (cutK s k).2.toNat ∧ (cutK s k).2.toNat < 2 ^ k ∧ ∀ x, Lies s x → Lies (cutK s k) (x % 2 ^ k) := by
  have hp := Nat.two_pow_pos k
  have hm : mayS s = true := decide_eq_true h
  unfold cutK
  rw [if_pos hm]
  by_cases e : s.1 &&& ~~~(1#64 <<< k - 1#64) = s.2 &&& ~~~(1#64 <<< k - 1#64)
  · rw [if_pos e]
    have e' := congrArg BitVec.toNat e
    rw [toNat_high _ _ hk, toNat_high _ _ hk] at e'
    have q : s.1.toNat / 2 ^ k = s.2.toNat / 2 ^ k := Nat.eq_of_mul_eq_mul_right hp e'
    unfold Lies
    dsimp only
    rw [low_is _ _ hk, low_is _ _ hk]
    have d1 := Nat.div_add_mod s.1.toNat (2 ^ k)
    have d2 := Nat.div_add_mod s.2.toNat (2 ^ k)
    rw [q] at d1
    refine ⟨by omega, Nat.mod_lt _ hp, fun x hx => ?_⟩
    have q1 : s.1.toNat / 2 ^ k ≤ x / 2 ^ k := Nat.div_le_div_right hx.1
    have q2 : x / 2 ^ k ≤ s.2.toNat / 2 ^ k := Nat.div_le_div_right hx.2
    have d3 := Nat.div_add_mod x (2 ^ k)
    rw [show x / 2 ^ k = s.2.toNat / 2 ^ k by omega] at d3
    omega
  · rw [if_neg e]
    unfold Lies
    dsimp only
    rw [toNat_low k hk]
    have z : (0#64 : B64).toNat = 0 := rfl
    rw [z]
    refine ⟨Nat.zero_le _, by omega, fun x hx => ⟨Nat.zero_le _, ?_⟩⟩
    have := Nat.mod_lt x hp
    omega
def aluOk (op : Int) (a b : Tn) : Prop := 0 ≤ op ∧ op ≤ 12 ∧ mayS a = true ∧ mayS b = true
instance (op : Int) (a b : Tn) : Decidable (aluOk op a b) := by unfold aluOk; infer_instance
def aluT (op : Int) (c : Bool) (a b : Tn) : Tn := if aluOk op a b then resS op.toNat c (cutK a (sizeW c)) (cutK b (sizeW c)) else t0
def aluE (op : Int) (a b : Tn) : Int := if aluOk op a b then 0 else 1
theorem sCutW (c : Bool) (a : Tn) (w : World) : Calls Try.prog 18 #[tv a, .int .i64 (szI c)] w fun e w' => e = .returned (tv (cutK a (sizeW c))) ∧ Below w.heap.size w w' := by
  have h := sCut_any a (szI c) w
  rw [show clampN (szI c) = sizeW c by cases c <;> rfl] at h
  exact h
set_option maxRecDepth 20000 in
set_option maxHeartbeats 4000000 in
theorem sAlu_any (op : Int) (c : Bool) (a b : Tn) (w : World) : Calls Try.prog 5 #[.int .i64 op, .bool c, tv a, tv b] w fun e w' => e = .returned (.tuple #[tv (aluT op c a b), .int .i64 (aluE op a b)]) ∧ Below w.heap.size w w' := by
  have HA := fun W => sMay_any a W
  have HC := fun W => sMay_any b W
  by_cases h0 : op < 0
  ·
    have hn : ¬ aluOk op a b := by unfold aluOk; rintro ⟨x1, x2, x3, x4⟩; omega
    rw [show aluT op c a b = t0 from if_neg hn, show aluE op a b = 1 from if_neg hn]
    clear hn
    unfold tv
    go_enter Try.func5, Try.ntmps5
    go_wp2
    exact bodyPost_ret (v := .tuple #[tv t0, .int .i64 1]) (by simp [results, Try.results5, go_sem]; try rfl) rfl ⟨rfl, ((((Below.refl _ _).alloc (Nat.le_refl _) _).alloc (by simp) _).alloc (by simp <;> omega) _)⟩
  by_cases h1 : 12 < op
  ·
    have hn : ¬ aluOk op a b := by unfold aluOk; rintro ⟨x1, x2, x3, x4⟩; omega
    rw [show aluT op c a b = t0 from if_neg hn, show aluE op a b = 1 from if_neg hn]
    clear hn
    unfold tv
    go_enter Try.func5, Try.ntmps5
    go_wp2
    exact bodyPost_ret (v := .tuple #[tv t0, .int .i64 1]) (by simp [results, Try.results5, go_sem]; try rfl) rfl ⟨rfl, ((((Below.refl _ _).alloc (Nat.le_refl _) _).alloc (by simp) _).alloc (by simp <;> omega) _)⟩
  by_cases h2 : mayS a = true
  case neg =>
    have hn : ¬ aluOk op a b := by unfold aluOk; rintro ⟨x1, x2, x3, x4⟩; exact h2 x3
    rw [show aluT op c a b = t0 from if_neg hn, show aluE op a b = 1 from if_neg hn]
    clear hn
    rw [Bool.eq_false_iff.2 h2] at HA
    clear h2 HC
    unfold tv at HA ⊢
    replace HA := hid HA
    go_enter Try.func5, Try.ntmps5
    go_wp2_with fail
    refine (HA.out _).mono ?_
    rintro e w1 ⟨rfl, b1⟩
    have hb : Below w.heap.size w w1 := ((((Below.refl _ _).alloc (Nat.le_refl _) _).alloc (by simp) _).alloc (by simp <;> omega) _).trans (b1.mono (by simp; omega))
    obtain ⟨hc1, hf1⟩ := bcell b1
    have hz1_0 : w.heap.size < w1.heap.size := by have := b1.size; simp at this; omega
    have hz1_1 : w.heap.size + 1 < w1.heap.size := by have := b1.size; simp at this; omega
    have hz1_2 : w.heap.size + 1 + 1 < w1.heap.size := by have := b1.size; simp at this; omega
    have HB1 := hid hb
    clear b1 hb
    go_wp2
    exact bodyPost_ret (v := .tuple #[tv t0, .int .i64 1]) (by simp [results, Try.results5, go_sem, hc1, hf1, hz1_0, hz1_1, hz1_2]; try rfl) rfl ⟨rfl, (HB1.out.setCell (by simp <;> omega) _).setCell (by simp <;> omega) _⟩
  by_cases h3 : mayS b = true
  case neg =>
    have hn : ¬ aluOk op a b := by unfold aluOk; rintro ⟨x1, x2, x3, x4⟩; exact h3 x4
    rw [show aluT op c a b = t0 from if_neg hn, show aluE op a b = 1 from if_neg hn]
    clear hn
    rw [Bool.eq_false_iff.2 h3] at HC
    rw [h2] at HA
    clear h2 h3
    unfold tv at HA HC ⊢
    replace HA := hid HA
    replace HC := hid HC
    go_enter Try.func5, Try.ntmps5
    go_wp2_with fail
    refine (HA.out _).mono ?_
    rintro e w1 ⟨rfl, b1⟩
    have hb : Below w.heap.size w w1 := ((((Below.refl _ _).alloc (Nat.le_refl _) _).alloc (by simp) _).alloc (by simp <;> omega) _).trans (b1.mono (by simp; omega))
    obtain ⟨hc1, hf1⟩ := bcell b1
    have hz1_0 : w.heap.size < w1.heap.size := by have := b1.size; simp at this; omega
    have hz1_1 : w.heap.size + 1 < w1.heap.size := by have := b1.size; simp at this; omega
    have hz1_2 : w.heap.size + 1 + 1 < w1.heap.size := by have := b1.size; simp at this; omega
    have HB1 := hid hb
    clear b1 hb
    go_wp2_with fail
    refine (HC.out _).mono ?_
    rintro e w2 ⟨rfl, b2⟩
    have hb : Below w.heap.size w w2 := HB1.out.trans (b2.mono (by omega))
    obtain ⟨hc2, hf2⟩ := bcell b2
    have hz2_0 : w.heap.size < w2.heap.size := by have := b2.size; omega
    have hz2_1 : w.heap.size + 1 < w2.heap.size := by have := b2.size; omega
    have hz2_2 : w.heap.size + 1 + 1 < w2.heap.size := by have := b2.size; omega
    have HB2 := hid hb
    clear b2 hb
    go_wp2
    exact bodyPost_ret (v := .tuple #[tv t0, .int .i64 1]) (by simp [results, Try.results5, go_sem, hc1, hf1, hz1_0, hz1_1, hz1_2, hc2, hf2, hz2_0, hz2_1, hz2_2]; try rfl) rfl ⟨rfl, (HB2.out.setCell (by simp <;> omega) _).setCell (by simp <;> omega) _⟩
  have hok : aluOk op a b := ⟨by omega, by omega, h2, h3⟩
  rw [show aluT op c a b = resS op.toNat c (cutK a (sizeW c)) (cutK b (sizeW c)) from if_pos hok, show aluE op a b = 0 from if_pos hok]
  clear hok
  have X1 := fun W => sCutW c a W
  have X2 := fun W => sCutW c b W
  have X3 := fun W => sRes_any op.toNat (by omega) c (cutK a (sizeW c)) (cutK b (sizeW c)) W (cut_ok b _ (sizeW_le c) (of_decide_eq_true h3)).1
  rw [Int.toNat_of_nonneg (by omega)] at X3
  rw [h2] at HA
  rw [h3] at HC
  clear h2 h3
  generalize resS op.toNat c (cutK a (sizeW c)) (cutK b (sizeW c)) = R at *
  generalize cutK a (sizeW c) = A at *
  generalize cutK b (sizeW c) = B at *
  unfold tv at HA HC X1 X2 X3 ⊢
  replace HA := hid HA
  replace HC := hid HC
  have I0 := RI.start w a b 24 24 24
  cases c
  · rw [show szI false = 32 from rfl] at X1 X2 X3
    replace X1 := hid X1
    replace X2 := hid X2
    replace X3 := hid X3
    go_enter Try.func5, Try.ntmps5
    go_wp2_with fail
    refine (HA.out _).mono ?_
    rintro e w1 ⟨rfl, b1⟩
    have I1 := I0.next b1
    clear I0 b1
    have p0 := I1.ca.c0
    have p1 := I1.ca.c1
    have p2 := I1.cb.c0
    have p3 := I1.cb.c1
    have p4 : w.heap.size + 1 < w1.heap.size := I1.cb.lt
    go_wp2_with fail
    refine (HC.out _).mono ?_
    rintro e w0 ⟨rfl, b1⟩
    have I2 := I1.next b1
    clear I1 b1 p0 p1 p2 p3 p4
    have q0 := I2.ca.c0
    have q1 := I2.ca.c1
    have q2 := I2.cb.c0
    have q3 := I2.cb.c1
    have q4 := I2.res
    clear I2
    go_wp2_with fail
    go_region_held3 (fun w' => w'.cell? ⟨w.heap.size, 0, none⟩ = some (.int .u64 (ub a.1)) ∧ w'.cell? ⟨w.heap.size, 1, none⟩ = some (.int .u64 (ub a.2)) ∧ w'.cell? ⟨w.heap.size + 1, 0, none⟩ = some (.int .u64 (ub b.1)) ∧ w'.cell? ⟨w.heap.size + 1, 1, none⟩ = some (.int .u64 (ub b.2)) ∧ RsI w (w.heap.size + 1 + 1) w')
      (first
        | (go_split_ands; exact ⟨by with_reducible assumption, by with_reducible assumption, by with_reducible assumption, by with_reducible assumption, by with_reducible assumption⟩)
        | exact ⟨cn bq (by with_reducible assumption), cn bq (by with_reducible assumption), cn bq (by with_reducible assumption), cn bq (by with_reducible assumption), RsI.next (by with_reducible assumption) bq⟩
        | exact ⟨cn (below_dr w0) q0, cn (below_dr w0) q1, cn (below_dr w0) q2, cn (below_dr w0) q3, q4.next (below_dr w0)⟩
        | (go_split_ands; exact ⟨cs3 (by with_reducible assumption) (by dsimp only; omega), cs3 (by with_reducible assumption) (by dsimp only; omega), cs3 (by with_reducible assumption) (by dsimp only; omega), cs3 (by with_reducible assumption) (by dsimp only; omega), RsI.put (by with_reducible assumption) _ _⟩))
      (first | (go_at_call 18; go_split_ands; (with_reducible refine (X1.out _).mono ?_); rintro e wq ⟨rfl, bq⟩; have Rq := RsI.next (by with_reducible assumption) bq; have rq0 := Rq.lt; obtain ⟨cq0, rq1⟩ := Rq.c0; obtain ⟨cq1, rq2⟩ := Rq.c1; have rq3 := Rq.f0; have rq4 := Rq.f1; have aq0 := cn bq (by with_reducible assumption : _ = some (Value.int IntKind.u64 (ub a.1))); have aq1 := cn bq (by with_reducible assumption : _ = some (Value.int IntKind.u64 (ub a.2))); have aq2 := cn bq (by with_reducible assumption : _ = some (Value.int IntKind.u64 (ub b.1))); have aq3 := cn bq (by with_reducible assumption : _ = some (Value.int IntKind.u64 (ub b.2)))) | (go_at_call 18; go_split_ands; (with_reducible refine (X2.out _).mono ?_); rintro e wq ⟨rfl, bq⟩; have Rq := RsI.next (by with_reducible assumption) bq; have rq0 := Rq.lt; obtain ⟨cq0, rq1⟩ := Rq.c0; obtain ⟨cq1, rq2⟩ := Rq.c1; have rq3 := Rq.f0; have rq4 := Rq.f1; have aq0 := cn bq (by with_reducible assumption : _ = some (Value.int IntKind.u64 (ub a.1))); have aq1 := cn bq (by with_reducible assumption : _ = some (Value.int IntKind.u64 (ub a.2))); have aq2 := cn bq (by with_reducible assumption : _ = some (Value.int IntKind.u64 (ub b.1))); have aq3 := cn bq (by with_reducible assumption : _ = some (Value.int IntKind.u64 (ub b.2)))) | (go_at_call 17; go_split_ands; (with_reducible refine (X3.out _).mono ?_); rintro e wq ⟨rfl, bq⟩; have Rq := RsI.next (by with_reducible assumption) bq; have rq0 := Rq.lt; obtain ⟨cq0, rq1⟩ := Rq.c0; obtain ⟨cq1, rq2⟩ := Rq.c1; have rq3 := Rq.f0; have rq4 := Rq.f1; have aq0 := cn bq (by with_reducible assumption : _ = some (Value.int IntKind.u64 (ub a.1))); have aq1 := cn bq (by with_reducible assumption : _ = some (Value.int IntKind.u64 (ub a.2))); have aq2 := cn bq (by with_reducible assumption : _ = some (Value.int IntKind.u64 (ub b.1))); have aq3 := cn bq (by with_reducible assumption : _ = some (Value.int IntKind.u64 (ub b.2)))))
    go_split_ands
    have hle := Rq.le
    have HB := hid (Rq.put (ub R.1) (ub R.2)).bel
    clear Rq bq
    go_wp2
    exact bodyPost_ret (v := .tuple #[tv R, .int .i64 0]) (by simp [results, Try.results5, go_sem, rq0, rq1, rq2, rq3, rq4]; try rfl) rfl ⟨rfl, by simpa [go_sem] using HB.out⟩
  · rw [show szI true = 64 from rfl] at X1 X2 X3
    replace X1 := hid X1
    replace X2 := hid X2
    replace X3 := hid X3
    go_enter Try.func5, Try.ntmps5
    go_wp2_with fail
    refine (HA.out _).mono ?_
    rintro e w1 ⟨rfl, b1⟩
    have I1 := I0.next b1
    clear I0 b1
    have p0 := I1.ca.c0
    have p1 := I1.ca.c1
    have p2 := I1.cb.c0
    have p3 := I1.cb.c1
    have p4 : w.heap.size + 1 < w1.heap.size := I1.cb.lt
    go_wp2_with fail
    refine (HC.out _).mono ?_
    rintro e w0 ⟨rfl, b1⟩
    have I2 := I1.next b1
    clear I1 b1 p0 p1 p2 p3 p4
    have q0 := I2.ca.c0
    have q1 := I2.ca.c1
    have q2 := I2.cb.c0
    have q3 := I2.cb.c1
    have q4 := I2.res
    clear I2
    go_wp2_with fail
    go_region_held3 (fun w' => w'.cell? ⟨w.heap.size, 0, none⟩ = some (.int .u64 (ub a.1)) ∧ w'.cell? ⟨w.heap.size, 1, none⟩ = some (.int .u64 (ub a.2)) ∧ w'.cell? ⟨w.heap.size + 1, 0, none⟩ = some (.int .u64 (ub b.1)) ∧ w'.cell? ⟨w.heap.size + 1, 1, none⟩ = some (.int .u64 (ub b.2)) ∧ RsI w (w.heap.size + 1 + 1) w')
      (first
        | (go_split_ands; exact ⟨by with_reducible assumption, by with_reducible assumption, by with_reducible assumption, by with_reducible assumption, by with_reducible assumption⟩)
        | exact ⟨cn bq (by with_reducible assumption), cn bq (by with_reducible assumption), cn bq (by with_reducible assumption), cn bq (by with_reducible assumption), RsI.next (by with_reducible assumption) bq⟩
        | exact ⟨cn (below_dr w0) q0, cn (below_dr w0) q1, cn (below_dr w0) q2, cn (below_dr w0) q3, q4.next (below_dr w0)⟩
        | (go_split_ands; exact ⟨cs3 (by with_reducible assumption) (by dsimp only; omega), cs3 (by with_reducible assumption) (by dsimp only; omega), cs3 (by with_reducible assumption) (by dsimp only; omega), cs3 (by with_reducible assumption) (by dsimp only; omega), RsI.put (by with_reducible assumption) _ _⟩))
      (first | (go_at_call 18; go_split_ands; (with_reducible refine (X1.out _).mono ?_); rintro e wq ⟨rfl, bq⟩; have Rq := RsI.next (by with_reducible assumption) bq; have rq0 := Rq.lt; obtain ⟨cq0, rq1⟩ := Rq.c0; obtain ⟨cq1, rq2⟩ := Rq.c1; have rq3 := Rq.f0; have rq4 := Rq.f1; have aq0 := cn bq (by with_reducible assumption : _ = some (Value.int IntKind.u64 (ub a.1))); have aq1 := cn bq (by with_reducible assumption : _ = some (Value.int IntKind.u64 (ub a.2))); have aq2 := cn bq (by with_reducible assumption : _ = some (Value.int IntKind.u64 (ub b.1))); have aq3 := cn bq (by with_reducible assumption : _ = some (Value.int IntKind.u64 (ub b.2)))) | (go_at_call 18; go_split_ands; (with_reducible refine (X2.out _).mono ?_); rintro e wq ⟨rfl, bq⟩; have Rq := RsI.next (by with_reducible assumption) bq; have rq0 := Rq.lt; obtain ⟨cq0, rq1⟩ := Rq.c0; obtain ⟨cq1, rq2⟩ := Rq.c1; have rq3 := Rq.f0; have rq4 := Rq.f1; have aq0 := cn bq (by with_reducible assumption : _ = some (Value.int IntKind.u64 (ub a.1))); have aq1 := cn bq (by with_reducible assumption : _ = some (Value.int IntKind.u64 (ub a.2))); have aq2 := cn bq (by with_reducible assumption : _ = some (Value.int IntKind.u64 (ub b.1))); have aq3 := cn bq (by with_reducible assumption : _ = some (Value.int IntKind.u64 (ub b.2)))) | (go_at_call 17; go_split_ands; (with_reducible refine (X3.out _).mono ?_); rintro e wq ⟨rfl, bq⟩; have Rq := RsI.next (by with_reducible assumption) bq; have rq0 := Rq.lt; obtain ⟨cq0, rq1⟩ := Rq.c0; obtain ⟨cq1, rq2⟩ := Rq.c1; have rq3 := Rq.f0; have rq4 := Rq.f1; have aq0 := cn bq (by with_reducible assumption : _ = some (Value.int IntKind.u64 (ub a.1))); have aq1 := cn bq (by with_reducible assumption : _ = some (Value.int IntKind.u64 (ub a.2))); have aq2 := cn bq (by with_reducible assumption : _ = some (Value.int IntKind.u64 (ub b.1))); have aq3 := cn bq (by with_reducible assumption : _ = some (Value.int IntKind.u64 (ub b.2)))))
    go_split_ands
    have hle := Rq.le
    have HB := hid (Rq.put (ub R.1) (ub R.2)).bel
    clear Rq bq
    go_wp2
    exact bodyPost_ret (v := .tuple #[tv R, .int .i64 0]) (by simp [results, Try.results5, go_sem, rq0, rq1, rq2, rq3, rq4]; try rfl) rfl ⟨rfl, by simpa [go_sem] using HB.out⟩
end Go.Proofs.Ytjcnpjidkimldaa
