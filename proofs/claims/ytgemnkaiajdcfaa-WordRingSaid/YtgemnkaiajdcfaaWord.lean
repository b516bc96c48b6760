/-
  Contracts of package word's functions, as the landed code has them.
-/
import Derived.Test.YtgemnkaiajdcfaaKit
import Derived.Test.YtgemnkaiajdcfaaNum
import Derived.Deep.QuietTactic
import Derived.BigQuiet
import Derived.Outline
namespace Go.Proofs.Ytgemnkaiajdcfaa
open Go.ChangeShapes Go.WideShapes Go.ChangeAt Go.RowKit

theorem below_drewN (B : Nat) (w : World) (n : Nat) : Below B w (w.drewN n) := ⟨rfl, rfl, rfl, Nat.le_refl _, fun _ _ => rfl⟩

theorem sizeOf_any (wide : Bool) (w : World) : Calls Try.prog 27 #[.bool wide] w fun e w' => e = .returned (.int .u64 (SZ wide)) ∧ w = w' := by
  cases wide
  all_goals
    go_enter Try.func27, Try.ntmps27
    go_wp2
    go_ret
    exact ⟨rfl, rfl⟩

/-- The world behind 'fitter': the mask in a block of its own. -/
def masked (wide : Bool) (w : World) : World := w.alloc (.cells #[.int .u64 (MD wide - 1)] 22)
theorem masked_below (wide : Bool) (w : World) : Below w.heap.size w (masked wide w) := (Below.refl _ _).alloc (Nat.le_refl _) _

theorem fitter_any (wide : Bool) (w : World) : Calls Try.prog 28 #[.int .u64 (SZ wide)] w fun e w' =>
    e = .returned (.func (.func 34) #[] #[.pointer (some ⟨w.heap.size, 0, none⟩)]) ∧ masked wide w = w' := by
  cases wide
  all_goals
    simp only [SZ_true, SZ_false]
    go_enter Try.func28, Try.ntmps28
    go_wp2
    go_ret
    exact ⟨rfl, rfl⟩

theorem fit_any (wide : Bool) (n : Int) (p : Addr) (w : World) (h0 : 0 ≤ n) (h1 : n < 18446744073709551616) (hm : w.cell? p = some (.int .u64 (MD wide - 1))) :
    Calls Try.prog 34 #[.int .u64 n, .pointer (some p)] w fun e w' => e = .returned (.int .u64 (n % MD wide)) ∧ w = w' := by
  have H := hid (mask_fit wide n h0 h1)
  go_enter Try.func34, Try.ntmps34
  go_wp2
  go_ret
  exact ⟨by rw [← H.out]; rfl, rfl⟩

theorem ret_int {k : IntKind} {a b : Int} (h : a = b) : Ending.returned (.int k a) = .returned (.int k b) := by rw [h]
theorem ret_two {k l : IntKind} {a b c d : Int} (h : a = b) (g : c = d) : Ending.returned (.tuple #[.int k a, .int l c]) = .returned (.tuple #[.int k b, .int l d]) := by rw [h, g]

theorem signed_num_f (n : Int) (h0 : 0 ≤ n) (h1 : n < MD false) : wrap64 (IntKind.u64.wrap (n * 4294967296)) / 4294967296 = sgnI false n := by
  rw [wrap_u64, wrap64_eq, sgnI_false]
  simp only [MD_false] at h1
  split <;> omega
theorem signed_num_t (n : Int) (h0 : 0 ≤ n) (h1 : n < MD true) : wrap64 (IntKind.u64.wrap n) = sgnI true n := by
  rw [wrap_u64, wrap64_eq, sgnI_true]
  simp only [MD_true] at h1
  split <;> omega

theorem signed_any (wide : Bool) (n : Int) (w : World) (h0 : 0 ≤ n) (h1 : n < MD wide) :
    Calls Try.prog 32 #[.int .u64 (SZ wide), .int .u64 n] w fun e w' => e = .returned (.int .i64 (sgnI wide n)) ∧ w = w' := by
  cases wide
  · have H := hid (signed_num_f n h0 h1)
    simp only [SZ_false]
    go_enter Try.func32, Try.ntmps32
    go_wp2
    go_ret
    exact ⟨ret_int H.out, rfl⟩
  · have H := hid (signed_num_t n h0 h1)
    simp only [SZ_true]
    go_enter Try.func32, Try.ntmps32
    go_wp2
    go_ret
    exact ⟨ret_int H.out, rfl⟩

/-- The plain operations. -/
def plainOp (op : Int) : Bool := op == 0 || op == 1 || op == 2 || op == 4 || op == 5 || op == 6 || op == 7 || op == 8 || op == 10 || op == 11

theorem answer_plain (op : Int) (wide : Bool) (x y : Int) (w : World) (g0 : 0 ≤ y) (g1 : y < 18446744073709551616) (hp : plainOp op = true) :
    Calls Try.prog 29 #[.int .i64 op, .int .u64 (SZ wide), .int .u64 x, .int .u64 y] w fun e w' => e = .returned (.tuple #[.int .u64 (ansI op wide x y), .int .i64 0]) ∧ w = w' := by
  have hc : op = 0 ∨ op = 1 ∨ op = 2 ∨ op = 4 ∨ op = 5 ∨ op = 6 ∨ op = 7 ∨ op = 8 ∨ op = 10 ∨ op = 11 := by
    simp only [plainOp, Bool.or_eq_true, beq_iff_eq] at hp
    omega
  clear hp
  rcases hc with rfl | rfl | rfl | rfl | rfl | rfl | rfl | rfl | rfl | rfl
  all_goals
    cases wide
    all_goals
      simp only [SZ_true, SZ_false]
      go_enter Try.func29, Try.ntmps29
      go_wp2
      go_ret2
      first
        | exact ⟨rfl, rfl⟩
        | exact ⟨ret_two (by unfold ansI; simp [wrap_u64, SZ]) rfl, rfl⟩

theorem answer_div (wide : Bool) (x y : Int) (w : World) (h0 : 0 ≤ x) (h1 : x < 18446744073709551616) (g0 : 0 ≤ y) :
    Calls Try.prog 29 #[.int .i64 3, .int .u64 (SZ wide), .int .u64 x, .int .u64 y] w fun e w' => e = .returned (.tuple #[.int .u64 (ansI 3 wide x y), .int .i64 0]) ∧ w = w' := by
  by_cases hy : y = 0
  · subst hy
    go_enter Try.func29, Try.ntmps29
    go_wp2
    go_ret2
    exact ⟨rfl, rfl⟩
  · have H := hid (show x / y = ansI 3 wide x y by
      show _ = if y = 0 then 0 else x / y
      rw [if_neg hy])
    have hp : 0 < y := by omega
    go_enter Try.func29, Try.ntmps29
    go_wp2
    go_ret2
    exact ⟨ret_two H.out rfl, rfl⟩

theorem answer_mod (wide : Bool) (x y : Int) (w : World) (h0 : 0 ≤ x) (g0 : 0 ≤ y) :
    Calls Try.prog 29 #[.int .i64 9, .int .u64 (SZ wide), .int .u64 x, .int .u64 y] w fun e w' => e = .returned (.tuple #[.int .u64 (ansI 9 wide x y), .int .i64 0]) ∧ w = w' := by
  by_cases hy : y = 0
  · subst hy
    go_enter Try.func29, Try.ntmps29
    go_wp2
    go_ret2
    exact ⟨rfl, rfl⟩
  · have H := hid (show x % y = ansI 9 wide x y by
      show _ = if y = 0 then x else x % y
      rw [if_neg hy])
    have hp : 0 < y := by omega
    go_enter Try.func29, Try.ntmps29
    go_wp2
    go_ret2
    exact ⟨ret_two H.out rfl, rfl⟩

theorem answer_none (op : Int) (wide : Bool) (x y : Int) (w : World) (ho : ¬ (0 ≤ op ∧ op ≤ 12)) :
    Calls Try.prog 29 #[.int .i64 op, .int .u64 (SZ wide), .int .u64 x, .int .u64 y] w fun e w' => e = .returned (.tuple #[.int .u64 0, .int .i64 20]) ∧ w = w' := by
  have e0 : (op == 0) = false := by simp; omega
  have e1 : (op == 1) = false := by simp; omega
  have e2 : (op == 2) = false := by simp; omega
  have e3 : (op == 3) = false := by simp; omega
  have e4 : (op == 4) = false := by simp; omega
  have e5 : (op == 5) = false := by simp; omega
  have e6 : (op == 6) = false := by simp; omega
  have e7 : (op == 7) = false := by simp; omega
  have e8 : (op == 8) = false := by simp; omega
  have e9 : (op == 9) = false := by simp; omega
  have e10 : (op == 10) = false := by simp; omega
  have e11 : (op == 11) = false := by simp; omega
  have e12 : (op == 12) = false := by simp; omega
  clear ho
  go_enter Try.func29, Try.ntmps29
  go_wp2
  go_ret2
  exact ⟨rfl, rfl⟩

theorem answer_arsh (wide : Bool) (x y : Int) (w : World) (h0 : 0 ≤ x) (h1 : x < MD wide) (g0 : 0 ≤ y) (g1 : y < 18446744073709551616) :
    Calls Try.prog 29 #[.int .i64 12, .int .u64 (SZ wide), .int .u64 x, .int .u64 y] w fun e w' => e = .returned (.tuple #[.int .u64 (ansI 12 wide x y), .int .i64 0]) ∧ Below w.heap.size w w' := by
  have hs := fun W => signed_any wide x W h0 h1
  have H := hid (show IntKind.u64.wrap (sgnI wide x / 2 ^ (y % SZ wide).toNat) = ansI 12 wide x y by rw [wrap_u64]; rfl)
  cases wide
  all_goals
    simp only [SZ_true, SZ_false] at hs H ⊢
    have Hs := hid hs
    clear hs
    go_enter Try.func29, Try.ntmps29
    go_wp2
    go_quiet ((go_at_call 32; exact Calls.quiet_of_same ((Hs.out _).mono fun _ _ h => ⟨h.1, h.2.symm⟩)))
    go_wp2
    go_ret2
    exact ⟨ret_two H.out rfl, below_drewN _ _ _⟩

theorem answer_any (op : Int) (wide : Bool) (x y : Int) (w : World) (h0 : 0 ≤ x) (h1 : x < MD wide) (g0 : 0 ≤ y) (g1 : y < MD wide) :
    Calls Try.prog 29 #[.int .i64 op, .int .u64 (SZ wide), .int .u64 x, .int .u64 y] w fun e w' => e = .returned (.tuple #[.int .u64 (ansI op wide x y), .int .i64 (aluE op)]) ∧ Below w.heap.size w w' := by
  have hx : x < 18446744073709551616 := Int.lt_of_lt_of_le h1 (MD_le wide)
  have hy : y < 18446744073709551616 := Int.lt_of_lt_of_le g1 (MD_le wide)
  by_cases ho : 0 ≤ op ∧ op ≤ 12
  · have he : aluE op = 0 := if_pos ho
    rw [he]
    have hc : plainOp op = true ∨ op = 3 ∨ op = 9 ∨ op = 12 := by
      simp only [plainOp, Bool.or_eq_true, beq_iff_eq]
      omega
    rcases hc with hc | rfl | rfl | rfl
    · exact (answer_plain op wide x y w g0 hy hc).mono fun e w' h => ⟨h.1, h.2 ▸ Below.refl _ _⟩
    · exact (answer_div wide x y w h0 hx g0).mono fun e w' h => ⟨h.1, h.2 ▸ Below.refl _ _⟩
    · exact (answer_mod wide x y w h0 g0).mono fun e w' h => ⟨h.1, h.2 ▸ Below.refl _ _⟩
    · exact answer_arsh wide x y w h0 h1 g0 hy
  · have he : aluE op = 20 := if_neg ho
    have ha : ansI op wide x y = 0 := by
      unfold ansI
      rw [if_neg (by omega), if_neg (by omega), if_neg (by omega), if_neg (by omega), if_neg (by omega), if_neg (by omega), if_neg (by omega), if_neg (by omega), if_neg (by omega), if_neg (by omega), if_neg (by omega), if_neg (by omega), if_neg (by omega)]
    rw [he, ha]
    exact (answer_none op wide x y w ho).mono fun e w' h => ⟨h.1, h.2 ▸ Below.refl _ _⟩

end Go.Proofs.Ytgemnkaiajdcfaa
