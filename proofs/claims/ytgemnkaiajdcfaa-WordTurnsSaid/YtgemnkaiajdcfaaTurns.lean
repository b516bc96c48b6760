/-
  Law WordTurns: bytes turned about twice are as they were, and each byte goes to its place; a small number is itself again, with its sign. No condition.
-/
import Derived.Test.YtgemnkaiajdcfaaShifts
namespace Go.Proofs.Ytgemnkaiajdcfaa
open Go.ChangeShapes Go.WideShapes Go.ChangeAt Go.RowKit

theorem rev_digit (x b : Int) (h0 : 0 ≤ b) (h1 : b < 256) : (x * 256 + b) / 256 = x ∧ (x * 256 + b) % 256 = b := by omega
theorem rev_rev2 (a : Int) : rev 2 (rev 2 a) = a % 65536 := by
  have e : ∀ x, rev 2 x = (x % 256) * 256 + x / 256 % 256 := by
    intro x
    simp only [rev, ← div_step, Int.pow_zero, Int.ediv_one, Int.zero_mul, Int.zero_add]
  rw [e, e a]
  generalize h2 : a / 256 = a1
  generalize g0 : a % 256 = b0
  generalize g1 : a1 % 256 = b1
  simp only [(rev_digit _ b1 (by omega) (by omega)).1, (rev_digit _ b1 (by omega) (by omega)).2]
  omega
theorem rev_rev4 (a : Int) : rev 4 (rev 4 a) = a % 4294967296 := by
  have e : ∀ x, rev 4 x = (((x % 256) * 256 + x / 256 % 256) * 256 + x / 256 / 256 % 256) * 256 + x / 256 / 256 / 256 % 256 := by
    intro x
    simp only [rev, ← div_step, Int.pow_zero, Int.ediv_one, Int.zero_mul, Int.zero_add]
  rw [e, e a]
  generalize h2 : a / 256 = a1
  generalize h3 : a1 / 256 = a2
  generalize h4 : a2 / 256 = a3
  generalize g0 : a % 256 = b0
  generalize g1 : a1 % 256 = b1
  generalize g2 : a2 % 256 = b2
  generalize g3 : a3 % 256 = b3
  simp only [(rev_digit _ b3 (by omega) (by omega)).1, (rev_digit _ b2 (by omega) (by omega)).1, (rev_digit _ b1 (by omega) (by omega)).1, (rev_digit _ b3 (by omega) (by omega)).2, (rev_digit _ b2 (by omega) (by omega)).2, (rev_digit _ b1 (by omega) (by omega)).2]
  omega
theorem rev_rev8 (a : Int) (h0 : 0 ≤ a) (h1 : a < 18446744073709551616) : rev 8 (rev 8 a) = a := by
  have e : ∀ x, rev 8 x = (((((((x % 256) * 256 + x / 256 % 256) * 256 + x / 256 / 256 % 256) * 256 + x / 256 / 256 / 256 % 256) * 256 + x / 256 / 256 / 256 / 256 % 256) * 256 + x / 256 / 256 / 256 / 256 / 256 % 256) * 256 + x / 256 / 256 / 256 / 256 / 256 / 256 % 256) * 256 + x / 256 / 256 / 256 / 256 / 256 / 256 / 256 % 256 := by
    intro x
    simp only [rev, ← div_step, Int.pow_zero, Int.ediv_one, Int.zero_mul, Int.zero_add]
  rw [e, e a]
  generalize h2 : a / 256 = a1
  generalize h3 : a1 / 256 = a2
  generalize h4 : a2 / 256 = a3
  generalize h5 : a3 / 256 = a4
  generalize h6 : a4 / 256 = a5
  generalize h7 : a5 / 256 = a6
  generalize h8 : a6 / 256 = a7
  generalize g0 : a % 256 = b0
  generalize g1 : a1 % 256 = b1
  generalize g2 : a2 % 256 = b2
  generalize g3 : a3 % 256 = b3
  generalize g4 : a4 % 256 = b4
  generalize g5 : a5 % 256 = b5
  generalize g6 : a6 % 256 = b6
  generalize g7 : a7 % 256 = b7
  simp only [(rev_digit _ b7 (by omega) (by omega)).1, (rev_digit _ b6 (by omega) (by omega)).1, (rev_digit _ b5 (by omega) (by omega)).1, (rev_digit _ b4 (by omega) (by omega)).1, (rev_digit _ b3 (by omega) (by omega)).1, (rev_digit _ b2 (by omega) (by omega)).1, (rev_digit _ b1 (by omega) (by omega)).1, (rev_digit _ b7 (by omega) (by omega)).2, (rev_digit _ b6 (by omega) (by omega)).2, (rev_digit _ b5 (by omega) (by omega)).2, (rev_digit _ b4 (by omega) (by omega)).2, (rev_digit _ b3 (by omega) (by omega)).2, (rev_digit _ b2 (by omega) (by omega)).2, (rev_digit _ b1 (by omega) (by omega)).2]
  omega

theorem and_low2 (a : Int) (h0 : 0 ≤ a) (h1 : a < 18446744073709551616) : bits .and .u64 a 65535 = a % 65536 := by
  rw [u64_and a 65535 h0 h1 (by decide) (by decide)]
  show ((a.toNat &&& 65535 : Nat) : Int) = _
  rw [nat_mask16]
  omega
theorem and_low4 (a : Int) (h0 : 0 ≤ a) (h1 : a < 18446744073709551616) : bits .and .u64 a 4294967295 = a % 4294967296 := mask_fit false a h0 h1
theorem ret_bool {a b : Bool} (h : a = b) : Ending.returned (.bool a) = .returned (.bool b) := by rw [h]
theorem wrap32_of (n : Int) (h0 : -2147483648 ≤ n) (h1 : n < 2147483648) : wrap32 (n % 4294967296) = n := by
  have h := IntKind.wrap_i32 (n % 4294967296)
  have e : wrap32 (n % 4294967296) = IntKind.i32.wrap (n % 4294967296) := by first | rfl | (unfold wrap32; rw [h])
  rw [e, h]
  omega
theorem ext_top (n : Int) (h0 : -2147483648 ≤ n) (h1 : n < 2147483648) : (n % 18446744073709551616 / 2147483648 == 0 || n % 18446744073709551616 / 2147483648 == 8589934591) = true := by
  simp
  omega
theorem swap_as (bits : Int) (k : Nat) (hb : Hid (((8 * k : Nat) : Int) = bits)) (hk : k = 2 ∨ k = 4 ∨ k = 8) (a r : Int) (hr : Hid (rev k a = r)) (w : World) (h0 : 0 ≤ a) (h1 : a < 18446744073709551616) :
    Calls Try.prog 18 #[.int .i64 bits, .int .u64 a] w fun e w' => e = .returned (.tuple #[.int .u64 r, .int .i64 0]) ∧ w = w' :=
  swap_is bits k hb.out hk a r hr.out w h0 h1
theorem rev_lt (k : Nat) (hk : k = 2 ∨ k = 4 ∨ k = 8) (a : Int) : 0 ≤ rev k a ∧ rev k a < 18446744073709551616 := by
  have h := rev_bd a k
  have h2 : (256 : Int) ^ k ≤ 18446744073709551616 := by rcases hk with rfl | rfl | rfl <;> decide
  omega
theorem rev_first (k : Nat) (a : Int) : rev (k + 1) a % 256 = a / 256 ^ k % 256 := by
  show (rev k a * 256 + a / 256 ^ k % 256) % 256 = _
  omega

set_option maxRecDepth 100000 in
set_option maxHeartbeats 2000000 in
theorem wordTurns_walk (a imm : Int) (h0 : 0 ≤ a) (h1 : a < 18446744073709551616) (g0 : -2147483648 ≤ imm) (g1 : imm < 2147483648) (w : World) :
    Calls Try.prog 11 #[.int .u64 a, .int .i32 imm] w fun e w' => e = .returned (.bool true) ∧ Below w.heap.size w w' := by
  go_enter Try.func11, Try.ntmps11
  go_wp2_with fail
  refine (awake_any _).mono ?_
  rintro e w0 ⟨rfl, b0⟩
  go_wp2_with fail
  go_loop [16] (fun vk => ∃ k : Nat, k ≤ 3 ∧ vk = .int .i64 k) (fun vk => 3 - (intOf vk).toNat)
  case atStart => exact ⟨0, by omega, rfl⟩
  case round =>
    obtain ⟨k, hk, rfl⟩ := hrel
    have hc : k = 0 ∨ k = 1 ∨ k = 2 ∨ k = 3 := by omega
    clear hk
    rcases hc with rfl | rfl | rfl | rfl
    · obtain ⟨X, eX⟩ := named (rev 2 a)
      have hX := rev_lt 2 (by decide) a
      rw [eX.out] at hX
      obtain ⟨x0, x1⟩ := hX
      have hY := hid (((rev_rev2 a).trans (and_low2 a h0 h1).symm))
      rw [eX.out] at hY
      have ht : (bits .and .u64 X 255 != bits .and .u64 a 65535 / 256) = false := by
        rw [and255 X x0 x1, ← eX.out, rev_first]
        rw [and_low2 a h0 h1]
        simp
        omega
      have ix : ∀ w, (Instr.index 53 (.agg #[.int .i64 16, .int .i64 32, .int .i64 64]) (.int .i64 0)).run Try.prog w = .ok (.int .i64 16) w := fun _ => by kernel_rfl
      go_wp2_with fail
      refine (swap_as 16 2 rfl (by decide) _ _ eX _ h0 h1).mono ?_
      rintro e w' ⟨rfl, rfl⟩
      go_wp2_with fail
      refine (swap_as 16 2 rfl (by decide) _ _ hY _ x0 x1).mono ?_
      rintro e w' ⟨rfl, rfl⟩
      go_wp2
      exact ⟨⟨1, by decide, rfl⟩, by decide⟩
    · obtain ⟨X, eX⟩ := named (rev 4 a)
      have hX := rev_lt 4 (by decide) a
      rw [eX.out] at hX
      obtain ⟨x0, x1⟩ := hX
      have hY := hid (((rev_rev4 a).trans (and_low4 a h0 h1).symm))
      rw [eX.out] at hY
      have ht : (bits .and .u64 X 255 != bits .and .u64 a 4294967295 / 16777216) = false := by
        rw [and255 X x0 x1, ← eX.out, rev_first]
        rw [and_low4 a h0 h1]
        simp
        omega
      have ix : ∀ w, (Instr.index 53 (.agg #[.int .i64 16, .int .i64 32, .int .i64 64]) (.int .i64 1)).run Try.prog w = .ok (.int .i64 32) w := fun _ => by kernel_rfl
      go_wp2_with fail
      refine (swap_as 32 4 rfl (by decide) _ _ eX _ h0 h1).mono ?_
      rintro e w' ⟨rfl, rfl⟩
      go_wp2_with fail
      refine (swap_as 32 4 rfl (by decide) _ _ hY _ x0 x1).mono ?_
      rintro e w' ⟨rfl, rfl⟩
      go_wp2
      exact ⟨⟨2, by decide, rfl⟩, by decide⟩
    · obtain ⟨X, eX⟩ := named (rev 8 a)
      have hX := rev_lt 8 (by decide) a
      rw [eX.out] at hX
      obtain ⟨x0, x1⟩ := hX
      have hY := hid ((rev_rev8 a h0 h1))
      rw [eX.out] at hY
      have ht : (bits .and .u64 X 255 != a / 72057594037927936) = false := by
        rw [and255 X x0 x1, ← eX.out, rev_first]
        skip
        simp
        omega
      have ix : ∀ w, (Instr.index 53 (.agg #[.int .i64 16, .int .i64 32, .int .i64 64]) (.int .i64 2)).run Try.prog w = .ok (.int .i64 64) w := fun _ => by kernel_rfl
      go_wp2_with fail
      refine (swap_as 64 8 rfl (by decide) _ _ eX _ h0 h1).mono ?_
      rintro e w' ⟨rfl, rfl⟩
      go_wp2_with fail
      refine (swap_as 64 8 rfl (by decide) _ _ hY _ x0 x1).mono ?_
      rintro e w' ⟨rfl, rfl⟩
      go_wp2
      exact ⟨⟨3, by decide, rfl⟩, by decide⟩
    · go_wp2_with fail
      refine (ext_any imm _ g0 g1).mono ?_
      rintro e w' ⟨rfl, rfl⟩
      have hw := hid (wrap32_of imm g0 g1)
      go_wp2
      · go_ret
        exact ⟨rfl, b0⟩
      · go_ret
        exact ⟨ret_bool (ext_top imm g0 g1), b0⟩

/-! ### WordTurns -/
namespace wordTurns
set_option maxRecDepth 100000 in
theorem lifted (os : Os) (started : os.Started) (H : Type) (enc : TypeId × Value → H) :
    ReturnsInHanded {} Try.checked os 11 .any (Rows.wordTurnsSpec.pre6 enc Try.prog Try.f11 Rows.wordTurnsRow.domain false) (Rows.wordTurnsSpec.post enc Try.prog Try.f11 false true false false) := by
  refine returnsInHanded_of_change (C := Try.checked) own started (by kernel_rfl) Try.func11
    (ChangeSpec.witness6 (enc := enc) (C := Try.checked) false ⟨#[], #[.int .u64 0, .int .i32 0], []⟩ 11 (by kernel_rfl) (by kernel_rfl) (by kernel_rfl) (by kernel_rfl)) ?_
  intro W base args ds gs before hval0 hW _ _
  have hval : ∀ (j : Nat) t v, Try.f11.params[j]? = some t → args[j]? = some v → Value.okWide Try.prog W .any base t v := hval0
  have hW' := hW
  obtain ⟨p, q, hA0, hV, rfl, _, _⟩ := hW
  have hA : DataW.TrodAll enc Try.prog W 0 (fun _ => true) true Try.f11.params.toList args.toList ds p := hA0
  rw [Try.params11] at hA hval
  obtain ⟨v0, vs0, d0, ds0, p0, q0, hargs, rfl, rfl, h0, r0⟩ := trodAll_cons hA
  obtain ⟨v1, vs1, d1, ds1, p1, q1, rfl, rfl, rfl, h1, r1⟩ := trodAll_cons r0
  obtain ⟨rfl, rfl, rfl⟩ := trodAll_nil r1
  obtain rfl : args = #[v0, v1] := by cases args; simp_all
  obtain ⟨rfl, rfl⟩ := trodVars_none hV
  obtain ⟨a, rfl, rfl, rfl, wa⟩ := open_int Try.underlying22 (hval 0 22 v0 rfl rfl) h0
  obtain ⟨imm, rfl, rfl, rfl, wimm⟩ := open_int Try.underlying21 (hval 1 21 v1 rfl rfl) h1
  obtain ⟨lo_a, hi_a⟩ := bounds_u64 wa
  obtain ⟨lo_imm, hi_imm⟩ := bounds_i32 wimm
  clear hA0 hval0
  refine (wordTurns_walk a imm lo_a (by omega) lo_imm (by omega) W).mono fun e W' ⟨he, hb⟩ => ?_
  subst he
  exact ⟨_, rfl, law_shut laid hW' rfl rfl Try.underlying4 (by kernel_rfl) rfl rfl rfl hb⟩

theorem over : Rows.wordTurnsRow.holds Try.pinned (OpenSpec.ofChange Rows.wordTurnsSpec) :=
  OpenClaim.holds_of_wide 11 Try.f11 rfl rfl rfl rfl rfl rfl rfl ⟨rfl, rfl, rfl, rfl, rfl⟩ rfl rfl rfl rfl rfl (by kernel_rfl) Try.func11 (by kernel_rfl)
    (of_decide_eq_true (by kernel_rfl)) (by unfold Func.isWrapper; first | (rw [if_pos (by decide +kernel)]; kernel_rfl) | (rw [if_neg (by decide +kernel)]; exact ⟨rfl, rfl⟩))
    (fun os started H enc _ => lifted os started H enc)

theorem proved : Rows.WordTurnsSaid :=
  over
end wordTurns

end Go.Proofs.Ytgemnkaiajdcfaa
