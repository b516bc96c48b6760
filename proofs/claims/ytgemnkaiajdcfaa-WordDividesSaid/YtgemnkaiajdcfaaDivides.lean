/-
  Law WordDivides: a quotient and its rest make the number again. No condition.
-/
import Derived.Test.YtgemnkaiajdcfaaRing
namespace Go.Proofs.Ytgemnkaiajdcfaa
open Go.ChangeShapes Go.WideShapes Go.ChangeAt Go.RowKit

theorem div_is (wide : Bool) (a b : Int) (h : 0 < b % MD wide) : aluI 3 wide a b = a % MD wide / (b % MD wide) := by
  have ha := fit_bd wide a
  have hm := MD_le wide
  have hd := div_bd _ _ ha.1 (by omega : a % MD wide < 18446744073709551616) h
  have hl := Int.ediv_le_self (b % MD wide) ha.1
  show ansI 3 wide (a % MD wide) (b % MD wide) % MD wide = _
  rw [ansI_3p wide _ _ h, Int.emod_eq_of_lt hd.1 (by omega)]
theorem mod_is (wide : Bool) (a b : Int) (h : 0 < b % MD wide) : aluI 9 wide a b = a % MD wide % (b % MD wide) := by
  have hb := fit_bd wide b
  have h1 := Int.emod_nonneg (a % MD wide) (b := b % MD wide) (by omega)
  have h2 := Int.emod_lt_of_pos (a % MD wide) h
  show ansI 9 wide (a % MD wide) (b % MD wide) % MD wide = _
  rw [ansI_9p wide _ _ h, Int.emod_eq_of_lt h1 (by omega)]
theorem div_zero (wide : Bool) (a b : Int) (h : b % MD wide = 0) : aluI 3 wide a b = 0 := by
  show ansI 3 wide (a % MD wide) (b % MD wide) % MD wide = _
  rw [ansI_3z wide _ _ h, Int.zero_emod]
theorem mod_zero (wide : Bool) (a b : Int) (h : b % MD wide = 0) : aluI 9 wide a b = a % MD wide := by
  show ansI 9 wide (a % MD wide) (b % MD wide) % MD wide = _
  rw [ansI_9z wide _ _ h, Int.emod_emod]

set_option maxHeartbeats 1000000 in
theorem wordDivides_walk (wide : Bool) (a b : Int) (h0 : 0 ≤ a) (h1 : a < 18446744073709551616) (g0 : 0 ≤ b) (g1 : b < 18446744073709551616) (w : World) :
    Calls Try.prog 7 #[.bool wide, .int .u64 a, .int .u64 b] w fun e w' => e = .returned (.bool true) ∧ Below w.heap.size w w' := by
  obtain ⟨X, eX⟩ := named (a % MD wide)
  obtain ⟨Y, eY⟩ := named (b % MD wide)
  have hX := fit_bd64 wide a
  have hY := fit_bd64 wide b
  have hXM := fit_bd wide a
  rw [eX.out] at hX hXM
  rw [eY.out] at hY
  have hXM := hid hXM
  obtain ⟨x0, x1⟩ := hX
  obtain ⟨y0, y1⟩ := hY
  by_cases hz : Y = 0
  · subst hz
    have f1 := hid (div_zero wide a b eY.out)
    have f2 := hid ((mod_zero wide a b eY.out).trans eX.out)
    go_enter Try.func7, Try.ntmps7
    go_wp2_with fail
    refine (lalu_as 3 wide a b _ f1 _ h0 h1 g0 g1 (by decide)).mono ?_
    rintro e w1 ⟨rfl, b1⟩
    go_wp2_with fail
    refine (lalu_as 9 wide a b _ f2 _ h0 h1 g0 g1 (by decide)).mono ?_
    rintro e w2 ⟨rfl, b2⟩
    go_wp2_with fail
    refine (lfit_as wide a _ eX _ h0 h1).mono ?_
    rintro e w' ⟨rfl, rfl⟩
    go_wp2_with fail
    refine (lfit_as wide b _ eY _ g0 g1).mono ?_
    rintro e w' ⟨rfl, rfl⟩
    go_wp2_with fail
    refine (awake_any _).mono ?_
    rintro e w3 ⟨rfl, b3⟩
    go_wp2
    go_ret
    exact ⟨rfl, below_next (below_next b1 b2) b3⟩
  · have yp : 0 < Y := by omega
    have hq := div_bd X Y x0 x1 yp
    have hl := Int.ediv_le_self Y x0
    have hr := Int.emod_nonneg X (b := Y) (by omega)
    have hr2 := Int.emod_lt_of_pos X yp
    have f1 := hid (show aluI 3 wide a b = X / Y by rw [← eX.out, ← eY.out]; exact div_is wide a b (by rw [eY.out]; exact yp))
    have f2 := hid (show aluI 9 wide a b = X % Y by rw [← eX.out, ← eY.out]; exact mod_is wide a b (by rw [eY.out]; exact yp))
    have f3 := hid (show aluI 0 wide (aluI 2 wide (X / Y) Y) (X % Y) = X by
      rw [add_is, mul_is, Int.emod_add_emod, Int.mul_comm, Int.mul_ediv_add_emod, Int.emod_eq_of_lt x0 hXM.out.2])
    generalize X / Y = q at *
    generalize X % Y = r at *
    obtain ⟨q0, q1⟩ := hq
    have r1 : r < 18446744073709551616 := by omega
    obtain ⟨m, em⟩ := named (aluI 2 wide q Y)
    have hm := alu_lt 2 wide q Y
    rw [em.out] at hm f3
    obtain ⟨m0, m1⟩ := hm
    clear hz
    go_enter Try.func7, Try.ntmps7
    go_wp2_with fail
    refine (lalu_as 3 wide a b _ f1 _ h0 h1 g0 g1 (by decide)).mono ?_
    rintro e w1 ⟨rfl, b1⟩
    go_wp2_with fail
    refine (lalu_as 9 wide a b _ f2 _ h0 h1 g0 g1 (by decide)).mono ?_
    rintro e w2 ⟨rfl, b2⟩
    go_wp2_with fail
    refine (lfit_as wide a _ eX _ h0 h1).mono ?_
    rintro e w' ⟨rfl, rfl⟩
    go_wp2_with fail
    refine (lfit_as wide b _ eY _ g0 g1).mono ?_
    rintro e w' ⟨rfl, rfl⟩
    go_wp2_with fail
    refine (awake_any _).mono ?_
    rintro e w3 ⟨rfl, b3⟩
    go_wp2_with fail
    refine (lalu_as 2 wide q Y _ em _ q0 q1 y0 y1 (by decide)).mono ?_
    rintro e w4 ⟨rfl, b4⟩
    go_wp2_with fail
    refine (lalu_as 0 wide m r _ f3 _ m0 m1 hr r1 (by decide)).mono ?_
    rintro e w5 ⟨rfl, b5⟩
    go_wp2
    go_ret
    exact ⟨rfl, below_next (below_next (below_next (below_next b1 b2) b3) b4) b5⟩

/-! ### WordDivides -/
namespace wordDivides
set_option maxRecDepth 100000 in
theorem lifted (os : Os) (started : os.Started) (H : Type) (enc : TypeId × Value → H) :
    ReturnsInHanded {} Try.checked os 7 .any (Rows.wordDividesSpec.pre6 enc Try.prog Try.f7 Rows.wordDividesRow.domain false) (Rows.wordDividesSpec.post enc Try.prog Try.f7 false true false false) := by
  refine returnsInHanded_of_change (C := Try.checked) own started (by kernel_rfl) Try.func7
    (ChangeSpec.witness6 (enc := enc) (C := Try.checked) false ⟨#[], #[.bool false, .int .u64 0, .int .u64 0], []⟩ 7 (by kernel_rfl) (by kernel_rfl) (by kernel_rfl) (by kernel_rfl)) ?_
  intro W base args ds gs before hval0 hW _ _
  have hval : ∀ (j : Nat) t v, Try.f7.params[j]? = some t → args[j]? = some v → Value.okWide Try.prog W .any base t v := hval0
  have hW' := hW
  obtain ⟨p, q, hA0, hV, rfl, _, _⟩ := hW
  have hA : DataW.TrodAll enc Try.prog W 0 (fun _ => true) true Try.f7.params.toList args.toList ds p := hA0
  rw [Try.params7] at hA hval
  obtain ⟨v0, vs0, d0, ds0, p0, q0, hargs, rfl, rfl, h0, r0⟩ := trodAll_cons hA
  obtain ⟨v1, vs1, d1, ds1, p1, q1, rfl, rfl, rfl, h1, r1⟩ := trodAll_cons r0
  obtain ⟨v2, vs2, d2, ds2, p2, q2, rfl, rfl, rfl, h2, r2⟩ := trodAll_cons r1
  obtain ⟨rfl, rfl, rfl⟩ := trodAll_nil r2
  obtain rfl : args = #[v0, v1, v2] := by cases args; simp_all
  obtain ⟨rfl, rfl⟩ := trodVars_none hV
  obtain ⟨wide, rfl, rfl, rfl⟩ := open_bool Try.underlying4 (hval 0 4 v0 rfl rfl) h0
  obtain ⟨a, rfl, rfl, rfl, wa⟩ := open_int Try.underlying22 (hval 1 22 v1 rfl rfl) h1
  obtain ⟨b, rfl, rfl, rfl, wb⟩ := open_int Try.underlying22 (hval 2 22 v2 rfl rfl) h2
  obtain ⟨lo_a, hi_a⟩ := bounds_u64 wa
  obtain ⟨lo_b, hi_b⟩ := bounds_u64 wb
  clear hA0 hval0
  refine (wordDivides_walk wide a b lo_a (by omega) lo_b (by omega) W).mono fun e W' ⟨he, hb⟩ => ?_
  subst he
  exact ⟨_, rfl, law_shut laid hW' rfl rfl Try.underlying4 (by kernel_rfl) rfl rfl rfl hb⟩

theorem over : Rows.wordDividesRow.holds Try.pinned (OpenSpec.ofChange Rows.wordDividesSpec) :=
  OpenClaim.holds_of_wide 7 Try.f7 rfl rfl rfl rfl rfl rfl rfl ⟨rfl, rfl, rfl, rfl, rfl⟩ rfl rfl rfl rfl rfl (by kernel_rfl) Try.func7 (by kernel_rfl)
    (of_decide_eq_true (by kernel_rfl)) (by unfold Func.isWrapper; first | (rw [if_pos (by decide +kernel)]; kernel_rfl) | (rw [if_neg (by decide +kernel)]; exact ⟨rfl, rfl⟩))
    (fun os started H enc _ => lifted os started H enc)

theorem proved : Rows.WordDividesSaid :=
  over
end wordDivides

end Go.Proofs.Ytgemnkaiajdcfaa
