/-
  Law WordKnown: the chapter's examples. No condition.
-/
import Derived.Test.YtgemnkaiajdcfaaLawSwaps
namespace Go.Proofs.Ytgemnkaiajdcfaa
open Go.ChangeShapes Go.WideShapes Go.ChangeAt Go.RowKit
theorem lalu_is (op : Int) (wide : Bool) (a b r : Int) (hr : aluI op wide a b = r) (w : World) (h0 : 0 ≤ a) (h1 : a < 18446744073709551616) (g0 : 0 ≤ b) (g1 : b < 18446744073709551616) (ho : 0 ≤ op ∧ op ≤ 12) :
    Calls Try.prog 22 #[.int .i64 op, .bool wide, .int .u64 a, .int .u64 b] w fun e w' => e = .returned (.int .u64 r) ∧ Below w.heap.size w w' := hr ▸ lalu_any op wide a b w h0 h1 g0 g1 ho
set_option maxRecDepth 100000 in
set_option maxHeartbeats 1000000 in
theorem wordKnown_walk (w : World) :
    Calls Try.prog 12 #[] w fun e w' => e = .returned (.bool true) ∧ Below w.heap.size w w' := by
  have n1 := hid (show aluI 8 true 1 9 = 18446744073709551615 by decide)
  have n2 := hid (show aluI 8 false 1 9 = 4294967295 by decide)
  have n3 := hid (show aluI 3 true 5 0 = 0 by decide)
  have n4 := hid (show aluI 12 true 9223372036854775808 64 = 9223372036854775808 by decide)
  have n5 := hid (show aluI 12 false 2147483648 4 = 4160749568 by decide)
  have n6 := hid (show aluI 6 false 1 33 = 2 by decide)
  have n7 := hid (show aluI (-1) true 0 0 = 0 by decide)
  have n8 := hid (show condI 0 true 0 0 = false by decide)
  have n9 := hid (show condI 8 true 0 0 = false by decide)
  have n10 := hid (show condI 2 true 1 18446744073709551615 = false by decide)
  have n11 := hid (show condI 4 true 6 9 = false by decide)
  have n12 := hid (show condI 4 true 6 2 = true by decide)
  have n13 := hid (show rev 4 1 = 16777216 by decide)
  have n14 := hid (show rev 2 65536 = 0 by decide)
  go_enter Try.func12, Try.ntmps12
  go_wp2_with fail
  refine (lalu_is _ _ _ _ _ n1.out _ (by decide) (by decide) (by decide) (by decide) (by decide)).mono ?_
  rintro e w1 ⟨rfl, b1⟩
  go_wp2_with fail
  refine (lalu_is _ _ _ _ _ n2.out _ (by decide) (by decide) (by decide) (by decide) (by decide)).mono ?_
  rintro e w2 ⟨rfl, b2⟩
  go_wp2_with fail
  refine (lalu_is _ _ _ _ _ n3.out _ (by decide) (by decide) (by decide) (by decide) (by decide)).mono ?_
  rintro e w3 ⟨rfl, b3⟩
  go_wp2_with fail
  refine (lalu_is _ _ _ _ _ n4.out _ (by decide) (by decide) (by decide) (by decide) (by decide)).mono ?_
  rintro e w4 ⟨rfl, b4⟩
  go_wp2_with fail
  refine (lalu_is _ _ _ _ _ n5.out _ (by decide) (by decide) (by decide) (by decide) (by decide)).mono ?_
  rintro e w5 ⟨rfl, b5⟩
  go_wp2_with fail
  refine (lalu_is _ _ _ _ _ n6.out _ (by decide) (by decide) (by decide) (by decide) (by decide)).mono ?_
  rintro e w6 ⟨rfl, b6⟩
  go_wp2_with fail
  refine (alu_is _ _ _ _ _ n7.out 20 rfl _ (by decide) (by decide) (by decide) (by decide)).mono ?_
  rintro e w7 ⟨rfl, b7⟩
  go_wp2_with fail
  refine (cond_is _ _ _ _ _ n8.out 20 rfl _ (by decide) (by decide) (by decide) (by decide)).mono ?_
  rintro e w8 ⟨rfl, b8⟩
  go_wp2_with fail
  refine (cond_is _ _ _ _ _ n9.out 20 rfl _ (by decide) (by decide) (by decide) (by decide)).mono ?_
  rintro e w9 ⟨rfl, b9⟩
  go_wp2_with fail
  refine (cond_is _ _ _ _ _ n10.out 0 rfl _ (by decide) (by decide) (by decide) (by decide)).mono ?_
  rintro e w10 ⟨rfl, b10⟩
  go_wp2_with fail
  refine (cond_is _ _ _ _ _ n11.out 0 rfl _ (by decide) (by decide) (by decide) (by decide)).mono ?_
  rintro e w11 ⟨rfl, b11⟩
  go_wp2_with fail
  refine (cond_is _ _ _ _ _ n12.out 0 rfl _ (by decide) (by decide) (by decide) (by decide)).mono ?_
  rintro e w12 ⟨rfl, b12⟩
  go_wp2_with fail
  refine (swap_is _ 4 rfl (by decide) _ _ n13.out _ (by decide) (by decide)).mono ?_
  rintro e w13 ⟨rfl, rfl⟩
  go_wp2_with fail
  refine (swap_is _ 2 rfl (by decide) _ _ n14.out _ (by decide) (by decide)).mono ?_
  rintro e w14 ⟨rfl, rfl⟩
  go_wp2_with fail
  refine (swap_none 8 1 _ (by decide) (by decide) (by decide)).mono ?_
  rintro e w15 ⟨rfl, rfl⟩
  go_wp2_with fail
  refine (awake_any _).mono ?_
  rintro e w16 ⟨rfl, b16⟩
  go_wp2
  go_ret
  exact ⟨rfl, (below_next (below_next (below_next (below_next (below_next (below_next (below_next (below_next (below_next (below_next (below_next (below_next b1 b2) b3) b4) b5) b6) b7) b8) b9) b10) b11) b12) b16)⟩

/-! ### WordKnown -/
namespace wordKnown
set_option maxRecDepth 100000 in
theorem lifted (os : Os) (started : os.Started) (H : Type) (enc : TypeId × Value → H) :
    ReturnsInHanded {} Try.checked os 12 .any (Rows.wordKnownSpec.pre6 enc Try.prog Try.f12 Rows.wordKnownRow.domain false) (Rows.wordKnownSpec.post enc Try.prog Try.f12 false true false false) := by
  refine returnsInHanded_of_change (C := Try.checked) own started (by kernel_rfl) Try.func12
    (ChangeSpec.witness6 (enc := enc) (C := Try.checked) false ⟨#[], #[], []⟩ 12 (by kernel_rfl) (by kernel_rfl) (by kernel_rfl) (by kernel_rfl)) ?_
  intro W base args ds gs before hval0 hW _ _
  have hval : ∀ (j : Nat) t v, Try.f12.params[j]? = some t → args[j]? = some v → Value.okWide Try.prog W .any base t v := hval0
  have hW' := hW
  obtain ⟨p, q, hA0, hV, rfl, _, _⟩ := hW
  have hA : DataW.TrodAll enc Try.prog W 0 (fun _ => true) true Try.f12.params.toList args.toList ds p := hA0
  rw [Try.params12] at hA hval
  obtain ⟨hargs, rfl, rfl⟩ := trodAll_nil hA
  obtain rfl : args = #[] := by cases args; simp_all
  obtain ⟨rfl, rfl⟩ := trodVars_none hV
  clear hA0 hval0
  refine (wordKnown_walk   W).mono fun e W' ⟨he, hb⟩ => ?_
  subst he
  exact ⟨_, rfl, law_shut laid hW' rfl rfl Try.underlying4 (by kernel_rfl) rfl rfl rfl hb⟩

theorem over : Rows.wordKnownRow.holds Try.pinned (OpenSpec.ofChange Rows.wordKnownSpec) :=
  OpenClaim.holds_of_wide 12 Try.f12 rfl rfl rfl rfl rfl rfl rfl ⟨rfl, rfl, rfl, rfl, rfl⟩ rfl rfl rfl rfl rfl (by kernel_rfl) Try.func12 (by kernel_rfl)
    (of_decide_eq_true (by kernel_rfl)) (by unfold Func.isWrapper; first | (rw [if_pos (by decide +kernel)]; kernel_rfl) | (rw [if_neg (by decide +kernel)]; exact ⟨rfl, rfl⟩))
    (fun os started H enc _ => lifted os started H enc)

theorem proved : Rows.WordKnownSaid :=
  over
end wordKnown

end Go.Proofs.Ytgemnkaiajdcfaa
