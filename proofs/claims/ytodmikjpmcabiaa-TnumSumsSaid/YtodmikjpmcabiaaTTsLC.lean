/-
  TnumSums: the law's walk, and what is handed in.
-/
import Derived.Test.YtodmikjpmcabiaaTTsL
import Derived.Test.YtodmikjpmcabiaaTClK
import Derived.Lib.SmallJoins
namespace Go.Proofs.Ytodmikjpmcabiaa
set_option linter.unusedSimpArgs false
set_option linter.unusedVariables false
set_option maxRecDepth 100000
open Go.ChangeShapes Go.WideShapes Go.ChangeAt Go.RowKit

namespace TnumSums
set_option maxRecDepth 100000 in
theorem lifted (os : Os) (started : os.Started) (H : Type) (enc : TypeId × Value → H) :
    ReturnsInHanded {} Try.checked os 5 .any (Rows.tnumSumsSpec.pre6 enc Try.prog Try.f5 Rows.tnumSumsRow.domain false) (Rows.tnumSumsSpec.post enc Try.prog Try.f5 false true false false) := by
  refine returnsInHanded_of_change (C := Try.checked) own started (by kernel_rfl) Try.func5
    (ChangeSpec.witness6 (enc := enc) (C := Try.checked) false ⟨#[], #[.agg #[.int .u64 0, .int .u64 0], .agg #[.int .u64 0, .int .u64 0]], []⟩ 5 (by kernel_rfl) (by kernel_rfl) (by kernel_rfl) (by kernel_rfl)) ?_
  intro W base args ds gs before hval0 hW _ _
  have hval : ∀ (j : Nat) t v, Try.f5.params[j]? = some t → args[j]? = some v → Value.okWide Try.prog W .any base t v := hval0
  have hW' := hW
  obtain ⟨p, q, hA0, hV, rfl, _, _⟩ := hW
  have hA : DataW.TrodAll enc Try.prog W 0 (fun _ => true) true Try.f5.params.toList args.toList ds p := hA0
  rw [Try.params5] at hA hval
  obtain ⟨v0, vs0, d0, ds0, p0, q0, hargs, rfl, rfl, h0, r0⟩ := trodAll_cons hA
  obtain ⟨v1, vs1, d1, ds1, p1, q1, rfl, rfl, rfl, h1, r1⟩ := trodAll_cons r0
  obtain ⟨rfl, rfl, rfl⟩ := trodAll_nil r1
  obtain rfl : args = #[v0, v1] := by cases args; simp_all
  obtain ⟨rfl, rfl⟩ := trodVars_none hV
  obtain ⟨x0_0, x0_1, y0_0, y0_1, n0, rfl, rfl, rfl, t0_0, t0_1⟩ := Go.Joins.open_agg2 Try.underlying24 (by kernel_rfl) (by kernel_rfl) (hval 0 24 v0 rfl rfl) h0
  obtain ⟨a0', e0_0, _, wa0⟩ := DataW.trod_int (k := .u64) Try.underlying22 t0_0
  obtain rfl := (List.cons.inj e0_0).1
  obtain ⟨lo_a0, hi_a0⟩ := bounds_u64 wa0
  obtain ⟨a0, rfl⟩ := ub_of a0' lo_a0 (by omega)
  obtain ⟨a1', e0_1, _, wa1⟩ := DataW.trod_int (k := .u64) Try.underlying22 t0_1
  obtain rfl := (List.cons.inj e0_1).1
  obtain ⟨lo_a1, hi_a1⟩ := bounds_u64 wa1
  obtain ⟨a1, rfl⟩ := ub_of a1' lo_a1 (by omega)
  obtain ⟨x1_0, x1_1, y1_0, y1_1, n1, rfl, rfl, rfl, t1_0, t1_1⟩ := Go.Joins.open_agg2 Try.underlying24 (by kernel_rfl) (by kernel_rfl) (hval 1 24 v1 rfl rfl) h1
  obtain ⟨b0', e1_0, _, wb0⟩ := DataW.trod_int (k := .u64) Try.underlying22 t1_0
  obtain rfl := (List.cons.inj e1_0).1
  obtain ⟨lo_b0, hi_b0⟩ := bounds_u64 wb0
  obtain ⟨b0, rfl⟩ := ub_of b0' lo_b0 (by omega)
  obtain ⟨b1', e1_1, _, wb1⟩ := DataW.trod_int (k := .u64) Try.underlying22 t1_1
  obtain rfl := (List.cons.inj e1_1).1
  obtain ⟨lo_b1, hi_b1⟩ := bounds_u64 wb1
  obtain ⟨b1, rfl⟩ := ub_of b1' lo_b1 (by omega)
  clear hA0 hval0
  refine (sums_walk (a0, a1) (b0, b1) W).mono fun e W' ⟨he, hb⟩ => ?_
  subst he
  exact ⟨_, rfl, law_shut laid hW' rfl rfl Try.underlying4 (by kernel_rfl) rfl rfl rfl hb⟩

theorem over : Rows.tnumSumsRow.holds Try.pinned (OpenSpec.ofChange Rows.tnumSumsSpec) :=
  OpenClaim.holds_of_wide 5 Try.f5 rfl rfl rfl rfl rfl rfl rfl ⟨rfl, rfl, rfl, rfl, rfl⟩ rfl rfl rfl rfl rfl (by kernel_rfl) Try.func5 (by kernel_rfl)
    (of_decide_eq_true (by kernel_rfl)) (by unfold Func.isWrapper; first | (rw [if_pos (by decide +kernel)]; kernel_rfl) | (rw [if_neg (by decide +kernel)]; exact ⟨rfl, rfl⟩))
    (fun os started H enc _ => lifted os started H enc)
end TnumSums

theorem tnumSums_proved : Rows.TnumSumsSaid :=
  TnumSums.over

end Go.Proofs.Ytodmikjpmcabiaa
