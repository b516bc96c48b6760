/-
  StateMay: the law's walk, and what is handed in. No condition.
-/
import Derived.Test.YtoanbjnhoggpjaaGStMy
import Derived.Test.YtoanbjnhoggpjaaGStY
import Derived.Test.YtoanbjnhoggpjaaGClK
import Derived.Lib.SmallJoins
namespace Go.Proofs.Ytoanbjnhoggpjaa
set_option linter.unusedSimpArgs false
set_option linter.unusedVariables false
open Go.ChangeShapes Go.WideShapes Go.ChangeAt Go.RowKit

namespace StateMay
set_option maxRecDepth 100000 in
theorem lifted (os : Os) (started : os.Started) (H : Type) (enc : TypeId × Value → H) :
    ReturnsInHanded {} Try.checked os 4 .any (Rows.stateMaySpec.pre6 enc Try.prog Try.f4 Rows.stateMayRow.domain false) (Rows.stateMaySpec.post enc Try.prog Try.f4 false true false false) := by
  refine returnsInHanded_of_change (C := Try.checked) own started (by kernel_rfl) Try.func4
    (ChangeSpec.witness6 (enc := enc) (C := Try.checked) false ⟨#[], #[.agg (stC st0).toArray], []⟩ 12 (by kernel_rfl) (by kernel_rfl) (okWideB_of (by kernel_rfl) Try.func4 (by kernel_rfl) (fun j hj => by
      have hjn : j < 1 := hj
      have h3 : j = 0 := by omega
      rcases h3 with rfl
      · exact ⟨_, _, rfl, rfl, state0_ok _⟩)) (by kernel_rfl)) ?_
  intro W base args ds gs before hval0 hW _ _
  have hval : ∀ (j : Nat) t v, Try.f4.params[j]? = some t → args[j]? = some v → Value.okWide Try.prog W .any base t v := hval0
  have hW' := hW
  obtain ⟨p, q, hA0, hV, rfl, _, _⟩ := hW
  have hA : DataW.TrodAll enc Try.prog W 0 (fun _ => true) true Try.f4.params.toList args.toList ds p := hA0
  rw [Try.params4] at hA hval
  obtain ⟨v0, vs0, d0, ds0, p0, q0, hargs, rfl, rfl, h0, r0⟩ := trodAll_cons hA
  obtain ⟨rfl, rfl, rfl⟩ := trodAll_nil r0
  obtain rfl : args = #[v0] := by cases args; simp_all
  obtain ⟨rfl, rfl⟩ := trodVars_none hV
  obtain ⟨S0, hS0, rfl⟩ := open_state (hval 0 37 v0 rfl rfl) h0
  clear hA0 hval0
  refine (may_walk S0 hS0 W).mono fun e W' ⟨he, hb⟩ => ?_
  subst he
  exact ⟨_, rfl, law_shut laid hW' rfl rfl Try.underlying4 (by kernel_rfl) rfl rfl rfl hb⟩

set_option maxRecDepth 100000 in
theorem over : Rows.stateMayRow.holds Try.pinned (OpenSpec.ofChange Rows.stateMaySpec) :=
  OpenClaim.holds_of_wide 4 Try.f4 rfl rfl rfl rfl rfl rfl rfl ⟨rfl, rfl, rfl, rfl, rfl⟩ rfl rfl rfl rfl rfl (by kernel_rfl) Try.func4 (by kernel_rfl)
    (of_decide_eq_true (by kernel_rfl)) (by unfold Func.isWrapper; first | (rw [if_pos (by decide +kernel)]; kernel_rfl) | (rw [if_neg (by decide +kernel)]; exact ⟨rfl, rfl⟩))
    (fun os started H enc _ => lifted os started H enc)
end StateMay

theorem stateMay_proved : Rows.StateMaySaid :=
  StateMay.over

end Go.Proofs.Ytoanbjnhoggpjaa
