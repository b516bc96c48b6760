/-
  StateJoin: the law's walk, and what is handed in. No condition.
-/
import Derived.Test.YtodmikjpmcabiaaJStJw
import Derived.Test.YtodmikjpmcabiaaJStY
import Derived.Test.YtodmikjpmcabiaaJClK
import Derived.Lib.SmallJoins
namespace Go.Proofs.Ytodmikjpmcabiaa
set_option linter.unusedSimpArgs false
set_option linter.unusedVariables false
set_option maxRecDepth 100000
open Go.ChangeShapes Go.WideShapes Go.ChangeAt Go.RowKit

namespace StateJoin
set_option maxRecDepth 100000 in
theorem lifted (os : Os) (started : os.Started) (H : Type) (enc : TypeId × Value → H) :
    ReturnsInHanded {} Try.checked os 3 .any (Rows.stateJoinSpec.pre6 enc Try.prog Try.f3 Rows.stateJoinRow.domain false) (Rows.stateJoinSpec.post enc Try.prog Try.f3 false true false false) := by
  refine returnsInHanded_of_change (C := Try.checked) own started (by kernel_rfl) Try.func3
    (ChangeSpec.witness6 (enc := enc) (C := Try.checked) false ⟨#[], #[.agg (stC st0).toArray, .agg (stC st0).toArray], []⟩ 12 (by kernel_rfl) (by kernel_rfl) (okWideB_of (by kernel_rfl) Try.func3 (by kernel_rfl) (fun j hj => by
      have hjn : j < 2 := hj
      have h3 : j = 0 ∨ j = 1 := by omega
      rcases h3 with rfl | rfl
      · exact ⟨_, _, rfl, rfl, state0_ok _⟩
      · exact ⟨_, _, rfl, rfl, state0_ok _⟩)) (by kernel_rfl)) ?_
  intro W base args ds gs before hval0 hW _ _
  have hval : ∀ (j : Nat) t v, Try.f3.params[j]? = some t → args[j]? = some v → Value.okWide Try.prog W .any base t v := hval0
  have hW' := hW
  obtain ⟨p, q, hA0, hV, rfl, _, _⟩ := hW
  have hA : DataW.TrodAll enc Try.prog W 0 (fun _ => true) true Try.f3.params.toList args.toList ds p := hA0
  rw [Try.params3] at hA hval
  obtain ⟨v0, vs0, d0, ds0, p0, q0, hargs, rfl, rfl, h0, r0⟩ := trodAll_cons hA
  obtain ⟨v1, vs1, d1, ds1, p1, q1, rfl, rfl, rfl, h1, r1⟩ := trodAll_cons r0
  obtain ⟨rfl, rfl, rfl⟩ := trodAll_nil r1
  obtain rfl : args = #[v0, v1] := by cases args; simp_all
  obtain ⟨rfl, rfl⟩ := trodVars_none hV
  obtain ⟨S0, hS0, rfl⟩ := open_state (hval 0 36 v0 rfl rfl) h0
  obtain ⟨S1, hS1, rfl⟩ := open_state (hval 1 36 v1 rfl rfl) h1
  clear hA0 hval0
  refine (join_walk S0 S1 hS0 hS1 W).mono fun e W' ⟨he, hb⟩ => ?_
  subst he
  exact ⟨_, rfl, law_shut laid hW' rfl rfl Try.underlying4 (by kernel_rfl) rfl rfl rfl hb⟩

set_option maxRecDepth 100000 in
theorem over : Rows.stateJoinRow.holds Try.pinned (OpenSpec.ofChange Rows.stateJoinSpec) :=
  OpenClaim.holds_of_wide 3 Try.f3 rfl rfl rfl rfl rfl rfl rfl ⟨rfl, rfl, rfl, rfl, rfl⟩ rfl rfl rfl rfl rfl (by kernel_rfl) Try.func3 (by kernel_rfl)
    (of_decide_eq_true (by kernel_rfl)) (by unfold Func.isWrapper; first | (rw [if_pos (by decide +kernel)]; kernel_rfl) | (rw [if_neg (by decide +kernel)]; exact ⟨rfl, rfl⟩))
    (fun os started H enc _ => lifted os started H enc)
end StateJoin

theorem stateJoin_proved : Rows.StateJoinSaid :=
  StateJoin.over

end Go.Proofs.Ytodmikjpmcabiaa
