/-
  What is stored is stored as the document says, one store behind another, or refused for the same reason: for every frame and every row of stores.
-/
import Derived.Test.YtjlaenkfjejbkaaMdY
import Derived.Test.YtjlaenkfjejbkaaMbO
import Derived.Test.YtjlaenkfjejbkaaMdG
namespace Go.Proofs.Ytjlaenkfjejbkaa
set_option linter.unusedSimpArgs false
set_option linter.unusedVariables false
open Go.ChangeShapes Go.WideShapes Go.ChangeAt Go.RowKit

namespace MemStores
set_option maxRecDepth 100000 in
theorem lifted (os : Os) (started : os.Started) (H : Type) (enc : TypeId × Value → H) :
    ReturnsInHanded {} Try.checked os 4 .any (Rows.memStoresSpec.pre6 enc Try.prog Try.f4 Rows.memStoresRow.domain false) (Rows.memStoresSpec.post enc Try.prog Try.f4 false true false false) := by
  refine returnsInHanded_of_change (C := Try.checked) own started (by kernel_rfl) Try.func4
    (ChangeSpec.witness6 (enc := enc) (C := Try.checked) false ⟨#[], #[.agg (fC f0).toArray, .slice none 0 0], []⟩ 8 (by kernel_rfl) (by kernel_rfl) (okWideB_of (by kernel_rfl) Try.func4 (by kernel_rfl) (fun j hj => by
      have hj3 : j < 2 := hj
      have h3 : j = 0 ∨ j = 1 := by omega
      rcases h3 with rfl | rfl
      · exact ⟨_, _, rfl, rfl, frame0_ok _⟩
      · exact ⟨_, _, rfl, rfl, by kernel_rfl⟩)) (by kernel_rfl)) ?_
  intro W base args ds gs before hval0 hW _ _
  have hval : ∀ (j : Nat) t v, Try.f4.params[j]? = some t → args[j]? = some v → Value.okWide Try.prog W .any base t v := hval0
  have hW' := hW
  obtain ⟨p, q, hA0, hV, rfl, _, _⟩ := hW
  have hA : DataW.TrodAll enc Try.prog W 0 (fun _ => true) true Try.f4.params.toList args.toList ds p := hA0
  rw [Try.params4] at hA hval
  obtain ⟨v0, vs0, d0, ds0, p0, q0, hargs, rfl, rfl, h0, r0⟩ := trodAll_cons hA
  obtain ⟨v1, vs1, d1, ds1, p1, q1, rfl, rfl, rfl, h1, r1⟩ := trodAll_cons r0
  obtain ⟨rfl, rfl, rfl⟩ := trodAll_nil r1
  obtain rfl : args = #[v0, v1] := by cases args; simp_all
  obtain ⟨rfl, rfl⟩ := trodVars_none hV
  obtain ⟨F, hF, rfl⟩ := open_frame (hval 0 29 v0 rfl rfl) h0
  obtain ⟨l, hl1, hl2, hl3⟩ := open_acts (hval 1 43 v1 rfl rfl) h1
  clear hA0 hval0
  refine (memStores_walk F v1 l W hF hl1 hl2 hl3).mono fun e W' ⟨he, hb⟩ => ?_
  subst he
  exact ⟨_, rfl, law_shut laid hW' rfl rfl Try.underlying4 (by kernel_rfl) rfl rfl rfl hb⟩

theorem over : Rows.memStoresRow.holds Try.pinned (OpenSpec.ofChange Rows.memStoresSpec) :=
  OpenClaim.holds_of_wide 4 Try.f4 rfl rfl rfl rfl rfl rfl rfl ⟨rfl, rfl, rfl, rfl, rfl⟩ rfl rfl rfl rfl rfl (by kernel_rfl) Try.func4 (by kernel_rfl)
    (of_decide_eq_true (by kernel_rfl)) (by unfold Func.isWrapper; first | (rw [if_pos (by decide +kernel)]; kernel_rfl) | (rw [if_neg (by decide +kernel)]; exact ⟨rfl, rfl⟩))
    (fun os started H enc _ => lifted os started H enc)
end MemStores

theorem memStores_proved : Rows.MemStoresSaid :=
  MemStores.over

end Go.Proofs.Ytjlaenkfjejbkaa
