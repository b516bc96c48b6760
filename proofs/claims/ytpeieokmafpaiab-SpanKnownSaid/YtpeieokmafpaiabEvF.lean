/-
  A closed call evaluated piece by piece: calls whose answers are known beforehand, by their arguments.
-/
import Derived.Test.YtpeieokmafpaiabEvL
namespace Go.Proofs.Ytpeieokmafpaiab.Ev
set_option linter.unusedSimpArgs false
set_option linter.unusedVariables false
open Go Go.RowKit

/-- Calls whose answers are known: data without addresses in, data without addresses out. -/
def orcF (o : FuncId → List Value → Option Value) (call : Caller) : Caller := fun f args H n =>
  match o f args with
  | some v => some [⟨v, H, n⟩]
  | none => call f args H n
section
variable {P : Program} {n0 : Nat} {w0 : World} {call : Caller}
theorem orcF_ok (hc : CallOk P n0 w0 call) {o : FuncId → List Value → Option Value}
    (ho : ∀ f args v, o f args = some v → (∀ η, args.map (rV η) = args) ∧ (∀ η, rV η v = v) ∧ ∀ W : World, n0 ≤ W.heap.size → Calls P f args.toArray W fun e W' => e = .returned v ∧ Below W.heap.size W W') : CallOk P n0 w0 (orcF o call) := by
  intro f args H n outs h η W hI hw
  unfold orcF at h
  split at h
  · rename_i v hv
    obtain ⟨h1, h2, h3⟩ := ho f args v hv
    simp only [Option.some.injEq] at h; subst h
    rw [h1 η]
    refine (h3 W (Nat.le_trans hI.old hI.bel.size)).mono fun e W' h => ?_
    obtain ⟨rfl, hb⟩ := h
    exact ⟨_, List.mem_singleton_self _, η, .refl _ _, Nat.le_refl _, hI.below hb, fun _ _ _ => by rw [h2, h2], by rw [h2]⟩
  · exact hc f args H n outs h η W hI hw
end
end Go.Proofs.Ytpeieokmafpaiab.Ev
